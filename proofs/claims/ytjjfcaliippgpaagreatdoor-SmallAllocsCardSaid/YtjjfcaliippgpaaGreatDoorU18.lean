/-
  What small.Alloc, small.Free and small.Flush do. Written by small/gen_top.py.
-/
import Derived.Test.YtjjfcaliippgpaaGreatDoorU17
import Derived.Test.YtjjfcaliippgpaaGreatDoorU16
import Derived.Test.YtjjfcaliippgpaaGreatDoorU05
import Derived.Maps.AppendAt
import Derived.Test.YtjjfcaliippgpaaGreatDoorU09
namespace Go.Proofs.YtjjfcaliippgpaaGreatDoor
open Go.ChangeShapes Go.WideShapes Go.ChangeAt Go.RowKit Go.Maps
set_option linter.unusedVariables false
set_option linter.unusedSimpArgs false
set_option maxRecDepth 100000
section
theorem Hnd.make {O : Ob} {w w' : World} {A G : Nat -> Prop} {g b : Nat} {t q s : Int} {U : Nat -> Sl} {Z : Nat -> List Int} {st : Vst} (h : O.I w st A) (hp : PkV w U Z) (hf : ∀ i, PB U Z i -> ¬ A i) (hb : Below w.heap.size w w') (hg : w.heap.size <= g) (hH : Held w' g 83 (hdC b t q s U))
  (hG : ∀ i, G i -> w.heap.size <= i /\ i < w'.heap.size /\ i ≠ g) : Hnd O w A (PB U Z) G w' g b t q s U Z st w' :=
 ⟨(Pkt.start h hp hf).keep2 hb fun i x => by
  rcases x with x | x
  ·exact .inr ⟨(hG i x).1, (hG i x).2.1⟩
  ·subst x; exact .inr ⟨hg, hH.lt⟩, hH, Stay.of_below (B0 _) _, fun x => (hG g x).2.2 rfl, fun x => by have := x.lt hp; omega⟩
structure AlOk (n : Nat) (K : Nat -> Option Nat) (t q s : Int) (k : Int) (l : List Int) (st : Vst) : Prop where
 few : l.length <= 1000
 spot : ∀ a, l.getLast? = some a -> spotB t q s a = true /\ slotB t q s k (spotO t q s a) = true /\ ∃ p i : Nat, spotP t q s a = (p : Int) /\ slotR t q s k (spotO t q s a) = (i : Int) /\ i < 32
 pick : ∀ p m, (pickI n K t q s k 4 st).1 = some (p, m) -> 1 <= m.length /\ m.length <= 4 /\ ∀ i ∈ m, i < 32
def alV (x : Option (Int × List Int)) : Int := match x with
 | some (a, _) => a
 | none => 0
def alZ (x : Option (Int × List Int)) (Z : Nat -> List Int) (k : Int) : Nat -> List Int := match x with
 | some (_, l) => updF Z k.toNat l
 | none => Z
def AlEnd (O : Ob) (w : World) (A : Nat -> Prop) (n : Nat) (K : Nat -> Option Nat) (t q s : Int) (k : Int) (U : Nat -> Sl) (Z : Nat -> List Int) (st : Vst) (e : Ending) (w' : World) : Prop :=
 ∃ V, e = .returned (.tuple #[.int .i64 (alV (allocI n K t q s k (Z k.toNat) st).1), .agg (pkC V), .bool (allocI n K t q s k (Z k.toNat) st).1.isSome]) /\
  PkLeft O w A (PB U Z) V (alZ (allocI n K t q s k (Z k.toNat) st).1 Z k) (allocI n K t q s k (Z k.toNat) st).2 w' /\ (0 <= k /\ k <= 8 -> Z k.toNat = [] -> VOk n (pickI n K t q s k 4 st).2)
theorem atI_bounds (t q s k p i : Int) : -9223372036854775808 <= atI t q s k p i /\ atI t q s k p i <= 9223372036854775807 := by
 unfold atI
 split
 ·rename_i h
  unfold atB at h
  rw [Bool.and_eq_true] at h
  have := addr_yes h.2
  omega
 ·omega
theorem allocI_hand {n : Nat} {K : Nat -> Option Nat} {t q s : Int} {k : Nat} (hk : k < 9) {ys : List Int} {a : Int} {p i : Nat} {st : Vst} (hp : spotP t q s a = (p : Int)) (hi : slotR t q s (k : Int) (spotO t q s a) = (i : Int)) :
  allocI n K t q s (k : Int) (ys ++ [a]) st = (some (a, ys), onS n K t q s (p : Int).toNat i st) := by
 unfold allocI
 rw [if_neg (by omega), show (ys ++ [a]).getLast? = some a by simp]
 simp only [hp, hi, Int.toNat_natCast]
 rw [show (ys ++ [a]).dropLast = ys by simp]
section
variable {base b n : Nat} {wh : Bool} {K : Nat -> Option Nat} {st : Vst} {w : World} {A : Nat -> Prop} {t q s : Int} {U : Nat -> Sl} {Z : Nat -> List Int}

theorem Stay.mk_ {w w' : World} (hz : w.heap.size <= w'.heap.size) (G : Nat -> Prop) (h : ∀ j, G j -> w.heap.size <= j) : Stay G w w' := ⟨hz, fun j hj hl => by have := h j hj; omega⟩
theorem Hnd.putP {O : Ob} {w0 ws w : World} {A Q G : Nat -> Prop} {g b : Nat} {t q s : Int} {U : Nat -> Sl} {Z : Nat -> List Int} {st : Vst} (h : Hnd O w0 A Q G ws g b t q s U Z st w) {i : Nat} (hi : G i) (hn : ¬ PB U Z i) (V : Nat -> Sl) : Hnd O w0 A Q G w0 g b t q s U Z st (setP w i V) := by
 have hz := h.p.at_.size
 have hio := (h.p.own (.inl hi)).1
 have h := Hnd.mk h.p h.held (Stay.mk_ hz G (fun j hj => by have := (h.p.own (.inl hj)).1; omega)) h.ng h.npb
 exact ((((((((h.put hi hn hio 0 _).put hi hn hio 1 _).put hi hn hio 2 _).put hi hn hio 3 _).put hi hn hio 4 _).put hi hn hio 5 _).put hi hn hio 6 _).put hi hn hio 7 _).put hi hn hio 8 _

set_option maxHeartbeats 6400000 in
theorem smAlloc_hand (hn : n < 2 ^ 40) (k : Nat) (hk : k < 9) (ys : List Int) (a : Int) (hz : Z k = ys ++ [a]) (h4 : ys.length <= 1000000) (hs : spotB t q s a = true) (hr : slotB t q s (k : Int) (spotO t q s a) = true) (p i : Nat) (hp : spotP t q s a = (p : Int)) (hi : slotR t q s (k : Int) (spotO t q s a) = (i : Int)) (hi32 : i < 32) (hT : SlotsLaid w) (hA : ¬ A 0) (hP : PkV w U Z) (hF : ∀ i, PB U Z i -> ¬ A i) (h : (vOb base b n wh K).I w st A) :
  Calls Tryz.prog 11 #[.pointer (some ⟨b, 0, none⟩), .agg #[.int .i64 t, .int .i64 q, .int .i64 s], .agg (pkC U), .int .i64 (k : Int)] w fun e w' => ∃ V, e = .returned (.tuple #[.int .i64 a, .agg (pkC V), .bool true]) /\ PkLeft (vOb base b n wh K) w A (PB U Z) V (updF Z k ys) (onS n K t q s p i st) w' := by
 have HBA := hidp (Bnew (Bnew (Bnew (Bnew (B0 w) (.cells #[.int .i64 t, .int .i64 q, .int .i64 s] 23)) (.cells (pkC U) 36)) (.cells #[.slice none 0 0, .slice none 0 0, .slice none 0 0, .slice none 0 0, .slice none 0 0, .slice none 0 0, .slice none 0 0, .slice none 0 0, .slice none 0 0] 36)) (.cells #[.pointer (some ⟨b, 0, none⟩), .int .i64 t, .int .i64 q, .int .i64 s, (U 0).v, (U 1).v, (U 2).v, (U 3).v, (U 4).v, (U 5).v, (U 6).v, (U 7).v, (U 8).v] 83))
 have HC0 := hidp ((Held.new w 23 #[.int .i64 t, .int .i64 q, .int .i64 s]).alloc (.cells (pkC U) 36))
 have HPB := hidp (((Held.new2 w (.cells #[.int .i64 t, .int .i64 q, .int .i64 s] 23) 36 (pkC U)).alloc (.cells #[.slice none 0 0, .slice none 0 0, .slice none 0 0, .slice none 0 0, .slice none 0 0, .slice none 0 0, .slice none 0 0, .slice none 0 0, .slice none 0 0] 36)).alloc (.cells #[.pointer (some ⟨b, 0, none⟩), .int .i64 t, .int .i64 q, .int .i64 s, (U 0).v, (U 1).v, (U 2).v, (U 3).v, (U 4).v, (U 5).v, (U 6).v, (U 7).v, (U 8).v] 83))
 have HP0 := hidp ((Held.new2 w (.cells #[.int .i64 t, .int .i64 q, .int .i64 s] 23) 36 (pkC U)).alloc (.cells #[.slice none 0 0, .slice none 0 0, .slice none 0 0, .slice none 0 0, .slice none 0 0, .slice none 0 0, .slice none 0 0, .slice none 0 0, .slice none 0 0] 36))
 have HRB : Hid (Held ((((w.alloc (.cells #[.int .i64 t, .int .i64 q, .int .i64 s] 23)).alloc (.cells (pkC U) 36)).alloc (.cells #[.slice none 0 0, .slice none 0 0, .slice none 0 0, .slice none 0 0, .slice none 0 0, .slice none 0 0, .slice none 0 0, .slice none 0 0, .slice none 0 0] 36)).alloc (.cells #[.pointer (some ⟨b, 0, none⟩), .int .i64 t, .int .i64 q, .int .i64 s, (U 0).v, (U 1).v, (U 2).v, (U 3).v, (U 4).v, (U 5).v, (U 6).v, (U 7).v, (U 8).v] 83)) (w.heap.size + 2) 36 (pkC zeroU)) := hidp ((show Held (((w.alloc (.cells #[.int .i64 t, .int .i64 q, .int .i64 s] 23)).alloc (.cells (pkC U) 36)).alloc (.cells #[.slice none 0 0, .slice none 0 0, .slice none 0 0, .slice none 0 0, .slice none 0 0, .slice none 0 0, .slice none 0 0, .slice none 0 0, .slice none 0 0] 36)) (w.heap.size + 2) 36 (pkC zeroU) from by
  have := Held.new ((w.alloc (.cells #[.int .i64 t, .int .i64 q, .int .i64 s] 23)).alloc (.cells (pkC U) 36)) 36 #[.slice none 0 0, .slice none 0 0, .slice none 0 0, .slice none 0 0, .slice none 0 0, .slice none 0 0, .slice none 0 0, .slice none 0 0, .slice none 0 0]
  have e : ((w.alloc (.cells #[.int .i64 t, .int .i64 q, .int .i64 s] 23)).alloc (.cells (pkC U) 36)).heap.size = w.heap.size + 2 := by simp
  rw [e] at this
  exact this).alloc (.cells #[.pointer (some ⟨b, 0, none⟩), .int .i64 t, .int .i64 q, .int .i64 s, (U 0).v, (U 1).v, (U 2).v, (U 3).v, (U 4).v, (U 5).v, (U 6).v, (U 7).v, (U 8).v] 83))
 have HHD : Hid (Held ((((w.alloc (.cells #[.int .i64 t, .int .i64 q, .int .i64 s] 23)).alloc (.cells (pkC U) 36)).alloc (.cells #[.slice none 0 0, .slice none 0 0, .slice none 0 0, .slice none 0 0, .slice none 0 0, .slice none 0 0, .slice none 0 0, .slice none 0 0, .slice none 0 0] 36)).alloc (.cells #[.pointer (some ⟨b, 0, none⟩), .int .i64 t, .int .i64 q, .int .i64 s, (U 0).v, (U 1).v, (U 2).v, (U 3).v, (U 4).v, (U 5).v, (U 6).v, (U 7).v, (U 8).v] 83)) (w.heap.size + 3) 83 (hdC b t q s U)) := hidp (by
  have := Held.new (((w.alloc (.cells #[.int .i64 t, .int .i64 q, .int .i64 s] 23)).alloc (.cells (pkC U) 36)).alloc (.cells #[.slice none 0 0, .slice none 0 0, .slice none 0 0, .slice none 0 0, .slice none 0 0, .slice none 0 0, .slice none 0 0, .slice none 0 0, .slice none 0 0] 36)) 83 #[.pointer (some ⟨b, 0, none⟩), .int .i64 t, .int .i64 q, .int .i64 s, (U 0).v, (U 1).v, (U 2).v, (U 3).v, (U 4).v, (U 5).v, (U 6).v, (U 7).v, (U 8).v]
  have e : (((w.alloc (.cells #[.int .i64 t, .int .i64 q, .int .i64 s] 23)).alloc (.cells (pkC U) 36)).alloc (.cells #[.slice none 0 0, .slice none 0 0, .slice none 0 0, .slice none 0 0, .slice none 0 0, .slice none 0 0, .slice none 0 0, .slice none 0 0, .slice none 0 0] 36)).heap.size = w.heap.size + 3 := by simp
  rw [e] at this
  exact this)
 have HSZ : Hid (((((w.alloc (.cells #[.int .i64 t, .int .i64 q, .int .i64 s] 23)).alloc (.cells (pkC U) 36)).alloc (.cells #[.slice none 0 0, .slice none 0 0, .slice none 0 0, .slice none 0 0, .slice none 0 0, .slice none 0 0, .slice none 0 0, .slice none 0 0, .slice none 0 0] 36)).alloc (.cells #[.pointer (some ⟨b, 0, none⟩), .int .i64 t, .int .i64 q, .int .i64 s, (U 0).v, (U 1).v, (U 2).v, (U 3).v, (U 4).v, (U 5).v, (U 6).v, (U 7).v, (U 8).v] 83)).heap.size = w.heap.size + 4) := hidp (by simp)
 have HN := hidp (Hnd.make (G := fun i => i = w.heap.size + 1 \/ i = w.heap.size + 2) (t := t) (q := q) (s := s) h hP hF HBA.out (by omega : w.heap.size <= w.heap.size + 3) HHD.out (fun i x => by
  have := HSZ.out
  rcases x with x | x <;> omega))
 have HPL : Hid (∀ i, PB U Z i -> i < w.heap.size) := hidp (fun i hi => hi.lt hP)
 have HTL := hidp hT
 have HNA := hidp hA
 obtain ⟨cc0, cc1, cc2⟩ := (HC0.out.alloc (.cells #[.slice none 0 0, .slice none 0 0, .slice none 0 0, .slice none 0 0, .slice none 0 0, .slice none 0 0, .slice none 0 0, .slice none 0 0, .slice none 0 0] 36)).three
 obtain ⟨p0, p1, p2, p3, p4, p5, p6, p7, p8⟩ := HP0.out.nineP
 go_enter Tryz.func11, Tryz.ntmps11
 go_wp2_with fail
 generalize hW4 : ((((w.alloc (.cells #[.int .i64 t, .int .i64 q, .int .i64 s] 23)).alloc (.cells (pkC U) 36)).alloc (.cells #[.slice none 0 0, .slice none 0 0, .slice none 0 0, .slice none 0 0, .slice none 0 0, .slice none 0 0, .slice none 0 0, .slice none 0 0, .slice none 0 0] 36)).alloc (.cells #[.pointer (some ⟨b, 0, none⟩), .int .i64 t, .int .i64 q, .int .i64 s, (U 0).v, (U 1).v, (U 2).v, (U 3).v, (U 4).v, (U 5).v, (U 6).v, (U 7).v, (U 8).v] 83)) = W4 at *
 clear hW4 HHD HC0 HP0
 refine (smPop_yes hn k hk ys a hz h4 hs hr (p : Int) i hp hi hi32 HTL.out HNA.out HN.out).mono ?_
 rintro e w5 ⟨rfl, x, hx, hn⟩
 have HPV : Hid (∀ i, PB (updF U k x) (updF Z k ys) i -> i < w.heap.size \/ w.heap.size + 4 <= i) := hidp (fun i hi => by
  have := HSZ.out
  rcases hi.turn_new (w := W4) hx with h1 | h1
  ·exact .inl (HPL.out i h1)
  ·exact .inr (by omega))
 obtain ⟨V, hV⟩ : ∃ V, updF U k x = V := ⟨_, rfl⟩
 rw [hV] at hn HPV
 have HPB := hidp (hn.stay.held (.inl rfl) HPB.out)
 have HRB := hidp (hn.stay.held (.inr rfl) HRB.out)
 replace HN := hidp (HN.out.then_ hn)
 clear hn
 clear hV hx
 go_wp2_with fail
 refine (smCount_inc hn HG.hand HN.out.held HN.out.at_).mono ?_
 rintro e w7 ⟨rfl, h1, h2⟩
 replace HRB := hidp (h2.held (.inl (.inl (.inr rfl))) HRB.out)
 replace HN := hidp (HN.out.call h1 h2)
 clear h1 h2
 obtain ⟨c0, c1, c2, c3⟩ := HN.out.held.hd4
 obtain ⟨u0, u1, u2, u3, u4, u5, u6, u7, u8⟩ := HN.out.held.hdU
 obtain ⟨z0, z1, z2, z3, z4, z5, z6, z7, z8⟩ := HRB.out.nineP
 obtain ⟨f0, f1, f2, f3, f4, f5, f6, f7, f8⟩ := HRB.out.thawP
 go_wp2_with fail
 go_region
 obtain ⟨WF, hWF⟩ : ∃ WF, setP w7 (w.heap.size + 2) V = WF := ⟨_, rfl⟩
 have zz := hidp (Held.setP HRB.out V)
 have HNF := hidp (HN.out.putP (i := w.heap.size + 2) (.inr rfl) (fun x => by have := HPV.out _ x; omega) V)
 rw [hWF] at zz HNF
 unfold setP at hWF
 rw [hWF]
 replace zz := hidp (zz.out.keep (Bdrew (B0 _)))
 replace HNF := hidp HNF.out.drew
 obtain ⟨y0, y1, y2, y3, y4, y5, y6, y7, y8⟩ := zz.out.nineP
 clear c0 c1 c2 c3 u0 u1 u2 u3 u4 u5 u6 u7 u8 z0 z1 z2 z3 z4 z5 z6 z7 z8 f0 f1 f2 f3 f4 f5 f6 f7 f8 HN HRB hWF
 go_wp2
 refine bodyPost_ret (v := .tuple #[.int .i64 a, .agg (pkC V), .bool true]) (by simp [results, Tryz.results11, go_sem, y0, y1, y2, y3, y4, y5, y6, y7, y8]) rfl ?_
 exact ⟨V, rfl, HNF.out.p.fin⟩

set_option maxHeartbeats 6400000 in
theorem smAlloc_pick (hn : n < 2 ^ 40) (hq : q <= 1024) (k : Nat) (hk : k < 9) (s2 : Vst) (p : Nat) (l : List Nat) (hx : pickI n K t q s (k : Int) 4 st = (some (p, l), s2)) (nl : Nat) (hl : l.length = nl) (hl1 : 1 <= nl) (hl4 : nl <= 4) (hl32 : ∀ i, i < nl -> l.getD i 0 < 32) (hZ : Z k = []) (hT : SlotsLaid w) (hA : ¬ A 0) (hP : PkV w U Z) (hF : ∀ i, PB U Z i -> ¬ A i) (h : (vOb base b n wh K).I w st A) :
  Calls Tryz.prog 11 #[.pointer (some ⟨b, 0, none⟩), .agg #[.int .i64 t, .int .i64 q, .int .i64 s], .agg (pkC U), .int .i64 (k : Int)] w fun e w' => ∃ V, e = .returned (.tuple #[.int .i64 (atI t q s (k : Int) (p : Int) ((l.getD 0 0 : Nat) : Int)), .agg (pkC V), .bool true]) /\ PkLeft (vOb base b n wh K) w A (PB U Z) V (updF Z k ((l.drop 1).reverse.map fun (i : Nat) => atI t q s (k : Int) (p : Int) (i : Int))) (onS n K t q s p (l.getD 0 0) s2) w' /\ VOk n s2 := by
 have hk0 : -9223372036854775808 <= (k : Int) := by omega
 have hk1 : (k : Int) <= 9223372036854775807 := by omega
 have HLP : Hid (lastP Z (k : Int) = none) := hidp (by rw [lastP_in hk, hZ]; rfl)
 have HBA := hidp (Bnew (Bnew (Bnew (Bnew (B0 w) (.cells #[.int .i64 t, .int .i64 q, .int .i64 s] 23)) (.cells (pkC U) 36)) (.cells #[.slice none 0 0, .slice none 0 0, .slice none 0 0, .slice none 0 0, .slice none 0 0, .slice none 0 0, .slice none 0 0, .slice none 0 0, .slice none 0 0] 36)) (.cells #[.pointer (some ⟨b, 0, none⟩), .int .i64 t, .int .i64 q, .int .i64 s, (U 0).v, (U 1).v, (U 2).v, (U 3).v, (U 4).v, (U 5).v, (U 6).v, (U 7).v, (U 8).v] 83))
 have HC0 := hidp ((Held.new w 23 #[.int .i64 t, .int .i64 q, .int .i64 s]).alloc (.cells (pkC U) 36))
 have HPB := hidp (((Held.new2 w (.cells #[.int .i64 t, .int .i64 q, .int .i64 s] 23) 36 (pkC U)).alloc (.cells #[.slice none 0 0, .slice none 0 0, .slice none 0 0, .slice none 0 0, .slice none 0 0, .slice none 0 0, .slice none 0 0, .slice none 0 0, .slice none 0 0] 36)).alloc (.cells #[.pointer (some ⟨b, 0, none⟩), .int .i64 t, .int .i64 q, .int .i64 s, (U 0).v, (U 1).v, (U 2).v, (U 3).v, (U 4).v, (U 5).v, (U 6).v, (U 7).v, (U 8).v] 83))
 have HP0 := hidp ((Held.new2 w (.cells #[.int .i64 t, .int .i64 q, .int .i64 s] 23) 36 (pkC U)).alloc (.cells #[.slice none 0 0, .slice none 0 0, .slice none 0 0, .slice none 0 0, .slice none 0 0, .slice none 0 0, .slice none 0 0, .slice none 0 0, .slice none 0 0] 36))
 have HRB : Hid (Held ((((w.alloc (.cells #[.int .i64 t, .int .i64 q, .int .i64 s] 23)).alloc (.cells (pkC U) 36)).alloc (.cells #[.slice none 0 0, .slice none 0 0, .slice none 0 0, .slice none 0 0, .slice none 0 0, .slice none 0 0, .slice none 0 0, .slice none 0 0, .slice none 0 0] 36)).alloc (.cells #[.pointer (some ⟨b, 0, none⟩), .int .i64 t, .int .i64 q, .int .i64 s, (U 0).v, (U 1).v, (U 2).v, (U 3).v, (U 4).v, (U 5).v, (U 6).v, (U 7).v, (U 8).v] 83)) (w.heap.size + 2) 36 (pkC zeroU)) := hidp ((show Held (((w.alloc (.cells #[.int .i64 t, .int .i64 q, .int .i64 s] 23)).alloc (.cells (pkC U) 36)).alloc (.cells #[.slice none 0 0, .slice none 0 0, .slice none 0 0, .slice none 0 0, .slice none 0 0, .slice none 0 0, .slice none 0 0, .slice none 0 0, .slice none 0 0] 36)) (w.heap.size + 2) 36 (pkC zeroU) from by
  have := Held.new ((w.alloc (.cells #[.int .i64 t, .int .i64 q, .int .i64 s] 23)).alloc (.cells (pkC U) 36)) 36 #[.slice none 0 0, .slice none 0 0, .slice none 0 0, .slice none 0 0, .slice none 0 0, .slice none 0 0, .slice none 0 0, .slice none 0 0, .slice none 0 0]
  have e : ((w.alloc (.cells #[.int .i64 t, .int .i64 q, .int .i64 s] 23)).alloc (.cells (pkC U) 36)).heap.size = w.heap.size + 2 := by simp
  rw [e] at this
  exact this).alloc (.cells #[.pointer (some ⟨b, 0, none⟩), .int .i64 t, .int .i64 q, .int .i64 s, (U 0).v, (U 1).v, (U 2).v, (U 3).v, (U 4).v, (U 5).v, (U 6).v, (U 7).v, (U 8).v] 83))
 have HHD : Hid (Held ((((w.alloc (.cells #[.int .i64 t, .int .i64 q, .int .i64 s] 23)).alloc (.cells (pkC U) 36)).alloc (.cells #[.slice none 0 0, .slice none 0 0, .slice none 0 0, .slice none 0 0, .slice none 0 0, .slice none 0 0, .slice none 0 0, .slice none 0 0, .slice none 0 0] 36)).alloc (.cells #[.pointer (some ⟨b, 0, none⟩), .int .i64 t, .int .i64 q, .int .i64 s, (U 0).v, (U 1).v, (U 2).v, (U 3).v, (U 4).v, (U 5).v, (U 6).v, (U 7).v, (U 8).v] 83)) (w.heap.size + 3) 83 (hdC b t q s U)) := hidp (by
  have := Held.new (((w.alloc (.cells #[.int .i64 t, .int .i64 q, .int .i64 s] 23)).alloc (.cells (pkC U) 36)).alloc (.cells #[.slice none 0 0, .slice none 0 0, .slice none 0 0, .slice none 0 0, .slice none 0 0, .slice none 0 0, .slice none 0 0, .slice none 0 0, .slice none 0 0] 36)) 83 #[.pointer (some ⟨b, 0, none⟩), .int .i64 t, .int .i64 q, .int .i64 s, (U 0).v, (U 1).v, (U 2).v, (U 3).v, (U 4).v, (U 5).v, (U 6).v, (U 7).v, (U 8).v]
  have e : (((w.alloc (.cells #[.int .i64 t, .int .i64 q, .int .i64 s] 23)).alloc (.cells (pkC U) 36)).alloc (.cells #[.slice none 0 0, .slice none 0 0, .slice none 0 0, .slice none 0 0, .slice none 0 0, .slice none 0 0, .slice none 0 0, .slice none 0 0, .slice none 0 0] 36)).heap.size = w.heap.size + 3 := by simp
  rw [e] at this
  exact this)
 have HSZ : Hid (((((w.alloc (.cells #[.int .i64 t, .int .i64 q, .int .i64 s] 23)).alloc (.cells (pkC U) 36)).alloc (.cells #[.slice none 0 0, .slice none 0 0, .slice none 0 0, .slice none 0 0, .slice none 0 0, .slice none 0 0, .slice none 0 0, .slice none 0 0, .slice none 0 0] 36)).alloc (.cells #[.pointer (some ⟨b, 0, none⟩), .int .i64 t, .int .i64 q, .int .i64 s, (U 0).v, (U 1).v, (U 2).v, (U 3).v, (U 4).v, (U 5).v, (U 6).v, (U 7).v, (U 8).v] 83)).heap.size = w.heap.size + 4) := hidp (by simp)
 have HN := hidp (Hnd.make (G := fun i => i = w.heap.size + 1 \/ i = w.heap.size + 2) (t := t) (q := q) (s := s) h hP hF HBA.out (by omega : w.heap.size <= w.heap.size + 3) HHD.out (fun i x => by
  have := HSZ.out
  rcases x with x | x <;> omega))
 have HPL : Hid (∀ i, PB U Z i -> i < w.heap.size) := hidp (fun i hi => hi.lt hP)
 have HTL := hidp hT
 have HNA := hidp hA
 obtain ⟨cc0, cc1, cc2⟩ := (HC0.out.alloc (.cells #[.slice none 0 0, .slice none 0 0, .slice none 0 0, .slice none 0 0, .slice none 0 0, .slice none 0 0, .slice none 0 0, .slice none 0 0, .slice none 0 0] 36)).three
 obtain ⟨p0, p1, p2, p3, p4, p5, p6, p7, p8⟩ := HP0.out.nineP
 go_enter Tryz.func11, Tryz.ntmps11
 go_wp2_with fail
 generalize hW4 : ((((w.alloc (.cells #[.int .i64 t, .int .i64 q, .int .i64 s] 23)).alloc (.cells (pkC U) 36)).alloc (.cells #[.slice none 0 0, .slice none 0 0, .slice none 0 0, .slice none 0 0, .slice none 0 0, .slice none 0 0, .slice none 0 0, .slice none 0 0, .slice none 0 0] 36)).alloc (.cells #[.pointer (some ⟨b, 0, none⟩), .int .i64 t, .int .i64 q, .int .i64 s, (U 0).v, (U 1).v, (U 2).v, (U 3).v, (U 4).v, (U 5).v, (U 6).v, (U 7).v, (U 8).v] 83)) = W4 at *
 clear hW4 HHD HC0 HP0
 refine (smPop_no (k : Int) hk0 hk1 HLP.out (HTL.out.at_ HNA.out HN.out.at_) HN.out).mono ?_
 rintro e w5 ⟨rfl, hn⟩
 have HS5 := hidp hn.stay.1
 have HPB := hidp (hn.stay.held (.inl rfl) HPB.out)
 have HRB := hidp (hn.stay.held (.inr rfl) HRB.out)
 replace HN := hidp (HN.out.then_ hn)
 clear hn
 go_wp2_with fail
 refine (smPick_some hn hq k hk s2 p l ((pickZ_yes (by omega) (by omega) (by omega) (by omega) : pickZ n K t q s (k : Int) ((4 : Nat) : Int) st = _).trans hx) nl hl hl1 hl4 hl32 hZ (fun i => atI t q s (k : Int) (p : Int) (i : Int)) (fun i hi => rfl) (fun i hi => atI_bounds _ _ _ _ _ _) HTL.out HNA.out HN.out.begin_).mono ?_
 rintro e w6 ⟨rfl, hok, V, hVn, hn⟩
 have HOK := hidp hok
 have HPV : Hid (∀ i, PB V (updF Z k ((l.drop 1).reverse.map fun (i : Nat) => atI t q s (k : Int) (p : Int) (i : Int))) i -> i < w.heap.size \/ w.heap.size + 4 <= i) := hidp (fun i hi => by
  have := HSZ.out
  have := HS5.out
  rcases hVn i hi with h1 | h1
  ·exact .inl (HPL.out i h1)
  ·exact .inr (by omega))
 have HPB := hidp (hn.stay.held (.inl rfl) HPB.out)
 have HRB := hidp (hn.stay.held (.inr rfl) HRB.out)
 replace HN := hidp (HN.out.then_ hn)
 clear hn
 clear hVn hok
 go_wp2_with fail
 refine (smCount_inc hn HG.hand HN.out.held HN.out.at_).mono ?_
 rintro e w7 ⟨rfl, h1, h2⟩
 replace HRB := hidp (h2.held (.inl (.inl (.inr rfl))) HRB.out)
 replace HN := hidp (HN.out.call h1 h2)
 clear h1 h2
 obtain ⟨c0, c1, c2, c3⟩ := HN.out.held.hd4
 obtain ⟨u0, u1, u2, u3, u4, u5, u6, u7, u8⟩ := HN.out.held.hdU
 obtain ⟨z0, z1, z2, z3, z4, z5, z6, z7, z8⟩ := HRB.out.nineP
 obtain ⟨f0, f1, f2, f3, f4, f5, f6, f7, f8⟩ := HRB.out.thawP
 go_wp2_with fail
 go_region
 obtain ⟨WF, hWF⟩ : ∃ WF, setP w7 (w.heap.size + 2) V = WF := ⟨_, rfl⟩
 have zz := hidp (Held.setP HRB.out V)
 have HNF := hidp (HN.out.putP (i := w.heap.size + 2) (.inr rfl) (fun x => by have := HPV.out _ x; omega) V)
 rw [hWF] at zz HNF
 unfold setP at hWF
 rw [hWF]
 replace zz := hidp (zz.out.keep (Bdrew (B0 _)))
 replace HNF := hidp HNF.out.drew
 obtain ⟨y0, y1, y2, y3, y4, y5, y6, y7, y8⟩ := zz.out.nineP
 clear c0 c1 c2 c3 u0 u1 u2 u3 u4 u5 u6 u7 u8 z0 z1 z2 z3 z4 z5 z6 z7 z8 f0 f1 f2 f3 f4 f5 f6 f7 f8 HN HRB hWF
 go_wp2
 refine bodyPost_ret (v := .tuple #[.int .i64 (atI t q s (k : Int) (p : Int) ((l.getD 0 0 : Nat) : Int)), .agg (pkC V), .bool true]) (by simp [results, Tryz.results11, go_sem, y0, y1, y2, y3, y4, y5, y6, y7, y8]) rfl ?_
 exact ⟨V, rfl, HNF.out.p.fin, HOK.out⟩
set_option maxHeartbeats 6400000 in
theorem smAlloc_none (hn : n < 2 ^ 40) (hq : q <= 1024) (k : Int) (hk0 : -9223372036854775808 <= k) (hk1 : k <= 9223372036854775807) (s2 : Vst) (hx : pickZ n K t q s k 4 st = (none, s2)) (hl : lastP Z k = none) (hT : SlotsLaid w) (hA : ¬ A 0) (hP : PkV w U Z) (hF : ∀ i, PB U Z i -> ¬ A i) (h : (vOb base b n wh K).I w st A) :
  Calls Tryz.prog 11 #[.pointer (some ⟨b, 0, none⟩), .agg #[.int .i64 t, .int .i64 q, .int .i64 s], .agg (pkC U), .int .i64 k] w fun e w' => e = .returned (.tuple #[.int .i64 0, .agg (pkC U), .bool false]) /\ PkLeft (vOb base b n wh K) w A (PB U Z) U Z s2 w' := by
 have HLP := hidp hl
 have HBA := hidp (Bnew (Bnew (Bnew (Bnew (B0 w) (.cells #[.int .i64 t, .int .i64 q, .int .i64 s] 23)) (.cells (pkC U) 36)) (.cells #[.slice none 0 0, .slice none 0 0, .slice none 0 0, .slice none 0 0, .slice none 0 0, .slice none 0 0, .slice none 0 0, .slice none 0 0, .slice none 0 0] 36)) (.cells #[.pointer (some ⟨b, 0, none⟩), .int .i64 t, .int .i64 q, .int .i64 s, (U 0).v, (U 1).v, (U 2).v, (U 3).v, (U 4).v, (U 5).v, (U 6).v, (U 7).v, (U 8).v] 83))
 have HC0 := hidp ((Held.new w 23 #[.int .i64 t, .int .i64 q, .int .i64 s]).alloc (.cells (pkC U) 36))
 have HPB := hidp (((Held.new2 w (.cells #[.int .i64 t, .int .i64 q, .int .i64 s] 23) 36 (pkC U)).alloc (.cells #[.slice none 0 0, .slice none 0 0, .slice none 0 0, .slice none 0 0, .slice none 0 0, .slice none 0 0, .slice none 0 0, .slice none 0 0, .slice none 0 0] 36)).alloc (.cells #[.pointer (some ⟨b, 0, none⟩), .int .i64 t, .int .i64 q, .int .i64 s, (U 0).v, (U 1).v, (U 2).v, (U 3).v, (U 4).v, (U 5).v, (U 6).v, (U 7).v, (U 8).v] 83))
 have HP0 := hidp ((Held.new2 w (.cells #[.int .i64 t, .int .i64 q, .int .i64 s] 23) 36 (pkC U)).alloc (.cells #[.slice none 0 0, .slice none 0 0, .slice none 0 0, .slice none 0 0, .slice none 0 0, .slice none 0 0, .slice none 0 0, .slice none 0 0, .slice none 0 0] 36))
 have HRB : Hid (Held ((((w.alloc (.cells #[.int .i64 t, .int .i64 q, .int .i64 s] 23)).alloc (.cells (pkC U) 36)).alloc (.cells #[.slice none 0 0, .slice none 0 0, .slice none 0 0, .slice none 0 0, .slice none 0 0, .slice none 0 0, .slice none 0 0, .slice none 0 0, .slice none 0 0] 36)).alloc (.cells #[.pointer (some ⟨b, 0, none⟩), .int .i64 t, .int .i64 q, .int .i64 s, (U 0).v, (U 1).v, (U 2).v, (U 3).v, (U 4).v, (U 5).v, (U 6).v, (U 7).v, (U 8).v] 83)) (w.heap.size + 2) 36 (pkC zeroU)) := hidp ((show Held (((w.alloc (.cells #[.int .i64 t, .int .i64 q, .int .i64 s] 23)).alloc (.cells (pkC U) 36)).alloc (.cells #[.slice none 0 0, .slice none 0 0, .slice none 0 0, .slice none 0 0, .slice none 0 0, .slice none 0 0, .slice none 0 0, .slice none 0 0, .slice none 0 0] 36)) (w.heap.size + 2) 36 (pkC zeroU) from by
  have := Held.new ((w.alloc (.cells #[.int .i64 t, .int .i64 q, .int .i64 s] 23)).alloc (.cells (pkC U) 36)) 36 #[.slice none 0 0, .slice none 0 0, .slice none 0 0, .slice none 0 0, .slice none 0 0, .slice none 0 0, .slice none 0 0, .slice none 0 0, .slice none 0 0]
  have e : ((w.alloc (.cells #[.int .i64 t, .int .i64 q, .int .i64 s] 23)).alloc (.cells (pkC U) 36)).heap.size = w.heap.size + 2 := by simp
  rw [e] at this
  exact this).alloc (.cells #[.pointer (some ⟨b, 0, none⟩), .int .i64 t, .int .i64 q, .int .i64 s, (U 0).v, (U 1).v, (U 2).v, (U 3).v, (U 4).v, (U 5).v, (U 6).v, (U 7).v, (U 8).v] 83))
 have HHD : Hid (Held ((((w.alloc (.cells #[.int .i64 t, .int .i64 q, .int .i64 s] 23)).alloc (.cells (pkC U) 36)).alloc (.cells #[.slice none 0 0, .slice none 0 0, .slice none 0 0, .slice none 0 0, .slice none 0 0, .slice none 0 0, .slice none 0 0, .slice none 0 0, .slice none 0 0] 36)).alloc (.cells #[.pointer (some ⟨b, 0, none⟩), .int .i64 t, .int .i64 q, .int .i64 s, (U 0).v, (U 1).v, (U 2).v, (U 3).v, (U 4).v, (U 5).v, (U 6).v, (U 7).v, (U 8).v] 83)) (w.heap.size + 3) 83 (hdC b t q s U)) := hidp (by
  have := Held.new (((w.alloc (.cells #[.int .i64 t, .int .i64 q, .int .i64 s] 23)).alloc (.cells (pkC U) 36)).alloc (.cells #[.slice none 0 0, .slice none 0 0, .slice none 0 0, .slice none 0 0, .slice none 0 0, .slice none 0 0, .slice none 0 0, .slice none 0 0, .slice none 0 0] 36)) 83 #[.pointer (some ⟨b, 0, none⟩), .int .i64 t, .int .i64 q, .int .i64 s, (U 0).v, (U 1).v, (U 2).v, (U 3).v, (U 4).v, (U 5).v, (U 6).v, (U 7).v, (U 8).v]
  have e : (((w.alloc (.cells #[.int .i64 t, .int .i64 q, .int .i64 s] 23)).alloc (.cells (pkC U) 36)).alloc (.cells #[.slice none 0 0, .slice none 0 0, .slice none 0 0, .slice none 0 0, .slice none 0 0, .slice none 0 0, .slice none 0 0, .slice none 0 0, .slice none 0 0] 36)).heap.size = w.heap.size + 3 := by simp
  rw [e] at this
  exact this)
 have HSZ : Hid (((((w.alloc (.cells #[.int .i64 t, .int .i64 q, .int .i64 s] 23)).alloc (.cells (pkC U) 36)).alloc (.cells #[.slice none 0 0, .slice none 0 0, .slice none 0 0, .slice none 0 0, .slice none 0 0, .slice none 0 0, .slice none 0 0, .slice none 0 0, .slice none 0 0] 36)).alloc (.cells #[.pointer (some ⟨b, 0, none⟩), .int .i64 t, .int .i64 q, .int .i64 s, (U 0).v, (U 1).v, (U 2).v, (U 3).v, (U 4).v, (U 5).v, (U 6).v, (U 7).v, (U 8).v] 83)).heap.size = w.heap.size + 4) := hidp (by simp)
 have HN := hidp (Hnd.make (G := fun i => i = w.heap.size + 1 \/ i = w.heap.size + 2) (t := t) (q := q) (s := s) h hP hF HBA.out (by omega : w.heap.size <= w.heap.size + 3) HHD.out (fun i x => by
  have := HSZ.out
  rcases x with x | x <;> omega))
 have HPL : Hid (∀ i, PB U Z i -> i < w.heap.size) := hidp (fun i hi => hi.lt hP)
 have HTL := hidp hT
 have HNA := hidp hA
 obtain ⟨cc0, cc1, cc2⟩ := (HC0.out.alloc (.cells #[.slice none 0 0, .slice none 0 0, .slice none 0 0, .slice none 0 0, .slice none 0 0, .slice none 0 0, .slice none 0 0, .slice none 0 0, .slice none 0 0] 36)).three
 obtain ⟨p0, p1, p2, p3, p4, p5, p6, p7, p8⟩ := HP0.out.nineP
 go_enter Tryz.func11, Tryz.ntmps11
 go_wp2_with fail
 generalize hW4 : ((((w.alloc (.cells #[.int .i64 t, .int .i64 q, .int .i64 s] 23)).alloc (.cells (pkC U) 36)).alloc (.cells #[.slice none 0 0, .slice none 0 0, .slice none 0 0, .slice none 0 0, .slice none 0 0, .slice none 0 0, .slice none 0 0, .slice none 0 0, .slice none 0 0] 36)).alloc (.cells #[.pointer (some ⟨b, 0, none⟩), .int .i64 t, .int .i64 q, .int .i64 s, (U 0).v, (U 1).v, (U 2).v, (U 3).v, (U 4).v, (U 5).v, (U 6).v, (U 7).v, (U 8).v] 83)) = W4 at *
 clear hW4 HHD HC0 HP0
 refine (smPop_no k hk0 hk1 HLP.out (HTL.out.at_ HNA.out HN.out.at_) HN.out).mono ?_
 rintro e w5 ⟨rfl, hn⟩
 have HS5 := hidp hn.stay.1
 have HPB := hidp (hn.stay.held (.inl rfl) HPB.out)
 have HRB := hidp (hn.stay.held (.inr rfl) HRB.out)
 replace HN := hidp (HN.out.then_ hn)
 clear hn
 go_wp2_with fail
 refine (smPick_none hn hq k hk0 hk1 s2 hx HTL.out HNA.out HN.out.begin_).mono ?_
 rintro e w6 ⟨rfl, hn⟩
 have HPB := hidp (hn.stay.held (.inl rfl) HPB.out)
 have HRB := hidp (hn.stay.held (.inr rfl) HRB.out)
 replace HN := hidp (HN.out.then_ hn)
 clear hn
 go_wp2_with fail
 obtain ⟨p0, p1, p2, p3, p4, p5, p6, p7, p8⟩ := HPB.out.nineP
 obtain ⟨z0, z1, z2, z3, z4, z5, z6, z7, z8⟩ := HRB.out.nineP
 obtain ⟨f0, f1, f2, f3, f4, f5, f6, f7, f8⟩ := HRB.out.thawP
 go_wp2_with fail
 go_region
 obtain ⟨WF, hWF⟩ : ∃ WF, setP w6 (w.heap.size + 2) U = WF := ⟨_, rfl⟩
 have zz := hidp (Held.setP HRB.out U)
 have HNF := hidp (HN.out.putP (i := w.heap.size + 2) (.inr rfl) (fun x => by have := HPL.out _ x; omega) U)
 rw [hWF] at zz HNF
 unfold setP at hWF
 rw [hWF]
 replace zz := hidp (zz.out.keep (Bdrew (B0 _)))
 replace HNF := hidp HNF.out.drew
 obtain ⟨y0, y1, y2, y3, y4, y5, y6, y7, y8⟩ := zz.out.nineP
 clear p0 p1 p2 p3 p4 p5 p6 p7 p8 z0 z1 z2 z3 z4 z5 z6 z7 z8 f0 f1 f2 f3 f4 f5 f6 f7 f8 HN HRB HPB hWF
 go_wp2
 refine bodyPost_ret (v := .tuple #[.int .i64 0, .agg (pkC U), .bool false]) (by simp [results, Tryz.results11, go_sem, y0, y1, y2, y3, y4, y5, y6, y7, y8]) rfl ?_
 exact ⟨rfl, HNF.out.p.fin⟩
theorem smAlloc_c (hn : n < 2 ^ 40) (hq : q <= 1024) (k : Int) (hk0 : -9223372036854775808 <= k) (hk1 : k <= 9223372036854775807) (hok : 0 <= k /\ k <= 8 -> AlOk n K t q s k (Z k.toNat) st) (hT : SlotsLaid w) (hA : ¬ A 0) (hP : PkV w U Z) (hF : ∀ i, PB U Z i -> ¬ A i) (h : (vOb base b n wh K).I w st A) :
  Calls Tryz.prog 11 #[.pointer (some ⟨b, 0, none⟩), .agg #[.int .i64 t, .int .i64 q, .int .i64 s], .agg (pkC U), .int .i64 k] w (AlEnd (vOb base b n wh K) w A n K t q s k U Z st) := by
 by_cases hk : 0 <= k /\ k <= 8
 ·obtain ⟨k, rfl⟩ := Int.eq_ofNat_of_zero_le hk.1
  have hk9 : k < 9 := by omega
  have ok := hok hk
  unfold AlEnd
  rw [Int.toNat_natCast] at ok ⊢
  rcases List.eq_nil_or_concat (Z k) with hz | ⟨ys, a, hz⟩
  ·rw [hz] at ok
   have e1 : allocI n K t q s (k : Int) [] st = (match (pickI n K t q s (k : Int) 4 st).1 with
    | some (p, m) => (some (atI t q s (k : Int) (p : Int) ((m.getD 0 0 : Nat) : Int), (m.drop 1).reverse.map fun (i : Nat) => atI t q s (k : Int) (p : Int) (i : Int)), onS n K t q s p (m.getD 0 0) (pickI n K t q s (k : Int) 4 st).2)
    | none => (none, (pickI n K t q s (k : Int) 4 st).2)) := by
    unfold allocI
    rw [if_neg (by omega)]
    rfl
   rw [hz, e1]
   obtain ⟨⟨x, s2⟩, hx⟩ : ∃ y, pickI n K t q s (k : Int) 4 st = y := ⟨_, rfl⟩
   rw [hx]
   cases x with
   | none =>
    refine (smAlloc_none hn hq (k : Int) hk0 hk1 s2 ((pickZ_yes (by omega) (by omega) (by omega) (by omega) : pickZ n K t q s (k : Int) ((4 : Nat) : Int) st = _).trans hx) (by rw [lastP_in hk9, hz]; rfl) hT hA hP hF h).mono ?_
    rintro e w' ⟨rfl, hl⟩
    have hv : VOk n s2 := by obtain ⟨⟨A', ⟨o, hI, _⟩, _⟩, _, _⟩ := hl; exact hI.ok
    exact ⟨U, rfl, hl, fun _ _ => hv⟩
   | some y =>
    obtain ⟨p, l⟩ := y
    obtain ⟨g1, g2, g3⟩ := ok.pick p l (by rw [hx])
    refine (smAlloc_pick hn hq k hk9 s2 p l hx l.length rfl g1 g2 (fun i hi => by
     rw [show l.getD i 0 = l[i]'hi by simp [List.getD, List.getElem?_eq_getElem hi]]
     exact g3 _ (List.getElem_mem _)) hz hT hA hP hF h).mono ?_
    rintro e w' ⟨V, rfl, hl, hv⟩
    exact ⟨V, rfl, hl, fun _ _ => hv⟩
  ·rw [List.concat_eq_append] at hz
   obtain ⟨g1, g2, p, i, g3, g4, g5⟩ := ok.spot a (by rw [hz]; simp)
   rw [hz, allocI_hand hk9 g3 g4]
   refine (smAlloc_hand hn k hk9 ys a hz (by have := ok.few; rw [hz, List.length_append] at this; omega) g1 g2 p i g3 g4 g5 hT hA hP hF h).mono ?_
   rintro e w' ⟨V, rfl, hl⟩
   refine ⟨V, rfl, hl, fun _ hc => ?_⟩
   simp at hc
 ·have e1 : allocI n K t q s k (Z k.toNat) st = (none, st) := by unfold allocI; rw [if_pos (by omega)]
  unfold AlEnd
  rw [e1]
  refine (smAlloc_none hn hq k hk0 hk1 st (pickZ_no (fun x => hk x.1)) (lastP_out (by omega)) hT hA hP hF h).mono ?_
  rintro e w' ⟨rfl, hl⟩
  exact ⟨U, rfl, hl, fun x => absurd x hk⟩

end
end
section
section
variable {base b n : Nat} {wh all : Bool} {K : Nat -> Option Nat} {st : Vst} {w w0 : World} {A G : Nat -> Prop} {t q s : Int}

theorem r14Add_off (p nn : Int) (hp : pgB q p = false) (h : (rOb base b n all K).At w0 A G st w) :
  Calls Tryz.prog 124 #[.pointer (some ⟨b, 0, none⟩), .agg #[.int .i64 t, .int .i64 q, .int .i64 s], .int .i64 p, .int .i64 nn] w fun e w' => e = .returned (.tuple #[]) /\ (rOb base b n all K).At w0 A G (st) w' /\ Stay G w w' := by
 have W0 := hidp ((WL.start h).new 23 #[.int .i64 t, .int .i64 q, .int .i64 s])
 obtain ⟨x0, x1, x2⟩ := W0.out.h0.three
 have hp := pgB_no hp
 clear h
 go_enter Tryz.func124, Tryz.ntmps124
 by_cases h0 : p < 0
 ·have t0 : decide (p < (0 : Int)) = true := decide_eq_true h0
  go_wp2
  (try simp only [Exit.inBlock, Exit.then])
  refine bodyPost_ret (results_none rfl _ _ _) rfl ?_
  exact ⟨rfl, W0.out.fin⟩
 ·have t0 : decide (p < (0 : Int)) = false := decide_eq_false h0
  have t1 : decide (q <= p) = true := decide_eq_true (by omega)
  go_wp2
  (try simp only [Exit.inBlock, Exit.then])
  refine bodyPost_ret (results_none rfl _ _ _) rfl ?_
  exact ⟨rfl, W0.out.fin⟩

theorem r14Add_low (k : Nat) (nn : Int) (hq : q <= 2147483648) (hk : pgB q (k : Int) = true) (h1 : nn < 1) (h : (rOb base b n all K).At w0 A G st w) :
  Calls Tryz.prog 124 #[.pointer (some ⟨b, 0, none⟩), .agg #[.int .i64 t, .int .i64 q, .int .i64 s], .int .i64 (k : Int), .int .i64 nn] w fun e w' => e = .returned (.tuple #[]) /\ (rOb base b n all K).At w0 A G (st) w' /\ Stay G w w' := by
 have W0 := hidp ((WL.start h).new 23 #[.int .i64 t, .int .i64 q, .int .i64 s])
 obtain ⟨x0, x1, x2⟩ := W0.out.h0.three
 have hk2 := (pgB_iff _ _).1 hk
 have hk31 : k < 2147483648 := by omega
 have sq : IntKind.i64.wrap (q - (k : Int)) = q - (k : Int) := i64_same (by omega) (by omega)
 have t8 : decide ((k : Int) < 0) = false := decide_eq_false (by omega)
 have t9 : decide (q <= (k : Int)) = false := decide_eq_false (by omega)
 clear hk
 have t0 : decide (nn < (1 : Int)) = true := decide_eq_true (by omega)
 clear h
 go_enter Tryz.func124, Tryz.ntmps124
 go_wp2
 (try simp only [Exit.inBlock, Exit.then])
 refine bodyPost_ret (results_none rfl _ _ _) rfl ?_
 exact ⟨rfl, W0.out.fin⟩

theorem r14Add_high (k : Nat) (nn : Int) (hq : q <= 2147483648) (hk : pgB q (k : Int) = true) (h1 : 1 <= nn) (h2 : q - (k : Int) < nn) (h : (rOb base b n all K).At w0 A G st w) :
  Calls Tryz.prog 124 #[.pointer (some ⟨b, 0, none⟩), .agg #[.int .i64 t, .int .i64 q, .int .i64 s], .int .i64 (k : Int), .int .i64 nn] w fun e w' => e = .returned (.tuple #[]) /\ (rOb base b n all K).At w0 A G (st) w' /\ Stay G w w' := by
 have W0 := hidp ((WL.start h).new 23 #[.int .i64 t, .int .i64 q, .int .i64 s])
 obtain ⟨x0, x1, x2⟩ := W0.out.h0.three
 have hk2 := (pgB_iff _ _).1 hk
 have hk31 : k < 2147483648 := by omega
 have sq : IntKind.i64.wrap (q - (k : Int)) = q - (k : Int) := i64_same (by omega) (by omega)
 have t8 : decide ((k : Int) < 0) = false := decide_eq_false (by omega)
 have t9 : decide (q <= (k : Int)) = false := decide_eq_false (by omega)
 clear hk
 have t0 : decide (nn < (1 : Int)) = false := decide_eq_false (by omega)
 have t1 : decide (q - (k : Int) < nn) = true := decide_eq_true (by omega)
 clear h
 go_enter Tryz.func124, Tryz.ntmps124
 go_wp2
 (try simp only [Exit.inBlock, Exit.then])
 refine bodyPost_ret (results_none rfl _ _ _) rfl ?_
 exact ⟨rfl, W0.out.fin⟩

set_option maxHeartbeats 3200000 in
theorem r14Add_yes (hn : n < 2 ^ 40) (k m : Nat) (hq : q <= 2147483648) (hk : pgB q (k : Int) = true) (h1 : 1 <= (m : Int)) (h2 : (m : Int) <= q - (k : Int)) (h : (rOb base b n all K).At w0 A G st w) :
  Calls Tryz.prog 124 #[.pointer (some ⟨b, 0, none⟩), .agg #[.int .i64 t, .int .i64 q, .int .i64 s], .int .i64 (k : Int), .int .i64 (m : Int)] w fun e w' => e = .returned (.tuple #[]) /\ (rOb base b n all K).At w0 A G (addS n K t q s (k : Int) (m : Int) st) w' /\ Stay G w w' := by
 have W0 := hidp ((WL.start h).new 23 #[.int .i64 t, .int .i64 q, .int .i64 s])
 obtain ⟨x0, x1, x2⟩ := W0.out.h0.three
 have t0 : decide ((m : Int) < (1 : Int)) = false := decide_eq_false (by omega)
 have t1 : decide (q - (k : Int) < (m : Int)) = false := decide_eq_false (by omega)
 have hm31 : m <= 2147483648 := by omega
 have sk : IntKind.u32.wrap ((k : Int) + 1) = ((k + 1 : Nat) : Int) := by have := wrap_nat32 (k + 1) (by omega); simpa using this
 have HIV := hidp (infoV_lt 1 (m : Int) 0)
 have HE : Hid (addS n K t q s (k : Int) (m : Int) st = pushI n K t q s (nthI 2 11 1 (ofI (m : Int))) (k : Int) (putS n (putS n st (pageI t q s (k : Int) 0) (infoV 1 (m : Int) 0)) (pageI t q s ((k : Int) + (m : Int) - 1) 1) (k + 1))) := hidp (addS_yes ⟨hk, h1, h2⟩)
 have hk2 := (pgB_iff _ _).1 hk
 have hk31 : k < 2147483648 := by omega
 have sq : IntKind.i64.wrap (q - (k : Int)) = q - (k : Int) := i64_same (by omega) (by omega)
 have t8 : decide ((k : Int) < 0) = false := decide_eq_false (by omega)
 have t9 : decide (q <= (k : Int)) = false := decide_eq_false (by omega)
 clear hk
 clear h
 go_enter Tryz.func124, Tryz.ntmps124
 go_wp2_with fail
 refine (r7Info_c t q s (k : Int) _).mono ?_; rintro e w1 ⟨rfl, hb⟩; have W1 := hidp (W0.out.keep hb); clear hb W0
 obtain ⟨x0, x1, x2⟩ := W1.out.h0.three
 go_wp2_with fail
 refine (r9Value_c 1 (m : Int) 0 _).mono ?_; rintro e w2 ⟨rfl, hb⟩; have W2 := hidp (W1.out.keep hb); clear hb W1
 obtain ⟨x0, x1, x2⟩ := W2.out.h0.three
 go_wp2_with fail
 refine (rPutA hn _ _ HIV.out W2.out.at_).mono ?_; rintro e w3 ⟨rfl, h1, h2⟩; have W3 := hidp (W2.out.call h1 h2); clear h1 h2 W2
 obtain ⟨x0, x1, x2⟩ := W3.out.h0.three
 go_wp2_with fail
 refine (r7Foot_c t q s ((k : Int) + (m : Int) - 1) _).mono ?_; rintro e w4 ⟨rfl, hb⟩; have W4 := hidp (W3.out.keep hb); clear hb W3
 obtain ⟨x0, x1, x2⟩ := W4.out.h0.three
 go_wp2_with fail
 refine (rPutA hn _ (k + 1) (by omega) W4.out.at_).mono ?_; rintro e w5 ⟨rfl, h1, h2⟩; have W5 := hidp (W4.out.call h1 h2); clear h1 h2 W4
 obtain ⟨x0, x1, x2⟩ := W5.out.h0.three
 go_wp2_with fail
 refine wp_region_held_drew (S := (fun w' => w'.cell? ⟨w.heap.size, 0, none⟩ = some (.int .i64 t) /\ w'.cell? ⟨w.heap.size, 1, none⟩ = some (.int .i64 q) /\ w'.cell? ⟨w.heap.size, 2, none⟩ = some (.int .i64 s))) (by kernel_rfl) ?_ (fun hHeld => ?_)
 ·(try dsimp only)
  first | exact W5.out.drew.h0.three | exact W5.out.h0.three | exact W6.out.h0.three | exact hHeld
 refine tkz 0 ?_
 refine tkz 1 ?_
 refine tkz 2 ?_
 refine tkz 5 ?_
 refine rdz 3 fun K hK => ?_
 go_simp
 refine (r14Of_c (m : Int) (by omega) (by omega) _).mono ?_; rintro e w9 ⟨rfl, rfl⟩
 refine hK.out _ _ ?_ (fun hHeld => ?_)
 ·(try dsimp only)
  first | exact W5.out.drew.h0.three | exact W5.out.h0.three | exact W6.out.h0.three | exact hHeld
 clear hK K
 (try simp only [Act.put, gA, gB, gC, sA, sB, sC])
 refine rdz 4 fun K hK => ?_
 go_simp
 refine (r7Bin_c (ofI (m : Int)) _).mono ?_; rintro e w9 ⟨rfl, rfl⟩
 refine hK.out _ _ ?_ (fun hHeld => ?_)
 ·(try dsimp only)
  first | exact W5.out.drew.h0.three | exact W5.out.h0.three | exact W6.out.h0.three | exact hHeld
 clear hK K
 (try simp only [Act.put, gA, gB, gC, sA, sB, sC])
 refine rdz 6 fun K hK => ?_
 go_simp
 refine (rkPush_c hn (by omega) (k : Int) W5.out.drew.at_).mono ?_; rintro e w6 ⟨rfl, h1, h2⟩; have W6 := hidp (W5.out.drew.call h1 h2); clear h1 h2 W5
 refine hK.out _ _ ?_ (fun hHeld => ?_)
 ·(try dsimp only)
  first | exact W5.out.drew.h0.three | exact W5.out.h0.three | exact W6.out.h0.three | exact hHeld
 clear hK K
 (try simp only [Act.put, gA, gB, gC, sA, sB, sC])
 refine dnz ?_
 obtain ⟨x0, x1, x2⟩ := W6.out.h0.three
 go_wp2
 go_end0
 exact ⟨rfl, by rw [HE.out]; exact W6.out.fin⟩

theorem r14Add_c (hn : n < 2 ^ 40) (hq : q <= 2147483648) (p nn : Int) (h : (rOb base b n all K).At w0 A G st w) :
  Calls Tryz.prog 124 #[.pointer (some ⟨b, 0, none⟩), .agg #[.int .i64 t, .int .i64 q, .int .i64 s], .int .i64 p, .int .i64 nn] w fun e w' => e = .returned (.tuple #[]) /\ (rOb base b n all K).At w0 A G (addS n K t q s p nn st) w' /\ Stay G w w' := by
 cases hp : pgB q p with
 | false => rw [addS_no (by rw [hp]; simp)]; exact r14Add_off p nn hp h
 | true =>
  have h1 := (pgB_iff _ _).1 hp
  obtain ⟨k, rfl⟩ := Int.eq_ofNat_of_zero_le h1.1
  by_cases h2 : nn < 1
  ·rw [addS_no (by omega)]; exact r14Add_low k nn hq hp h2 h
  ·by_cases h3 : q - (k : Int) < nn
   ·rw [addS_no (by omega)]; exact r14Add_high k nn hq hp (by omega) h3 h
   ·obtain ⟨m, rfl⟩ := Int.eq_ofNat_of_zero_le (show 0 <= nn by omega)
    exact r14Add_yes hn k m hq hp (by omega) (by omega) h

theorem r14Drop_off (p : Int) (hp : pgB q p = false) (h : (rOb base b n all K).At w0 A G st w) :
  Calls Tryz.prog 122 #[.pointer (some ⟨b, 0, none⟩), .agg #[.int .i64 t, .int .i64 q, .int .i64 s], .int .i64 p] w fun e w' => e = .returned (.int .i64 0) /\ (rOb base b n all K).At w0 A G (st) w' /\ Stay G w w' := by
 have W0 := hidp ((WL.start h).new 23 #[.int .i64 t, .int .i64 q, .int .i64 s])
 obtain ⟨x0, x1, x2⟩ := W0.out.h0.three
 have hp := pgB_no hp
 clear h
 go_enter Tryz.func122, Tryz.ntmps122
 by_cases h0 : p < 0
 ·have t0 : decide (p < (0 : Int)) = true := decide_eq_true h0
  go_wp2
  go_ret
  exact ⟨rfl, W0.out.fin⟩
 ·have t0 : decide (p < (0 : Int)) = false := decide_eq_false h0
  have t1 : decide (q <= p) = true := decide_eq_true (by omega)
  go_wp2
  go_ret
  exact ⟨rfl, W0.out.fin⟩

theorem r14Drop_none (hn : n < 2 ^ 40) (k : Nat) (hq : q <= 2147483648) (hk : pgB q (k : Int) = true) (kk l c : Int) (ok : Bool) (hI : infoOf n K t q s (k : Int) st = (kk, l, c, ok)) (h1 : kk ≠ 1) (h : (rOb base b n all K).At w0 A G st w) :
  Calls Tryz.prog 122 #[.pointer (some ⟨b, 0, none⟩), .agg #[.int .i64 t, .int .i64 q, .int .i64 s], .int .i64 (k : Int)] w fun e w' => e = .returned (.int .i64 0) /\ (rOb base b n all K).At w0 A G (getS n K st (pageI t q s (k : Int) 0)) w' /\ Stay G w w' := by
 have W0 := hidp ((WL.start h).new 23 #[.int .i64 t, .int .i64 q, .int .i64 s])
 obtain ⟨x0, x1, x2⟩ := W0.out.h0.three
 have hk2 := (pgB_iff _ _).1 hk
 have hk31 : k < 2147483648 := by omega
 have sq : IntKind.i64.wrap (q - (k : Int)) = q - (k : Int) := i64_same (by omega) (by omega)
 have t8 : decide ((k : Int) < 0) = false := decide_eq_false (by omega)
 have t9 : decide (q <= (k : Int)) = false := decide_eq_false (by omega)
 clear hk
 have t0 : (kk == 1) = false := by simpa using h1
 have t1 : (kk != 1) = true := by simpa using h1
 have HI := hidp hI
 clear hI
 clear h
 go_enter Tryz.func122, Tryz.ntmps122
 go_wp2_with fail
 refine (r14Info_c hn (k : Int) kk l c ok HI.out W0.out.at_).mono ?_; rintro e w1 ⟨rfl, h1, h2⟩; have W1 := hidp (W0.out.call h1 h2); clear h1 h2 W0
 replace W1 := hidp (W1.out.new 119 #[.int .i64 kk, .int .i64 l, .int .i64 c])
 obtain ⟨x0, x1, x2⟩ := W1.out.h1.three
 obtain ⟨y0, y1, y2⟩ := W1.out.h0.three
 go_wp2
 go_ret
 exact ⟨rfl, W1.out.fin⟩

set_option maxHeartbeats 3200000 in
theorem r14Drop_yes (hn : n < 2 ^ 40) (k : Nat) (hq : q <= 2147483648) (hk : pgB q (k : Int) = true) (kk l c : Int) (ok : Bool) (hI : infoOf n K t q s (k : Int) st = (kk, l, c, ok)) (h1 : kk = 1) (hl0 : 0 <= l) (hl1 : l <= 1024) (h : (rOb base b n all K).At w0 A G st w) :
  Calls Tryz.prog 122 #[.pointer (some ⟨b, 0, none⟩), .agg #[.int .i64 t, .int .i64 q, .int .i64 s], .int .i64 (k : Int)] w fun e w' => e = .returned (.int .i64 l) /\ (rOb base b n all K).At w0 A G (pullI n K t q s (nthI 2 11 1 (ofI l)) (k : Int) (getS n K st (pageI t q s (k : Int) 0))) w' /\ Stay G w w' := by
 have W0 := hidp ((WL.start h).new 23 #[.int .i64 t, .int .i64 q, .int .i64 s])
 obtain ⟨x0, x1, x2⟩ := W0.out.h0.three
 have hk2 := (pgB_iff _ _).1 hk
 have hk31 : k < 2147483648 := by omega
 have sq : IntKind.i64.wrap (q - (k : Int)) = q - (k : Int) := i64_same (by omega) (by omega)
 have t8 : decide ((k : Int) < 0) = false := decide_eq_false (by omega)
 have t9 : decide (q <= (k : Int)) = false := decide_eq_false (by omega)
 clear hk
 subst h1
 have HI := hidp hI
 clear hI
 clear h
 go_enter Tryz.func122, Tryz.ntmps122
 go_wp2_with fail
 refine (r14Info_c hn (k : Int) 1 l c ok HI.out W0.out.at_).mono ?_; rintro e w1 ⟨rfl, h1, h2⟩; have W1 := hidp (W0.out.call h1 h2); clear h1 h2 W0
 generalize hNI : w1.heap.size = NI at *
 replace W1 := hidp (W1.out.new 119 #[.int .i64 1, .int .i64 l, .int .i64 c])
 rw [hNI] at W1
 obtain ⟨x0, x1, x2⟩ := W1.out.h1.three
 obtain ⟨y0, y1, y2⟩ := W1.out.h0.three
 go_wp2_with fail
 refine wp_region_held_drew (S := (fun w' => w'.cell? ⟨w.heap.size, 0, none⟩ = some (.int .i64 t) /\ w'.cell? ⟨w.heap.size, 1, none⟩ = some (.int .i64 q) /\ w'.cell? ⟨w.heap.size, 2, none⟩ = some (.int .i64 s) /\ w'.cell? ⟨NI, 1, none⟩ = some (.int .i64 l))) (by kernel_rfl) ?_ (fun hHeld => ?_)
 ·(try dsimp only)
  first | exact ⟨W1.out.drew.h1.three.1, W1.out.drew.h1.three.2.1, W1.out.drew.h1.three.2.2, W1.out.drew.h0.three.2.1⟩ | exact ⟨W1.out.h1.three.1, W1.out.h1.three.2.1, W1.out.h1.three.2.2, W1.out.h0.three.2.1⟩ | exact ⟨W2.out.h1.three.1, W2.out.h1.three.2.1, W2.out.h1.three.2.2, W2.out.h0.three.2.1⟩ | exact hHeld
 refine tkz 0 ?_
 refine tkz 1 ?_
 refine tkz 2 ?_
 refine tkz 3 ?_
 refine tkz 6 ?_
 refine rdz 4 fun K hK => ?_
 go_simp
 refine (r14Of_c l (by omega) (by omega) _).mono ?_; rintro e w9 ⟨rfl, rfl⟩
 refine hK.out _ _ ?_ (fun hHeld => ?_)
 ·(try dsimp only)
  first | exact ⟨W1.out.drew.h1.three.1, W1.out.drew.h1.three.2.1, W1.out.drew.h1.three.2.2, W1.out.drew.h0.three.2.1⟩ | exact ⟨W1.out.h1.three.1, W1.out.h1.three.2.1, W1.out.h1.three.2.2, W1.out.h0.three.2.1⟩ | exact ⟨W2.out.h1.three.1, W2.out.h1.three.2.1, W2.out.h1.three.2.2, W2.out.h0.three.2.1⟩ | exact hHeld
 clear hK K
 (try simp only [Act.put, gA, gB, gC, sA, sB, sC])
 refine rdz 5 fun K hK => ?_
 go_simp
 refine (r7Bin_c (ofI l) _).mono ?_; rintro e w9 ⟨rfl, rfl⟩
 refine hK.out _ _ ?_ (fun hHeld => ?_)
 ·(try dsimp only)
  first | exact ⟨W1.out.drew.h1.three.1, W1.out.drew.h1.three.2.1, W1.out.drew.h1.three.2.2, W1.out.drew.h0.three.2.1⟩ | exact ⟨W1.out.h1.three.1, W1.out.h1.three.2.1, W1.out.h1.three.2.2, W1.out.h0.three.2.1⟩ | exact ⟨W2.out.h1.three.1, W2.out.h1.three.2.1, W2.out.h1.three.2.2, W2.out.h0.three.2.1⟩ | exact hHeld
 clear hK K
 (try simp only [Act.put, gA, gB, gC, sA, sB, sC])
 refine rdz 7 fun K hK => ?_
 go_simp
 refine (rkPull_c hn (by omega) (k : Int) W1.out.drew.at_).mono ?_; rintro e w2 ⟨rfl, h1, h2⟩; have W2 := hidp (W1.out.drew.call h1 h2); clear h1 h2 W1
 refine hK.out _ _ ?_ (fun hHeld => ?_)
 ·(try dsimp only)
  first | exact ⟨W1.out.drew.h1.three.1, W1.out.drew.h1.three.2.1, W1.out.drew.h1.three.2.2, W1.out.drew.h0.three.2.1⟩ | exact ⟨W1.out.h1.three.1, W1.out.h1.three.2.1, W1.out.h1.three.2.2, W1.out.h0.three.2.1⟩ | exact ⟨W2.out.h1.three.1, W2.out.h1.three.2.1, W2.out.h1.three.2.2, W2.out.h0.three.2.1⟩ | exact hHeld
 clear hK K
 (try simp only [Act.put, gA, gB, gC, sA, sB, sC])
 refine dnz ?_
 obtain ⟨x0, x1, x2⟩ := W2.out.h1.three
 obtain ⟨y0, y1, y2⟩ := W2.out.h0.three
 go_wp2
 go_ret
 exact ⟨rfl, W2.out.fin⟩

theorem r14Drop_c (hn : n < 2 ^ 40) (hq : q <= 2147483648) (p : Int) (h : (rOb base b n all K).At w0 A G st w) :
  Calls Tryz.prog 122 #[.pointer (some ⟨b, 0, none⟩), .agg #[.int .i64 t, .int .i64 q, .int .i64 s], .int .i64 p] w fun e w' => e = .returned (.int .i64 (dropV n K t q s p st)) /\ (rOb base b n all K).At w0 A G (dropS n K t q s p st) w' /\ Stay G w w' := by
 unfold dropS dropV
 cases hp : pgB q p with
 | false => exact r14Drop_off p hp h
 | true =>
  have h1 := (pgB_iff _ _).1 hp
  obtain ⟨k, rfl⟩ := Int.eq_ofNat_of_zero_le h1.1
  obtain ⟨⟨kk, l, c, ok⟩, hI⟩ : ∃ x, infoOf n K t q s (k : Int) st = x := ⟨_, rfl⟩
  rw [hI]
  simp only [if_true]
  by_cases h2 : kk = 1
  ·rw [if_pos h2, if_pos h2]
   have h3 : 0 <= l /\ l <= 1024 := by
    unfold infoOf at hI
    rw [h2] at hI
    exact infoG_len hI
   exact r14Drop_yes hn k hq hp kk l c ok hI h2 h3.1 h3.2 h
  ·rw [if_neg h2, if_neg h2]
   exact r14Drop_none hn k hq hp kk l c ok hI h2 h
end
end
section
section
variable {base b n : Nat} {wh all : Bool} {K : Nat -> Option Nat} {st : Vst} {w w0 : World} {A G : Nat -> Prop} {t q s : Int}
theorem r14Find_low (nn : Int) (h1 : nn < 1) (h : (rOb base b n all K).At w0 A G st w) :
  Calls Tryz.prog 121 #[.pointer (some ⟨b, 0, none⟩), .agg #[.int .i64 t, .int .i64 q, .int .i64 s], .int .i64 nn] w fun e w' => e = .returned (.tuple #[.int .i64 (foundI (((none : Option Nat), st)).1), .bool (((none : Option Nat), st)).1.isSome]) /\ (rOb base b n all K).At w0 A G (((none : Option Nat), st)).2 w' /\ Stay G w w' := by
 have W0 := hidp ((WL.start h).new 23 #[.int .i64 t, .int .i64 q, .int .i64 s])
 obtain ⟨x0, x1, x2⟩ := W0.out.h0.three
 have t0 : decide (nn < (1 : Int)) = true := decide_eq_true h1
 clear h
 go_enter Tryz.func121, Tryz.ntmps121
 go_wp2
 go_ret2
 exact ⟨rfl, W0.out.fin⟩
theorem r14Find_high (nn : Int) (h1 : 1 <= nn) (h2 : q < nn) (h : (rOb base b n all K).At w0 A G st w) :
  Calls Tryz.prog 121 #[.pointer (some ⟨b, 0, none⟩), .agg #[.int .i64 t, .int .i64 q, .int .i64 s], .int .i64 nn] w fun e w' => e = .returned (.tuple #[.int .i64 (foundI (((none : Option Nat), st)).1), .bool (((none : Option Nat), st)).1.isSome]) /\ (rOb base b n all K).At w0 A G (((none : Option Nat), st)).2 w' /\ Stay G w w' := by
 have W0 := hidp ((WL.start h).new 23 #[.int .i64 t, .int .i64 q, .int .i64 s])
 obtain ⟨x0, x1, x2⟩ := W0.out.h0.three
 have t0 : decide (nn < (1 : Int)) = false := decide_eq_false (by omega)
 have t1 : decide (q < nn) = true := decide_eq_true h2
 clear h
 go_enter Tryz.func121, Tryz.ntmps121
 go_wp2
 go_ret2
 exact ⟨rfl, W0.out.fin⟩

set_option maxHeartbeats 6400000 in
theorem r14Find_yes (hn : n < 2 ^ 40) (hq : q <= 1024) (nn : Int) (own : Nat) (ho : ofI nn = (own : Int)) (ho10 : own <= 10) (h1 : 1 <= nn) (h2 : nn <= q) (h : (rOb base b n all K).At w0 A G st w) :
  Calls Tryz.prog 121 #[.pointer (some ⟨b, 0, none⟩), .agg #[.int .i64 t, .int .i64 q, .int .i64 s], .int .i64 nn] w fun e w' => e = .returned (.tuple #[.int .i64 (foundI (findF n K t q s nn own st).1), .bool (findF n K t q s nn own st).1.isSome]) /\ (rOb base b n all K).At w0 A G (findF n K t q s nn own st).2 w' /\ Stay G w w' := by
 have W0 := hidp ((WL.start h).new 23 #[.int .i64 t, .int .i64 q, .int .i64 s])
 obtain ⟨x0, x1, x2⟩ := W0.out.h0.three
 have t0 : decide (nn < (1 : Int)) = false := decide_eq_false (by omega)
 have t1 : decide (q < nn) = false := decide_eq_false (by omega)
 have HO := hidp ho
 obtain ⟨Q, hQ⟩ : ∃ Q, q.toNat = Q := ⟨_, rfl⟩
 have hQ1 : 1 <= Q /\ Q <= 1024 := by omega
 have hqQ : ∀ l : Nat, ((l : Int) < q ↔ l < Q) := fun l => by omega
 have hqL : ∀ l : Nat, 1 <= l -> ((l : Int) <= q ↔ l <= Q) := fun l h1 => by omega
 obtain ⟨hd0, hhd⟩ : ∃ hd : Nat, 2 + own = hd := ⟨_, rfl⟩
 have HB0 : Hid (nthI 2 11 1 (own : Int) = (hd0 : Int)) := hidp (by rw [nth_on (by omega) (by omega) (by omega)]; omega)
 obtain ⟨l0, hl0⟩ : ∃ l, getV n K st (hd0 : Int) = l := ⟨_, rfl⟩
 have hl032 : l0 < 2 ^ 32 := by rw [<- hl0]; exact rAt_lt h _
 have HL0 := hidp hl0
 obtain ⟨s0, hs0⟩ : ∃ s0, getS n K st (hd0 : Int) = s0 := ⟨_, rfl⟩
 have HS0 := hidp hs0
 have HFF : Hid (findF n K t q s nn own st = match (lookF n K t q s nn Q l0 s0).1 with
   | some p => (some p, (lookF n K t q s nn Q l0 s0).2)
   | none => nextF n K q (11 - (own + 1)) (own + 1) (lookF n K t q s nn Q l0 s0).2) := hidp (by unfold findF; rw [hhd, hl0, hs0, hQ]; rfl)
 clear h ho hQ hhd hl0 hs0
 go_enter Tryz.func121, Tryz.ntmps121
 go_wp2_with fail
 refine (r14Of_c nn (by omega) (by omega) _).mono ?_
 rintro e w9 ⟨rfl, rfl⟩
 rw [HO.out]
 go_wp2_with fail
 refine (r7Bin_c (own : Int) _).mono ?_
 rintro e w9 ⟨rfl, rfl⟩
 rw [HB0.out]
 go_wp2_with fail
 refine (rGetA hn _ W0.out.at_).mono ?_
 rintro e w2 ⟨rfl, a1, a2⟩
 rw [HL0.out]
 have W2 := hidp (W0.out.call a1 a2)
 rw [HS0.out] at W2
 clear a1 a2 W0 HL0 HS0 HB0
 clear x0 x1 x2
 obtain ⟨x0, x1, x2⟩ := W2.out.h0.three
 go_wp2_with fail
 clear x0 x1 x2
 go_loopw [8, 9, 10] (fun u8 u9 _ wr => ∃ (m l : Nat) (sy : Vst), m <= Q /\ u9 = .int .i64 (m : Int) /\ u8 = .int .i64 (l : Int) /\ l < 2 ^ 32 /\ Hid (lookF n K t q s nn Q l0 s0 = lookF n K t q s nn (Q - m) l sy) /\ Hid (WL (rOb base b n all K) w0 A G w [⟨w.heap.size, 23, #[.int .i64 t, .int .i64 q, .int .i64 s]⟩] sy wr)) (fun _ u9 _ _ => Q - (intOf u9).toNat)
 case atStart => exact ⟨0, l0, _, by omega, by go_num, by go_num, hl032, hidp rfl, W2⟩
 case round =>
  clear W2
  obtain ⟨m, l, sy, hm, rfl, rfl, hl, HLK, W3⟩ := hrel
  obtain ⟨x0, x1, x2⟩ := W3.out.h0.three
  by_cases hmQ : m < Q
  ·have t4 : decide ((m : Int) < q) = true := decide_eq_true ((hqQ m).2 hmQ)
   by_cases hp1 : 1 <= l
   ·have t3 : decide ((1 : Int) <= (l : Int)) = true := decide_eq_true (by omega)
    by_cases hp2 : l <= Q
    ·have t5 : decide ((l : Int) <= q) = true := decide_eq_true ((hqL l hp1).2 hp2)
     obtain ⟨j, hj⟩ : ∃ j, Q - m = j + 1 := ⟨Q - m - 1, by omega⟩
     have HJ : Hid (Q - (m + 1) = j) := hidp (by omega)
     replace HLK : Hid (lookF n K t q s nn Q l0 s0 = lookF n K t q s nn (j + 1) l sy) := hidp (by rw [<- hj]; exact HLK.out)
     have HPP : Hid (1 <= l /\ (l : Int) <= q) := hidp ⟨hp1, (hqL l hp1).2 hp2⟩
     clear hj
     obtain ⟨⟨kk, ll, cc, okk⟩, hI⟩ : ∃ x, infoOf n K t q s ((l : Int) - 1) sy = x := ⟨_, rfl⟩
     have HI := hidp hI
     by_cases hk1 : kk = 1
     ·subst hk1
      by_cases hln : nn <= ll
      ·have HFT : Hid (fitB nn (getV n K sy (pageI t q s ((l : Int) - 1) 0)) = true) := hidp (by unfold infoOf at hI; unfold fitB; rw [hI]; simp; omega)
       clear hI
       have t7 : decide (nn <= ll) = true := decide_eq_true hln
       go_wp2_with fail
       refine (r14Info_c hn ((l : Int) - 1) 1 ll cc okk HI.out W3.out.at_).mono ?_; rintro e w5 ⟨rfl, a1, a2⟩; have W5 := hidp (W3.out.call a1 a2); clear a1 a2 W3
       have Y5 := hidp (Held.new w5 119 #[.int .i64 1, .int .i64 ll, .int .i64 cc])
       have W6 := hidp (W5.out.alloc (.cells #[.int .i64 1, .int .i64 ll, .int .i64 cc] 119))
       clear x0 x1 x2
       obtain ⟨x0, x1, x2⟩ := W6.out.h0.three
       obtain ⟨y0, y1, y2⟩ := Y5.out.three
       clear W5
       have HFIN : Hid (findF n K t q s nn own st = (some (l - 1), getS n K sy (pageI t q s ((l : Int) - 1) 0))) := hidp (by rw [HFF.out, HLK.out, lookF_found n K t q s nn HPP.out HFT.out])
       have HPL : Hid (Value.int .i64 ((l : Int) - 1) = Value.int .i64 ((l - 1 : Nat) : Int)) := hidp (by congr 1; omega)
       clear HFF HLK HFT HI
       go_wp2_with fail
       go_ret2
       exact ⟨by rw [HFIN.out]; show Ending.returned (.tuple #[.int .i64 ((l : Int) - 1), .bool true]) = _; rw [HPL.out]; rfl, by rw [HFIN.out]; exact W6.out.fin⟩
      ·have HFT : Hid (fitB nn (getV n K sy (pageI t q s ((l : Int) - 1) 0)) = false) := hidp (by unfold infoOf at hI; unfold fitB; rw [hI]; simp; omega)
       clear hI
       have t7 : decide (nn <= ll) = false := decide_eq_false hln
       go_wp2_with fail
       refine (r14Info_c hn ((l : Int) - 1) 1 ll cc okk HI.out W3.out.at_).mono ?_; rintro e w5 ⟨rfl, a1, a2⟩; have W5 := hidp (W3.out.call a1 a2); clear a1 a2 W3
       have Y5 := hidp (Held.new w5 119 #[.int .i64 1, .int .i64 ll, .int .i64 cc])
       have W6 := hidp (W5.out.alloc (.cells #[.int .i64 1, .int .i64 ll, .int .i64 cc] 119))
       clear x0 x1 x2
       obtain ⟨x0, x1, x2⟩ := W6.out.h0.three
       obtain ⟨y0, y1, y2⟩ := Y5.out.three
       clear W5
       obtain ⟨v, hv⟩ : ∃ v, getV n K (getS n K sy (pageI t q s ((l : Int) - 1) 0)) (pageI t q s ((l : Int) - 1) 2) = v := ⟨_, rfl⟩
       have hv32 : v < 2 ^ 32 := by rw [<- hv]; exact rWL_lt W6.out _
       have HV := hidp hv
       have HLK2 : Hid (lookF n K t q s nn Q l0 s0 = lookF n K t q s nn (Q - (m + 1)) v (getS n K (getS n K sy (pageI t q s ((l : Int) - 1) 0)) (pageI t q s ((l : Int) - 1) 2))) := hidp (by rw [HLK.out, lookF_step n K t q s nn HPP.out HFT.out, HV.out, HJ.out])
       clear hv HLK HFT HI
       go_wp2_with fail
       refine (r7Next_c t q s ((l : Int) - 1) _).mono ?_; rintro e w7 ⟨rfl, hb⟩; have W7 := hidp (W6.out.keep hb); clear hb W6
       go_wp2_with fail
       refine (rGetA hn _ W7.out.at_).mono ?_; rintro e w8 ⟨rfl, a1, a2⟩; have W8 := hidp (W7.out.call a1 a2); clear a1 a2 W7; rw [HV.out]
       clear x0 x1 x2 y0 y1 y2
       go_wp2_with fail
       go_roundw
       case rel => exact ⟨m + 1, v, _, by omega, by go_num, by go_num, hv32, HLK2, W8⟩
       case measure => simp [intOf]; omega
     ·have HFT : Hid (fitB nn (getV n K sy (pageI t q s ((l : Int) - 1) 0)) = false) := hidp (by unfold infoOf at hI; unfold fitB; rw [hI]; simp [hk1])
      clear hI
      have t6 : (kk == 1) = false := by simpa using hk1
      go_wp2_with fail
      refine (r14Info_c hn ((l : Int) - 1) kk ll cc okk HI.out W3.out.at_).mono ?_; rintro e w5 ⟨rfl, a1, a2⟩; have W5 := hidp (W3.out.call a1 a2); clear a1 a2 W3
      have Y5 := hidp (Held.new w5 119 #[.int .i64 kk, .int .i64 ll, .int .i64 cc])
      have W6 := hidp (W5.out.alloc (.cells #[.int .i64 kk, .int .i64 ll, .int .i64 cc] 119))
      clear x0 x1 x2
      obtain ⟨x0, x1, x2⟩ := W6.out.h0.three
      obtain ⟨y0, y1, y2⟩ := Y5.out.three
      clear W5
      obtain ⟨v, hv⟩ : ∃ v, getV n K (getS n K sy (pageI t q s ((l : Int) - 1) 0)) (pageI t q s ((l : Int) - 1) 2) = v := ⟨_, rfl⟩
      have hv32 : v < 2 ^ 32 := by rw [<- hv]; exact rWL_lt W6.out _
      have HV := hidp hv
      have HLK2 : Hid (lookF n K t q s nn Q l0 s0 = lookF n K t q s nn (Q - (m + 1)) v (getS n K (getS n K sy (pageI t q s ((l : Int) - 1) 0)) (pageI t q s ((l : Int) - 1) 2))) := hidp (by rw [HLK.out, lookF_step n K t q s nn HPP.out HFT.out, HV.out, HJ.out])
      clear hv HLK HFT HI
      go_wp2_with fail
      refine (r7Next_c t q s ((l : Int) - 1) _).mono ?_; rintro e w7 ⟨rfl, hb⟩; have W7 := hidp (W6.out.keep hb); clear hb W6
      go_wp2_with fail
      refine (rGetA hn _ W7.out.at_).mono ?_; rintro e w8 ⟨rfl, a1, a2⟩; have W8 := hidp (W7.out.call a1 a2); clear a1 a2 W7; rw [HV.out]
      clear x0 x1 x2 y0 y1 y2
      go_wp2_with fail
      go_roundw
      case rel => exact ⟨m + 1, v, _, by omega, by go_num, by go_num, hv32, HLK2, W8⟩
      case measure => simp [intOf]; omega
    ·have t5 : decide ((l : Int) <= q) = false := decide_eq_false (fun h3 => hp2 ((hqL l hp1).1 h3))
     have HNX : Hid (findF n K t q s nn own st = nextF n K q (11 - (own + 1)) (own + 1) sy) := hidp (by
      rw [HFF.out, HLK.out, lookF_end n K t q s nn (fun h4 => hp2 ((hqL l h4.1).1 h4.2))]
      try rfl)
     clear HFF HLK
     go_wp2_with fail
     refine (r14Of_c nn (by omega) (by omega) _).mono ?_
     rintro e w9 ⟨rfl, rfl⟩
     rw [HO.out]
     go_wp2_with fail
     clear x0 x1 x2
     go_loopw [8, 11] (fun _ u11 wr => ∃ (k : Nat) (sx : Vst), own < k /\ k <= 11 /\ u11 = .int .i64 (k : Int) /\ Hid (findF n K t q s nn own st = nextF n K q (11 - k) k sx) /\ Hid (WL (rOb base b n all K) w0 A G w [⟨w.heap.size, 23, #[.int .i64 t, .int .i64 q, .int .i64 s]⟩] sx wr)) (fun _ u11 _ => 11 - (intOf u11).toNat)
     case atStart => exact ⟨own + 1, _, by omega, by omega, by go_num, HNX, W3⟩
     case round =>
      clear W3 HNX
      obtain ⟨k, sx, hko, hk11, rfl, HFF, W1⟩ := hrel
      obtain ⟨x0, x1, x2⟩ := W1.out.h0.three
      by_cases hk : k < 11
      ·have t2 : decide ((k : Int) < 11) = true := decide_eq_true (by omega)
       obtain ⟨hd, hhd⟩ : ∃ hd : Nat, 2 + k = hd := ⟨_, rfl⟩
       have HHD := hidp hhd
       have HB : Hid (nthI 2 11 1 (k : Int) = (hd : Int)) := hidp (by rw [nth_on (by omega) (by omega) (by omega)]; omega)
       obtain ⟨l1, hl1⟩ : ∃ l, getV n K sx (hd : Int) = l := ⟨_, rfl⟩
       have hl32 : l1 < 2 ^ 32 := by rw [<- hl1]; exact rWL_lt W1.out _
       have HL1 := hidp hl1
       obtain ⟨j, hj⟩ : ∃ j, 11 - k = j + 1 := ⟨10 - k, by omega⟩
       have HJ : Hid (11 - (k + 1) = j) := hidp (by omega)
       rw [hj] at HFF
       clear hl1 hhd hj
       go_wp2_with fail
       refine (r7Bin_c (k : Int) _).mono ?_
       rintro e w9 ⟨rfl, rfl⟩
       rw [HB.out]
       go_wp2_with fail
       refine (rGetA hn _ W1.out.at_).mono ?_
       rintro e w2 ⟨rfl, a1, a2⟩
       rw [HL1.out]
       have W2 := hidp (W1.out.call a1 a2)
       clear a1 a2 W1 x0 x1 x2
       obtain ⟨x0, x1, x2⟩ := W2.out.h0.three
       by_cases hp1 : 1 <= l1
       ·have t3 : decide ((1 : Int) <= (l1 : Int)) = true := decide_eq_true (by omega)
        by_cases hp2 : l1 <= Q
        ·have t4 : decide ((l1 : Int) <= q) = true := decide_eq_true ((hqL l1 hp1).2 hp2)
         have HFIN : Hid (findF n K t q s nn own st = (some (l1 - 1), getS n K sx (hd : Int))) := hidp (by rw [HFF.out, nextF_found n K q (by rw [HHD.out, HL1.out]; exact ⟨hp1, (hqL l1 hp1).2 hp2⟩), HHD.out, HL1.out])
         have HPL : Hid (Value.int .i64 ((l1 : Int) - 1) = Value.int .i64 ((l1 - 1 : Nat) : Int)) := hidp (by congr 1; omega)
         clear HFF HL1
         go_wp2_with fail
         go_ret2
         exact ⟨by rw [HFIN.out]; show Ending.returned (.tuple #[.int .i64 ((l1 : Int) - 1), .bool true]) = _; rw [HPL.out]; rfl, by rw [HFIN.out]; exact W2.out.fin⟩
        ·have t4 : decide ((l1 : Int) <= q) = false := decide_eq_false (fun h3 => hp2 ((hqL l1 hp1).1 h3))
         have HN2 : Hid (findF n K t q s nn own st = nextF n K q (11 - (k + 1)) (k + 1) (getS n K sx (hd : Int))) := hidp (by
          rw [HFF.out, nextF_step n K q (by rw [HHD.out, HL1.out]; exact fun h4 => hp2 ((hqL l1 h4.1).1 h4.2)), HHD.out, HJ.out])
         clear HFF HL1
         go_wp2_with fail
         go_roundw
         case rel => exact ⟨k + 1, _, by omega, by omega, by go_num, HN2, W2⟩
         case measure => simp [intOf]; omega
       ·have t3 : decide ((1 : Int) <= (l1 : Int)) = false := decide_eq_false (by omega)
        have HN2 : Hid (findF n K t q s nn own st = nextF n K q (11 - (k + 1)) (k + 1) (getS n K sx (hd : Int))) := hidp (by
         rw [HFF.out, nextF_step n K q (by rw [HHD.out, HL1.out]; exact fun h4 => hp1 h4.1), HHD.out, HJ.out])
        clear HFF HL1
        go_wp2_with fail
        go_roundw
        case rel => exact ⟨k + 1, _, by omega, by omega, by go_num, HN2, W2⟩
        case measure => simp [intOf]; omega
      ·have t2 : decide ((k : Int) < 11) = false := decide_eq_false (by omega)
       have HFIN : Hid (findF n K t q s nn own st = (none, sx)) := hidp (by
        rw [HFF.out, show 11 - k = 0 by omega]
        rfl)
       go_wp2_with fail
       go_ret2
       exact ⟨by rw [HFIN.out]; rfl, by rw [HFIN.out]; exact W1.out.fin⟩
   ·have t3 : decide ((1 : Int) <= (l : Int)) = false := decide_eq_false (by omega)
    have HNX : Hid (findF n K t q s nn own st = nextF n K q (11 - (own + 1)) (own + 1) sy) := hidp (by
     rw [HFF.out, HLK.out, lookF_end n K t q s nn (fun h4 => hp1 h4.1)]
     try rfl)
    clear HFF HLK
    go_wp2_with fail
    refine (r14Of_c nn (by omega) (by omega) _).mono ?_
    rintro e w9 ⟨rfl, rfl⟩
    rw [HO.out]
    go_wp2_with fail
    clear x0 x1 x2
    go_loopw [8, 11] (fun _ u11 wr => ∃ (k : Nat) (sx : Vst), own < k /\ k <= 11 /\ u11 = .int .i64 (k : Int) /\ Hid (findF n K t q s nn own st = nextF n K q (11 - k) k sx) /\ Hid (WL (rOb base b n all K) w0 A G w [⟨w.heap.size, 23, #[.int .i64 t, .int .i64 q, .int .i64 s]⟩] sx wr)) (fun _ u11 _ => 11 - (intOf u11).toNat)
    case atStart => exact ⟨own + 1, _, by omega, by omega, by go_num, HNX, W3⟩
    case round =>
     clear W3 HNX
     obtain ⟨k, sx, hko, hk11, rfl, HFF, W1⟩ := hrel
     obtain ⟨x0, x1, x2⟩ := W1.out.h0.three
     by_cases hk : k < 11
     ·have t2 : decide ((k : Int) < 11) = true := decide_eq_true (by omega)
      obtain ⟨hd, hhd⟩ : ∃ hd : Nat, 2 + k = hd := ⟨_, rfl⟩
      have HHD := hidp hhd
      have HB : Hid (nthI 2 11 1 (k : Int) = (hd : Int)) := hidp (by rw [nth_on (by omega) (by omega) (by omega)]; omega)
      obtain ⟨l1, hl1⟩ : ∃ l, getV n K sx (hd : Int) = l := ⟨_, rfl⟩
      have hl32 : l1 < 2 ^ 32 := by rw [<- hl1]; exact rWL_lt W1.out _
      have HL1 := hidp hl1
      obtain ⟨j, hj⟩ : ∃ j, 11 - k = j + 1 := ⟨10 - k, by omega⟩
      have HJ : Hid (11 - (k + 1) = j) := hidp (by omega)
      rw [hj] at HFF
      clear hl1 hhd hj
      go_wp2_with fail
      refine (r7Bin_c (k : Int) _).mono ?_
      rintro e w9 ⟨rfl, rfl⟩
      rw [HB.out]
      go_wp2_with fail
      refine (rGetA hn _ W1.out.at_).mono ?_
      rintro e w2 ⟨rfl, a1, a2⟩
      rw [HL1.out]
      have W2 := hidp (W1.out.call a1 a2)
      clear a1 a2 W1 x0 x1 x2
      obtain ⟨x0, x1, x2⟩ := W2.out.h0.three
      by_cases hp1 : 1 <= l1
      ·have t3 : decide ((1 : Int) <= (l1 : Int)) = true := decide_eq_true (by omega)
       by_cases hp2 : l1 <= Q
       ·have t4 : decide ((l1 : Int) <= q) = true := decide_eq_true ((hqL l1 hp1).2 hp2)
        have HFIN : Hid (findF n K t q s nn own st = (some (l1 - 1), getS n K sx (hd : Int))) := hidp (by rw [HFF.out, nextF_found n K q (by rw [HHD.out, HL1.out]; exact ⟨hp1, (hqL l1 hp1).2 hp2⟩), HHD.out, HL1.out])
        have HPL : Hid (Value.int .i64 ((l1 : Int) - 1) = Value.int .i64 ((l1 - 1 : Nat) : Int)) := hidp (by congr 1; omega)
        clear HFF HL1
        go_wp2_with fail
        go_ret2
        exact ⟨by rw [HFIN.out]; show Ending.returned (.tuple #[.int .i64 ((l1 : Int) - 1), .bool true]) = _; rw [HPL.out]; rfl, by rw [HFIN.out]; exact W2.out.fin⟩
       ·have t4 : decide ((l1 : Int) <= q) = false := decide_eq_false (fun h3 => hp2 ((hqL l1 hp1).1 h3))
        have HN2 : Hid (findF n K t q s nn own st = nextF n K q (11 - (k + 1)) (k + 1) (getS n K sx (hd : Int))) := hidp (by
         rw [HFF.out, nextF_step n K q (by rw [HHD.out, HL1.out]; exact fun h4 => hp2 ((hqL l1 h4.1).1 h4.2)), HHD.out, HJ.out])
        clear HFF HL1
        go_wp2_with fail
        go_roundw
        case rel => exact ⟨k + 1, _, by omega, by omega, by go_num, HN2, W2⟩
        case measure => simp [intOf]; omega
      ·have t3 : decide ((1 : Int) <= (l1 : Int)) = false := decide_eq_false (by omega)
       have HN2 : Hid (findF n K t q s nn own st = nextF n K q (11 - (k + 1)) (k + 1) (getS n K sx (hd : Int))) := hidp (by
        rw [HFF.out, nextF_step n K q (by rw [HHD.out, HL1.out]; exact fun h4 => hp1 h4.1), HHD.out, HJ.out])
       clear HFF HL1
       go_wp2_with fail
       go_roundw
       case rel => exact ⟨k + 1, _, by omega, by omega, by go_num, HN2, W2⟩
       case measure => simp [intOf]; omega
     ·have t2 : decide ((k : Int) < 11) = false := decide_eq_false (by omega)
      have HFIN : Hid (findF n K t q s nn own st = (none, sx)) := hidp (by
       rw [HFF.out, show 11 - k = 0 by omega]
       rfl)
      go_wp2_with fail
      go_ret2
      exact ⟨by rw [HFIN.out]; rfl, by rw [HFIN.out]; exact W1.out.fin⟩
  ·have t4 : decide ((m : Int) < q) = false := decide_eq_false (fun h3 => hmQ ((hqQ m).1 h3))
   have HNX : Hid (findF n K t q s nn own st = nextF n K q (11 - (own + 1)) (own + 1) sy) := hidp (by
    rw [HFF.out, HLK.out, show Q - m = 0 by omega]
    try rfl)
   clear HFF HLK
   go_wp2_with fail
   refine (r14Of_c nn (by omega) (by omega) _).mono ?_
   rintro e w9 ⟨rfl, rfl⟩
   rw [HO.out]
   go_wp2_with fail
   clear x0 x1 x2
   go_loopw [8, 11] (fun _ u11 wr => ∃ (k : Nat) (sx : Vst), own < k /\ k <= 11 /\ u11 = .int .i64 (k : Int) /\ Hid (findF n K t q s nn own st = nextF n K q (11 - k) k sx) /\ Hid (WL (rOb base b n all K) w0 A G w [⟨w.heap.size, 23, #[.int .i64 t, .int .i64 q, .int .i64 s]⟩] sx wr)) (fun _ u11 _ => 11 - (intOf u11).toNat)
   case atStart => exact ⟨own + 1, _, by omega, by omega, by go_num, HNX, W3⟩
   case round =>
    clear W3 HNX
    obtain ⟨k, sx, hko, hk11, rfl, HFF, W1⟩ := hrel
    obtain ⟨x0, x1, x2⟩ := W1.out.h0.three
    by_cases hk : k < 11
    ·have t2 : decide ((k : Int) < 11) = true := decide_eq_true (by omega)
     obtain ⟨hd, hhd⟩ : ∃ hd : Nat, 2 + k = hd := ⟨_, rfl⟩
     have HHD := hidp hhd
     have HB : Hid (nthI 2 11 1 (k : Int) = (hd : Int)) := hidp (by rw [nth_on (by omega) (by omega) (by omega)]; omega)
     obtain ⟨l1, hl1⟩ : ∃ l, getV n K sx (hd : Int) = l := ⟨_, rfl⟩
     have hl32 : l1 < 2 ^ 32 := by rw [<- hl1]; exact rWL_lt W1.out _
     have HL1 := hidp hl1
     obtain ⟨j, hj⟩ : ∃ j, 11 - k = j + 1 := ⟨10 - k, by omega⟩
     have HJ : Hid (11 - (k + 1) = j) := hidp (by omega)
     rw [hj] at HFF
     clear hl1 hhd hj
     go_wp2_with fail
     refine (r7Bin_c (k : Int) _).mono ?_
     rintro e w9 ⟨rfl, rfl⟩
     rw [HB.out]
     go_wp2_with fail
     refine (rGetA hn _ W1.out.at_).mono ?_
     rintro e w2 ⟨rfl, a1, a2⟩
     rw [HL1.out]
     have W2 := hidp (W1.out.call a1 a2)
     clear a1 a2 W1 x0 x1 x2
     obtain ⟨x0, x1, x2⟩ := W2.out.h0.three
     by_cases hp1 : 1 <= l1
     ·have t3 : decide ((1 : Int) <= (l1 : Int)) = true := decide_eq_true (by omega)
      by_cases hp2 : l1 <= Q
      ·have t4 : decide ((l1 : Int) <= q) = true := decide_eq_true ((hqL l1 hp1).2 hp2)
       have HFIN : Hid (findF n K t q s nn own st = (some (l1 - 1), getS n K sx (hd : Int))) := hidp (by rw [HFF.out, nextF_found n K q (by rw [HHD.out, HL1.out]; exact ⟨hp1, (hqL l1 hp1).2 hp2⟩), HHD.out, HL1.out])
       have HPL : Hid (Value.int .i64 ((l1 : Int) - 1) = Value.int .i64 ((l1 - 1 : Nat) : Int)) := hidp (by congr 1; omega)
       clear HFF HL1
       go_wp2_with fail
       go_ret2
       exact ⟨by rw [HFIN.out]; show Ending.returned (.tuple #[.int .i64 ((l1 : Int) - 1), .bool true]) = _; rw [HPL.out]; rfl, by rw [HFIN.out]; exact W2.out.fin⟩
      ·have t4 : decide ((l1 : Int) <= q) = false := decide_eq_false (fun h3 => hp2 ((hqL l1 hp1).1 h3))
       have HN2 : Hid (findF n K t q s nn own st = nextF n K q (11 - (k + 1)) (k + 1) (getS n K sx (hd : Int))) := hidp (by
        rw [HFF.out, nextF_step n K q (by rw [HHD.out, HL1.out]; exact fun h4 => hp2 ((hqL l1 h4.1).1 h4.2)), HHD.out, HJ.out])
       clear HFF HL1
       go_wp2_with fail
       go_roundw
       case rel => exact ⟨k + 1, _, by omega, by omega, by go_num, HN2, W2⟩
       case measure => simp [intOf]; omega
     ·have t3 : decide ((1 : Int) <= (l1 : Int)) = false := decide_eq_false (by omega)
      have HN2 : Hid (findF n K t q s nn own st = nextF n K q (11 - (k + 1)) (k + 1) (getS n K sx (hd : Int))) := hidp (by
       rw [HFF.out, nextF_step n K q (by rw [HHD.out, HL1.out]; exact fun h4 => hp1 h4.1), HHD.out, HJ.out])
      clear HFF HL1
      go_wp2_with fail
      go_roundw
      case rel => exact ⟨k + 1, _, by omega, by omega, by go_num, HN2, W2⟩
      case measure => simp [intOf]; omega
    ·have t2 : decide ((k : Int) < 11) = false := decide_eq_false (by omega)
     have HFIN : Hid (findF n K t q s nn own st = (none, sx)) := hidp (by
      rw [HFF.out, show 11 - k = 0 by omega]
      rfl)
     go_wp2_with fail
     go_ret2
     exact ⟨by rw [HFIN.out]; rfl, by rw [HFIN.out]; exact W1.out.fin⟩

theorem r14Find_c (hn : n < 2 ^ 40) (hq : q <= 1024) (nn : Int) (h : (rOb base b n all K).At w0 A G st w) :
  Calls Tryz.prog 121 #[.pointer (some ⟨b, 0, none⟩), .agg #[.int .i64 t, .int .i64 q, .int .i64 s], .int .i64 nn] w fun e w' => e = .returned (.tuple #[.int .i64 (foundI (findI n K t q s nn st).1), .bool (findI n K t q s nn st).1.isSome]) /\ (rOb base b n all K).At w0 A G (findI n K t q s nn st).2 w' /\ Stay G w w' := by
 by_cases h1 : nn < 1
 ·rw [findI_no (by omega)]; exact r14Find_low nn h1 h
 ·by_cases h2 : q < nn
  ·rw [findI_no (by omega)]; exact r14Find_high nn (by omega) h2 h
  ·obtain ⟨m, rfl⟩ := Int.eq_ofNat_of_zero_le (show 0 <= nn by omega)
   obtain ⟨own, ho, ho10, _⟩ := ofI_nat (n := m) (by omega) (by omega)
   rw [findI_yes ho (by omega) (by omega)]
   exact r14Find_yes hn hq (m : Int) own ho ho10 (by omega) (by omega) h
end
end
end Go.Proofs.YtjjfcaliippgpaaGreatDoor
