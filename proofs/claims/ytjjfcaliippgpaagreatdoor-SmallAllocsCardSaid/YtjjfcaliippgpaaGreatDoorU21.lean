/-
  What the document's answer of layer 18 does: Alloc, slots are picked. Written by small/gen_ref.py.
-/
import Derived.Test.YtjjfcaliippgpaaGreatDoorU20
namespace Go.Proofs.YtjjfcaliippgpaaGreatDoor
open Go.ChangeShapes Go.WideShapes Go.ChangeAt Go.RowKit Go.Maps
set_option linter.unusedVariables false
set_option linter.unusedSimpArgs false
set_option maxRecDepth 100000
section
section
variable {base b n : Nat} {all : Bool} {K : Nat -> Option Nat} {st : Vst} {w : World} {A : Nat -> Prop} {t q s : Int} {U : Nat -> Sl} {Z : Nat -> List Int}

set_option maxHeartbeats 6400000 in
theorem r18Alloc_none (hn : n < 2 ^ 40) (hq : q <= 1024) (k : Nat) (hk : k < 9) (s2 : Vst) (hx : pickZ n K t q s (k : Int) 4 st = (none, s2)) (hz : Z k = []) (hP : PkV w U Z) (hF : ∀ i, PB U Z i -> ¬ A i) (h : (rOb base b n all K).I w st A) :
  Calls Tryz.prog 12 #[.pointer (some ⟨b, 0, none⟩), .agg #[.int .i64 t, .int .i64 q, .int .i64 s], .agg (pkC U), .int .i64 (k : Int)] w fun e w' => e = .returned (.tuple #[.int .i64 0, .agg (pkC U), .bool false]) /\ PkLeft (rOb base b n all K) w A (PB U Z) U Z s2 w' := by
 have t0 : decide ((k : Int) < 0) = false := decide_eq_false (by omega)
 have t1 : decide (8 < (k : Int)) = false := decide_eq_false (by omega)
 have HLP : Hid (lastP Z (k : Int) = none) := hidp (by rw [lastP_in hk, hz]; rfl)
 have HX := hidp hx
 have HBA := hidp (Bnew (Bnew (Bnew (B0 w) (.cells #[.int .i64 t, .int .i64 q, .int .i64 s] 23)) (.cells (pkC U) 36)) (.cells #[.slice none 0 0, .slice none 0 0, .slice none 0 0, .slice none 0 0, .slice none 0 0, .slice none 0 0, .slice none 0 0, .slice none 0 0, .slice none 0 0] 36))
 have HC := hidp (((Held.new w 23 #[.int .i64 t, .int .i64 q, .int .i64 s]).alloc (.cells (pkC U) 36)).alloc (.cells #[.slice none 0 0, .slice none 0 0, .slice none 0 0, .slice none 0 0, .slice none 0 0, .slice none 0 0, .slice none 0 0, .slice none 0 0, .slice none 0 0] 36))
 have HPB := hidp ((Held.new2 w (.cells #[.int .i64 t, .int .i64 q, .int .i64 s] 23) 36 (pkC U)).alloc (.cells #[.slice none 0 0, .slice none 0 0, .slice none 0 0, .slice none 0 0, .slice none 0 0, .slice none 0 0, .slice none 0 0, .slice none 0 0, .slice none 0 0] 36))
 have HRB : Hid (Held (((w.alloc (.cells #[.int .i64 t, .int .i64 q, .int .i64 s] 23)).alloc (.cells (pkC U) 36)).alloc (.cells #[.slice none 0 0, .slice none 0 0, .slice none 0 0, .slice none 0 0, .slice none 0 0, .slice none 0 0, .slice none 0 0, .slice none 0 0, .slice none 0 0] 36)) (w.heap.size + 2) 36 (pkC zeroU)) := hidp (by
  have := Held.new ((w.alloc (.cells #[.int .i64 t, .int .i64 q, .int .i64 s] 23)).alloc (.cells (pkC U) 36)) 36 #[.slice none 0 0, .slice none 0 0, .slice none 0 0, .slice none 0 0, .slice none 0 0, .slice none 0 0, .slice none 0 0, .slice none 0 0, .slice none 0 0]
  have e : ((w.alloc (.cells #[.int .i64 t, .int .i64 q, .int .i64 s] 23)).alloc (.cells (pkC U) 36)).heap.size = w.heap.size + 2 := by simp
  rw [e] at this
  exact this)
 have HSZ : Hid ((((w.alloc (.cells #[.int .i64 t, .int .i64 q, .int .i64 s] 23)).alloc (.cells (pkC U) 36)).alloc (.cells #[.slice none 0 0, .slice none 0 0, .slice none 0 0, .slice none 0 0, .slice none 0 0, .slice none 0 0, .slice none 0 0, .slice none 0 0, .slice none 0 0] 36)).heap.size = w.heap.size + 3) := hidp (by simp)
 have HK := hidp ((Pkt.start h hP hF).keep2 (G' := (fun i => i = w.heap.size \/ i = (w.heap.size + 1) \/ i = (w.heap.size + 2))) HBA.out (fun i x => by
  have := HSZ.out
  rcases x with x | x | x <;> (right; omega)))
 have HPL : Hid (∀ i, PB U Z i -> i < w.heap.size) := hidp (fun i hi => hi.lt hP)
 have HF := hidp hF
 have HI0 := hidp h
 obtain ⟨p0, p1, p2, p3, p4, p5, p6, p7, p8⟩ := HPB.out.nineP
 go_enter Tryz.func12, Tryz.ntmps12
 go_wp2_with fail
 generalize hW3 : (((w.alloc (.cells #[.int .i64 t, .int .i64 q, .int .i64 s] 23)).alloc (.cells (pkC U) 36)).alloc (.cells #[.slice none 0 0, .slice none 0 0, .slice none 0 0, .slice none 0 0, .slice none 0 0, .slice none 0 0, .slice none 0 0, .slice none 0 0, .slice none 0 0] 36)) = W3 at *
 clear hW3
 refine (rPop_no U Z (k : Int) _ HK.out.pk HLP.out).mono ?_
 rintro e w2 ⟨rfl, hb⟩
 replace HK := hidp (HK.out.keep hb)
 replace HC := hidp (HC.out.keep hb)
 replace HPB := hidp (HPB.out.keep hb)
 replace HRB := hidp (HRB.out.keep hb)
 clear hb p0 p1 p2 p3 p4 p5 p6 p7 p8
 have HQB := hidp (Held.new w2 36 (pkC U))
 replace HK := hidp (HK.out.keep2 (G' := fun i => i = w.heap.size \/ i = (w.heap.size + 1) \/ i = (w.heap.size + 2) \/ i = w2.heap.size) (Bnew (B0 w2) (.cells (pkC U) 36)) (fun i x => by
  rcases x with x | x | x | x
  ·exact .inl (.inl x)
  ·exact .inl (.inr (.inl x))
  ·exact .inl (.inr (.inr x))
  ·exact .inr ⟨by omega, by simp; omega⟩))
 have HNQ : Hid (w.heap.size + 2 < w2.heap.size) := hidp HRB.out.lt
 replace HC := hidp (HC.out.alloc (.cells (pkC U) 36))
 replace HPB := hidp (HPB.out.alloc (.cells (pkC U) 36))
 replace HRB := hidp (HRB.out.alloc (.cells (pkC U) 36))
 obtain ⟨c0, c1, c2⟩ := HC.out.three
 go_wp2_with fail
 generalize hNQ : w2.heap.size = NQ at *
 generalize hW4 : w2.alloc (.cells (pkC U) 36) = W4 at *
 have HQL : Hid (NQ < W4.heap.size) := hidp HQB.out.lt
 clear hNQ hW4
 refine (r16Pick_c hn hq 4 HK.out.at_).mono ?_
 rintro e w5 ⟨u, rfl, u2, he2, ho, h1, h2⟩
 injection he2 with he2
 subst he2
 rw [HX.out] at ho h1 ⊢
 dsimp only [pickP, pickL, Option.isSome] at ho h1 ⊢
 have HROW := hidp (HK.out.row h1 h2)
 replace HC := hidp (h2.held (.inl (.inl rfl)) HC.out)
 replace HPB := hidp (h2.held (.inl (.inr (.inl rfl))) HPB.out)
 replace HRB := hidp (h2.held (.inl (.inr (.inr (.inl rfl)))) HRB.out)
 replace HQB := hidp (h2.held (.inl (.inr (.inr (.inr rfl)))) HQB.out)
 clear c0 c1 c2
 rw [List.length_nil] at ho
 obtain ⟨A2, c2, hu2⟩ := own_slice ho
 subst hu2
 replace HK := hidp (HROW.out.less (G' := fun i => i = (w.heap.size + 2)) (fun i x => .inl (.inr (.inr (.inl x)))))
 clear h1 h2 ho HROW
 obtain ⟨p0, p1, p2, p3, p4, p5, p6, p7, p8⟩ := HPB.out.nineP
 obtain ⟨z0, z1, z2, z3, z4, z5, z6, z7, z8⟩ := HRB.out.nineP
 obtain ⟨f0, f1, f2, f3, f4, f5, f6, f7, f8⟩ := HRB.out.thawP
 go_wp2_with fail
 go_region
 obtain ⟨WF, hWF⟩ : ∃ WF, setP w5 (w.heap.size + 2) U = WF := ⟨_, rfl⟩
 have zz := hidp (Held.setP HRB.out U)
 have HNF := hidp (HK.out.putP (i := (w.heap.size + 2)) (rfl) (fun x => by have := HPL.out _ x; omega) U)
 rw [hWF] at zz HNF
 unfold setP at hWF
 rw [hWF]
 replace zz := hidp (zz.out.keep (Bdrew (B0 _)))
 replace HNF := hidp (HNF.out.keep (Bdrew (B0 _)))
 obtain ⟨y0, y1, y2, y3, y4, y5, y6, y7, y8⟩ := zz.out.nineP
 clear p0 p1 p2 p3 p4 p5 p6 p7 p8 z0 z1 z2 z3 z4 z5 z6 z7 z8 f0 f1 f2 f3 f4 f5 f6 f7 f8 hWF
 go_wp2
 refine bodyPost_ret (v := .tuple #[.int .i64 0, .agg (pkC U), .bool false]) (by simp [results, Tryz.results12, go_sem, y0, y1, y2, y3, y4, y5, y6, y7, y8]) rfl ?_
 exact ⟨rfl, HNF.out.fin⟩

set_option maxHeartbeats 12800000 in
theorem r18Alloc_pick (hn : n < 2 ^ 40) (hq : q <= 1024) (k : Nat) (hk : k < 9) (s2 : Vst) (p : Nat) (l : List Nat) (hx : pickZ n K t q s (k : Int) 4 st = (some (p, l), s2)) (nl : Nat) (hl : l.length = nl) (hl1 : 1 <= nl) (hl4 : nl <= 4) (hl32 : ∀ i, i < nl -> l.getD i 0 < 32) (hz : Z k = [])
  (fa : Nat -> Int) (hfa : ∀ i, i < nl -> atI t q s (k : Int) (p : Int) ((l.getD i 0 : Nat) : Int) = fa (l.getD i 0)) (hfb : ∀ i, i < nl -> -9223372036854775808 <= fa (l.getD i 0) /\ fa (l.getD i 0) <= 9223372036854775807) (hP : PkV w U Z) (hF : ∀ i, PB U Z i -> ¬ A i) (h : (rOb base b n all K).I w st A) :
  Calls Tryz.prog 12 #[.pointer (some ⟨b, 0, none⟩), .agg #[.int .i64 t, .int .i64 q, .int .i64 s], .agg (pkC U), .int .i64 (k : Int)] w fun e w' => ∃ V, e = .returned (.tuple #[.int .i64 (fa (l.getD 0 0)), .agg (pkC V), .bool true]) /\ PkLeft (rOb base b n all K) w A (PB U Z) V (updF Z k ((l.drop 1).reverse.map fa)) (onS n K t q s p (l.getD 0 0) s2) w' /\ VOk n s2 := by
 have t0 : decide ((k : Int) < 0) = false := decide_eq_false (by omega)
 have t1 : decide (8 < (k : Int)) = false := decide_eq_false (by omega)
 have HLP : Hid (lastP Z (k : Int) = none) := hidp (by rw [lastP_in hk, hz]; rfl)
 have HX := hidp hx
 have HNL := hidp hl
 have HFA := hidp hfa
 have HFB := hidp hfb
 have HZE := hidp hz
 obtain ⟨i0, hi0⟩ : ∃ i0, l.getD 0 0 = i0 := ⟨_, rfl⟩
 have HI00 := hidp hi0
 have hi32 : i0 < 32 := by rw [<- hi0]; exact hl32 0 (by omega)
 have HF0 : Hid (atI t q s (k : Int) (p : Int) (i0 : Int) = fa i0) := hidp (by rw [<- hi0]; exact hfa 0 (by omega))
 rw [hi0]
 have HBA := hidp (Bnew (Bnew (Bnew (B0 w) (.cells #[.int .i64 t, .int .i64 q, .int .i64 s] 23)) (.cells (pkC U) 36)) (.cells #[.slice none 0 0, .slice none 0 0, .slice none 0 0, .slice none 0 0, .slice none 0 0, .slice none 0 0, .slice none 0 0, .slice none 0 0, .slice none 0 0] 36))
 have HC := hidp (((Held.new w 23 #[.int .i64 t, .int .i64 q, .int .i64 s]).alloc (.cells (pkC U) 36)).alloc (.cells #[.slice none 0 0, .slice none 0 0, .slice none 0 0, .slice none 0 0, .slice none 0 0, .slice none 0 0, .slice none 0 0, .slice none 0 0, .slice none 0 0] 36))
 have HPB := hidp ((Held.new2 w (.cells #[.int .i64 t, .int .i64 q, .int .i64 s] 23) 36 (pkC U)).alloc (.cells #[.slice none 0 0, .slice none 0 0, .slice none 0 0, .slice none 0 0, .slice none 0 0, .slice none 0 0, .slice none 0 0, .slice none 0 0, .slice none 0 0] 36))
 have HRB : Hid (Held (((w.alloc (.cells #[.int .i64 t, .int .i64 q, .int .i64 s] 23)).alloc (.cells (pkC U) 36)).alloc (.cells #[.slice none 0 0, .slice none 0 0, .slice none 0 0, .slice none 0 0, .slice none 0 0, .slice none 0 0, .slice none 0 0, .slice none 0 0, .slice none 0 0] 36)) (w.heap.size + 2) 36 (pkC zeroU)) := hidp (by
  have := Held.new ((w.alloc (.cells #[.int .i64 t, .int .i64 q, .int .i64 s] 23)).alloc (.cells (pkC U) 36)) 36 #[.slice none 0 0, .slice none 0 0, .slice none 0 0, .slice none 0 0, .slice none 0 0, .slice none 0 0, .slice none 0 0, .slice none 0 0, .slice none 0 0]
  have e : ((w.alloc (.cells #[.int .i64 t, .int .i64 q, .int .i64 s] 23)).alloc (.cells (pkC U) 36)).heap.size = w.heap.size + 2 := by simp
  rw [e] at this
  exact this)
 have HSZ : Hid ((((w.alloc (.cells #[.int .i64 t, .int .i64 q, .int .i64 s] 23)).alloc (.cells (pkC U) 36)).alloc (.cells #[.slice none 0 0, .slice none 0 0, .slice none 0 0, .slice none 0 0, .slice none 0 0, .slice none 0 0, .slice none 0 0, .slice none 0 0, .slice none 0 0] 36)).heap.size = w.heap.size + 3) := hidp (by simp)
 have HK := hidp ((Pkt.start h hP hF).keep2 (G' := (fun i => i = w.heap.size \/ i = (w.heap.size + 1) \/ i = (w.heap.size + 2))) HBA.out (fun i x => by
  have := HSZ.out
  rcases x with x | x | x <;> (right; omega)))
 have HPL : Hid (∀ i, PB U Z i -> i < w.heap.size) := hidp (fun i hi => hi.lt hP)
 have HF := hidp hF
 have HI0 := hidp h
 obtain ⟨p0, p1, p2, p3, p4, p5, p6, p7, p8⟩ := HPB.out.nineP
 go_enter Tryz.func12, Tryz.ntmps12
 go_wp2_with fail
 generalize hW3 : (((w.alloc (.cells #[.int .i64 t, .int .i64 q, .int .i64 s] 23)).alloc (.cells (pkC U) 36)).alloc (.cells #[.slice none 0 0, .slice none 0 0, .slice none 0 0, .slice none 0 0, .slice none 0 0, .slice none 0 0, .slice none 0 0, .slice none 0 0, .slice none 0 0] 36)) = W3 at *
 clear hW3
 refine (rPop_no U Z (k : Int) _ HK.out.pk HLP.out).mono ?_
 rintro e w2 ⟨rfl, hb⟩
 replace HK := hidp (HK.out.keep hb)
 replace HC := hidp (HC.out.keep hb)
 replace HPB := hidp (HPB.out.keep hb)
 replace HRB := hidp (HRB.out.keep hb)
 clear hb p0 p1 p2 p3 p4 p5 p6 p7 p8
 have HQB := hidp (Held.new w2 36 (pkC U))
 replace HK := hidp (HK.out.keep2 (G' := fun i => i = w.heap.size \/ i = (w.heap.size + 1) \/ i = (w.heap.size + 2) \/ i = w2.heap.size) (Bnew (B0 w2) (.cells (pkC U) 36)) (fun i x => by
  rcases x with x | x | x | x
  ·exact .inl (.inl x)
  ·exact .inl (.inr (.inl x))
  ·exact .inl (.inr (.inr x))
  ·exact .inr ⟨by omega, by simp; omega⟩))
 have HNQ : Hid (w.heap.size + 2 < w2.heap.size) := hidp HRB.out.lt
 replace HC := hidp (HC.out.alloc (.cells (pkC U) 36))
 replace HPB := hidp (HPB.out.alloc (.cells (pkC U) 36))
 replace HRB := hidp (HRB.out.alloc (.cells (pkC U) 36))
 obtain ⟨c0, c1, c2⟩ := HC.out.three
 go_wp2_with fail
 generalize hNQ : w2.heap.size = NQ at *
 generalize hW4 : w2.alloc (.cells (pkC U) 36) = W4 at *
 have HQL : Hid (NQ < W4.heap.size) := hidp HQB.out.lt
 clear hNQ hW4
 refine (r16Pick_c hn hq 4 HK.out.at_).mono ?_
 rintro e w5 ⟨u, rfl, u2, he2, ho, h1, h2⟩
 injection he2 with he2
 subst he2
 rw [HX.out] at ho h1 ⊢
 dsimp only [pickP, pickL, Option.isSome] at ho h1 ⊢
 have HROW := hidp (HK.out.row h1 h2)
 replace HC := hidp (h2.held (.inl (.inl rfl)) HC.out)
 replace HPB := hidp (h2.held (.inl (.inr (.inl rfl))) HPB.out)
 replace HRB := hidp (h2.held (.inl (.inr (.inr (.inl rfl)))) HRB.out)
 replace HQB := hidp (h2.held (.inl (.inr (.inr (.inr rfl)))) HQB.out)
 clear c0 c1 c2
 rw [HNL.out] at ho
 obtain ⟨g2, c2', hu2, _⟩ := ho.form (by omega)
 subst hu2
 obtain ⟨cr, hcr, hcc1, hcc2, hcells⟩ := own_held ho HNL.out
 have HR := hidp hcr
 have HGQ : Hid (g2 ≠ NQ) := hidp (by have h3 := (ho.lt g2 rfl).1; have h4 := HQL.out; omega)
 have HSC := hidp hcells
 have HS0 : Hid (∀ (w : World), Held w g2 3 cr -> w.cell? ⟨g2, 0, none⟩ = some (.int .i64 (i0 : Int))) := hidp (fun w hw => by rw [<- HI00.out]; exact hcells w hw 0 (by omega))
 replace HK := hidp (HROW.out.less (G' := (fun i => i = w.heap.size \/ i = (w.heap.size + 1) \/ i = (w.heap.size + 2) \/ i = NQ \/ i = g2)) (fun i x => by
  rcases x with x | x | x | x | x
  ·exact .inl (.inl x)
  ·exact .inl (.inr (.inl x))
  ·exact .inl (.inr (.inr (.inl x)))
  ·exact .inl (.inr (.inr (.inr x)))
  ·exact .inr (by rw [x]; rfl)))
 have HOK : Hid (VOk n s2) := hidp (by obtain ⟨A', ⟨v, hI, _⟩, _⟩ := HK.out.at_; exact hI.ok)
 clear h1 h2 ho HROW hcr hcells HPB
 have hl0 : 0 < nl := hl1
 obtain ⟨sx, hsx⟩ : ∃ sx, s2 = sx := ⟨_, rfl⟩
 have HSX := hidp hsx
 rw [hsx] at HK
 clear hsx
 obtain ⟨v, hv⟩ : ∃ v, getV n K sx (pageI t q s (p : Int) 4) = v := ⟨_, rfl⟩
 have hv32 : v < 2 ^ 32 := by rw [<- hv]; exact rAt_lt HK.out.at_ _
 have HV := hidp hv
 obtain ⟨u, hu⟩ : ∃ u, v ||| 2 ^ i0 = u := ⟨_, rfl⟩
 have HU : Hid (u < 2 ^ 32) := hidp (by rw [<- hu]; exact setB_lt hv32 hi32)
 obtain ⟨x, hx⟩ : ∃ x, 2 ^ i0 = x := ⟨_, rfl⟩
 have HXB := hidp hx
 have e1 : bits .or .u32 (v : Int) (x : Int) = (u : Int) := by rw [<- hu, <- hx]; exact setB_or hv32 hi32
 have HVU : Hid (getV n K sx (pageI t q s (p : Int) 4) ||| 2 ^ i0 = u) := hidp (by rw [hv, hu])
 clear hv hu hx hv32
 obtain ⟨c0, c1, c2⟩ := HC.out.three
 go_wp2_with fail
 refine (r7Slots_c t q s (p : Int) _).mono ?_
 rintro e w6 ⟨rfl, hb⟩
 replace HK := hidp (HK.out.keep hb)
 replace HC := hidp (HC.out.keep hb)
 replace HRB := hidp (HRB.out.keep hb)
 replace HQB := hidp (HQB.out.keep hb)
 replace HR := hidp (HR.out.keep hb)
 clear hb
 clear c0 c1 c2
 go_wp2_with fail
 refine (rGetA hn _ HK.out.at_).mono ?_
 rintro e w7 ⟨rfl, h1, h2⟩
 rw [HV.out]
 replace HC := hidp (h2.held (.inl (.inl rfl)) HC.out)
 replace HRB := hidp (h2.held (.inl (.inr (.inr (.inl rfl)))) HRB.out)
 replace HQB := hidp (h2.held (.inl (.inr (.inr (.inr (.inl rfl))))) HQB.out)
 replace HR := hidp (h2.held (.inl (.inr (.inr (.inr (.inr rfl))))) HR.out)
 replace HK := hidp (HK.out.call h1 h2)
 clear h1 h2
 go_wp2_with fail
 replace HK := hidp (HK.out.keep (Bdrew (B0 _)))
 replace HC := hidp (HC.out.keep (Bdrew (B0 _)))
 replace HRB := hidp (HRB.out.keep (Bdrew (B0 _)))
 replace HQB := hidp (HQB.out.keep (Bdrew (B0 _)))
 replace HR := hidp (HR.out.keep (Bdrew (B0 _)))
 refine wp_region_held_drew (S := (fun w' => (w'.cell? ⟨w.heap.size, 0, none⟩ = some (.int .i64 t) /\ w'.cell? ⟨w.heap.size, 1, none⟩ = some (.int .i64 q) /\ w'.cell? ⟨w.heap.size, 2, none⟩ = some (.int .i64 s)) /\ w'.cell? ⟨g2, 0, none⟩ = some (.int .i64 (i0 : Int)))) (by kernel_rfl) ?_ (fun hHeld => ?_)
 ·(try dsimp only)
  first | exact ⟨HC.out.three, HS0.out _ HR.out⟩ | exact hHeld
 refine tkz 0 ?_
 refine tkz 1 ?_
 refine tkz 2 ?_
 refine tkz 4 ?_
 refine tkz 5 ?_
 refine tkz 6 ?_
 refine tkz 7 ?_
 refine rdz 3 fun K hK => ?_
 go_simp
 refine (r7Slots_c t q s (p : Int) _).mono ?_
 rintro e w8 ⟨rfl, hb⟩
 replace HK := hidp (HK.out.keep hb)
 replace HC := hidp (HC.out.keep hb)
 replace HRB := hidp (HRB.out.keep hb)
 replace HQB := hidp (HQB.out.keep hb)
 replace HR := hidp (HR.out.keep hb)
 clear hb
 refine hK.out _ _ ?_ (fun hHeld => ?_)
 ·(try dsimp only)
  first | exact ⟨HC.out.three, HS0.out _ HR.out⟩ | exact hHeld
 clear hK K
 (try simp only [Act.put, gA, gB, gC, sA, sB, sC])
 refine rdz 8 fun K hK => ?_
 go_simp
 refine (r16Bit_c i0 hi32 _).mono ?_
 rintro e w9 ⟨rfl, rfl⟩
 rw [HXB.out]
 refine hK.out _ _ ?_ (fun hHeld => ?_)
 ·(try dsimp only)
  first | exact ⟨HC.out.three, HS0.out _ HR.out⟩ | exact hHeld
 clear hK K
 (try simp only [Act.put, gA, gB, gC, sA, sB, sC])
 refine tkz 9 ?_
 refine rdz 10 fun K hK => ?_
 go_simp
 refine (rPutA hn _ u HU.out HK.out.at_).mono ?_
 rintro e w10 ⟨rfl, h1, h2⟩
 replace HC := hidp (h2.held (.inl (.inl rfl)) HC.out)
 replace HRB := hidp (h2.held (.inl (.inr (.inr (.inl rfl)))) HRB.out)
 replace HQB := hidp (h2.held (.inl (.inr (.inr (.inr (.inl rfl))))) HQB.out)
 replace HR := hidp (h2.held (.inl (.inr (.inr (.inr (.inr rfl))))) HR.out)
 replace HK := hidp (HK.out.call h1 h2)
 clear h1 h2
 refine hK.out _ _ ?_ (fun hHeld => ?_)
 ·(try dsimp only)
  first | exact ⟨HC.out.three, HS0.out _ HR.out⟩ | exact hHeld
 clear hK K
 (try simp only [Act.put, gA, gB, gC, sA, sB, sC])
 refine dnz ?_
 rw [<- HVU.out] at HK
 clear e1 HV HU HXB HVU
 obtain ⟨sy, hsy⟩ : ∃ sy, putS n (getS n K sx (pageI t q s (p : Int) 4)) (pageI t q s (p : Int) 4) (getV n K sx (pageI t q s (p : Int) 4) ||| 2 ^ i0) = sy := ⟨_, rfl⟩
 have HSY : Hid (onS n K t q s p i0 sx = putS n (getS n K sy 1) 1 (inc32 (getV n K sy 1))) := hidp (by rw [<- hsy]; rfl)
 rw [hsy] at HK
 clear hsy
 have hfu : updF Z k (ylB fa l 0) = Z := by
  funext j
  by_cases e : j = k
  ·subst e; rw [updF_same, ylB_zero, HZE.out]
  ·rw [updF_other _ _ e]
 have HK0 : Hid (Pkt (rOb base b n all K) w A (PB U Z) (fun i => i = w.heap.size \/ i = (w.heap.size + 1) \/ i = (w.heap.size + 2) \/ i = NQ \/ i = g2) U (updF Z k (ylB fa l 0)) sy w10) := hidp (by rw [hfu]; exact HK.out)
 have HV0 : Hid (∀ j, PB U (updF Z k (ylB fa l 0)) j -> j < w.heap.size \/ NQ < j) := hidp (fun j hj => by rw [hfu] at hj; exact .inl (HPL.out j hj))
 have h64 : ((nl : Int) - 1) = ((nl - 1 : Nat) : Int) := by omega
 clear hfu
 go_wp2_with fail
 go_loopw [21, 22, 23] (fun u21 _ _ wr => ∃ (i : Nat) (V : Nat -> Sl), i <= nl - 1 /\ u21 = .int .i64 (i : Int) /\ Hid (Held wr w.heap.size 23 #[.int .i64 t, .int .i64 q, .int .i64 s]) /\ Hid (Held wr (w.heap.size + 2) 36 (pkC zeroU)) /\ Hid (Held wr NQ 36 (pkC V)) /\ Hid (Held wr g2 3 cr) /\ Hid (Pkt (rOb base b n all K) w A (PB U Z) (fun i => i = w.heap.size \/ i = (w.heap.size + 1) \/ i = (w.heap.size + 2) \/ i = NQ \/ i = g2) V (updF Z k (ylB fa l (nl - 1 - i))) sy wr) /\ Hid (∀ j, PB V (updF Z k (ylB fa l (nl - 1 - i))) j -> j < w.heap.size \/ NQ < j)) (fun u21 _ _ _ => (intOf u21).toNat)
 case atStart => exact ⟨nl - 1, U, by omega, by go_num, HC, HRB, HQB, HR, by rw [Nat.sub_self]; exact HK0, by rw [Nat.sub_self]; exact HV0⟩
 case round =>
  clear HC HRB HQB HR HK HK0 HV0
  obtain ⟨i, V, hi, rfl, HC, HRB, HQB, HR, HK, HVV⟩ := hrel
  obtain ⟨j, hj⟩ : ∃ j, l.getD i 0 = j := ⟨_, rfl⟩
  have HSI : Hid (∀ (w : World), Held w g2 3 cr -> w.cell? ⟨g2, i, none⟩ = some (.int .i64 (j : Int))) := hidp (fun w hw => by rw [<- hj]; exact HSC.out w hw i (by omega))
  have hfj := HFA.out i (by omega)
  have hbj := HFB.out i (by omega)
  rw [hj] at hfj hbj
  have HFJ := hidp hfj
  by_cases hlt : 1 <= i
  ·have HYS : Hid (ylB fa l (nl - 1 - (i - 1)) = ylB fa l (nl - 1 - i) ++ [fa j]) := hidp (by
    rw [show nl - 1 - (i - 1) = nl - 1 - i + 1 by omega, ylB_succ, show l.length - 1 - (nl - 1 - i) = i by have := HNL.out; omega, hj])
   have hu : updF (updF Z k (ylB fa l (nl - 1 - i))) k ((updF Z k (ylB fa l (nl - 1 - i))) k ++ [fa j]) = updF Z k (ylB fa l (nl - 1 - (i - 1))) := by
    rw [HYS.out, updF_same]
    funext x
    by_cases e : x = k
    ·subst e; rw [updF_same, updF_same]
    ·rw [updF_other _ _ e, updF_other _ _ e, updF_other _ _ e]
   have HUU := hidp hu
   have h3 : ((updF Z k (ylB fa l (nl - 1 - i))) k).length <= 3 := by rw [updF_same, ylB_len]; omega
   have hin : i < nl := by omega
   clear hj hfj hu
   go_wp2_with fail
   replace HK := hidp (HK.out.keep (Bdrew (B0 _)))
   replace HC := hidp (HC.out.keep (Bdrew (B0 _)))
   replace HRB := hidp (HRB.out.keep (Bdrew (B0 _)))
   replace HQB := hidp (HQB.out.keep (Bdrew (B0 _)))
   replace HR := hidp (HR.out.keep (Bdrew (B0 _)))
   refine wp_region_held_drew (S := (fun w' => (w'.cell? ⟨w.heap.size, 0, none⟩ = some (.int .i64 t) /\ w'.cell? ⟨w.heap.size, 1, none⟩ = some (.int .i64 q) /\ w'.cell? ⟨w.heap.size, 2, none⟩ = some (.int .i64 s)) /\ w'.cell? ⟨g2, i, none⟩ = some (.int .i64 (j : Int)))) (by kernel_rfl) ?_ (fun hHeld => ?_)
   ·(try dsimp only)
    first | exact ⟨HC.out.three, HSI.out _ HR.out⟩ | exact hHeld
   refine tkz 0 ?_
   refine tkz 1 ?_
   refine tkz 2 ?_
   refine tkz 3 ?_
   refine tkz 4 ?_
   refine tkz 5 ?_
   refine tkz 6 ?_
   refine rdz 7 fun K hK => ?_
   go_simp
   refine (r6At_c t q s (k : Int) (p : Int) (j : Int) (by omega) (by omega) _).mono ?_
   rintro e w12 ⟨rfl, hb⟩
   rw [HFJ.out]
   replace HK := hidp (HK.out.keep hb)
   replace HC := hidp (HC.out.keep hb)
   replace HRB := hidp (HRB.out.keep hb)
   replace HQB := hidp (HQB.out.keep hb)
   replace HR := hidp (HR.out.keep hb)
   clear hb
   refine hK.out _ _ ?_ (fun hHeld => ?_)
   ·(try dsimp only)
    first | exact ⟨HC.out.three, HSI.out _ HR.out⟩ | exact hHeld
   clear hK K
   (try simp only [Act.put, gA, gB, gC, sA, sB, sC])
   refine tkz 8 ?_
   refine tkz 9 ?_
   refine tkz 10 ?_
   refine tkz 11 ?_
   refine tkz 12 ?_
   refine dnz ?_
   obtain ⟨p0, p1, p2, p3, p4, p5, p6, p7, p8⟩ := HQB.out.nineP
   go_wp2_with fail
   refine (rPush_yes V (updF Z k (ylB fa l (nl - 1 - i))) k (fa j) hbj hk h3 _ HK.out.pk).mono ?_
   rintro e w13 ⟨x, rfl, hx, hV, hb⟩
   rw [HUU.out] at hV
   have HLT := hidp HQB.out.lt
   have hK2 := HK.out.turn hb hV (fun i hi => by rw [<- HUU.out] at hi; exact hi.turn_new hx)
   have HV2 : Hid (∀ m, PB (updF V k x) (updF Z k (ylB fa l (nl - 1 - (i - 1)))) m -> m < w.heap.size \/ NQ < m) := hidp (fun m hm => by
    rw [<- HUU.out] at hm
    rcases hm.turn_new hx with h1 | h1
    ·exact HVV.out m h1
    ·have := HLT.out; exact .inr (by omega))
   obtain ⟨V2, hV2⟩ : ∃ V2, updF V k x = V2 := ⟨_, rfl⟩
   rw [hV2] at hK2 HV2
   have HK2 := hidp hK2
   replace HC := hidp (HC.out.keep hb)
   replace HRB := hidp (HRB.out.keep hb)
   replace HQB := hidp (HQB.out.keep hb)
   replace HR := hidp (HR.out.keep hb)
   rw [hV2]
   clear hb hx hV hK2 hV2 HK HVV p0 p1 p2 p3 p4 p5 p6 p7 p8
   obtain ⟨z0, z1, z2, z3, z4, z5, z6, z7, z8⟩ := HQB.out.nineP
   obtain ⟨f0, f1, f2, f3, f4, f5, f6, f7, f8⟩ := HQB.out.thawP
   go_wp2_with fail
   obtain ⟨WF, hWF⟩ : ∃ WF, setP w13 NQ V2 = WF := ⟨_, rfl⟩
   have zz := hidp (Held.setP HQB.out V2)
   have v1 := hidp (HC.out.farP (by have := HNQ.out; omega) V2 : Held (setP w13 NQ V2) _ _ _)
   have v2 := hidp (HRB.out.farP (by have := HNQ.out; omega) V2 : Held (setP w13 NQ V2) _ _ _)
   have v3 := hidp (HR.out.farP HGQ.out V2 : Held (setP w13 NQ V2) _ _ _)
   have hKF := hidp (HK2.out.putP (i := NQ) (.inr (.inr (.inr (.inl rfl)))) (fun x => by have := HV2.out _ x; have := HNQ.out; omega) V2)
   rw [hWF] at zz hKF v1 v2 v3
   unfold setP at hWF
   rw [hWF]
   clear z0 z1 z2 z3 z4 z5 z6 z7 z8 f0 f1 f2 f3 f4 f5 f6 f7 f8 hWF
   go_wp2_with fail
   go_roundw
   case rel => exact ⟨i - 1, V2, by omega, by go_num, v1, v2, zz, v3, hKF, HV2⟩
   case measure => simp [intOf]; omega
  ·obtain rfl : i = 0 := by omega
   have HYE : Hid (updF Z k (ylB fa l (nl - 1 - 0)) = updF Z k ((l.drop 1).reverse.map fa)) := hidp (by rw [<- ylB_all, HNL.out, Nat.sub_zero])
   rw [HYE.out] at HK HVV
   clear hj hfj HSI HFJ hbj
   go_wp2_with fail
   replace HK := hidp (HK.out.keep (Bdrew (B0 _)))
   replace HC := hidp (HC.out.keep (Bdrew (B0 _)))
   replace HRB := hidp (HRB.out.keep (Bdrew (B0 _)))
   replace HQB := hidp (HQB.out.keep (Bdrew (B0 _)))
   replace HR := hidp (HR.out.keep (Bdrew (B0 _)))
   refine wp_region_held_drew (S := (fun w' => (w'.cell? ⟨w.heap.size, 0, none⟩ = some (.int .i64 t) /\ w'.cell? ⟨w.heap.size, 1, none⟩ = some (.int .i64 q) /\ w'.cell? ⟨w.heap.size, 2, none⟩ = some (.int .i64 s)) /\ w'.cell? ⟨g2, 0, none⟩ = some (.int .i64 (i0 : Int)))) (by kernel_rfl) ?_ (fun hHeld => ?_)
   ·(try dsimp only)
    first | exact ⟨HC.out.three, HS0.out _ HR.out⟩ | exact hHeld
   refine tkz 0 ?_
   refine tkz 1 ?_
   refine tkz 2 ?_
   refine tkz 3 ?_
   refine tkz 4 ?_
   refine tkz 5 ?_
   refine rdz 6 fun K hK => ?_
   go_simp
   refine (r6At_c t q s (k : Int) (p : Int) (i0 : Int) (by omega) (by omega) _).mono ?_
   rintro e w12 ⟨rfl, hb⟩
   rw [HF0.out]
   replace HK := hidp (HK.out.keep hb)
   replace HC := hidp (HC.out.keep hb)
   replace HRB := hidp (HRB.out.keep hb)
   replace HQB := hidp (HQB.out.keep hb)
   replace HR := hidp (HR.out.keep hb)
   clear hb
   refine hK.out _ _ ?_ (fun hHeld => ?_)
   ·(try dsimp only)
    first | exact ⟨HC.out.three, HS0.out _ HR.out⟩ | exact hHeld
   clear hK K
   (try simp only [Act.put, gA, gB, gC, sA, sB, sC])
   refine tkz 7 ?_
   refine tkz 8 ?_
   refine tkz 9 ?_
   refine tkz 10 ?_
   refine dnz ?_
   obtain ⟨y, hy⟩ : ∃ y, getV n K sy 1 = y := ⟨_, rfl⟩
   have hy32 : y < 2 ^ 32 := by rw [<- hy]; exact rAt_lt HK.out.at_ _
   have HY := hidp hy
   obtain ⟨z, hz1⟩ : ∃ z, inc32 y = z := ⟨_, rfl⟩
   have HZ1 : Hid (z < 2 ^ 32) := hidp (by rw [<- hz1]; exact Nat.mod_lt _ (by decide))
   have e2 : ((y : Int) + 1) % 4294967296 = (z : Int) := by rw [<- hz1]; unfold inc32; omega
   have e3 : IntKind.u32.wrap ((y : Int) + 1) = (z : Int) := by unfold IntKind.wrap; simpa [IntKind.bits, IntKind.signed] using e2
   have HYZ : Hid (inc32 (getV n K sy 1) = z) := hidp (by rw [hy, hz1])
   clear hy hz1 hy32
   go_wp2_with fail
   refine (rGetA hn 1 HK.out.at_).mono ?_
   rintro e w14 ⟨rfl, h1, h2⟩
   rw [HY.out]
   replace HRB := hidp (h2.held (.inl (.inr (.inr (.inl rfl)))) HRB.out)
   replace HQB := hidp (h2.held (.inl (.inr (.inr (.inr (.inl rfl))))) HQB.out)
   replace HK := hidp (HK.out.call h1 h2)
   clear h1 h2
   go_wp2_with fail
   refine (rPutA hn 1 z HZ1.out HK.out.at_).mono ?_
   rintro e w15 ⟨rfl, h1, h2⟩
   replace HRB := hidp (h2.held (.inl (.inr (.inr (.inl rfl)))) HRB.out)
   replace HQB := hidp (h2.held (.inl (.inr (.inr (.inr (.inl rfl))))) HQB.out)
   replace HK := hidp (HK.out.call h1 h2)
   clear h1 h2
   rw [<- HYZ.out] at HK
   clear e2 e3 HYZ HY HZ1
   obtain ⟨p0, p1, p2, p3, p4, p5, p6, p7, p8⟩ := HQB.out.nineP
   obtain ⟨z0, z1, z2, z3, z4, z5, z6, z7, z8⟩ := HRB.out.nineP
   obtain ⟨f0, f1, f2, f3, f4, f5, f6, f7, f8⟩ := HRB.out.thawP
   go_wp2_with fail
   go_region
   obtain ⟨WF, hWF⟩ : ∃ WF, setP w15 (w.heap.size + 2) V = WF := ⟨_, rfl⟩
   have zz := hidp (Held.setP HRB.out V)
   have HNF := hidp (HK.out.putP (i := (w.heap.size + 2)) (.inr (.inr (.inl rfl))) (fun x => by have := HVV.out _ x; have := HNQ.out; omega) V)
   rw [hWF] at zz HNF
   unfold setP at hWF
   rw [hWF]
   replace zz := hidp (zz.out.keep (Bdrew (B0 _)))
   replace HNF := hidp (HNF.out.keep (Bdrew (B0 _)))
   obtain ⟨y0, y1, y2, y3, y4, y5, y6, y7, y8⟩ := zz.out.nineP
   clear p0 p1 p2 p3 p4 p5 p6 p7 p8 z0 z1 z2 z3 z4 z5 z6 z7 z8 f0 f1 f2 f3 f4 f5 f6 f7 f8 hWF
   go_wp2
   refine bodyPost_ret (v := .tuple #[.int .i64 (fa i0), .agg (pkC V), .bool true]) (by simp [results, Tryz.results12, go_sem, y0, y1, y2, y3, y4, y5, y6, y7, y8]) rfl ?_
   exact ⟨V, rfl, by rw [HSX.out, HSY.out]; exact HNF.out.fin, HOK.out⟩

theorem r18Alloc_c (hn : n < 2 ^ 40) (hq : q <= 1024) (k : Int) (hok : 0 <= k /\ k <= 8 -> AlOk n K t q s k (Z k.toNat) st) (hP : PkV w U Z) (hF : ∀ i, PB U Z i -> ¬ A i) (h : (rOb base b n all K).I w st A) :
  Calls Tryz.prog 12 #[.pointer (some ⟨b, 0, none⟩), .agg #[.int .i64 t, .int .i64 q, .int .i64 s], .agg (pkC U), .int .i64 k] w (AlEnd (rOb base b n all K) w A n K t q s k U Z st) := by
 by_cases hk : 0 <= k /\ k <= 8
 ·obtain ⟨k, rfl⟩ := Int.eq_ofNat_of_zero_le hk.1
  have hk9 : k < 9 := by omega
  have ok := hok hk
  unfold AlEnd
  rw [Int.toNat_natCast] at ok ⊢
  rcases List.eq_nil_or_concat (Z k) with hz | ⟨ys, a, hz⟩
  ·rw [hz] at ok
   have e1 : allocI n K t q s (k : Int) [] st = (match (pickI n K t q s (k : Int) 4 st).1 with
    | some (p, m) => (some (atI t q s (k : Int) (p : Int) ((m.getD 0 0 : Nat) : Int), (m.drop 1).reverse.map fun (i : Nat) => atI t q s (k : Int) (p : Int) (i : Int)), onS n K t q s p (m.getD 0 0) (pickI n K t q s (k : Int) 4 st).2)
    | none => (none, (pickI n K t q s (k : Int) 4 st).2)) := by
    unfold allocI
    rw [if_neg (by omega)]
    rfl
   rw [hz, e1]
   obtain ⟨⟨x, s2⟩, hx⟩ : ∃ y, pickI n K t q s (k : Int) 4 st = y := ⟨_, rfl⟩
   have hxz : pickZ n K t q s (k : Int) 4 st = (x, s2) := (pickZ_yes (by omega) (by omega) (by omega) (by omega) : pickZ n K t q s (k : Int) ((4 : Nat) : Int) st = _).trans hx
   rw [hx]
   cases x with
   | none =>
    refine (r18Alloc_none hn hq k hk9 s2 hxz hz hP hF h).mono ?_
    rintro e w' ⟨rfl, hl⟩
    have hv : VOk n s2 := by obtain ⟨⟨A', ⟨o, hI, _⟩, _⟩, _, _⟩ := hl; exact hI.ok
    exact ⟨U, rfl, hl, fun _ _ => hv⟩
   | some y =>
    obtain ⟨p, l⟩ := y
    obtain ⟨g1, g2, g3⟩ := ok.pick p l (by rw [hx])
    refine (r18Alloc_pick hn hq k hk9 s2 p l hxz l.length rfl g1 g2 (fun i hi => by
     rw [show l.getD i 0 = l[i]'hi by simp [List.getD, List.getElem?_eq_getElem hi]]
     exact g3 _ (List.getElem_mem _)) hz (fun i => atI t q s (k : Int) (p : Int) (i : Int)) (fun i hi => rfl) (fun i hi => atI_bounds _ _ _ _ _ _) hP hF h).mono ?_
    rintro e w' ⟨V, rfl, hl, hv⟩
    exact ⟨V, rfl, hl, fun _ _ => hv⟩
  ·rw [List.concat_eq_append] at hz
   obtain ⟨g1, g2, p, i, g3, g4, g5⟩ := ok.spot a (by rw [hz]; simp)
   rw [hz, allocI_hand hk9 g3 g4]
   refine (r18Alloc_hand hn k hk9 ys a hz p i g3 g4 g5 (by have := spot_parts g1; omega) hP hF h).mono ?_
   rintro e w' ⟨V, rfl, hl⟩
   refine ⟨V, rfl, hl, fun _ hc => ?_⟩
   simp at hc
 ·have e1 : allocI n K t q s k (Z k.toNat) st = (none, st) := by unfold allocI; rw [if_pos (by omega)]
  unfold AlEnd
  rw [e1]
  refine (r18Alloc_bad k (by omega) hP hF h).mono ?_
  rintro e w' ⟨rfl, hl⟩
  exact ⟨U, rfl, hl, fun x => absurd x hk⟩

end
end
end Go.Proofs.YtjjfcaliippgpaaGreatDoor
