/-
  What the document's functions of words do (nacreref27): right, Log.
-/
import Derived.Test.YtmjkljdnioochaaA02
import Derived.Deep.AppendLies
import Derived.Test.YtmjkljdnioochaaAKit
import Derived.Deep.DeepFit
import Derived.Deep.Slices
namespace Go.Proofs.Ytmjkljdnioochaa
open Go.ChangeShapes Go.WideShapes Go.ChangeAt Go.RowKit Go.Maps
set_option linter.unusedVariables false
set_option linter.unusedSimpArgs false
set_option maxRecDepth 100000
section
def okW (t p s : Int) (m : Nat) : Bool := decide (0 < m /\ (m : Int) = lW t p s)
theorem okW_right {t p s : Int} {m : Nat} (h : okW t p s m = true) : rightB t p s = true /\ 0 < m /\ (m : Int) = lW t p s /\ m <= 8296 := by
 have h1 := of_decide_eq_true h
 have hb := words_bounds t p s
 refine ⟨?_, h1.1, h1.2, by omega⟩
 cases hr : rightB t p s
 ·have h2 : lW t p s = 0 := by unfold lW lM lK; rw [hr]; rfl
  omega
 ·rfl
theorem r27right_c (t p s : Int) (A : Option Addr) (m c : Nat) (b : Bool) (hb : okW t p s m = b) (w : World) :
  Calls Try.prog 29 #[.agg #[.int .i64 t, .int .i64 p, .int .i64 s], .slice A m c] w fun e w' => e = .returned (.bool b) /\ Below w.heap.size w w' := by
 have HC := hidp (Held.new w 23 #[.int .i64 t, .int .i64 p, .int .i64 s])
 have HB := hidp (Bnew (B0 w) (.cells #[.int .i64 t, .int .i64 p, .int .i64 s] 23))
 obtain ⟨x0, x1, x2⟩ := HC.out.three
 rcases Nat.eq_zero_or_pos m with h0 | h0
 ·subst h0
  obtain rfl : b = false := by rw [<- hb]; exact decide_eq_false (fun h => absurd h.1 (by omega))
  clear hb
  go_enter Try.func29, Try.ntmps29
  go_wp2
  go_ret
  exact ⟨rfl, HB.out⟩
 ·have q0 : decide ((0 : Int) < (m : Int)) = true := decide_eq_true (by omega)
  have q0n : decide (0 < m) = true := decide_eq_true h0
  obtain ⟨y, hy⟩ : ∃ y, lW t p s = y := ⟨_, rfl⟩
  have HY := hidp hy
  have q1 : ((m : Int) == y) = b := by
   rw [<- hb]
   unfold okW
   rw [hy]
   by_cases h : (m : Int) = y
   ·rw [decide_eq_true ⟨h0, h⟩]; simpa using h
   ·rw [decide_eq_false (fun x => h x.2)]; simpa using h
  clear hy hb
  go_enter Try.func29, Try.ntmps29
  go_wp2_with fail
  refine (r7Words_c t p s _).mono ?_
  rintro e w1 ⟨rfl, hb⟩
  rw [HY.out]
  replace HB := hidp (Bgo HB.out hb)
  clear hb
  go_wp2
  go_ret
  exact ⟨rfl, HB.out⟩

section
variable {t p s : Int} {A : Option Addr} {m c : Nat} {w : World}
set_option maxHeartbeats 1600000 in
theorem r27Log_no (u : Int) (h : okW t p s m = false \/ (okW t p s m = true /\ (u < 0 \/ t < u))) :
  Calls Try.prog 9 #[.agg #[.int .i64 t, .int .i64 p, .int .i64 s], .slice A m c, .int .i64 u] w fun e w' => e = .returned (.tuple #[.agg #[.int .u32 0, .bool false, .int .i64 0], .slice none 0 0, .bool false]) /\ Below w.heap.size w w' := by
 have HC := hidp ((Held.new w 23 #[.int .i64 t, .int .i64 p, .int .i64 s]).alloc (.cells #[.int .u32 0, .bool false, .int .i64 0] 32))
 have HR := hidp (Held.new2 w (.cells #[.int .i64 t, .int .i64 p, .int .i64 s] 23) 32 #[.int .u32 0, .bool false, .int .i64 0])
 have HB := hidp (Bnew (Bnew (B0 w) (.cells #[.int .i64 t, .int .i64 p, .int .i64 s] 23)) (.cells #[.int .u32 0, .bool false, .int .i64 0] 32))
 obtain ⟨x0, x1, x2⟩ := HC.out.three
 obtain ⟨b, hb⟩ : ∃ b, okW t p s m = b := ⟨_, rfl⟩
 have HOK := hidp hb
 rw [hb] at h
 clear hb
 have HH := hidp h
 clear h
 go_enter Try.func9, Try.ntmps9
 go_wp2_with fail
 refine (r27right_c t p s A m c b HOK.out _).mono ?_
 rintro e w1 ⟨rfl, hb⟩
 replace HC := hidp (HC.out.keep hb)
 replace HR := hidp (HR.out.keep hb)
 replace HB := hidp (Bgo HB.out hb)
 clear hb x0 x1 x2
 obtain ⟨x0, x1, x2⟩ := HC.out.three
 obtain ⟨y0, y1, y2⟩ := HR.out.three
 have f0 := HR.out.thawed 0
 have f1 := HR.out.thawed 1
 have f2 := HR.out.thawed 2
 have fin : ∀ WF, ((w1.setCell ⟨w.heap.size + 1, 0, none⟩ (.int .u32 0)).setCell ⟨w.heap.size + 1, 1, none⟩ (.bool false)).setCell ⟨w.heap.size + 1, 2, none⟩ (.int .i64 0) = WF -> Held WF (w.heap.size + 1) 32 #[.int .u32 0, .bool false, .int .i64 0] /\ Below w.heap.size w WF := fun WF e => by
  rw [<- e]
  exact ⟨((HR.out.put 0 (.int .u32 0)).put 1 (.bool false)).put 2 (.int .i64 0), Bput (Bput (Bput HB.out (by simp) _) (by simp) _) (by simp) _⟩
 have HFIN := hidp fin
 clear fin
 cases b
 ·go_wp2
  have h1 := (HFIN.out _ rfl)
  obtain ⟨z0, z1, z2⟩ := h1.1.three
  refine bodyPost_ret (v := .tuple #[.agg #[.int .u32 0, .bool false, .int .i64 0], .slice none 0 0, .bool false]) (by simp [results, Try.results9, go_sem, z0, z1, z2]) rfl ⟨rfl, h1.2⟩
 ·rcases HH.out with h | ⟨_, h⟩
  ·cases h
  ·by_cases hu : u < 0
   ·have q0 : decide (u < 0) = true := decide_eq_true hu
    clear h
    go_wp2
    have h1 := (HFIN.out _ rfl)
    obtain ⟨z0, z1, z2⟩ := h1.1.three
    refine bodyPost_ret (v := .tuple #[.agg #[.int .u32 0, .bool false, .int .i64 0], .slice none 0 0, .bool false]) (by simp [results, Try.results9, go_sem, z0, z1, z2]) rfl ⟨rfl, h1.2⟩
   ·have q0 : decide (u < 0) = false := decide_eq_false hu
    have q1 : decide (t < u) = true := decide_eq_true (by omega)
    clear h
    go_wp2
    have h1 := (HFIN.out _ rfl)
    obtain ⟨z0, z1, z2⟩ := h1.1.three
    refine bodyPost_ret (v := .tuple #[.agg #[.int .u32 0, .bool false, .int .i64 0], .slice none 0 0, .bool false]) (by simp [results, Try.results9, go_sem, z0, z1, z2]) rfl ⟨rfl, h1.2⟩
end

theorem note_put {w W : World} {g : Nat} (h : Held W g 32 #[.int .u32 0, .bool false, .int .i64 0]) (hb : Below w.heap.size w W) (hg : w.heap.size <= g) (a : Int) (o : Bool) (b : Int) : ∃ WF, Hid (((W.setCell ⟨g, 0, none⟩ (.int .u32 a)).setCell ⟨g, 1, none⟩ (.bool o)).setCell ⟨g, 2, none⟩ (.int .i64 b) = WF) /\ Hid (Held WF g 32 #[.int .u32 a, .bool o, .int .i64 b]) /\ Hid (Below w.heap.size w WF) :=
 ⟨_, hidp rfl, hidp (((h.put 0 _).put 1 _).put 2 _), hidp (Bput (Bput (Bput hb hg _) hg _) hg _)⟩
theorem own_note {w W WF : World} {u : Value} {k : Nat} {xs : List Value} {a o b : Value} (h : W.ownsRow (w.heap.size + 2) 56 2 u k xs) (e : ((W.setCell ⟨w.heap.size + 1, 0, none⟩ a).setCell ⟨w.heap.size + 1, 1, none⟩ o).setCell ⟨w.heap.size + 1, 2, none⟩ b = WF) : WF.ownsRow w.heap.size 56 2 u k xs := by
 have h1 : WF.ownsRow (w.heap.size + 2) 56 2 u k xs := own_kept h (fun g hg => by
  have h2 := (h.lt g hg).1
  rw [<- e, Below.heap_setCell _ _ _ _ (by show g ≠ w.heap.size + 1; omega), Below.heap_setCell _ _ _ _ (by show g ≠ w.heap.size + 1; omega), Below.heap_setCell _ _ _ _ (by show g ≠ w.heap.size + 1; omega)])
 refine ⟨h1.1, ?_⟩
 rcases h1.2 with h2 | ⟨g, cap, cur, rfl, hbg, hg, hr⟩
 ·exact .inl h2
 ·exact .inr ⟨g, cap, cur, rfl, by omega, hg, hr⟩
theorem held_own27 {w : World} {t e : TypeId} {cs : Array Value} {base size n g : Nat} {v : Value} {xs : List Value} (h : Held w g t cs) (ho : w.ownsRow base e size v n xs) (hne : t ≠ e) : v.ownBlock ≠ some g := by
 intro hv
 rcases ho.2 with ⟨rfl, _⟩ | ⟨g', cap, cur, rfl, hb, hg, _⟩
 ·simp [Value.ownBlock] at hv
 ·have : g' = g := by simpa [Value.ownBlock] using hv
  subst this
  unfold Held at h
  rw [h] at hg
  injection hg with hg
  injection hg with h1 h2
  exact hne h2
theorem wv_block {w w' : World} {ad : Addr} {m c : Nat} {f : Nat -> Nat} (h : WV w (some ad) m c f) (hs : w.heap.size <= w'.heap.size) (hb : w'.heap[ad.block]? = w.heap[ad.block]?) : WV w' (some ad) m c f := ⟨h.le, h.max, h.lt, fun i hi => by
 obtain ⟨ad', e, h1, h2⟩ := h.cell i hi
 injection e with e
 subst e
 refine ⟨ad, rfl, Nat.lt_of_lt_of_le h1 hs, ?_⟩
 have e2 : (ad.add i).block = ad.block := block_of_add ..
 unfold World.cell? at h2 ⊢
 rw [e2] at h2 ⊢
 rw [hb]
 exact h2⟩
def logV (X : Option ((Nat × Bool × Nat) × List (Nat × Nat))) (e : Ending) (w w' : World) : Prop :=
 match X with
 | none => e = .returned (.tuple #[.agg #[.int .u32 0, .bool false, .int .i64 0], .slice none 0 0, .bool false])
 | some x => ∃ u, e = .returned (.tuple #[.agg #[.int .u32 (x.1.1 : Int), .bool x.1.2.1, .int .i64 (x.1.2.2 : Int)], u, .bool true]) /\ w'.ownsRow w.heap.size 56 2 u x.2.length (prVs x.2)
section
variable {t p s u m c : Nat} {A : Option Addr} {f : Nat -> Nat} {w : World}
theorem logR_no {st cn : Nat} {o : Bool} (h : noteOf (f (rdT t p u)) = (st, o, cn, false)) : logR t p f u = none := by unfold logR; rw [h]; rfl
theorem logR_yes {st cn : Nat} {o : Bool} (h : noteOf (f (rdT t p u)) = (st, o, cn, true)) : logR t p f u = match entsI (rdN t p) (fun i => f (rdL t p u i)) cn with | some l => some ((st, o, cn), l) | none => none := by unfold logR; rw [h]; rfl
theorem pairInfo27 : (Try.prog.info? 56).map (fun i => (i.zero, i.size, i.bytes)) = some (some (.agg #[.int .i64 0, .int .u32 0]), 2, 16) := by kernel_rfl
theorem entsI_none {n j : Nat} {g : Nat -> Nat} : ∀ {k : Nat}, j < k -> entI n (g j) = none -> entsI n g k = none
 | 0, h, _ => by omega
 | k + 1, h, he => by
  unfold entsI
  by_cases e : j = k
  ·subst e; rw [he]; split; rename_i h1 h2; cases h2; rfl
  ·rw [entsI_none (k := k) (by omega) he]
theorem entsI_next {n j : Nat} {g : Nat -> Nat} {acc : List (Nat × Nat)} {e : Nat × Nat} (h : entsI n g j = some acc) (he : entI n (g j) = some e) : entsI n g (j + 1) = some (acc ++ [e]) := by
 show (match entsI n g j, entI n (g j) with | some l, some e => some (l ++ [e]) | _, _ => none) = _
 rw [h, he]
set_option maxHeartbeats 6400000 in
theorem r27Log_in (X : Option ((Nat × Bool × Nat) × List (Nat × Nat))) (hX : logR t p f u = X) (hok : okW (t : Int) (p : Int) (s : Int) m = true) (hu : u <= t) (hW : WV w A m c f) :
    Calls Try.prog 9 #[.agg #[.int .i64 (t : Int), .int .i64 (p : Int), .int .i64 (s : Int)], .slice A m c, .int .i64 (u : Int)] w fun e w' => logV X e w w' /\ Below w.heap.size w w' := by
  obtain ⟨hr, hm0, hmw, hm8⟩ := okW_right hok
  have hri := (rightB_iff t p s).1 hr
  rw [rdW_eq hr] at hmw
  obtain ⟨n, hn⟩ : ∃ n, rdN t p = n := ⟨_, rfl⟩
  have HNC : Hid (lC (t : Int) (p : Int) (s : Int) = (n : Int)) := hidp (by rw [rdN_eq hr, hn])
  have HNT : Hid (noteI (t : Int) (p : Int) (s : Int) (u : Int) = (rdT t p u : Int)) := hidp (rdT_eq hr hu)
  have HNL : Hid (∀ i : Nat, i < 96 -> logI (t : Int) (p : Int) (s : Int) (u : Int) (i : Int) = (rdL t p u i : Int) /\ rdL t p u i < m) := hidp (fun i hi => ⟨rdL_eq hr hu hi, by have := rdL_lt (p := p) hu hi; omega⟩)
  have hTm : rdT t p u < m := by have := rdT_lt (p := p) hu; omega
  obtain ⟨ad, rfl, hab, hcc⟩ := hW.ad hm0
  have hcc2 : c <= 9223372036854775807 := hW.max
  obtain ⟨st, o, cn, b, hnote⟩ : ∃ st o cn b, noteOf (f (rdT t p u)) = (st, o, cn, b) := ⟨_, _, _, _, rfl⟩
  have hcn : cn <= 96 := by
    have := hnote
    unfold noteOf at this
    split at this
    · rename_i h1; injection this with _ h2; injection h2 with _ h2; injection h2 with h2; omega
    · injection this with _ h2; injection h2 with _ h2; injection h2 with h2; omega
  obtain ⟨x, hx⟩ : ∃ x, f (rdT t p u) = x := ⟨_, rfl⟩
  have hx64 : x < 2 ^ 64 := by rw [<- hx]; exact hW.lt _ hTm
  rw [hx] at hnote
  obtain ⟨ti, hti⟩ : ∃ ti, rdT t p u = ti := ⟨_, rfl⟩
  rw [hti] at HNT hTm hx
  have HXT := hidp hx
  have HNO := hidp hnote
  have HOK := hidp hok
  have HW := hidp hW
  have q0 : decide ((u : Int) < 0) = false := decide_eq_false (by omega)
  have q1 : decide ((t : Int) < (u : Int)) = false := decide_eq_false (by omega)
  have q1n : decide (t < u) = false := decide_eq_false (by omega)
  have HLX : Hid (b = false -> X = none) := hidp (fun e => by subst e; rw [<- hX]; exact logR_no (by rw [hti, hx]; exact hnote))
  have HLY : Hid (b = true -> X = match entsI n (fun i => f (rdL t p u i)) cn with | some l => some ((st, o, cn), l) | none => none) := hidp (fun e => by subst e; rw [<- hX, <- hn]; exact logR_yes (by rw [hti, hx]; exact hnote))
  have hn1 : 1 <= n /\ n <= 65536 := by rw [<- hn]; unfold rdN; omega
  clear hX hok hnote hn hti hx hW hr hmw hri
  have HC := hidp ((Held.new w 23 #[.int .i64 (t : Int), .int .i64 (p : Int), .int .i64 (s : Int)]).alloc (.cells #[.int .u32 0, .bool false, .int .i64 0] 32))
  have HR := hidp (Held.new2 w (.cells #[.int .i64 (t : Int), .int .i64 (p : Int), .int .i64 (s : Int)] 23) 32 #[.int .u32 0, .bool false, .int .i64 0])
  have HB := hidp (Bnew (Bnew (B0 w) (.cells #[.int .i64 (t : Int), .int .i64 (p : Int), .int .i64 (s : Int)] 23)) (.cells #[.int .u32 0, .bool false, .int .i64 0] 32))
  replace HW := hidp (HW.out.below (Bnew (Bnew (B0 w) (.cells #[.int .i64 (t : Int), .int .i64 (p : Int), .int .i64 (s : Int)] 23)) (.cells #[.int .u32 0, .bool false, .int .i64 0] 32)))
  obtain ⟨x0, x1, x2⟩ := HC.out.three
  go_enter Try.func9, Try.ntmps9
  go_wp2_with fail
  refine (r27right_c t p s (some ad) m c true HOK.out _).mono ?_
  rintro e w1 ⟨rfl, hb⟩
  replace HC := hidp (HC.out.keep hb)
  replace HR := hidp (HR.out.keep hb)
  replace HW := hidp (HW.out.below hb)
  replace HB := hidp (Bgo HB.out hb)
  clear hb
  clear x0 x1 x2
  obtain ⟨x0, x1, x2⟩ := HC.out.three
  go_wp2_with fail
  refine (r7Note_c t p s u _).mono ?_
  rintro e w2 ⟨rfl, hb⟩
  rw [HNT.out]
  replace HC := hidp (HC.out.keep hb)
  replace HR := hidp (HR.out.keep hb)
  replace HW := hidp (HW.out.below hb)
  replace HB := hidp (Bgo HB.out hb)
  clear hb
  clear x0 x1 x2
  obtain ⟨x0, x1, x2⟩ := HC.out.three
  have cx : w2.cell? (ad.add ti) = some (.int .u64 (x : Int)) := by
    obtain ⟨ad', e, _, h2⟩ := HW.out.cell ti hTm
    injection e with e
    subst e
    rw [HXT.out] at h2
    exact h2
  have i1 : (ti : Int) < (m : Int) := by omega
  go_wp2_with fail
  refine (r3OfNote_c x st cn o b hx64 HNO.out _).mono ?_
  rintro e w3 ⟨rfl, hb⟩
  replace HC := hidp (HC.out.keep hb)
  replace HR := hidp (HR.out.keep hb)
  replace HW := hidp (HW.out.below hb)
  replace HB := hidp (Bgo HB.out hb)
  clear hb
  have hw3 : w.heap.size + 2 <= w3.heap.size := by have := HR.out.lt; omega
  have HN := hidp (Held.new w3 32 #[.int .u32 (st : Int), .bool o, .int .i64 (cn : Int)])
  replace HC := hidp (HC.out.alloc (.cells #[.int .u32 (st : Int), .bool o, .int .i64 (cn : Int)] 32))
  replace HR := hidp (HR.out.alloc (.cells #[.int .u32 (st : Int), .bool o, .int .i64 (cn : Int)] 32))
  replace HB := hidp (Bnew HB.out (.cells #[.int .u32 (st : Int), .bool o, .int .i64 (cn : Int)] 32))
  replace HW := hidp (HW.out.below (Bnew (B0 w3) (.cells #[.int .u32 (st : Int), .bool o, .int .i64 (cn : Int)] 32)))
  clear cx i1 x0 x1 x2
  obtain ⟨x0, x1, x2⟩ := HC.out.three
  cases b with
  | false =>
    have HX := hidp (HLX.out rfl)
    obtain ⟨WF, HWF, HZ1, HZ2⟩ := note_put HR.out HB.out (by omega) 0 false 0
    obtain ⟨y0, y1, y2⟩ := HR.out.three
    have f0 := HR.out.thawed 0
    have f1 := HR.out.thawed 1
    have f2 := HR.out.thawed 2
    go_wp2
    rw [HWF.out]
    obtain ⟨z0, z1, z2⟩ := HZ1.out.three
    exact bodyPost_ret (v := .tuple #[.agg #[.int .u32 0, .bool false, .int .i64 0], .slice none 0 0, .bool false]) (by simp [results, Try.results9, go_sem, z0, z1, z2]) rfl ⟨by rw [HX.out]; rfl, HZ2.out⟩
  | true =>
    have HLZ := hidp (HLY.out rfl)
    clear HLX HLY
    obtain ⟨y0, y1, y2⟩ := HN.out.three
    obtain ⟨j0, hjn, hjz0, hjz1, hjz2⟩ := info_parts pairInfo27
    have HO : Hid ((((w3.alloc (.cells #[.int .u32 (st : Int), .bool o, .int .i64 (cn : Int)] 32)).alloc (.cells #[] 56))).ownsRow (w.heap.size + 2) 56 2 (.slice (some ⟨w3.heap.size + 1, 0, none⟩) 0 0) 0 (prVs [])) := hidp (by
      have h0 := World.ownsRow_made (w3.alloc (.cells #[.int .u32 (st : Int), .bool o, .int .i64 (cn : Int)] 32)) (e := 56) (size := 2) (base := w.heap.size + 2) #[] 0 (by simp; omega) (Nat.zero_le _) (by simp)
      rw [World.size_alloc] at h0
      exact h0)
    replace HC := hidp (HC.out.alloc (.cells #[] 56))
    replace HR := hidp (HR.out.alloc (.cells #[] 56))
    replace HN := hidp (HN.out.alloc (.cells #[] 56))
    replace HW := hidp (HW.out.below (Bnew (B0 _) (.cells #[] 56)))
    replace HB := hidp (Bnew HB.out (.cells #[] 56))
    go_wp2_with fail
    generalize hNB : w3.heap.size = NB at *
    generalize hw4 : (w3.alloc (.cells #[.int .u32 (st : Int), .bool o, .int .i64 (cn : Int)] 32)).alloc (.cells #[] 56) = w4 at *
    clear hNB hw4
    have HE0 : Hid (entsI n (fun i => f (rdL t p u i)) 0 = some []) := hidp rfl
    have HL0 : Hid (([] : List (Nat × Nat)).length = 0) := hidp rfl
    go_loopw [11, 12, 13, 14] (fun u11 u12 u13 u14 wr => ∃ (j : Nat) (acc : List (Nat × Nat)), j <= cn /\ u12 = .int .i64 (j : Int) /\ Hid (entsI n (fun i => f (rdL t p u i)) j = some acc) /\ Hid (acc.length = j) /\ Hid (wr.ownsRow (w.heap.size + 2) 56 2 u11 j (prVs acc)) /\ Hid (Held wr w.heap.size 23 #[.int .i64 (t : Int), .int .i64 (p : Int), .int .i64 (s : Int)]) /\ Hid (Held wr (w.heap.size + 1) 32 #[.int .u32 0, .bool false, .int .i64 0]) /\ Hid (Held wr NB 32 #[.int .u32 (st : Int), .bool o, .int .i64 (cn : Int)]) /\ Hid (WV wr (some ad) m c f) /\ Hid (Below w.heap.size w wr)) (fun u11 u12 u13 u14 _ => cn - (intOf u12).toNat)
    case atStart => exact ⟨0, [], by omega, rfl, HE0, HL0, HO, HC, HR, HN, HW, HB⟩
    case round =>
      clear HE0 HL0 HO HC HR HN HW HB x0 x1 x2 y0 y1 y2
      obtain ⟨j, acc, hj, rfl, HE, HL, HO, HC, HR, HN, HW, HB⟩ := hrel
      obtain ⟨x0, x1, x2⟩ := HC.out.three
      obtain ⟨n0, n1, n2⟩ := HN.out.three
      by_cases hlt : j < cn
      · have t1 : decide ((j : Int) < (cn : Int)) = true := decide_eq_true (by omega)
        have t1n : decide (j < cn) = true := decide_eq_true hlt
        obtain ⟨hnl, hlm⟩ := HNL.out j (by omega)
        obtain ⟨li, hli⟩ : ∃ x, rdL t p u j = x := ⟨_, rfl⟩
        rw [hli] at hnl hlm
        obtain ⟨y, hy⟩ : ∃ x, f li = x := ⟨_, rfl⟩
        have hy64 : y < 2 ^ 64 := by rw [<- hy]; exact HW.out.lt _ hlm
        have HNLj := hidp hnl
        have HY : Hid ((fun i => f (rdL t p u i)) j = y) := hidp (by show f (rdL t p u j) = y; rw [hli, hy])
        have HYL := hidp hy
        clear hnl hli hy
        go_wp2_with fail
        refine (r7Log_c t p s u j _).mono ?_
        rintro e w5 ⟨rfl, hb⟩
        rw [HNLj.out]
        replace HC := hidp (HC.out.keep hb)
        replace HR := hidp (HR.out.keep hb)
        replace HN := hidp (HN.out.keep hb)
        replace HO := hidp (own_below HO.out hb)
        replace HW := hidp (HW.out.below hb)
        replace HB := hidp (Bgo HB.out hb)
        clear hb
        have cx : w5.cell? (ad.add li) = some (.int .u64 (y : Int)) := by
          obtain ⟨ad', e, _, h2⟩ := HW.out.cell li hlm
          injection e with e
          subst e
          rw [HYL.out] at h2
          exact h2
        have i1 : (li : Int) < (m : Int) := by omega
        clear x0 x1 x2 n0 n1 n2
        have hb0 : w.heap.size + 2 <= w5.heap.size := by have := HR.out.lt; omega
        by_cases hent : y / 4294967296 < 65536
        · obtain ⟨ec, hec⟩ : ∃ x, y / 4294967296 = x := ⟨_, rfl⟩
          obtain ⟨ev, hev⟩ : ∃ x, y % 4294967296 = x := ⟨_, rfl⟩
          have HENT : Hid (entI n ((fun i => f (rdL t p u i)) j) = if ec < n then some (ec, ev) else none) := hidp (by
            have h0 : f (rdL t p u j) = y := HY.out
            show entI n (f (rdL t p u j)) = _
            rw [h0]
            unfold entI
            rw [hec, hev]
            by_cases h : ec < n
            · rw [if_pos ⟨by omega, h⟩, if_pos h]
            · rw [if_neg (fun x => h x.2), if_neg h])
          have hec2 : ec < 65536 := by omega
          have HEC := hidp hec
          have HEV := hidp hev
          have HENX := hidp hent
          clear hec hev hent
          go_wp2_with fail
          refine (r3OfEntry_yes y hy64 HENX.out _).mono ?_
          rintro e w6 ⟨rfl, hb⟩
          rw [HEC.out, HEV.out]
          replace HC := hidp (HC.out.keep hb)
          replace HR := hidp (HR.out.keep hb)
          replace HN := hidp (HN.out.keep hb)
          replace HO := hidp (own_below HO.out hb)
          replace HW := hidp (HW.out.below hb)
          replace HB := hidp (Bgo HB.out hb)
          have hb6 : w.heap.size + 2 <= w6.heap.size := Nat.le_trans hb0 hb.size
          have hb := Bnew (B0 w6) (.cells #[.int .i64 (ec : Int), .int .u32 (ev : Int)] 56)
          have HP := hidp (Held.new w6 56 #[.int .i64 (ec : Int), .int .u32 (ev : Int)])
          replace HC := hidp (HC.out.keep hb)
          replace HR := hidp (HR.out.keep hb)
          replace HN := hidp (HN.out.keep hb)
          replace HO := hidp (own_below HO.out hb)
          replace HW := hidp (HW.out.below hb)
          replace HB := hidp (Bgo HB.out hb)
          clear hb cx i1
          go_wp2_with fail
          generalize hNP : w6.heap.size = NP at *
          generalize hw8 : w6.alloc (.cells #[.int .i64 (ec : Int), .int .u32 (ev : Int)] 56) = w8 at *
          clear hNP hw8
          have hb := Bdrew (B0 w8)
          replace HC := hidp (HC.out.keep hb)
          replace HR := hidp (HR.out.keep hb)
          replace HN := hidp (HN.out.keep hb)
          replace HP := hidp (HP.out.keep hb)
          replace HO := hidp (own_below HO.out hb)
          replace HW := hidp (HW.out.below hb)
          replace HB := hidp (Bgo HB.out hb)
          clear hb
          by_cases hen : ec < n
          · have q2 : decide ((n : Int) <= (ec : Int)) = false := decide_eq_false (by omega)
            have q2n : decide (n <= ec) = false := decide_eq_false (by omega)
            have HE1 := hidp (entsI_next HE.out (e := (ec, ev)) (by rw [HENT.out, if_pos hen]))
            have HL1 : Hid ((acc ++ [(ec, ev)]).length = j + 1) := hidp (by have := HL.out; simp; omega)
            clear HENT hen
            refine wp_region_held_drew (S := (fun w' => w'.cell? ⟨w.heap.size, 0, none⟩ = some (.int .i64 (t : Int)) /\ w'.cell? ⟨w.heap.size, 1, none⟩ = some (.int .i64 (p : Int)) /\ w'.cell? ⟨w.heap.size, 2, none⟩ = some (.int .i64 (s : Int)) /\ w'.cell? ⟨NP, 0, none⟩ = some (.int .i64 (ec : Int)))) (by kernel_rfl) ?_ (fun hHeld => ?_)
            · (try dsimp only)
              first | exact ⟨HC.out.three.1, HC.out.three.2.1, HC.out.three.2.2, HP.out.cell 0⟩ | exact hHeld
            refine tkz 0 ?_
            refine tkz 1 ?_
            refine tkz 2 ?_
            refine tkz 3 ?_
            refine tkz 4 ?_
            refine tkz 5 ?_
            refine rdz 6 fun K hK => ?_
            go_simp
            refine (r7Cells_c t p s _).mono ?_
            rintro e w7 ⟨rfl, hb⟩
            rw [HNC.out]
            replace HC := hidp (HC.out.keep hb)
            replace HR := hidp (HR.out.keep hb)
            replace HN := hidp (HN.out.keep hb)
            replace HP := hidp (HP.out.keep hb)
            replace HO := hidp (own_below HO.out hb)
            replace HW := hidp (HW.out.below hb)
            replace HB := hidp (Bgo HB.out hb)
            clear hb
            refine hK.out _ _ ?_ (fun hHeld => ?_)
            · (try dsimp only)
              first | exact ⟨HC.out.three.1, HC.out.three.2.1, HC.out.three.2.2, HP.out.cell 0⟩ | exact hHeld
            clear hK K
            (try simp only [Act.put, gA, gB, gC, sA, sB, sC])
            refine tkz 7 ?_
            refine tkz 8 ?_
            refine dnz ?_
            obtain ⟨p0, p1⟩ := HP.out.two
            have hb7 : w.heap.size + 2 <= w7.heap.size := by have := HR.out.lt; omega
            go_wp2_with (first
              | (at_builtin
                 refine wpList_append_lies _ rfl _ _ 26 rfl (w.heap.size + 2) 56 j0 (.agg #[.int .i64 0, .int .u32 0]) 2 16 Try.underlying26 hjn hjz0 hjz1 hjz2 rfl (by decide) u11 j (prVs acc) rfl (HO.out.alloc _) ⟨_, 0, none⟩ 1 1 [.int .i64 (ec : Int), .int .u32 (ev : Int)] rfl rfl ?c1 ?c2 (by omega) ?c3 ?c4 ?c5 _ rfl ?_
                 case c1 => intro jj yy hyy; rcases jj with _ | _ | jj; (· simp at hyy; subst hyy; simp [Addr.add]); (· simp at hyy; subst hyy; simp [Addr.add]); (· simp at hyy)
                 case c2 => simp [Value.oneCell']
                 case c3 => unfold maxLen; omega
                 case c4 => omega
                 case c5 => simp; omega
                 intro g8 capg8 w8' hown8 hgrow8 hat8 hlt8)
              | fail)
            have hadb : ad.block < w.heap.size := hab
            have HO8 : Hid (w8'.ownsRow (w.heap.size + 2) 56 2 (.slice (some ⟨g8, 0, none⟩) (j + 1) capg8) (j + 1) (prVs (acc ++ [(ec, ev)]))) := hidp (by rw [prVs_snoc]; exact hown8)
            have hne1 : ∀ g, u11.ownBlock = some g -> w.heap.size + 2 <= g := fun g e => (HO.out.lt g e).1
            have HC8 : Hid (Held w8' w.heap.size 23 #[.int .i64 (t : Int), .int .i64 (p : Int), .int .i64 (s : Int)]) := hidp ((hgrow8.block _ (by simp; omega) (fun e => by have := hne1 _ e.symm; omega)).trans (HC.out.alloc _))
            have HR8 : Hid (Held w8' (w.heap.size + 1) 32 #[.int .u32 0, .bool false, .int .i64 0]) := hidp ((hgrow8.block _ (by simp; omega) (fun e => by have := hne1 _ e.symm; omega)).trans (HR.out.alloc _))
            have HN8 : Hid (Held w8' NB 32 #[.int .u32 (st : Int), .bool o, .int .i64 (cn : Int)]) := hidp ((hgrow8.block _ (by have := HN.out.lt; simp; omega) (fun e => held_own27 HN.out HO.out (by decide) e.symm)).trans (HN.out.alloc _))
            have HW8 : Hid (WV w8' (some ad) m c f) := hidp (wv_block (HW.out.below (Bnew (B0 _) _)) hgrow8.size (hgrow8.block _ (by simp; omega) (fun e => by have := hne1 _ e.symm; omega)))
            have HB8 : Hid (Below w.heap.size w w8') := hidp ((Bnew HB.out _).grown hgrow8 (by have := HB.out.size; simp; omega) (fun k hk => by have := hne1 k hk; omega))
            clear hown8 hgrow8 hat8 hlt8
            go_roundw
            case rel => exact ⟨j + 1, _, by omega, by go_num, HE1, HL1, HO8, HC8, HR8, HN8, HW8, HB8⟩
            case measure => simp [intOf]; omega
          · have q2 : decide ((n : Int) <= (ec : Int)) = true := decide_eq_true (by omega)
            have q2n : decide (n <= ec) = true := decide_eq_true (by omega)
            have HX : Hid (X = none) := hidp (by rw [HLZ.out, entsI_none hlt (by rw [HENT.out, if_neg hen])])
            clear HENT hen
            refine wp_region_held_drew (S := (fun w' => w'.cell? ⟨w.heap.size, 0, none⟩ = some (.int .i64 (t : Int)) /\ w'.cell? ⟨w.heap.size, 1, none⟩ = some (.int .i64 (p : Int)) /\ w'.cell? ⟨w.heap.size, 2, none⟩ = some (.int .i64 (s : Int)) /\ w'.cell? ⟨NP, 0, none⟩ = some (.int .i64 (ec : Int)))) (by kernel_rfl) ?_ (fun hHeld => ?_)
            · (try dsimp only)
              first | exact ⟨HC.out.three.1, HC.out.three.2.1, HC.out.three.2.2, HP.out.cell 0⟩ | exact hHeld
            refine tkz 0 ?_
            refine tkz 1 ?_
            refine tkz 2 ?_
            refine tkz 3 ?_
            refine tkz 4 ?_
            refine tkz 5 ?_
            refine rdz 6 fun K hK => ?_
            go_simp
            refine (r7Cells_c t p s _).mono ?_
            rintro e w7 ⟨rfl, hb⟩
            rw [HNC.out]
            replace HC := hidp (HC.out.keep hb)
            replace HR := hidp (HR.out.keep hb)
            replace HN := hidp (HN.out.keep hb)
            replace HP := hidp (HP.out.keep hb)
            replace HO := hidp (own_below HO.out hb)
            replace HW := hidp (HW.out.below hb)
            replace HB := hidp (Bgo HB.out hb)
            clear hb
            refine hK.out _ _ ?_ (fun hHeld => ?_)
            · (try dsimp only)
              first | exact ⟨HC.out.three.1, HC.out.three.2.1, HC.out.three.2.2, HP.out.cell 0⟩ | exact hHeld
            clear hK K
            (try simp only [Act.put, gA, gB, gC, sA, sB, sC])
            refine tkz 7 ?_
            refine tkz 8 ?_
            refine dnz ?_
            obtain ⟨p0, p1⟩ := HP.out.two
            obtain ⟨WF, HWF, HZ1, HZ2⟩ := note_put HR.out HB.out (by omega) 0 false 0
            obtain ⟨y0, y1, y2⟩ := HR.out.three
            have f0 := HR.out.thawed 0
            have f1 := HR.out.thawed 1
            have f2 := HR.out.thawed 2
            go_wp2
            rw [HWF.out]
            obtain ⟨z0, z1, z2⟩ := HZ1.out.three
            exact bodyPost_ret (v := .tuple #[.agg #[.int .u32 0, .bool false, .int .i64 0], .slice none 0 0, .bool false]) (by simp [results, Try.results9, go_sem, z0, z1, z2]) rfl ⟨by rw [HX.out]; rfl, HZ2.out⟩
        · have HX : Hid (X = none) := hidp (by rw [HLZ.out, entsI_none hlt (by have h0 : f (rdL t p u j) = y := HY.out; show entI n (f (rdL t p u j)) = none; rw [h0]; unfold entI; rw [if_neg (fun h => hent h.1)])])
          have HENX : Hid (65535 < y / 4294967296) := hidp (by omega)
          clear hent
          go_wp2_with fail
          refine (r3OfEntry_no y hy64 HENX.out _).mono ?_
          rintro e w6 ⟨rfl, hb⟩
          replace HC := hidp (HC.out.keep hb)
          replace HR := hidp (HR.out.keep hb)
          replace HN := hidp (HN.out.keep hb)
          replace HO := hidp (own_below HO.out hb)
          replace HW := hidp (HW.out.below hb)
          replace HB := hidp (Bgo HB.out hb)
          have hb6 : w.heap.size + 2 <= w6.heap.size := Nat.le_trans hb0 hb.size
          have hb := Bnew (B0 w6) (.cells #[.int .i64 0, .int .u32 0] 56)
          have HP := hidp (Held.new w6 56 #[.int .i64 0, .int .u32 0])
          replace HC := hidp (HC.out.keep hb)
          replace HR := hidp (HR.out.keep hb)
          replace HN := hidp (HN.out.keep hb)
          replace HO := hidp (own_below HO.out hb)
          replace HW := hidp (HW.out.below hb)
          replace HB := hidp (Bgo HB.out hb)
          clear hb cx i1
          go_wp2_with fail
          generalize hNP : w6.heap.size = NP at *
          generalize hw8 : w6.alloc (.cells #[.int .i64 0, .int .u32 0] 56) = w8 at *
          clear hNP hw8
          have hb := Bdrew (B0 w8)
          replace HC := hidp (HC.out.keep hb)
          replace HR := hidp (HR.out.keep hb)
          replace HN := hidp (HN.out.keep hb)
          replace HP := hidp (HP.out.keep hb)
          replace HO := hidp (own_below HO.out hb)
          replace HW := hidp (HW.out.below hb)
          replace HB := hidp (Bgo HB.out hb)
          clear hb
          refine wp_region_held_drew (S := (fun w' => w'.cell? ⟨w.heap.size, 0, none⟩ = some (.int .i64 (t : Int)) /\ w'.cell? ⟨w.heap.size, 1, none⟩ = some (.int .i64 (p : Int)) /\ w'.cell? ⟨w.heap.size, 2, none⟩ = some (.int .i64 (s : Int)) /\ w'.cell? ⟨NP, 0, none⟩ = some (.int .i64 0))) (by kernel_rfl) ?_ (fun hHeld => ?_)
          · (try dsimp only)
            first | exact ⟨HC.out.three.1, HC.out.three.2.1, HC.out.three.2.2, HP.out.cell 0⟩ | exact hHeld
          refine tkz 0 ?_
          refine tkz 1 ?_
          refine tkz 2 ?_
          refine skz 3 ?_
          refine skz 4 ?_
          refine skz 5 ?_
          refine skz 6 ?_
          refine skz 7 ?_
          refine tkz 8 ?_
          refine dnz ?_
          generalize hwd : w8.drew = wd at *
          clear hwd
          obtain ⟨WF, HWF, HZ1, HZ2⟩ := note_put HR.out HB.out (by omega) 0 false 0
          obtain ⟨y0, y1, y2⟩ := HR.out.three
          have f0 := HR.out.thawed 0
          have f1 := HR.out.thawed 1
          have f2 := HR.out.thawed 2
          go_wp2
          rw [HWF.out]
          obtain ⟨z0, z1, z2⟩ := HZ1.out.three
          exact bodyPost_ret (v := .tuple #[.agg #[.int .u32 0, .bool false, .int .i64 0], .slice none 0 0, .bool false]) (by simp [results, Try.results9, go_sem, z0, z1, z2]) rfl ⟨by rw [HX.out]; rfl, HZ2.out⟩
      · have t1 : decide ((j : Int) < (cn : Int)) = false := decide_eq_false (by omega)
        have t1n : decide (j < cn) = false := decide_eq_false hlt
        obtain rfl : j = cn := by omega
        have HX : Hid (X = some ((st, o, j), acc)) := hidp (by rw [HLZ.out, HE.out])
        obtain ⟨WF, HWF, HZ1, HZ2⟩ := note_put HR.out HB.out (by omega) (st : Int) o (j : Int)
        obtain ⟨y0, y1, y2⟩ := HR.out.three
        have f0 := HR.out.thawed 0
        have f1 := HR.out.thawed 1
        have f2 := HR.out.thawed 2
        go_wp2
        rw [HWF.out]
        obtain ⟨z0, z1, z2⟩ := HZ1.out.three
        refine bodyPost_ret (v := .tuple #[.agg #[.int .u32 (st : Int), .bool o, .int .i64 (j : Int)], u11, .bool true]) (by simp [results, Try.results9, go_sem, z0, z1, z2]) rfl ⟨?_, HZ2.out⟩
        rw [HX.out]
        refine ⟨u11, rfl, ?_⟩
        have := own_note HO.out HWF.out
        rw [<- HL.out] at this
        exact this
end
end
section
section
variable {t p s m c : Nat} {A : Option Addr} {f : Nat -> Nat} {w : World}
theorem lastR_in (h1 : f 8 % 4294967296 <= 16) (h2 : f 8 % 4294967296 <= t) (h3 : lowB (stI (f 8)) f (rdN t p)) : lastR t p f = if openB (f (rdT t p (f 8 % 4294967296))) (stI (f 8)) = true then (logR t p f (f 8 % 4294967296)).map fun x => (stI (f 8), f 8 % 4294967296, x.2) else some (stI (f 8), f 8 % 4294967296, []) := by unfold lastR; rw [if_pos ⟨h1, h2, h3⟩]
end
end
section
def wordsV (X : Option (Nat -> Nat)) (m : Nat) (e : Ending) (w w' : World) : Prop :=
 match X with
 | none => e = .returned (.tuple #[.slice none 0 0, .bool false])
 | some x => ∃ g c, e = .returned (.tuple #[.slice (some ⟨g, 0, none⟩) m c, .bool true]) /\ RowF w' g 46 m c (wrdF x) /\ w.heap.size <= g
theorem prVs_at27 {l : List (Nat × Nat)} {j : Nat} {x : Nat × Nat} (h : l[j]? = some x) : (prVs l)[j * 2]? = some (.int .i64 (x.1 : Int)) /\ (prVs l)[j * 2 + 1]? = some (.int .u32 (x.2 : Int)) := by
 induction l generalizing j with
 | nil => cases h
 | cons a l ih =>
  have e : prVs (a :: l) = .int .i64 (a.1 : Int) :: .int .u32 (a.2 : Int) :: prVs l := by unfold prVs; simp
  rw [e]
  cases j with
  | zero =>
   have h : a = x := by simpa using h
   subst h
   exact ⟨rfl, rfl⟩
  | succ j =>
   have h : l[j]? = some x := by simpa using h
   have := ih h
   rw [show (j + 1) * 2 = j * 2 + 2 by omega, show j * 2 + 2 + 1 = (j * 2 + 1) + 2 by omega]
   exact this
theorem pair_cells {w : World} {base k c : Nat} {A : Option Addr} {l : List (Nat × Nat)} {al : Addr} (h : w.ownsRow base 56 2 (.slice A k c) k (prVs l)) (hA : A = some al) {j : Nat} {x : Nat × Nat} (hx : l[j]? = some x) (hj : j < k) :
  w.cell? (al.add (j * 2)) = some (.int .i64 (x.1 : Int)) /\ w.cell? ⟨(al.add (j * 2)).block, (al.add (j * 2)).off + 1, none⟩ = some (.int .u32 (x.2 : Int)) := by
 subst hA
 rcases h.2 with ⟨h1, _⟩ | ⟨g, cap, cur, e, hb, hg, hnc, hcm, hcs, htake⟩
 ·cases h1
 ·have e1 : al = ⟨g, 0, none⟩ := by injection e with e1; injection e1
  subst e1
  obtain ⟨h3, h4⟩ := prVs_at27 hx
  have h : w.ownsRow base 56 2 (.slice (some ⟨g, 0, none⟩) k c) k (prVs l) := h
  have h5 := h.cellAt (j * 2) (by omega)
  have h6 := h.cellAt (j * 2 + 1) (by omega)
  rw [addr_add]
  exact ⟨h5.trans h3, h6.trans h4⟩
theorem doneTo_take {s : Nat} : ∀ (l : List (Nat × Nat)) (f : Nat -> Nat) (j : Nat) (x : Nat × Nat), l[j]? = some x -> doneTo s (l.take (j + 1)) f = if stI (doneTo s (l.take j) f (16 + x.1)) < s then updF (doneTo s (l.take j) f) (16 + x.1) (s * 4294967296 + x.2) else doneTo s (l.take j) f
 | [], _, _, _, h => by cases h
 | a :: l, f, 0, x, h => by
  have h : a = x := by simpa using h
  subst h
  rfl
 | a :: l, f, j + 1, x, h => by
  have h : l[j]? = some x := by simpa using h
  exact doneTo_take l _ j x h
end
section
def layTo (t p u : Nat) (l : List PairV) (f : Nat -> Nat) : Nat -> Nat -> Nat
 | 0 => f
 | j + 1 => updF (layTo t p u l f j) (rdL t p u j) ((l[j]?.getD default).cell.toNat * 4294967296 + (l[j]?.getD default).val)
def layR (t p : Nat) (f : Nat -> Nat) (u st : Nat) (l : List PairV) : Option (Nat -> Nat) :=
 if l.length <= 96 /\ ∀ a ∈ l, 0 <= a.cell /\ a.cell < (rdN t p : Int) then some (updF (layTo t p u l f l.length) (rdT t p u) (st * 4294967296 + (2147483648 + l.length))) else none
theorem layTo_lt {t p u : Nat} {l : List PairV} {f : Nat -> Nat} (hf : ∀ j, f j < 2 ^ 64) (hl : ∀ a ∈ l, 0 <= a.cell /\ a.cell < (rdN t p : Int)) (h32 : ∀ a ∈ l, a.val < 2 ^ 32) (hn : rdN t p < 65536) : ∀ j, j <= l.length -> ∀ i, layTo t p u l f j i < 2 ^ 64
 | 0, _, i => hf i
 | j + 1, hj, i => by
  show updF (layTo t p u l f j) (rdL t p u j) _ i < _
  have hx : l[j]? = some l[j] := List.getElem?_eq_getElem (by omega)
  have h1 := hl _ (List.getElem_mem (h := (by omega : j < l.length)))
  have h2 := h32 _ (List.getElem_mem (h := (by omega : j < l.length)))
  by_cases e : i = rdL t p u j
  ·subst e
   rw [updF_same, hx]
   show l[j].cell.toNat * 4294967296 + l[j].val < _
   omega
  ·rw [updF_other _ _ e]
   exact layTo_lt hf hl h32 hn j (by omega) i
theorem pairVs_far {w : World} {A : Option Addr} {l : List PairV} {g : Nat} (h : PairVs w A l) (hg : ∀ ad, A = some ad -> l ≠ [] -> ad.block ≠ g) {p : Addr} (hp : p.block = g) (u : Value) : PairVs (w.setCell p u) A l := fun i a ha => by
 obtain ⟨ad, e, h1, h2⟩ := h i a ha
 have hne := hg ad e (fun x => by rw [x] at ha; cases ha)
 refine ⟨ad, e, by simpa using h1, fun j v hv => ?_⟩
 have h3 := h2 j v hv
 have e2 : (ad.add (i * 2 + j)).block = ad.block := block_of_add ..
 have hb := Below.heap_setCell w p u ad.block (by rw [hp]; exact hne)
 unfold World.cell? at h3 ⊢
 rw [e2] at h3 ⊢
 rw [hb]
 exact h3
set_option maxHeartbeats 1600000 in
theorem r27Lay_bad {t p s : Int} {A A2 : Option Addr} {m c k c2 : Nat} {w : World} (u : Int) (st : Nat) (h : okW t p s m = false) :
  Calls Try.prog 11 #[.agg #[.int .i64 t, .int .i64 p, .int .i64 s], .slice A m c, .int .i64 u, .int .u32 (st : Int), .slice A2 k c2] w fun e w' => e = .returned (.tuple #[.slice none 0 0, .bool false]) /\ Below w.heap.size w w' := by
 have HC := hidp (Held.new w 23 #[.int .i64 t, .int .i64 p, .int .i64 s])
 have HB := hidp (Bnew (B0 w) (.cells #[.int .i64 t, .int .i64 p, .int .i64 s] 23))
 obtain ⟨x0, x1, x2⟩ := HC.out.three
 have HOK := hidp h
 clear h
 go_enter Try.func11, Try.ntmps11
 go_wp2_with fail
 refine (r27right_c t p s A m c _ HOK.out _).mono ?_
 rintro e w1 ⟨rfl, hb⟩
 replace HC := hidp (HC.out.keep hb)
 replace HB := hidp (Bgo HB.out hb)
 clear hb x0 x1 x2
 obtain ⟨x0, x1, x2⟩ := HC.out.three
 go_wp2
 go_ret2
 exact ⟨rfl, HB.out⟩

set_option maxHeartbeats 1600000 in
theorem r27Lay_low {t p s : Int} {A A2 : Option Addr} {m c k c2 : Nat} {w : World} (u : Int) (st : Nat) (h : okW t p s m = true) (hu : u < 0) :
  Calls Try.prog 11 #[.agg #[.int .i64 t, .int .i64 p, .int .i64 s], .slice A m c, .int .i64 u, .int .u32 (st : Int), .slice A2 k c2] w fun e w' => e = .returned (.tuple #[.slice none 0 0, .bool false]) /\ Below w.heap.size w w' := by
 have HC := hidp (Held.new w 23 #[.int .i64 t, .int .i64 p, .int .i64 s])
 have HB := hidp (Bnew (B0 w) (.cells #[.int .i64 t, .int .i64 p, .int .i64 s] 23))
 obtain ⟨x0, x1, x2⟩ := HC.out.three
 have HOK := hidp h
 clear h
 have q0 : decide (u < 0) = true := decide_eq_true hu
 go_enter Try.func11, Try.ntmps11
 go_wp2_with fail
 refine (r27right_c t p s A m c _ HOK.out _).mono ?_
 rintro e w1 ⟨rfl, hb⟩
 replace HC := hidp (HC.out.keep hb)
 replace HB := hidp (Bgo HB.out hb)
 clear hb x0 x1 x2
 obtain ⟨x0, x1, x2⟩ := HC.out.three
 go_wp2
 go_ret2
 exact ⟨rfl, HB.out⟩

set_option maxHeartbeats 1600000 in
theorem r27Lay_high {t p s : Int} {A A2 : Option Addr} {m c k c2 : Nat} {w : World} (u : Int) (st : Nat) (h : okW t p s m = true) (hu : 0 <= u) (hu2 : t < u) :
  Calls Try.prog 11 #[.agg #[.int .i64 t, .int .i64 p, .int .i64 s], .slice A m c, .int .i64 u, .int .u32 (st : Int), .slice A2 k c2] w fun e w' => e = .returned (.tuple #[.slice none 0 0, .bool false]) /\ Below w.heap.size w w' := by
 have HC := hidp (Held.new w 23 #[.int .i64 t, .int .i64 p, .int .i64 s])
 have HB := hidp (Bnew (B0 w) (.cells #[.int .i64 t, .int .i64 p, .int .i64 s] 23))
 obtain ⟨x0, x1, x2⟩ := HC.out.three
 have HOK := hidp h
 clear h
 have q0 : decide (u < 0) = false := decide_eq_false (by omega)
 have q1 : decide (t < u) = true := decide_eq_true hu2
 go_enter Try.func11, Try.ntmps11
 go_wp2_with fail
 refine (r27right_c t p s A m c _ HOK.out _).mono ?_
 rintro e w1 ⟨rfl, hb⟩
 replace HC := hidp (HC.out.keep hb)
 replace HB := hidp (Bgo HB.out hb)
 clear hb x0 x1 x2
 obtain ⟨x0, x1, x2⟩ := HC.out.three
 go_wp2
 go_ret2
 exact ⟨rfl, HB.out⟩

set_option maxHeartbeats 1600000 in
theorem r27Lay_many {t p s : Int} {A A2 : Option Addr} {m c k c2 : Nat} {w : World} (u : Int) (st : Nat) (h : okW t p s m = true) (hu : 0 <= u) (hu2 : u <= t) (hk : 96 < k) :
  Calls Try.prog 11 #[.agg #[.int .i64 t, .int .i64 p, .int .i64 s], .slice A m c, .int .i64 u, .int .u32 (st : Int), .slice A2 k c2] w fun e w' => e = .returned (.tuple #[.slice none 0 0, .bool false]) /\ Below w.heap.size w w' := by
 have HC := hidp (Held.new w 23 #[.int .i64 t, .int .i64 p, .int .i64 s])
 have HB := hidp (Bnew (B0 w) (.cells #[.int .i64 t, .int .i64 p, .int .i64 s] 23))
 obtain ⟨x0, x1, x2⟩ := HC.out.three
 have HOK := hidp h
 clear h
 have q0 : decide (u < 0) = false := decide_eq_false (by omega)
 have q1 : decide (t < u) = false := decide_eq_false (by omega)
 have q2 : decide ((96 : Int) < (k : Int)) = true := decide_eq_true (by omega)
 have q2n : decide (96 < k) = true := decide_eq_true hk
 go_enter Try.func11, Try.ntmps11
 go_wp2_with fail
 refine (r27right_c t p s A m c _ HOK.out _).mono ?_
 rintro e w1 ⟨rfl, hb⟩
 replace HC := hidp (HC.out.keep hb)
 replace HB := hidp (Bgo HB.out hb)
 clear hb x0 x1 x2
 obtain ⟨x0, x1, x2⟩ := HC.out.three
 go_wp2
 go_ret2
 exact ⟨rfl, HB.out⟩

section
variable {t p s u m c st : Nat} {A A2 : Option Addr} {c2 : Nat} {f : Nat -> Nat} {w : World}
set_option maxHeartbeats 12800000 in
theorem r27Lay_in (X : Option (Nat -> Nat)) (l : List PairV) (k : Nat) (hk : l.length = k) (hX : layR t p f u st l = X) (hok : okW (t : Int) (p : Int) (s : Int) m = true) (hu : u <= t) (hk96 : k <= 96) (hkc : k <= c2) (hc2 : c2 <= maxLen) (hst32 : st < 2 ^ 32) (hlo : ∀ a ∈ l, a.Ok) (hW : WV w A m c f) (hP : PairVs w A2 l) :
  Calls Try.prog 11 #[.agg #[.int .i64 (t : Int), .int .i64 (p : Int), .int .i64 (s : Int)], .slice A m c, .int .i64 (u : Int), .int .u32 (st : Int), .slice A2 k c2] w fun e w' => wordsV X m e w w' /\ Below w.heap.size w w' := by
 obtain ⟨hr, hm0, hmw, hm8⟩ := okW_right hok
 have hri := (rightB_iff t p s).1 hr
 rw [rdW_eq hr] at hmw
 have hM := rdM_lt t p
 have hWW : rdM t p <= rdW t p := by unfold rdW; omega
 obtain ⟨ad, rfl, hab, hcc⟩ := hW.ad hm0
 have hcc2 : c <= 9223372036854775807 := hW.max
 have hc22 : c2 <= 9223372036854775807 := hc2
 obtain ⟨n, hn⟩ : ∃ n, rdN t p = n := ⟨_, rfl⟩
 have hnu : n < 65536 := by rw [<- hn]; unfold rdN; omega
 have HNC : Hid (lC (t : Int) (p : Int) (s : Int) = (n : Int)) := hidp (by rw [rdN_eq hr, hn])
 have HNT : Hid (noteI (t : Int) (p : Int) (s : Int) (u : Int) = (rdT t p u : Int)) := hidp (rdT_eq hr hu)
 have HNLA : Hid (∀ i : Nat, i < 96 -> logI (t : Int) (p : Int) (s : Int) (u : Int) (i : Int) = (rdL t p u i : Int) /\ rdL t p u i < m) := hidp (fun i hi => ⟨rdL_eq hr hu hi, by have := rdL_lt (p := p) hu hi; omega⟩)
 have hTm : rdT t p u < m := by have := rdT_lt (p := p) hu; omega
 obtain ⟨ti, hti⟩ : ∃ z, rdT t p u = z := ⟨_, rfl⟩
 rw [hti] at HNT hTm
 have HX : Hid (X = if l.length <= 96 /\ ∀ a ∈ l, 0 <= a.cell /\ a.cell < (n : Int) then some (updF (layTo t p u l f l.length) ti (st * 4294967296 + (2147483648 + l.length))) else none) := hidp (by rw [<- hX]; unfold layR; rw [hti, hn])
 have HOK := hidp hok
 have HLK := hidp hk
 have HLO := hidp hlo
 have q0 : decide ((u : Int) < 0) = false := decide_eq_false (by omega)
 have q1 : decide ((t : Int) < (u : Int)) = false := decide_eq_false (by omega)
 have q1n : decide (t < u) = false := decide_eq_false (by omega)
 have q2 : decide ((96 : Int) < (k : Int)) = false := decide_eq_false (by omega)
 have q2n : decide (96 < k) = false := decide_eq_false (by omega)
 have ck : IntKind.i64.wrap (k : Int) = (k : Int) := i64_same (by omega) (by omega)
 have HC := hidp (Held.new w 23 #[.int .i64 (t : Int), .int .i64 (p : Int), .int .i64 (s : Int)])
 have HB := hidp (Bnew (B0 w) (.cells #[.int .i64 (t : Int), .int .i64 (p : Int), .int .i64 (s : Int)] 23))
 have HW := hidp (hW.below (Bnew (B0 w) (.cells #[.int .i64 (t : Int), .int .i64 (p : Int), .int .i64 (s : Int)] 23)))
 have HP := hidp (hP.below (Bnew (B0 w) (.cells #[.int .i64 (t : Int), .int .i64 (p : Int), .int .i64 (s : Int)] 23)))
 have HPW : Hid (∀ al, A2 = some al -> l ≠ [] -> al.block < w.heap.size) := hidp (fun al e hne => by
  obtain ⟨x, hx⟩ : ∃ x, l[0]? = some x := ⟨_, List.getElem?_eq_getElem (by cases l; exact absurd rfl hne; simp)⟩
  obtain ⟨al', e', h1, _⟩ := hP 0 x hx
  rw [e] at e'
  injection e' with e'
  rw [e']
  exact h1)
 clear hX hok hn hti hr hmw hM hWW hcc hk hlo hW hP
 obtain ⟨x0, x1, x2⟩ := HC.out.three
 go_enter Try.func11, Try.ntmps11
 go_wp2_with fail
 refine (r27right_c t p s (some ad) m c true HOK.out _).mono ?_
 rintro e w1 ⟨rfl, hb⟩
 replace HW := hidp (HW.out.below hb)
 replace HC := hidp (HC.out.keep hb)
 replace HP := hidp (HP.out.below hb)
 replace HB := hidp (Bgo HB.out hb)
 clear hb
 clear x0 x1 x2
 obtain ⟨x0, x1, x2⟩ := HC.out.three
 have hgs : w.heap.size + 1 <= w1.heap.size := HC.out.lt
 have HWc := HW
 go_wp2_with (first
  | (at_builtin; refine wpList_copy_words (w := w1) rfl _ _ rfl rfl (some ad) m c f hm0 (by omega) rfl HWc.out ?_; intro g cg w2 hg2 HRW HB2)
  | fail)
 have HG : Hid (w.heap.size < g) := hidp (by omega)
 have HPG : Hid (∀ al, A2 = some al -> l ≠ [] -> al.block ≠ g) := hidp (fun al e hne h => by have := HPW.out al e hne; have := HG.out; omega)
 have hcg := HRW.out.le
 have hcgm : cg <= 9223372036854775807 := HRW.out.max
 have hb := HB2.out
 replace HC := hidp (HC.out.keep hb)
 replace HP := hidp (HP.out.below hb)
 replace HB := hidp (Bgo HB.out hb)
 clear hb HB2 HW HWc hg2 hgs x0 x1 x2
 replace HRW : Hid (RowF w2 g 46 m cg (wrdF (layTo t p u l f 0))) := HRW
 have HIN0 : Hid (∀ i a, i < 0 -> l[i]? = some a -> 0 <= a.cell /\ a.cell < (n : Int)) := hidp (fun i a hi => by omega)
 go_wp2_with fail
 go_loopw [13] (fun u13 wr => ∃ j : Nat, j <= k /\ u13 = .int .i64 (j : Int) /\ Hid (∀ i a, i < j -> l[i]? = some a -> 0 <= a.cell /\ a.cell < (n : Int)) /\ Hid (RowF wr g 46 m cg (wrdF (layTo t p u l f j))) /\ Hid (Held wr w.heap.size 23 #[.int .i64 (t : Int), .int .i64 (p : Int), .int .i64 (s : Int)]) /\ Hid (PairVs wr A2 l) /\ Hid (Below w.heap.size w wr)) (fun u13 _ => k - (intOf u13).toNat)
 case atStart => exact ⟨0, by omega, rfl, HIN0, HRW, HC, HP, HB⟩
 case round =>
  clear HRW HC HP HB HIN0
  obtain ⟨j, hj, rfl, HIN, HRW, HC, HP, HB⟩ := hrel
  by_cases hlt : j < k
  ·have t1 : decide ((j : Int) < (k : Int)) = true := decide_eq_true (by omega)
   have t1n : decide (j < k) = true := decide_eq_true hlt
   obtain ⟨⟨ec, ev⟩, hx⟩ : ∃ x, l[j]? = some x := ⟨_, List.getElem?_eq_getElem (by rw [HLK.out]; exact hlt)⟩
   have hok := HLO.out _ (List.mem_of_getElem? hx)
   have hev32 : ev < 2 ^ 32 := hok.val
   have heb := i64_bounds hok.cell
   dsimp only at heb
   obtain ⟨al, hal, hlb, _⟩ := HP.out j _ hx
   subst hal
   have HPC : Hid (∀ W : World, PairVs W (some al) l -> W.cell? (al.add (j * 2)) = some (.int .i64 ec) /\ W.cell? ⟨(al.add (j * 2)).block, (al.add (j * 2)).off + 1, none⟩ = some (.int .u32 (ev : Int))) := hidp (fun W h => h.cells hx)
   have HMEM : Hid ((⟨ec, ev⟩ : PairV) ∈ l) := hidp (List.mem_of_getElem? hx)
   have HNX : Hid (layTo t p u l f (j + 1) = updF (layTo t p u l f j) (rdL t p u j) (ec.toNat * 4294967296 + ev)) := hidp (by
    show updF (layTo t p u l f j) (rdL t p u j) _ = _
    rw [hx]
    rfl)
   have HIX := hidp hx
   clear hx hok hlb
   have hb := Bdrew (B0 wr)
   replace HC := hidp (HC.out.keep hb)
   replace HP := hidp (HP.out.below hb)
   replace HRW := hidp (HRW.out.keep hb)
   replace HB := hidp (Bgo HB.out hb)
   clear hb
   by_cases hneg : ec < 0
   ·have q3 : decide (ec < 0) = true := decide_eq_true hneg
    have HX0 : Hid (X = none) := hidp (by rw [HX.out, if_neg (fun h => by have := (h.2 _ HMEM.out).1; dsimp only at this; omega)])
    clear hneg
    go_wp2_with fail
    refine wp_region_held_drew (S := (fun w' => (w'.cell? ⟨w.heap.size, 0, none⟩ = some (.int .i64 (t : Int)) /\ w'.cell? ⟨w.heap.size, 1, none⟩ = some (.int .i64 (p : Int)) /\ w'.cell? ⟨w.heap.size, 2, none⟩ = some (.int .i64 (s : Int))) /\ w'.cell? (al.add (j * 2)) = some (.int .i64 ec) /\ w'.cell? ⟨(al.add (j * 2)).block, (al.add (j * 2)).off + 1, none⟩ = some (.int .u32 (ev : Int)))) (by kernel_rfl) ?_ (fun hHeld => ?_)
    ·(try dsimp only)
     first | exact ⟨HC.out.three, HPC.out _ HP.out⟩ | exact hHeld
    refine tkz 0 ?_
    refine tkz 1 ?_
    refine tkz 2 ?_
    refine tkz 3 ?_
    refine tkz 4 ?_
    refine tkz 5 ?_
    refine tkz 6 ?_
    refine skz 7 ?_
    refine skz 8 ?_
    refine skz 9 ?_
    refine skz 10 ?_
    refine skz 11 ?_
    refine skz 12 ?_
    refine skz 13 ?_
    refine skz 14 ?_
    refine tkz 15 ?_
    refine dnz ?_
    go_wp2
    go_ret2
    exact ⟨by rw [HX0.out]; rfl, HB.out⟩
   ·have q3 : decide (ec < 0) = false := decide_eq_false hneg
    by_cases hhi : (n : Int) <= ec
    ·have q4 : decide ((n : Int) <= ec) = true := decide_eq_true hhi
     have HX0 : Hid (X = none) := hidp (by rw [HX.out, if_neg (fun h => by have := (h.2 _ HMEM.out).2; dsimp only at this; omega)])
     clear hneg hhi
     go_wp2_with fail
     refine wp_region_held_drew (S := (fun w' => (w'.cell? ⟨w.heap.size, 0, none⟩ = some (.int .i64 (t : Int)) /\ w'.cell? ⟨w.heap.size, 1, none⟩ = some (.int .i64 (p : Int)) /\ w'.cell? ⟨w.heap.size, 2, none⟩ = some (.int .i64 (s : Int))) /\ w'.cell? (al.add (j * 2)) = some (.int .i64 ec) /\ w'.cell? ⟨(al.add (j * 2)).block, (al.add (j * 2)).off + 1, none⟩ = some (.int .u32 (ev : Int)))) (by kernel_rfl) ?_ (fun hHeld => ?_)
     ·(try dsimp only)
      first | exact ⟨HC.out.three, HPC.out _ HP.out⟩ | exact hHeld
     refine tkz 0 ?_
     refine tkz 1 ?_
     refine tkz 2 ?_
     refine tkz 3 ?_
     refine tkz 4 ?_
     refine tkz 5 ?_
     refine tkz 6 ?_
     refine tkz 7 ?_
     refine tkz 8 ?_
     refine tkz 9 ?_
     refine tkz 10 ?_
     refine tkz 11 ?_
     refine tkz 12 ?_
     refine rdz 13 fun K hK => ?_
     go_simp
     refine (r7Cells_c t p s _).mono ?_
     rintro e w5 ⟨rfl, hb⟩
     rw [HNC.out]
     replace HC := hidp (HC.out.keep hb)
     replace HP := hidp (HP.out.below hb)
     replace HRW := hidp (HRW.out.keep hb)
     replace HB := hidp (Bgo HB.out hb)
     clear hb
     refine hK.out _ _ ?_ (fun hHeld => ?_)
     ·(try dsimp only)
      first | exact ⟨HC.out.three, HPC.out _ HP.out⟩ | exact hHeld
     clear hK K
     (try simp only [Act.put, gA, gB, gC, sA, sB, sC])
     refine tkz 14 ?_
     refine tkz 15 ?_
     refine dnz ?_
     go_wp2
     go_ret2
     exact ⟨by rw [HX0.out]; rfl, HB.out⟩
    ·have q4 : decide ((n : Int) <= ec) = false := decide_eq_false hhi
     obtain ⟨ec0, hec0⟩ : ∃ ec0 : Nat, ec = (ec0 : Int) := ⟨ec.toNat, by omega⟩
     have hecn : ec0 < n := by omega
     have HE0 : Hid (ec.toNat = ec0) := hidp (by omega)
     have HIN1 : Hid (∀ i a, i < j + 1 -> l[i]? = some a -> 0 <= a.cell /\ a.cell < (n : Int)) := hidp (fun i a hi ha => by
      rcases Nat.lt_or_ge i j with h | h
      ·exact HIN.out i a h ha
      ·obtain rfl : i = j := by omega
       rw [HIX.out] at ha
       injection ha with ha
       rw [<- ha]
       dsimp only
       omega)
     obtain ⟨hnl, hlm⟩ := HNLA.out j (by omega)
     obtain ⟨q, hq⟩ : ∃ q, rdL t p u j = q := ⟨_, rfl⟩
     rw [hq] at hnl hlm
     have HNL := hidp hnl
     have hqm : q < m := hlm
     have hqi : (q : Int) < (m : Int) := by omega
     have HNX2 : Hid (layTo t p u l f (j + 1) = updF (layTo t p u l f j) q (ec0 * 4294967296 + ev)) := hidp (by rw [HNX.out, HE0.out, hq])
     have cec : IntKind.u32.wrap ec = (ec0 : Int) := by rw [hec0]; exact wrap_nat32 ec0 (by omega)
     have HECI := hidp hec0
     clear hneg hhi hnl hq hec0 hlm
     go_wp2_with fail
     refine wp_region_held_drew (S := (fun w' => (w'.cell? ⟨w.heap.size, 0, none⟩ = some (.int .i64 (t : Int)) /\ w'.cell? ⟨w.heap.size, 1, none⟩ = some (.int .i64 (p : Int)) /\ w'.cell? ⟨w.heap.size, 2, none⟩ = some (.int .i64 (s : Int))) /\ w'.cell? (al.add (j * 2)) = some (.int .i64 ec) /\ w'.cell? ⟨(al.add (j * 2)).block, (al.add (j * 2)).off + 1, none⟩ = some (.int .u32 (ev : Int)))) (by kernel_rfl) ?_ (fun hHeld => ?_)
     ·(try dsimp only)
      first | exact ⟨HC.out.three, HPC.out _ HP.out⟩ | exact hHeld
     refine tkz 0 ?_
     refine tkz 1 ?_
     refine tkz 2 ?_
     refine tkz 3 ?_
     refine tkz 4 ?_
     refine tkz 5 ?_
     refine tkz 6 ?_
     refine tkz 7 ?_
     refine tkz 8 ?_
     refine tkz 9 ?_
     refine tkz 10 ?_
     refine tkz 11 ?_
     refine tkz 12 ?_
     refine rdz 13 fun K hK => ?_
     go_simp
     refine (r7Cells_c t p s _).mono ?_
     rintro e w5 ⟨rfl, hb⟩
     rw [HNC.out]
     replace HC := hidp (HC.out.keep hb)
     replace HP := hidp (HP.out.below hb)
     replace HRW := hidp (HRW.out.keep hb)
     replace HB := hidp (Bgo HB.out hb)
     clear hb
     refine hK.out _ _ ?_ (fun hHeld => ?_)
     ·(try dsimp only)
      first | exact ⟨HC.out.three, HPC.out _ HP.out⟩ | exact hHeld
     clear hK K
     (try simp only [Act.put, gA, gB, gC, sA, sB, sC])
     refine tkz 14 ?_
     refine tkz 15 ?_
     refine dnz ?_
     go_wp2_with fail
     have hb := Bdrew (B0 w5)
     replace HC := hidp (HC.out.keep hb)
     replace HP := hidp (HP.out.below hb)
     replace HRW := hidp (HRW.out.keep hb)
     replace HB := hidp (Bgo HB.out hb)
     clear hb
     refine wp_region_held_drew (S := (fun w' => (w'.cell? ⟨w.heap.size, 0, none⟩ = some (.int .i64 (t : Int)) /\ w'.cell? ⟨w.heap.size, 1, none⟩ = some (.int .i64 (p : Int)) /\ w'.cell? ⟨w.heap.size, 2, none⟩ = some (.int .i64 (s : Int))) /\ w'.cell? (al.add (j * 2)) = some (.int .i64 ec) /\ w'.cell? ⟨(al.add (j * 2)).block, (al.add (j * 2)).off + 1, none⟩ = some (.int .u32 (ev : Int)))) (by kernel_rfl) ?_ (fun hHeld => ?_)
     ·(try dsimp only)
      first | exact ⟨HC.out.three, HPC.out _ HP.out⟩ | exact hHeld
     refine tkz 0 ?_
     refine tkz 1 ?_
     refine tkz 2 ?_
     refine tkz 3 ?_
     refine tkz 5 ?_
     refine tkz 6 ?_
     refine tkz 7 ?_
     refine tkz 8 ?_
     refine tkz 9 ?_
     refine tkz 10 ?_
     refine tkz 11 ?_
     refine tkz 12 ?_
     refine tkz 13 ?_
     refine tkz 14 ?_
     refine tkz 15 ?_
     refine rdz 4 fun K hK => ?_
     go_simp
     refine (r7Log_c t p s u j _).mono ?_
     rintro e w6 ⟨rfl, hb⟩
     rw [HNL.out]
     replace HC := hidp (HC.out.keep hb)
     replace HP := hidp (HP.out.below hb)
     replace HRW := hidp (HRW.out.keep hb)
     replace HB := hidp (Bgo HB.out hb)
     clear hb
     refine hK.out _ _ ?_ (fun hHeld => ?_)
     ·(try dsimp only)
      first | exact ⟨HC.out.three, HPC.out _ HP.out⟩ | exact hHeld
     clear hK K
     (try simp only [Act.put, gA, gB, gC, sA, sB, sC])
     refine rdz 16 fun K hK => ?_
     go_simp
     refine (RJoin_c ec0 ev (by omega) hev32 _).mono ?_
     rintro e w7 ⟨rfl, rfl⟩
     have yq := HRW.out.cell (i := q) hqm
     have fq := HRW.out.thawed q
     refine hK.out _ _ ?_ (fun hHeld => ?_)
     ·(try dsimp only)
      first | exact ⟨HC.out.three, HPC.out _ HP.out⟩ | exact hHeld
     clear hK K
     (try simp only [Act.put, gA, gB, gC, sA, sB, sC])
     refine tkz 17 ?_
     refine rdz 18 fun K hK => ?_
     go_simp
     replace HB := hidp (Bput HB.out (p := ⟨g, q, none⟩) (by have := HG.out; show w.heap.size <= g; omega) (.int .u64 ((ec0 * 4294967296 + ev : Nat) : Int)))
     replace HC := hidp (HC.out.far (p := ⟨g, q, none⟩) (by have := HG.out; show w.heap.size ≠ g; omega) (.int .u64 ((ec0 * 4294967296 + ev : Nat) : Int)))
     replace HP := hidp (pairVs_far HP.out HPG.out (p := ⟨g, q, none⟩) rfl (.int .u64 ((ec0 * 4294967296 + ev : Nat) : Int)))
     replace HRW := hidp (HRW.out.put (i := q) hqm (.int .u64 ((ec0 * 4294967296 + ev : Nat) : Int)))
     refine hK.out _ _ ?_ (fun hHeld => ?_)
     ·(try dsimp only)
      first | exact ⟨HC.out.three, HPC.out _ HP.out⟩ | exact hHeld
     clear hK K
     (try simp only [Act.put, gA, gB, gC, sA, sB, sC])
     refine dnz ?_
     go_wp2
     go_roundw
     case rel => exact ⟨j + 1, by omega, by go_num, HIN1, hidp (HRW.out.congr fun i hi => by
       rw [HNX2.out]
       dsimp only [wrdF, updF]
       by_cases e : i = q
       ·rw [if_pos e, if_pos e]
       ·rw [if_neg e, if_neg e]), HC, HP, HB⟩
     case measure => simp [intOf]; omega
  ·have t1 : decide ((j : Int) < (k : Int)) = false := decide_eq_false (by omega)
   have t1n : decide (j < k) = false := decide_eq_false hlt
   obtain rfl : j = k := by omega
   have HX0 : Hid (X = some (updF (layTo t p u l f j) ti (st * 4294967296 + (2147483648 + j)))) := hidp (by
    rw [HX.out, HLK.out, if_pos ⟨hk96, fun a ha => by
     obtain ⟨i, hi⟩ := List.getElem?_of_mem ha
     exact HIN.out i a (by
      rcases Nat.lt_or_ge i l.length with h | h
      ·have := HLK.out; omega
      ·rw [List.getElem?_eq_none h] at hi; cases hi) hi⟩])
   obtain ⟨x0, x1, x2⟩ := HC.out.three
   go_wp2_with fail
   refine (r7Note_c t p s u _).mono ?_
   rintro e w5 ⟨rfl, hb⟩
   rw [HNT.out]
   replace HC := hidp (HC.out.keep hb)
   replace HP := hidp (HP.out.below hb)
   replace HRW := hidp (HRW.out.keep hb)
   replace HB := hidp (Bgo HB.out hb)
   clear hb
   have i1 : (ti : Int) < (m : Int) := by omega
   clear x0 x1 x2
   go_wp2_with fail
   refine (r3Note_c st true j hst32 (by omega) (by omega) _).mono ?_
   rintro e w6 ⟨rfl, hb⟩
   rw [(not_yes st true j hk96).1, (not_yes st true j hk96).2]
   replace HC := hidp (HC.out.keep hb)
   replace HP := hidp (HP.out.below hb)
   replace HRW := hidp (HRW.out.keep hb)
   replace HB := hidp (Bgo HB.out hb)
   clear hb
   have yq := HRW.out.cell (i := ti) hTm
   have fq := HRW.out.thawed ti
   go_wp2
   replace HB := hidp (Bput HB.out (p := ⟨g, ti, none⟩) (by have := HG.out; show w.heap.size <= g; omega) (.int .u64 ((st * 4294967296 + (2147483648 + j) : Nat) : Int)))
   replace HC := hidp (HC.out.far (p := ⟨g, ti, none⟩) (by have := HG.out; show w.heap.size ≠ g; omega) (.int .u64 ((st * 4294967296 + (2147483648 + j) : Nat) : Int)))
   replace HP := hidp (pairVs_far HP.out HPG.out (p := ⟨g, ti, none⟩) rfl (.int .u64 ((st * 4294967296 + (2147483648 + j) : Nat) : Int)))
   replace HRW := hidp (HRW.out.put (i := ti) hTm (.int .u64 ((st * 4294967296 + (2147483648 + j) : Nat) : Int)))
   go_ret2
   exact ⟨by rw [HX0.out]; exact ⟨g, cg, rfl, HRW.out.congr (fun i hi => by
    dsimp only [wrdF, updF]
    by_cases e : i = ti
    ·rw [if_pos e, if_pos e]
    ·rw [if_neg e, if_neg e]), by have := HG.out; omega⟩, HB.out⟩
end
end
end Go.Proofs.Ytmjkljdnioochaa

namespace Go.Proofs.Ytmjkljdnioochaa
open Go.ChangeShapes Go.WideShapes Go.ChangeAt Go.RowKit
set_option linter.unusedVariables false
section
theorem words_at {xs : List Nat} {k : Nat} {w : World} {B : Nat} {A : Option Addr} {n : Nat} (hn : xs.length = n) (h : Reads w B 1 A n (wordVs xs)) (hk : k < n) :
  ∃ ad, A = some ad /\ ad.block < B /\ w.cell? (ad.add k) = some (.int .u64 ((xs.getD k 0 : Nat) : Int)) := by
 obtain ⟨ad, u, rfl, hb, hx, hc⟩ := h.at_ hk
 rw [wordVs_at xs k (by omega)] at hx
 injection hx with hx
 subst hx
 exact ⟨ad, rfl, hb, hc⟩
theorem take_eq {xs ys : List Nat} {n : Nat} (hx : xs.length = n) (hy : ys.length = n) (h : ∀ i, i < n -> xs.getD i 0 = ys.getD i 0) : xs = ys := by
 refine List.ext_getElem (by omega) fun i h1 h3 => ?_
 have := h i (by omega)
 simpa [List.getD, List.getElem?_eq_getElem h1, List.getElem?_eq_getElem h3] using this

theorem Words_c (xs ys : List Nat) (n m : Nat) (HN : Hid (xs.length = n)) (HM : Hid (ys.length = m)) (A A' : Option Addr) (c c' : Nat) (hm : n <= maxLen) (hm' : m <= maxLen) (w : World) (B B' : Nat) (HR : Hid (Reads w B 1 A n (wordVs xs))) (HS : Hid (Reads w B' 1 A' m (wordVs ys))) :
  Calls Try.prog 13 #[.slice A n c, .slice A' m c'] w fun e w' => e = .returned (.bool (decide (xs = ys))) /\ ∃ n, w' = w.drewN n := by
 unfold maxLen at hm hm'
 by_cases hl : n = m
 ·subst hl
  go_enter Try.func13, Try.ntmps13
  go_wp2
  go_loopw [5] (fun i wr => ∃ k j : Nat, k <= n /\ Hid (∀ i, i < k -> xs.getD i 0 = ys.getD i 0) /\ i = .int .i64 k /\ wr = w.drewN j) (fun i _ => n - (intOf i).toNat)
  case atStart => exact ⟨0, 0, by omega, hidp (fun i hi => by omega), rfl, rfl⟩
  case round =>
   obtain ⟨k, j, hk, HE, rfl, rfl⟩ := hrel
   by_cases hlt : k < n
   ·obtain ⟨ad, rfl, _, c1⟩ := words_at HN.out HR.out hlt
    obtain ⟨ad', rfl, _, c2⟩ := words_at HM.out HS.out hlt
    by_cases he : xs.getD k 0 = ys.getD k 0
    ·have HE2 : Hid (∀ i, i < k + 1 -> xs.getD i 0 = ys.getD i 0) := hidp (fun i hi => by
      rcases Nat.lt_or_ge i k with h | h
      ·exact HE.out i h
      ·obtain rfl : i = k := by omega
       exact he)
     rw [<- he] at c2
     clear he
     generalize xs.getD k 0 = x at *
     go_wp2
     go_quiet (fail)
     go_wp2
     go_roundw
     case rel => exact ⟨k + 1, _, by omega, HE2, by go_num, rfl⟩
     case measure => simp [intOf]; omega
    ·have HD : Hid (decide (xs = ys) = false) := hidp (decide_eq_false (fun h => he (by rw [h])))
     generalize xs.getD k 0 = x at *
     generalize ys.getD k 0 = y at *
     have t0 : ((x : Int) != y) = true := by simp; omega
     have t1 : ((x : Int) == y) = false := by simp; omega
     have t2 : (x == y) = false := by simp; omega
     clear he
     go_wp2
     go_quiet (fail)
     go_wp2
     go_ret
     exact ⟨by rw [HD.out]; rfl, by first | exact ⟨_, rfl⟩ | exact ⟨_, World.drewN_drewN _ _ _⟩⟩
   ·have HD : Hid (decide (xs = ys) = true) := hidp (decide_eq_true (take_eq HN.out HM.out (fun i hi => HE.out i (by omega))))
    go_wp2
    go_ret
    exact ⟨by rw [HD.out]; rfl, j, rfl⟩
 ·have HD : Hid (decide (xs = ys) = false) := hidp (decide_eq_false (fun h => by have := HN.out; have := HM.out; subst h; omega))
  have t0 : ((n : Int) != m) = true := by simp; omega
  have t1 : ((n : Int) == m) = false := by simp; omega
  have t2 : (n == m) = false := by simp; omega
  go_enter Try.func13, Try.ntmps13
  go_wp2
  go_ret
  exact ⟨by rw [HD.out]; rfl, 0, rfl⟩
theorem Words_same (xs : List Nat) (n : Nat) (HN : Hid (xs.length = n)) (A A' : Option Addr) (c c' : Nat) (hm : n <= maxLen) (w : World) (B B' : Nat) (HR : Hid (Reads w B 1 A n (wordVs xs))) (HS : Hid (Reads w B' 1 A' n (wordVs xs))) :
  Calls Try.prog 13 #[.slice A n c, .slice A' n c'] w fun e w' => e = .returned (.bool true) /\ ∃ n, w' = w.drewN n := by
 have h := Words_c xs xs n n HN HN A A' c c' hm hm w B B' HR HS
 rwa [decide_eq_true (rfl : xs = xs)] at h
end
end Go.Proofs.Ytmjkljdnioochaa

namespace Go.Proofs.Ytmjkljdnioochaa
open Go.ChangeShapes Go.WideShapes Go.ChangeAt Go.RowKit Go.Maps
set_option linter.unusedVariables false
set_option linter.unusedSimpArgs false
set_option maxRecDepth 100000
section
structure SV (w : World) (A : Option Addr) (n c : Nat) (f : Nat -> Nat) : Prop where
 le : n <= c
 max : c <= maxLen
 row : RowV w (.slice A n c) (valVs ((List.range n).map f))
section
variable {w w' : World} {A : Option Addr} {n m c g : Nat} {f f' : Nat -> Nat}
theorem SV.below (h : SV w A n c f) (hb : Below w.heap.size w w') : SV w' A n c f := ⟨h.le, h.max, h.row.below hb⟩
theorem SV.cell (h : SV w A n c f) {i : Nat} (hi : i < n) : ∃ ad, A = some ad /\ ad.block < w.heap.size /\ w.cell? (ad.add i) = some (.int .u32 ((f i : Nat) : Int)) := by
 rcases h.row.2 with ⟨h1, h2⟩ | ⟨g, o, c', h1, h2, h3⟩
 ·have : (valVs ((List.range n).map f)).length = n := by simp [valVs]
  rw [h2] at this
  simp at this
  omega
 ·injection h1 with h1 _ _
  refine ⟨_, h1, h2, ?_⟩
  have e : (⟨g, o, none⟩ : Addr).add i = ⟨g, o + i, none⟩ := by
   unfold Addr.add
   by_cases hz : i = 0
   ·rw [if_pos hz, hz]; rfl
   ·rw [if_neg hz]
  rw [e]
  refine h3 i _ ?_
  unfold valVs
  rw [List.getElem?_map, List.getElem?_map, List.getElem?_range hi]
  rfl
theorem SV.block (h : SV w A n c f) (hs : w.heap.size <= w'.heap.size) (hb : ∀ ad, A = some ad -> 0 < n -> w'.heap[ad.block]? = w.heap[ad.block]?) : SV w' A n c f := by
 refine ⟨h.le, h.max, h.row.1, ?_⟩
 rcases h.row.2 with h1 | ⟨g, o, c', h1, h2, h3⟩
 ·exact .inl h1
 ·have hl : (valVs ((List.range n).map f)).length = n := by simp [valVs]
  refine .inr ⟨g, o, c', h1, Nat.lt_of_lt_of_le h2 hs, fun i u hu => ?_⟩
  have hi : i < n := by
   rcases Nat.lt_or_ge i n with h4 | h4
   ·exact h4
   ·rw [List.getElem?_eq_none (by omega)] at hu; cases hu
  have h4 := h3 i u hu
  injection h1 with h1 _ _
  have h5 := hb _ h1 (by omega)
  unfold World.cell? at h4 ⊢
  rw [show (⟨g, o + i, none⟩ : Addr).block = g from rfl] at h4 ⊢
  rw [show w'.heap[g]? = w.heap[g]? from h5]
  exact h4
theorem WV.block (h : WV w A m c f) (hs : w.heap.size <= w'.heap.size) (hb : ∀ ad, A = some ad -> 0 < m -> w'.heap[ad.block]? = w.heap[ad.block]?) : WV w' A m c f := ⟨h.le, h.max, h.lt, fun i hi => by
 obtain ⟨ad, e, h1, h2⟩ := h.cell i hi
 refine ⟨ad, e, Nat.lt_of_lt_of_le h1 hs, ?_⟩
 have e2 : (ad.add i).block = ad.block := block_of_add ..
 unfold World.cell? at h2 ⊢
 rw [e2] at h2 ⊢
 rw [hb ad e (by omega)]
 exact h2⟩
end
def noteQ : Value := .agg #[.int .u32 0, .bool false, .int .i64 0]
def outL (X : Option ((Nat × Bool × Nat) × List (Nat × Nat))) (e : Ending) (w' : World) : Prop :=
 match X with
 | none => ∃ v, e = .returned (.tuple #[noteQ, v, .bool false]) /\ RowP w' v []
 | some x => ∃ v, e = .returned (.tuple #[.agg #[.int .u32 (x.1.1 : Int), .bool x.1.2.1, .int .i64 (x.1.2.2 : Int)], v, .bool true]) /\ RowP w' v x.2
def outW (X : Option (Nat -> Nat)) (m : Nat) (e : Ending) (w' : World) : Prop :=
 match X with
 | none => ∃ A c, e = .returned (.tuple #[.slice A 0 c, .bool false])
 | some x => ∃ A c, e = .returned (.tuple #[.slice A m c, .bool true]) /\ WV w' A m c x
def outV (X : Option (Nat -> Nat)) (n : Nat) (e : Ending) (w' : World) : Prop :=
 match X with
 | none => ∃ A c, e = .returned (.tuple #[.slice A 0 c, .bool false])
 | some x => ∃ A c, e = .returned (.tuple #[.slice A n c, .bool true]) /\ SV w' A n c (valR x)

section
variable {H : Type} {enc : TypeId × Value -> H} {w : World} {base : Nat} {sp : Nat -> Bool} {held : Bool}
theorem pairs_of {fuel : Nat} {cs : List Value} {x : DataW H × List MemPlace} (h : DataW.trod enc Try.prog w base sp held fuel 26 cs = some x) (hlt : ∀ y ∈ x.2, y.block < w.heap.size) :
  ∃ (A : Option Addr) (c : Nat) (l : List PairV), cs = [.slice A l.length c] /\ l.length <= c /\ c <= maxLen /\ (∀ a ∈ l, a.Ok) /\ PairVs w A l := by
 have hc : Try.prog.cellsOf 56 = 2 := by kernel_rfl
 rcases Go.Deep.open_slice Try.underlying26 h with ⟨hcs, _⟩ | ⟨a, len, cap, m, n, D, Pl, hcs, hb, hl, hm, hmm, hx, hi⟩
 ·exact ⟨none, 0, [], hcs, Nat.le_refl _, Nat.zero_le _, by simp, fun i a h => by simp at h⟩
 ·have hlm : len <= m := by rw [hmm]; split <;> omega
  have each : ∀ i, i < len -> ∃ q : PairV, q.Ok /\ ∀ j u, q.cells[j]? = some u -> w.cell? (a.add (i * 2 + j)) = some u := by
   intro i hil
   obtain ⟨cs', h1, h2⟩ := hi i (by omega)
   obtain ⟨q, hq, rfl⟩ := pairV_cells h2
   rw [hc] at h1
   obtain ⟨_, hlen, hcell⟩ := World.cells?_some h1
   refine ⟨q, hq, fun j u hu => ?_⟩
   have hj : j < 2 := by
    rcases Nat.lt_or_ge j 2 with h3 | h3
    ·exact h3
    ·rw [List.getElem?_eq_none (by unfold PairV.cells; simp; omega)] at hu; cases hu
   have h4 := hcell j (by omega)
   rw [add_of_add] at h4
   rw [h4, hu]
  obtain ⟨q, hq⟩ := Go.Deep.choose_lt (α := PairV) (p := fun i q => q.Ok /\ ∀ j u, q.cells[j]? = some u -> w.cell? (a.add (i * 2 + j)) = some u) each
  have hln : ((List.range len).map q).length = len := by simp
  refine ⟨some a, cap, (List.range len).map q, by rw [hln]; exact hcs, by rw [hln]; exact hl, hm, ?_, ?_⟩
  ·intro y hy
   obtain ⟨i, hi1, rfl⟩ := List.mem_map.1 hy
   exact (hq i (List.mem_range.1 hi1)).1
  ·intro i y hy
   have hil : i < len := by
    rcases Nat.lt_or_ge i len with h3 | h3
    ·exact h3
    ·rw [List.getElem?_eq_none (by simp; omega)] at hy; cases hy
   rw [List.getElem?_map, List.getElem?_range hil] at hy
   injection hy with hy
   subst hy
   refine ⟨a, rfl, ?_, (hq i hil).2⟩
   have hp : (x.2 : List MemPlace) = MemPlace.row a (m * 2) ++ (List.range m).flatMap Pl := by
    have := congrArg Prod.snd hx
    rw [hc] at this
    exact this
   have h0 : (MemPlace.row a (m * 2))[0]'(by simp [MemPlace.row]; omega) ∈ x.2 := by
    rw [hp]
    exact List.mem_append_left _ (List.getElem_mem _)
   have h1 := hlt _ h0
   simpa [MemPlace.row, MemPlace.block] using h1
theorem open_ask27 {r : Reach} {b0 : Nat} {v : Value} {d : DataW H} {p : List MemPlace} (hv : Value.okWide Try.prog w r b0 28 v) (h : DataW.Trod enc Try.prog w base sp held 28 v d p) (hlt : ∀ x ∈ p, x.block < w.heap.size) :
  ∃ (u : Int) (st : Nat) (A : Option Addr) (c : Nat) (l : List PairV), v = .agg #[.int .i64 u, .int .u32 (st : Int), .slice A l.length c] /\ (-9223372036854775808 <= u /\ u <= 9223372036854775807) /\ st < 2 ^ 32 /\ l.length <= c /\ c <= maxLen /\ (∀ a ∈ l, a.Ok) /\ PairVs w A l := by
 obtain ⟨cs, rfl, hsz⟩ := okWide_struct Try.underlying28 hv
 obtain ⟨fuel, hf⟩ := h
 obtain ⟨xs, n, _, hx, hl, hxl, hfs⟩ := DataW.trod_struct Try.underlying28 hf
 have hc : Try.prog.cellsOf 28 = 3 := by kernel_rfl
 have s_sl : Try.prog.cellsOf 26 = 1 := by kernel_rfl
 have s_int : Try.prog.cellsOf 3 = 1 := by kernel_rfl
 have s_u32 : Try.prog.cellsOf 25 = 1 := by kernel_rfl
 obtain ⟨l⟩ := cs
 simp [Value.cells] at hl hfs
 rw [hc] at hl
 match l, hl, xs, hxl, hx, hfs with
 | [v0, v1, v2], _, [y0, y1, y2], _, hx, hfs =>
  have g0 := hfs 0 _ rfl
  have g1 := hfs 1 _ rfl
  have g2 := hfs 2 _ rfl
  simp [s_sl, s_int, s_u32] at g0 g1 g2
  obtain ⟨a0, e0, _, w0⟩ := DataW.trod_int Try.underlying3 g0
  obtain ⟨a1, e1, _, w1⟩ := DataW.trod_int Try.underlying25 g1
  obtain ⟨A, c, l, e2, hlc, hcm, hok, hP⟩ := pairs_of g2 (fun y hy => hlt y (by
   injection hx with _ hx
   rw [hx]
   exact List.mem_flatMap.2 ⟨y2, by simp, hy⟩))
  simp at e0 e1 e2
  subst e0 e1 e2
  obtain ⟨n1, rfl, h1⟩ := u32_nat w1
  exact ⟨a0, n1, A, c, l, rfl, i64_bounds w0, h1, hlc, hcm, hok, hP⟩
end
end
end Go.Proofs.Ytmjkljdnioochaa
