/-
  Proved: LinkPulls answers true at every input, never panics, and changes nothing that was there. Conditions: none beyond those of the given statement.
-/
import Derived.Test.YthiobfghanlelaaYIn
import Derived.Test.YthiobfghanlelaaYRef4
import Derived.Test.YthiobfghanlelaaYHeap
import Derived.Test.YthiobfghanlelaaYRow
namespace Go.Proofs.Ythiobfghanlelaa
open Go.ChangeShapes Go.WideShapes Go.ChangeAt Go.RowKit Go.Maps
set_option linter.unusedVariables false
set_option linter.unusedSimpArgs false
set_option maxRecDepth 100000

def wholeK13 (vals : List Nat) : Nat → Option Nat := fun i => vals[i]?

theorem LinkPulls_few (t q s x y : Int) (A : Option Addr) (n c m : Nat) (hq : 64 < q) (W : World)  : Calls Try.prog 4 #[.agg #[.int .i64 t, .int .i64 q, .int .i64 s], .slice A n c, .agg #[.int .i64 x, .int .i64 y]] W (Keeps W) := by
  have t2 : decide (q ≤ (64 : Int)) = false := decide_eq_false (by omega)
  have HC := hidp ((Held.new W 23 #[.int .i64 t, .int .i64 q, .int .i64 s]).alloc (.cells #[.int .i64 x, .int .i64 y] 46))
  have HX := hidp (Held.new2 W (.cells #[.int .i64 t, .int .i64 q, .int .i64 s] 23) 46 #[.int .i64 x, .int .i64 y])
  have HB := hidp (Bnew (Bnew (B0 W) (.cells #[.int .i64 t, .int .i64 q, .int .i64 s] 23)) (.cells #[.int .i64 x, .int .i64 y] 46))
  obtain ⟨x0, x1, x2⟩ := HC.out.three
  obtain ⟨y0, y1⟩ := HX.out.two
  go_enter Try.func4, Try.ntmps4
  go_wp2_with fail
  refine (few_c t q s _).mono ?_
  rintro e w1 ⟨rfl, hb⟩
  rw [t2]
  replace HC := hidp (HC.out.keep hb)
  replace HX := hidp (HX.out.keep hb)
  replace HB := hidp (Bgo HB.out hb)
  clear hb
  clear x0 x1 x2 y0 y1
  obtain ⟨x0, x1, x2⟩ := HC.out.three
  obtain ⟨y0, y1⟩ := HX.out.two
  go_wp2_with fail
  refine (live_c _).mono ?_
  rintro e w9 ⟨rfl, hb⟩
  replace HB := hidp (Bgo HB.out hb)
  clear hb
  go_wp2
  go_ret
  exact ⟨rfl, HB.out⟩

theorem LinkPulls_no (t q s x y : Int) (A : Option Addr) (n c m : Nat) (hq : q ≤ 64) (W : World) (hX : Hid (XCheckIs W t q s A n c m false)) : Calls Try.prog 4 #[.agg #[.int .i64 t, .int .i64 q, .int .i64 s], .slice A n c, .agg #[.int .i64 x, .int .i64 y]] W (Keeps W) := by
  have t2 : decide (q ≤ (64 : Int)) = true := decide_eq_true (by omega)
  have HC := hidp ((Held.new W 23 #[.int .i64 t, .int .i64 q, .int .i64 s]).alloc (.cells #[.int .i64 x, .int .i64 y] 46))
  have HX := hidp (Held.new2 W (.cells #[.int .i64 t, .int .i64 q, .int .i64 s] 23) 46 #[.int .i64 x, .int .i64 y])
  have HB := hidp (Bnew (Bnew (B0 W) (.cells #[.int .i64 t, .int .i64 q, .int .i64 s] 23)) (.cells #[.int .i64 x, .int .i64 y] 46))
  obtain ⟨x0, x1, x2⟩ := HC.out.three
  obtain ⟨y0, y1⟩ := HX.out.two
  go_enter Try.func4, Try.ntmps4
  go_wp2_with fail
  refine (few_c t q s _).mono ?_
  rintro e w1 ⟨rfl, hb⟩
  rw [t2]
  replace HC := hidp (HC.out.keep hb)
  replace HX := hidp (HX.out.keep hb)
  replace HB := hidp (Bgo HB.out hb)
  clear hb
  clear x0 x1 x2 y0 y1
  obtain ⟨x0, x1, x2⟩ := HC.out.three
  obtain ⟨y0, y1⟩ := HX.out.two
  go_wp2_with fail
  refine (xSound_c t q s A n c m false _ (hX.out.grown HB.out)).mono ?_
  rintro e w2 ⟨rfl, hb⟩
  replace HC := hidp (HC.out.keep hb)
  replace HX := hidp (HX.out.keep hb)
  replace HB := hidp (Bgo HB.out hb)
  clear hb
  clear x0 x1 x2 y0 y1
  obtain ⟨x0, x1, x2⟩ := HC.out.three
  obtain ⟨y0, y1⟩ := HX.out.two
  go_wp2_with fail
  refine (live_c _).mono ?_
  rintro e w9 ⟨rfl, hb⟩
  replace HB := hidp (Bgo HB.out hb)
  clear hb
  go_wp2
  go_ret
  exact ⟨rfl, HB.out⟩

theorem LinkPulls_low (t q s x y : Int) (A : Option Addr) (n c m : Nat) (hq : q ≤ 64) (hx : x < 2) (W : World) (hX : Hid (XCheckIs W t q s A n c m true)) : Calls Try.prog 4 #[.agg #[.int .i64 t, .int .i64 q, .int .i64 s], .slice A n c, .agg #[.int .i64 x, .int .i64 y]] W (Keeps W) := by
  have t2 : decide (q ≤ (64 : Int)) = true := decide_eq_true (by omega)
  have t3 : decide (x < (2 : Int)) = true := decide_eq_true (by omega)
  have HC := hidp ((Held.new W 23 #[.int .i64 t, .int .i64 q, .int .i64 s]).alloc (.cells #[.int .i64 x, .int .i64 y] 46))
  have HX := hidp (Held.new2 W (.cells #[.int .i64 t, .int .i64 q, .int .i64 s] 23) 46 #[.int .i64 x, .int .i64 y])
  have HB := hidp (Bnew (Bnew (B0 W) (.cells #[.int .i64 t, .int .i64 q, .int .i64 s] 23)) (.cells #[.int .i64 x, .int .i64 y] 46))
  obtain ⟨x0, x1, x2⟩ := HC.out.three
  obtain ⟨y0, y1⟩ := HX.out.two
  go_enter Try.func4, Try.ntmps4
  go_wp2_with fail
  refine (few_c t q s _).mono ?_
  rintro e w1 ⟨rfl, hb⟩
  rw [t2]
  replace HC := hidp (HC.out.keep hb)
  replace HX := hidp (HX.out.keep hb)
  replace HB := hidp (Bgo HB.out hb)
  clear hb
  clear x0 x1 x2 y0 y1
  obtain ⟨x0, x1, x2⟩ := HC.out.three
  obtain ⟨y0, y1⟩ := HX.out.two
  go_wp2_with fail
  refine (xSound_c t q s A n c m true _ (hX.out.grown HB.out)).mono ?_
  rintro e w2 ⟨rfl, hb⟩
  replace HC := hidp (HC.out.keep hb)
  replace HX := hidp (HX.out.keep hb)
  replace HB := hidp (Bgo HB.out hb)
  clear hb
  clear x0 x1 x2 y0 y1
  obtain ⟨x0, x1, x2⟩ := HC.out.three
  obtain ⟨y0, y1⟩ := HX.out.two
  go_wp2_with fail
  refine (live_c _).mono ?_
  rintro e w9 ⟨rfl, hb⟩
  replace HB := hidp (Bgo HB.out hb)
  clear hb
  go_wp2
  go_ret
  exact ⟨rfl, HB.out⟩

theorem LinkPulls_high (t q s x y : Int) (A : Option Addr) (n c m : Nat) (hq : q ≤ 64) (hx : 21 < x) (W : World) (hX : Hid (XCheckIs W t q s A n c m true)) : Calls Try.prog 4 #[.agg #[.int .i64 t, .int .i64 q, .int .i64 s], .slice A n c, .agg #[.int .i64 x, .int .i64 y]] W (Keeps W) := by
  have t2 : decide (q ≤ (64 : Int)) = true := decide_eq_true (by omega)
  have t3 : decide (x < (2 : Int)) = false := decide_eq_false (by omega)
  have t4 : decide ((21 : Int) < x) = true := decide_eq_true (by omega)
  have HC := hidp ((Held.new W 23 #[.int .i64 t, .int .i64 q, .int .i64 s]).alloc (.cells #[.int .i64 x, .int .i64 y] 46))
  have HX := hidp (Held.new2 W (.cells #[.int .i64 t, .int .i64 q, .int .i64 s] 23) 46 #[.int .i64 x, .int .i64 y])
  have HB := hidp (Bnew (Bnew (B0 W) (.cells #[.int .i64 t, .int .i64 q, .int .i64 s] 23)) (.cells #[.int .i64 x, .int .i64 y] 46))
  obtain ⟨x0, x1, x2⟩ := HC.out.three
  obtain ⟨y0, y1⟩ := HX.out.two
  go_enter Try.func4, Try.ntmps4
  go_wp2_with fail
  refine (few_c t q s _).mono ?_
  rintro e w1 ⟨rfl, hb⟩
  rw [t2]
  replace HC := hidp (HC.out.keep hb)
  replace HX := hidp (HX.out.keep hb)
  replace HB := hidp (Bgo HB.out hb)
  clear hb
  clear x0 x1 x2 y0 y1
  obtain ⟨x0, x1, x2⟩ := HC.out.three
  obtain ⟨y0, y1⟩ := HX.out.two
  go_wp2_with fail
  refine (xSound_c t q s A n c m true _ (hX.out.grown HB.out)).mono ?_
  rintro e w2 ⟨rfl, hb⟩
  replace HC := hidp (HC.out.keep hb)
  replace HX := hidp (HX.out.keep hb)
  replace HB := hidp (Bgo HB.out hb)
  clear hb
  clear x0 x1 x2 y0 y1
  obtain ⟨x0, x1, x2⟩ := HC.out.three
  obtain ⟨y0, y1⟩ := HX.out.two
  go_wp2_with fail
  refine (live_c _).mono ?_
  rintro e w9 ⟨rfl, hb⟩
  replace HB := hidp (Bgo HB.out hb)
  clear hb
  go_wp2
  go_ret
  exact ⟨rfl, HB.out⟩

set_option maxHeartbeats 12800000 in
theorem LinkPulls_main {H : AuH} (ad : Addr) (n c m hd : Nat) (HV : HeapV H n c) (h2 : 2 ≤ hd) (h21 : hd ≤ 21) (y : Int) (vals : List Nat) (HNN : Hid (vals.length = n)) (H32 : Hid (∀ x ∈ vals, x < 2 ^ 32)) (hVK : ∀ i, H.V i = vals.getD i 0) (hq : H.p ≤ 64) (hok : H.ListOk hd)
    (W : World) (HR : Hid (Reads W W.heap.size 1 (some ad) n (valVs vals))) (hX : Hid (XCheckIs W H.t H.p H.s (some ad) n c m true)) :
    Calls Try.prog 4 #[.agg #[.int .i64 (H.t : Int), .int .i64 (H.p : Int), .int .i64 (H.s : Int)], .slice (some ad) n c, .agg #[.int .i64 (hd : Int), .int .i64 y]] W (Keeps W) := by
  have t2 : decide ((H.p : Int) ≤ 64) = true := decide_eq_true (by omega)
  have t3 : decide ((hd : Int) < 2) = false := decide_eq_false (by omega)
  have t4 : decide ((21 : Int) < (hd : Int)) = false := decide_eq_false (by omega)
  obtain ⟨i0, hin, hz0, hz1, hz2⟩ := info_parts intInfo
  have hnb : n ≤ 6238 := by have := HV.nums; omega
  have hcm : c ≤ maxLen := HV.max
  have hcm2 : c ≤ 9223372036854775807 := hcm
  have hn40 : n < 2 ^ 40 := by omega
  have hK : ∀ i, i < n → wholeK13 vals i = some (H.V i) := fun i hi => by
    unfold wholeK13
    rw [hVK i, List.getElem?_eq_getElem (by rw [HNN.out]; exact hi)]
    simp [List.getD, List.getElem?_eq_getElem (show i < vals.length by rw [HNN.out]; exact hi)]
  have HF : Hid (Fit H.t H.p H.s n) := hidp HV.fit
  obtain ⟨l, la, hpath⟩ := AuH.listOk_path hok
  have HL0 : Hid (HasL H.t H.p hd n (wholeK13 vals) freshS l ∧ VW n (wholeK13 vals) freshS) := hidp (hasL_of HV hK (by omega) hpath)
  have hh30 : hd < 30 := by omega
  clear hK hpath hok hVK HV
  have HC := hidp ((Held.new W 23 #[.int .i64 (H.t : Int), .int .i64 (H.p : Int), .int .i64 (H.s : Int)]).alloc (.cells #[.int .i64 (hd : Int), .int .i64 y] 46))
  have HX := hidp (Held.new2 W (.cells #[.int .i64 (H.t : Int), .int .i64 (H.p : Int), .int .i64 (H.s : Int)] 23) 46 #[.int .i64 (hd : Int), .int .i64 y])
  have HB := hidp (Bnew (Bnew (B0 W) (.cells #[.int .i64 (H.t : Int), .int .i64 (H.p : Int), .int .i64 (H.s : Int)] 23)) (.cells #[.int .i64 (hd : Int), .int .i64 y] 46))
  obtain ⟨x0, x1, x2⟩ := HC.out.three
  obtain ⟨y0, y1⟩ := HX.out.two
  go_enter Try.func4, Try.ntmps4
  go_wp2_with fail
  refine (few_c H.t H.p H.s _).mono ?_
  rintro e w1 ⟨rfl, hb⟩
  rw [t2]
  replace HC := hidp (HC.out.keep hb)
  replace HX := hidp (HX.out.keep hb)
  replace HB := hidp (Bgo HB.out hb)
  clear hb
  clear x0 x1 x2 y0 y1
  obtain ⟨x0, x1, x2⟩ := HC.out.three
  obtain ⟨y0, y1⟩ := HX.out.two
  go_wp2_with fail
  refine (xSound_c H.t H.p H.s (some ad) n c m true _ (hX.out.grown HB.out)).mono ?_
  rintro e w2 ⟨rfl, hb⟩
  replace HC := hidp (HC.out.keep hb)
  replace HX := hidp (HX.out.keep hb)
  replace HB := hidp (Bgo HB.out hb)
  clear hb
  clear x0 x1 x2 y0 y1
  obtain ⟨x0, x1, x2⟩ := HC.out.three
  obtain ⟨y0, y1⟩ := HX.out.two
  have HRw : Hid (Reads w2 w2.heap.size 1 (some ad) n (valVs vals)) := hidp ((HR.out.below HB.out).more HB.out.size)
  go_wp2_with fail
  refine (Whole_c (some ad) c vals n HNN.out (by omega) H32.out _ (by
    intro h0
    obtain ⟨ad', e, _, hc⟩ := HRw.out.2 h0
    exact ⟨ad', e, hc⟩)).mono ?_
  rintro e w3 ⟨b1, o1, rfl, hI, hB⟩
  have HLT : Hid (W.heap.size + 1 < w2.heap.size) := hidp HX.out.lt
  generalize hz1 : w2.heap.size = z1 at *
  have HD : Hid (Duo W (vOb z1 b1 n true (wholeK13 vals)) noOb (o1.A b1) (fun _ => False) (fun g => g = W.heap.size ∨ g = W.heap.size + 1) freshS freshS w3) := hidp (duo_made hI (by have := HLT.out; omega) (Bgo HB.out (by rw [← hz1] at hB; exact hB)) (fun g hg => by
    have h1 := hI.ge
    have h2 := hB.size
    have h3 := HLT.out
    exact ⟨by omega, fun x => by have := h1 g x; omega⟩))
  rw [← hz1] at hB
  replace HC := hidp (HC.out.keep hB)
  replace HX := hidp (HX.out.keep hB)
  clear hB hI HRw HB HLT hz1
  clear x0 x1 x2 y0 y1
  obtain ⟨x0, x1, x2⟩ := HC.out.three
  obtain ⟨y0, y1⟩ := HX.out.two
  go_wp2_with fail
  refine (lkWalk_c hn40 (by omega) HD.out.at1).mono ?_
  intro e w4 hw
  obtain ⟨u8, A4, rfl, ho, hd4, hs⟩ := HD.out.walk1 hw
  have HLw := HL0.out.1.walk HF.out HL0.out.2
  rw [HLw.1] at ho
  generalize walkS n (wholeK13 vals) H.t H.p H.s hd freshS = s1 at hd4 HLw
  have HL1 : Hid (HasL H.t H.p hd n (wholeK13 vals) s1 l ∧ VW n (wholeK13 vals) s1) := hidp ⟨by unfold HasL; rw [HLw.2.2]; exact HL0.out.1, HLw.2.1⟩
  have HO8 := hidp ho
  replace HC := hidp (hs.held (.inl rfl) HC.out)
  replace HX := hidp (hs.held (.inr rfl) HX.out)
  replace HD := hidp (hd4.less (G' := (fun g => g = W.heap.size ∨ g = W.heap.size + 1)) (fun g x => .inl x))
  clear hw ho hd4 hs HLw HL0
  clear x0 x1 x2 y0 y1
  obtain ⟨x0, x1, x2⟩ := HC.out.three
  obtain ⟨y0, y1⟩ := HX.out.two
  go_wp2_with fail
  refine (in_c HO8.out y).mono ?_
  rintro e w5 ⟨⟨r, rfl, hr⟩, rfl⟩
  rcases hr with ⟨rfl, _⟩ | ⟨l1, p, l2, hl, rfl, rfl⟩
  · have HB := hidp HD.out.bel
    go_wp2_with fail
    refine (live_c _).mono ?_
    rintro e w9 ⟨rfl, hb⟩
    replace HB := hidp (Bgo HB.out hb)
    clear hb
    go_wp2
    go_ret
    exact ⟨rfl, HB.out⟩
  · subst hl
    obtain ⟨g8, cu, hu8, hb8, hl8⟩ := HO8.out.form (by simp; omega)
    subst hu8
    have hcu := own_caps9 HO8.out
    obtain ⟨i, hi⟩ : ∃ i, l1.length = i := ⟨_, rfl⟩
    obtain ⟨L, hL⟩ : ∃ L, (l1 ++ p :: l2).length = L := ⟨_, rfl⟩
    have hiL : i < L := by rw [← hL, ← hi]; simp
    have hL64 : L ≤ 64 := by have h1 := HL1.out.1.len; omega
    have HLi := hidp hi
    have HL2 : Hid (l2.length = L - (i + 1)) := hidp (by rw [← hL, ← hi]; simp; omega)
    rw [hL] at hcu HO8
    rw [hL, hi]
    have hc1 := cut_front g8 L cu i (by omega) hcu.1
    have hc2 := cut_back g8 L cu i hiL hcu.1
    have HCL : Hid (CutAt w5 g8 L l1 p l2) := hidp ⟨hl8, fun j hj => HO8.out.cellAt j (by omega)⟩
    have hi64 : i < 64 := by omega
    have sw : IntKind.i64.wrap ((i : Int) + 1) = (i : Int) + 1 := i64_same (by omega) (by omega)
    have sl1 : ((i : Int) + 1) ≤ (L : Int) := by omega
    have sl0 : (0 : Int) ≤ (i : Int) + 1 := by omega
    clear hL hi HO8 hb8 hl8
    go_wp2_with fail
    replace HD := hidp (HD.out.keep (Bdrew (B0 w5)))
    replace HC := hidp HC.out.drw
    replace HX := hidp HX.out.drw
    replace HCL := hidp (HCL.out.below (Bdrew (B0 w5)) HCL.out.1)
    refine wp_region_held_drew (S := (fun w' => True)) (by kernel_rfl) ?_ (fun hHeld => ?_)
    · all_goals trivial
    generalize hq0 : w5.drew = q0 at HD HC HX HCL hHeld ⊢
    clear hq0
    refine tkO (i := 1) (v := ?_) rfl (by kernel_rfl) (fun _ _ _ h => h) (by rfl) ?_ (by assumption) ?_
    rotate_left
    · intro w hSw; (try dsimp only at hSw); go_simp; (try with_reducible rfl)
    (try simp only [Act.put, gA, gB, gC, sA, sB, sC])
    refine tkO (i := 2) (v := ?_) rfl (by kernel_rfl) (fun _ _ _ h => h) (by rfl) ?_ (by assumption) ?_
    rotate_left
    · intro w hSw; (try dsimp only at hSw); go_simp; (try with_reducible rfl)
    (try simp only [Act.put, gA, gB, gC, sA, sB, sC])
    refine tkO (i := 3) (v := ?_) rfl (by kernel_rfl) (fun _ _ _ h => h) (by rfl) ?_ (by assumption) ?_
    rotate_left
    · intro w hSw; (try dsimp only at hSw); go_simp; (try with_reducible rfl)
    (try simp only [Act.put, gA, gB, gC, sA, sB, sC])
    refine tkO (i := 5) (v := ?_) rfl (by kernel_rfl) (fun _ _ _ h => h) (by rfl) ?_ (by assumption) ?_
    rotate_left
    · intro w hSw; (try dsimp only at hSw); go_simp; (try with_reducible rfl)
    (try simp only [Act.put, gA, gB, gC, sA, sB, sC])
    refine tkO (i := 6) (v := ?_) rfl (by kernel_rfl) (fun _ _ _ h => h) (by rfl) ?_ (by assumption) ?_
    rotate_left
    · intro w hSw; (try dsimp only at hSw); go_simp; (try with_reducible rfl)
    (try simp only [Act.put, gA, gB, gC, sA, sB, sC])
    refine tkO (i := 7) (v := ?_) rfl (by kernel_rfl) (fun _ _ _ h => h) (by rfl) ?_ (by assumption) ?_
    rotate_left
    · intro w hSw; (try dsimp only at hSw); go_simp; (try with_reducible rfl)
    (try simp only [Act.put, gA, gB, gC, sA, sB, sC])
    refine tkO (i := 8) (v := ?_) rfl (by kernel_rfl) (fun _ _ _ h => h) (by rfl) ?_ (by assumption) ?_
    rotate_left
    · intro w hSw; (try dsimp only at hSw); go_simp; (try with_reducible rfl)
    (try simp only [Act.put, gA, gB, gC, sA, sB, sC])
    refine wpAnyH_ready (rs := [0]) (by kernel_rfl) (by simp) ?_
    refine AllReadyH.cons (o := _) rfl (fun K hK => ?_) AllReadyH.nil
    go_simp
    have HB9 := hidp (Bnew (B0 q0) (.cells #[] 3))
    have HO9 : Hid ((q0.alloc (.cells #[] 3)).ownsRow q0.heap.size 3 1 (.slice (some ⟨q0.heap.size, 0, none⟩) 0 0) 0 []) := hidp (World.ownsRow_lit (base := q0.heap.size) (e := 3) (size := 1) q0 #[] 0 (Nat.le_refl _) (by unfold maxLen; omega) rfl)
    have HCL9 := hidp (HCL.out.below HB9.out HCL.out.1)
    refine hK.out _ _ ?_ (fun hHeld => ?_)
    · (try dsimp only)
      all_goals trivial
    clear hK K
    (try simp only [Act.put, gA, gB, gC, sA, sB, sC])
    refine wpAnyH_ready (rs := [4]) (by kernel_rfl) (by simp) ?_
    refine AllReadyH.cons (o := _) rfl (fun K hK => ?_) AllReadyH.nil
    refine step_append_any rfl _ _ 37 rfl q0.heap.size 3 i0 (.int .i64 0) 1 8 Try.underlying37 hin hz0 hz1 hz2 rfl (by decide) (.slice (some ⟨q0.heap.size, 0, none⟩) 0 0) 0 [] rfl HO9.out ⟨g8, 0, none⟩ i cu (ntVs l1) rfl ?c0 ?c1 ?c2 ?c3 ?c4 ?c5 _ rfl ?_
    case c0 => rw [ntVs_len, HLi.out]; omega
    case c1 => exact (HCL9.out.front (by have := HLi.out; omega))
    case c2 => exact ntVs_one _
    case c3 => unfold maxLen; omega
    case c4 => omega
    case c5 => simp
    intro ua wa howna hgra hata hna
    have HBa := hidp (HB9.out.grown hgra (by simp) (fun j hj => (HO9.out.lt j hj).1))
    have HOa : Hid (wa.ownsRow q0.heap.size 3 1 ua i (ntVs l1)) := hidp (by rw [Nat.zero_add, List.nil_append] at howna; exact howna)
    have HCLa := hidp (HCL.out.below HBa.out HCL.out.1)
    have HNa := hidp (hna (by simp))
    clear howna hgra hata hna HB9 HO9 HCL9
    refine hK.out _ _ ?_ (fun hHeld => ?_)
    · (try dsimp only)
      all_goals trivial
    clear hK K
    (try simp only [Act.put, gA, gB, gC, sA, sB, sC])
    refine wpAnyH_ready (rs := [9]) (by kernel_rfl) (by simp) ?_
    refine AllReadyH.cons (o := _) rfl (fun K hK => ?_) AllReadyH.nil
    refine step_append_any rfl _ _ 37 rfl q0.heap.size 3 i0 (.int .i64 0) 1 8 Try.underlying37 hin hz0 hz1 hz2 rfl (by decide) _ i (ntVs l1) rfl HOa.out (backAd g8 cu i) (L - (i + 1)) (cu - (i + 1)) (ntVs l2) rfl ?c0 ?c1 ?c2 ?c3 ?c4 ?c5 _ rfl ?_
    case c0 => rw [ntVs_len, HL2.out]; omega
    case c1 => exact (HCLa.out.back HLi.out hcu.1 hiL HL2.out)
    case c2 => exact ntVs_one _
    case c3 => unfold maxLen; omega
    case c4 => omega
    case c5 => exact HBa.out.size
    intro ub wb hownb hgrb hatb hnb'
    have HBb := hidp (HBa.out.grown hgrb HBa.out.size (fun j hj => (HOa.out.lt j hj).1))
    have HLr : Hid ((l1 ++ l2).length = i + (L - (i + 1))) := hidp (by rw [List.length_append, HLi.out, HL2.out])
    have HO10 : Hid (wb.ownsRow q0.heap.size 3 1 ub (l1 ++ l2).length (ntVs (l1 ++ l2))) := hidp (by rw [HLr.out, ntVs_append]; exact hownb)
    obtain ⟨g10, c10, hub, hg10⟩ := own_some hownb (hnb' HNa.out)
    subst hub
    clear hownb hgrb hatb hnb' hg10 HNa HOa HCLa HBa
    refine hK.out _ _ ?_ (fun hHeld => ?_)
    · (try dsimp only)
      all_goals trivial
    clear hK K
    (try simp only [Act.put, gA, gB, gC, sA, sB, sC])
    refine tkO (i := 10) (v := ?_) rfl (by kernel_rfl) (fun _ _ _ h => h) (by rfl) ?_ (by assumption) ?_
    rotate_left
    · intro w hSw; (try dsimp only at hSw); go_simp; (try with_reducible rfl)
    (try simp only [Act.put, gA, gB, gC, sA, sB, sC])
    refine wpAnyH_done (by kernel_rfl) ?_ _
    replace HD := hidp (HD.out.keep2 (G' := GU (fun g => g = W.heap.size ∨ g = W.heap.size + 1) (.slice (some ⟨g10, 0, none⟩) (i + (L - (i + 1))) c10)) HBb.out (fun g hg => by
      rcases hg with hg | hg
      · exact .inl hg
      · exact .inr (HO10.out.lt g hg)))
    replace HC := hidp (HC.out.keep HBb.out)
    replace HX := hidp (HX.out.keep HBb.out)
    clear HBb HCL hHeld
    clear x0 x1 x2 y0 y1
    obtain ⟨x0, x1, x2⟩ := HC.out.three
    obtain ⟨y0, y1⟩ := HX.out.two
    have hlinks := HL1.out.1.links
    have HPG : Hid (pgB (H.p : Int) (p : Int) = true) := hidp ((pgB_iff _ _).2 ⟨by omega, by have := hlinks.1; omega⟩)
    have HPP := hidp hlinks.1
    have HNP : Hid (¬ p ∈ l1 ++ l2) := hidp (by
      have h1 := HL1.out.1.nodup
      rw [List.nodup_append] at h1
      intro h2
      rcases List.mem_append.1 h2 with h2 | h2
      · exact h1.2.2 p h2 p (List.mem_cons_self ..) rfl
      · exact (List.nodup_cons.1 h1.2.1).1 h2)
    generalize hnl : i + (L - (i + 1)) = nl at *
    have hnl64 : nl < 64 := by omega
    clear hlinks hnl hc1 hc2 sw sl1 sl0 HL2 HLi hcu hiL hi64
    replace HO10 : Hid (wb.ownsRow q0.heap.size 3 1 (.slice (some ⟨g10, 0, none⟩) nl c10) nl (ntVs (l1 ++ l2))) := hidp (by have := HO10.out; rwa [HLr.out] at this)
    have HLs1 := HL1
    clear HL1
    go_wp2_with fail
    refine (lkPull_c hn40 (by omega) (p : Int) HD.out.at1).mono ?_
    rintro e v1 ⟨rfl, h1, _⟩
    obtain ⟨Av1, h2, h3⟩ := HD.out.left1 h1.left
    rw [(pgB_nat HPG.out).2] at h2
    have HLn := HLs1.out.1.pull HF.out hh30 HLs1.out.2
    generalize pullS n (wholeK13 vals) H.t H.p H.s hd p s1 = s2 at h2 HLn
    have HLs2 : Hid (HasL H.t H.p hd n (wholeK13 vals) s2 (l1 ++ l2) ∧ VW n (wholeK13 vals) s2) := hidp HLn
    replace HC := hidp (h3.held (.inl (.inl rfl)) HC.out)
    replace HX := hidp (h3.held (.inl (.inr rfl)) HX.out)
    replace HO10 := hidp (h3.own (fun g e => .inr e) HO10.out)
    replace HD := hidp h2
    clear h1 h2 h3 HLn HLs1
    clear x0 x1 x2 y0 y1
    obtain ⟨x0, x1, x2⟩ := HC.out.three
    obtain ⟨y0, y1⟩ := HX.out.two
    go_wp2_with fail
    refine (lkWalk_c hn40 (by omega) HD.out.at1).mono ?_
    intro e v2 hw
    obtain ⟨uw, Av2, rfl, ho, hd4, hs⟩ := HD.out.walk1 hw
    have HLw := HLs2.out.1.walk HF.out HLs2.out.2
    rw [HLw.1] at ho
    generalize walkS n (wholeK13 vals) H.t H.p H.s hd s2 = s3 at hd4 HLw
    have HLs3 : Hid (HasL H.t H.p hd n (wholeK13 vals) s3 (l1 ++ l2) ∧ VW n (wholeK13 vals) s3) := hidp ⟨by unfold HasL; rw [HLw.2.2]; exact HLs2.out.1, HLw.2.1⟩
    have HOw := hidp ho
    replace HC := hidp (hs.held (.inl (.inl rfl)) HC.out)
    replace HX := hidp (hs.held (.inl (.inr rfl)) HX.out)
    replace HO10 := hidp (hs.own (fun g e => .inr e) HO10.out)
    replace HD := hidp (hd4.less (G' := (GU (fun g => g = W.heap.size ∨ g = W.heap.size + 1) (.slice (some ⟨g10, 0, none⟩) nl c10))) (fun g x => .inl x))
    clear hw ho hd4 hs HLw HLs2
    clear x0 x1 x2 y0 y1
    obtain ⟨x0, x1, x2⟩ := HC.out.three
    obtain ⟨y0, y1⟩ := HX.out.two
    go_wp2_with fail
    refine (Ints_same _ _ _ _ (rowV_nat6 HOw.out) (rowV_nat6 (by rw [HLr.out]; exact HO10.out))).mono ?_
    rintro e v3 ⟨rfl, j, hj⟩
    have hb := Bdraw (B0 v2) j
    rw [← hj] at hb
    clear hj
    replace HC := hidp (HC.out.keep hb)
    replace HX := hidp (HX.out.keep hb)
    replace HO10 := hidp (own_below HO10.out hb)
    replace HD := hidp (HD.out.keep hb)
    clear hb HOw
    clear x0 x1 x2 y0 y1
    obtain ⟨x0, x1, x2⟩ := HC.out.three
    obtain ⟨y0, y1⟩ := HX.out.two
    go_wp2_with fail
    refine (lkPush_c hn40 (by omega) (p : Int) HD.out.at1).mono ?_
    rintro e v4 ⟨rfl, h1, _⟩
    obtain ⟨Av4, h2, h3⟩ := HD.out.left1 h1.left
    rw [(pgB_nat HPG.out).1] at h2
    have HLn := HLs3.out.1.push HF.out hh30 HLs3.out.2 HPP.out HNP.out
    generalize pushS n (wholeK13 vals) H.t H.p H.s hd p s3 = s4 at h2 HLn
    have HLs4 : Hid (HasL H.t H.p hd n (wholeK13 vals) s4 (p :: (l1 ++ l2)) ∧ VW n (wholeK13 vals) s4) := hidp HLn
    replace HC := hidp (h3.held (.inl (.inl rfl)) HC.out)
    replace HX := hidp (h3.held (.inl (.inr rfl)) HX.out)
    replace HO10 := hidp (h3.own (fun g e => .inr e) HO10.out)
    replace HD := hidp h2
    clear h1 h2 h3 HLn HLs3
    clear x0 x1 x2 y0 y1
    obtain ⟨x0, x1, x2⟩ := HC.out.three
    obtain ⟨y0, y1⟩ := HX.out.two
    go_wp2_with fail
    replace HD := hidp (HD.out.keep (Bdrew (B0 _)))
    replace HC := hidp HC.out.drw
    replace HX := hidp HX.out.drw
    replace HO10 := hidp (own_below HO10.out (Bdrew (B0 _)))
    clear x0 x1 x2 y0 y1
    refine wp_region_held_drew (S := (fun w' => w'.cell? ⟨W.heap.size, 0, none⟩ = some (.int .i64 (H.t : Int)) ∧ w'.cell? ⟨W.heap.size, 1, none⟩ = some (.int .i64 (H.p : Int)) ∧ w'.cell? ⟨W.heap.size, 2, none⟩ = some (.int .i64 (H.s : Int)) ∧ w'.cell? ⟨W.heap.size + 1, 0, none⟩ = some (.int .i64 (hd : Int)) ∧ w'.cell? ⟨W.heap.size + 1, 1, none⟩ = some (.int .i64 (p : Int)))) (by kernel_rfl) ?_ (fun hHeld => ?_)
    · (try dsimp only)
      first | exact ⟨HC.out.three.1, HC.out.three.2.1, HC.out.three.2.2, HX.out.two.1, HX.out.two.2⟩ | exact hHeld
    refine tkO (i := 0) (v := ?_) rfl (by kernel_rfl) (fun _ _ _ h => h) (by rfl) ?_ (by assumption) ?_
    rotate_left
    · intro w hSw; (try dsimp only at hSw); go_simp; (try with_reducible rfl)
    (try simp only [Act.put, gA, gB, gC, sA, sB, sC])
    refine tkO (i := 1) (v := ?_) rfl (by kernel_rfl) (fun _ _ _ h => h) (by rfl) ?_ (by assumption) ?_
    rotate_left
    · intro w hSw; (try dsimp only at hSw); go_simp; (try with_reducible rfl)
    (try simp only [Act.put, gA, gB, gC, sA, sB, sC])
    refine tkO (i := 2) (v := ?_) rfl (by kernel_rfl) (fun _ _ _ h => h) (by rfl) ?_ (by assumption) ?_
    rotate_left
    · intro w hSw; (try dsimp only at hSw); go_simp; (try with_reducible rfl)
    (try simp only [Act.put, gA, gB, gC, sA, sB, sC])
    refine tkO (i := 3) (v := ?_) rfl (by kernel_rfl) (fun _ _ _ h => h) (by rfl) ?_ (by assumption) ?_
    rotate_left
    · intro w hSw; (try dsimp only at hSw); go_simp; (try with_reducible rfl)
    (try simp only [Act.put, gA, gB, gC, sA, sB, sC])
    refine tkO (i := 5) (v := ?_) rfl (by kernel_rfl) (fun _ _ _ h => h) (by rfl) ?_ (by assumption) ?_
    rotate_left
    · intro w hSw; (try dsimp only at hSw); go_simp; (try with_reducible rfl)
    (try simp only [Act.put, gA, gB, gC, sA, sB, sC])
    refine tkO (i := 6) (v := ?_) rfl (by kernel_rfl) (fun _ _ _ h => h) (by rfl) ?_ (by assumption) ?_
    rotate_left
    · intro w hSw; (try dsimp only at hSw); go_simp; (try with_reducible rfl)
    (try simp only [Act.put, gA, gB, gC, sA, sB, sC])
    refine tkO (i := 8) (v := ?_) rfl (by kernel_rfl) (fun _ _ _ h => h) (by rfl) ?_ (by assumption) ?_
    rotate_left
    · intro w hSw; (try dsimp only at hSw); go_simp; (try with_reducible rfl)
    (try simp only [Act.put, gA, gB, gC, sA, sB, sC])
    generalize hr0 : v4.drew = r0 at HD HC HX HO10 hHeld ⊢
    clear hr0
    refine wpAnyH_ready (rs := [4, 7]) (by kernel_rfl) (by simp) ?_
    refine AllReadyH.cons (o := _) rfl (fun K hK => ?_) (AllReadyH.cons (o := _) rfl (fun K hK => ?_) AllReadyH.nil)
    · skip
      go_simp
      refine (lkWalk_c hn40 (by omega) HD.out.at1).mono ?_
      intro e v5 hw
      obtain ⟨uw, Av5, rfl, ho, hd4, hs⟩ := HD.out.walk1 hw
      have HLw := HLs4.out.1.walk HF.out HLs4.out.2
      rw [HLw.1] at ho
      generalize walkS n (wholeK13 vals) H.t H.p H.s hd s4 = s5 at hd4 HLw
      have HLs5 : Hid (HasL H.t H.p hd n (wholeK13 vals) s5 (p :: (l1 ++ l2)) ∧ VW n (wholeK13 vals) s5) := hidp ⟨by unfold HasL; rw [HLw.2.2]; exact HLs4.out.1, HLw.2.1⟩
      have HOw := hidp ho
      replace HC := hidp (hs.held (.inl (.inl rfl)) HC.out)
      replace HX := hidp (hs.held (.inl (.inr rfl)) HX.out)
      replace HO10 := hidp (hs.own (fun g e => .inr e) HO10.out)
      replace HD := hidp (hd4.less (G' := (GU (fun g => g = W.heap.size ∨ g = W.heap.size + 1) (.slice (some ⟨g10, 0, none⟩) nl c10))) (fun g x => .inl x))
      clear hw ho hd4 hs HLw HLs4
      refine hK.out _ _ ?_ (fun hHeld => ?_)
      · (try dsimp only)
        first | exact ⟨HC.out.three.1, HC.out.three.2.1, HC.out.three.2.2, HX.out.two.1, HX.out.two.2⟩ | exact hHeld
      clear hK K
      (try simp only [Act.put, gA, gB, gC, sA, sB, sC])
      refine wpAnyH_ready (rs := [7]) (by kernel_rfl) (by simp) ?_
      refine AllReadyH.cons (o := _) rfl (fun K hK => ?_) AllReadyH.nil
      · skip
        go_simp
        have hb := Bnew (B0 v5) (.cells #[.int .i64 (p : Int)] 3)
        have HN7 : Hid (W.heap.size + 1 < v5.heap.size) := hidp HX.out.lt
        have HN10 : Hid (g10 < v5.heap.size) := hidp (HO10.out.lt g10 rfl).2
        have HO7 : Hid ((v5.alloc (.cells #[.int .i64 (p : Int)] 3)).ownsRow v5.heap.size 3 1 (.slice (some ⟨v5.heap.size, 0, none⟩) 1 1) 1 [.int .i64 (p : Int)]) := hidp (World.ownsRow_lit (base := v5.heap.size) (e := 3) (size := 1) v5 #[.int .i64 (p : Int)] 1 (Nat.le_refl _) (by unfold maxLen; omega) rfl)
        have HNW : Hid (uw.ownBlock ≠ some v5.heap.size) := hidp (fun e => by have := (HOw.out.lt _ e).2; omega)
        replace HOw := hidp (own_below HOw.out hb)
        replace HD := hidp (HD.out.keep2 (G' := GU (GU (fun g => g = W.heap.size ∨ g = W.heap.size + 1) (.slice (some ⟨g10, 0, none⟩) nl c10)) (.slice (some ⟨v5.heap.size, 0, none⟩) 1 1)) hb (fun g hg => by
          rcases hg with hg | hg
          · exact .inl hg
          · exact .inr (HO7.out.lt g hg)))
        replace HC := hidp (HC.out.keep hb)
        replace HX := hidp (HX.out.keep hb)
        replace HO10 := hidp (own_below HO10.out hb)
        clear hb
        generalize hn7 : v5.heap.size = N7 at *
        generalize hw7 : v5.alloc (.cells #[.int .i64 (p : Int)] 3) = v6 at *
        clear hn7 hw7
        refine hK.out _ _ ?_ (fun hHeld => ?_)
        · (try dsimp only)
          first | exact ⟨HC.out.three.1, HC.out.three.2.1, HC.out.three.2.2, HX.out.two.1, HX.out.two.2⟩ | exact hHeld
        clear hK K
        (try simp only [Act.put, gA, gB, gC, sA, sB, sC])
        refine wpAnyH_ready (rs := [9]) (by kernel_rfl) (by simp) ?_
        refine AllReadyH.cons (o := _) rfl (fun K hK => ?_) AllReadyH.nil
        · skip
          refine step_append_any rfl _ _ 37 rfl N7 3 i0 (.int .i64 0) 1 8 Try.underlying37 hin hz0 hz1 hz2 rfl (by decide) (.slice (some ⟨N7, 0, none⟩) 1 1) 1 [.int .i64 (p : Int)] rfl HO7.out ⟨g10, 0, none⟩ nl c10 (ntVs (l1 ++ l2)) rfl ?c0 ?c1 ?c2 ?c3 ?c4 ?c5 _ rfl ?_
          case c0 => rw [ntVs_len, HLr.out]; omega
          case c1 =>
            intro j u hu
            have hj := getE_lt hu
            rw [ntVs_len, HLr.out] at hj
            rw [add_zero0, HO10.out.cellAt j (by omega), hu]
          case c2 => exact ntVs_one _
          case c3 => unfold maxLen; omega
          case c4 => omega
          case c5 => exact Nat.le_of_lt (HO7.out.lt N7 rfl).2
          intro u9 v7 hown hgr hat hnn
          have HO9 : Hid (v7.ownsRow N7 3 1 u9 (p :: (l1 ++ l2)).length (ntVs (p :: (l1 ++ l2)))) := hidp (by rw [List.length_cons, HLr.out, Nat.add_comm nl 1]; exact hown)
          replace HD := hidp (HD.out.grown (G' := GU (GU (fun g => g = W.heap.size ∨ g = W.heap.size + 1) (.slice (some ⟨g10, 0, none⟩) nl c10)) u9) hgr (fun g e => ⟨.inr e, by
            have : N7 = g := by simpa [Value.ownBlock] using e
            have := HN7.out
            omega⟩) (fun g hg => by
            rcases hg with hg | hg
            · exact .inl (.inl hg)
            · rcases hat with h1 | h1
              · exact .inl (.inr (by rw [← h1]; exact hg))
              · rw [hg] at h1
                injection h1 with h1
                exact .inr ⟨by omega, (hown.lt g hg).2⟩))
          replace HC := hidp (held_grown HC.out hgr (by simp [Value.ownBlock]; have := HN7.out; omega))
          replace HX := hidp (held_grown HX.out hgr (by simp [Value.ownBlock]; have := HN7.out; omega))
          replace HO10 := hidp (own_kept HO10.out (fun g e => hgr.block g (HO10.out.lt g e).2 (by simp [Value.ownBlock] at e ⊢; have := HN10.out; omega)))
          replace HOw := hidp (own_kept HOw.out (fun g e => hgr.block g (HOw.out.lt g e).2 (fun e2 => HNW.out (e.trans e2))))
          clear HNW
          clear hown hgr hat hnn HO7
          refine hK.out _ _ ?_ (fun hHeld => ?_)
          · (try dsimp only)
            first | exact ⟨HC.out.three.1, HC.out.three.2.1, HC.out.three.2.2, HX.out.two.1, HX.out.two.2⟩ | exact hHeld
          clear hK K
          (try simp only [Act.put, gA, gB, gC, sA, sB, sC])
          refine wpAnyH_ready (rs := [10]) (by kernel_rfl) (by simp) ?_
          refine AllReadyH.cons (o := _) rfl (fun K hK => ?_) AllReadyH.nil
          go_simp
          refine (Ints_same _ _ _ _ (rowV_nat6 HOw.out) (rowV_nat6 HO9.out)).mono ?_
          rintro e v8 ⟨rfl, j, hj⟩
          have hb := Bdraw (B0 v7) j
          rw [← hj] at hb
          clear hj
          replace HC := hidp (HC.out.keep hb)
          replace HX := hidp (HX.out.keep hb)
          replace HO10 := hidp (own_below HO10.out hb)
          replace HO9 := hidp (own_below HO9.out hb)
          replace HD := hidp (HD.out.keep hb)
          clear hb HOw
          refine hK.out _ _ ?_ (fun hHeld => ?_)
          · (try dsimp only)
            first | exact ⟨HC.out.three.1, HC.out.three.2.1, HC.out.three.2.2, HX.out.two.1, HX.out.two.2⟩ | exact hHeld
          clear hK K
          (try simp only [Act.put, gA, gB, gC, sA, sB, sC])
          refine tkO (i := 11) (v := ?_) rfl (by kernel_rfl) (fun _ _ _ h => h) (by rfl) ?_ (by assumption) ?_
          rotate_left
          · intro w hSw; (try dsimp only at hSw); go_simp; (try with_reducible rfl)
          (try simp only [Act.put, gA, gB, gC, sA, sB, sC])
          refine wpAnyH_done (by kernel_rfl) ?_ _
          replace HD := hidp (HD.out.less (G' := (GU (fun g => g = W.heap.size ∨ g = W.heap.size + 1) (.slice (some ⟨g10, 0, none⟩) nl c10))) (fun g x => .inl x))
          clear HO9
          have HLs5' := HLs5
          obtain ⟨x0, x1, x2⟩ := HC.out.three
          obtain ⟨y0, y1⟩ := HX.out.two
          go_wp2_with fail
          refine (lkPull_c hn40 (by omega) (p : Int) HD.out.at1).mono ?_
          rintro e v9 ⟨rfl, h1, _⟩
          obtain ⟨Av9, h2, h3⟩ := HD.out.left1 h1.left
          rw [(pgB_nat HPG.out).2] at h2
          have HLn := HasL.pull (l1 := []) (l2 := l1 ++ l2) HLs5'.out.1 HF.out hh30 HLs5'.out.2
          generalize pullS n (wholeK13 vals) H.t H.p H.s hd p s5 = s6 at h2 HLn
          have HLs6 : Hid (HasL H.t H.p hd n (wholeK13 vals) s6 (l1 ++ l2) ∧ VW n (wholeK13 vals) s6) := hidp HLn
          replace HC := hidp (h3.held (.inl (.inl rfl)) HC.out)
          replace HX := hidp (h3.held (.inl (.inr rfl)) HX.out)
          replace HO10 := hidp (h3.own (fun g e => .inr e) HO10.out)
          replace HD := hidp h2
          clear h1 h2 h3 HLn HLs5
          clear x0 x1 x2 y0 y1
          obtain ⟨x0, x1, x2⟩ := HC.out.three
          obtain ⟨y0, y1⟩ := HX.out.two
          clear HLs5'
          go_wp2_with fail
          refine (lkWalk_c hn40 (by omega) HD.out.at1).mono ?_
          intro e v10 hw
          obtain ⟨uw, Av10, rfl, ho, hd4, hs⟩ := HD.out.walk1 hw
          have HLw := HLs6.out.1.walk HF.out HLs6.out.2
          rw [HLw.1] at ho
          generalize walkS n (wholeK13 vals) H.t H.p H.s hd s6 = s7 at hd4 HLw
          have HLs7 : Hid (HasL H.t H.p hd n (wholeK13 vals) s7 (l1 ++ l2) ∧ VW n (wholeK13 vals) s7) := hidp ⟨by unfold HasL; rw [HLw.2.2]; exact HLs6.out.1, HLw.2.1⟩
          have HOw := hidp ho
          replace HC := hidp (hs.held (.inl (.inl rfl)) HC.out)
          replace HX := hidp (hs.held (.inl (.inr rfl)) HX.out)
          replace HO10 := hidp (hs.own (fun g e => .inr e) HO10.out)
          replace HD := hidp (hd4.less (G' := (GU (fun g => g = W.heap.size ∨ g = W.heap.size + 1) (.slice (some ⟨g10, 0, none⟩) nl c10))) (fun g x => .inl x))
          clear hw ho hd4 hs HLw HLs6
          clear x0 x1 x2 y0 y1
          obtain ⟨x0, x1, x2⟩ := HC.out.three
          obtain ⟨y0, y1⟩ := HX.out.two
          go_wp2_with fail
          refine (Ints_same _ _ _ _ (rowV_nat6 HOw.out) (rowV_nat6 (by rw [HLr.out]; exact HO10.out))).mono ?_
          rintro e v11 ⟨rfl, j, hj⟩
          have hb := Bdraw (B0 v10) j
          rw [← hj] at hb
          clear hj
          replace HC := hidp (HC.out.keep hb)
          replace HX := hidp (HX.out.keep hb)
          replace HO10 := hidp (own_below HO10.out hb)
          replace HD := hidp (HD.out.keep hb)
          clear hb HOw
          clear x0 x1 x2 y0 y1
          obtain ⟨x0, x1, x2⟩ := HC.out.three
          obtain ⟨y0, y1⟩ := HX.out.two
          have HB := hidp HD.out.bel
          go_wp2_with fail
          refine (live_c _).mono ?_
          rintro e w9 ⟨rfl, hb⟩
          replace HB := hidp (Bgo HB.out hb)
          clear hb
          go_wp2
          go_ret
          exact ⟨rfl, HB.out⟩
    · skip
      go_simp
      have hb := Bnew (B0 r0) (.cells #[.int .i64 (p : Int)] 3)
      have HN7 : Hid (W.heap.size + 1 < r0.heap.size) := hidp HX.out.lt
      have HN10 : Hid (g10 < r0.heap.size) := hidp (HO10.out.lt g10 rfl).2
      have HO7 : Hid ((r0.alloc (.cells #[.int .i64 (p : Int)] 3)).ownsRow r0.heap.size 3 1 (.slice (some ⟨r0.heap.size, 0, none⟩) 1 1) 1 [.int .i64 (p : Int)]) := hidp (World.ownsRow_lit (base := r0.heap.size) (e := 3) (size := 1) r0 #[.int .i64 (p : Int)] 1 (Nat.le_refl _) (by unfold maxLen; omega) rfl)
      replace HD := hidp (HD.out.keep2 (G' := GU (GU (fun g => g = W.heap.size ∨ g = W.heap.size + 1) (.slice (some ⟨g10, 0, none⟩) nl c10)) (.slice (some ⟨r0.heap.size, 0, none⟩) 1 1)) hb (fun g hg => by
        rcases hg with hg | hg
        · exact .inl hg
        · exact .inr (HO7.out.lt g hg)))
      replace HC := hidp (HC.out.keep hb)
      replace HX := hidp (HX.out.keep hb)
      replace HO10 := hidp (own_below HO10.out hb)
      clear hb
      generalize hn7 : r0.heap.size = N7 at *
      generalize hw7 : r0.alloc (.cells #[.int .i64 (p : Int)] 3) = v12 at *
      clear hn7 hw7
      refine hK.out _ _ ?_ (fun hHeld => ?_)
      · (try dsimp only)
        first | exact ⟨HC.out.three.1, HC.out.three.2.1, HC.out.three.2.2, HX.out.two.1, HX.out.two.2⟩ | exact hHeld
      clear hK K
      (try simp only [Act.put, gA, gB, gC, sA, sB, sC])
      refine wpAnyH_ready (rs := [4]) (by kernel_rfl) (by simp) ?_
      refine AllReadyH.cons (o := _) rfl (fun K hK => ?_) AllReadyH.nil
      · skip
        go_simp
        refine (lkWalk_c hn40 (by omega) HD.out.at1).mono ?_
        intro e v13 hw
        have HNq : Hid (N7 < v12.heap.size) := hidp (HO7.out.lt N7 rfl).2
        obtain ⟨uw, Av13, rfl, ho, hd4, hs⟩ := HD.out.walk1 hw
        have HLw := HLs4.out.1.walk HF.out HLs4.out.2
        rw [HLw.1] at ho
        generalize walkS n (wholeK13 vals) H.t H.p H.s hd s4 = s5 at hd4 HLw
        have HLs5 : Hid (HasL H.t H.p hd n (wholeK13 vals) s5 (p :: (l1 ++ l2)) ∧ VW n (wholeK13 vals) s5) := hidp ⟨by unfold HasL; rw [HLw.2.2]; exact HLs4.out.1, HLw.2.1⟩
        have HOw := hidp ho
        replace HC := hidp (hs.held (.inl (.inl (.inl rfl))) HC.out)
        replace HX := hidp (hs.held (.inl (.inl (.inr rfl))) HX.out)
        replace HO10 := hidp (hs.own (fun g e => .inl (.inr e)) HO10.out)
        replace HD := hidp (hd4.less (G' := (GU (GU (fun g => g = W.heap.size ∨ g = W.heap.size + 1) (.slice (some ⟨g10, 0, none⟩) nl c10)) (.slice (some ⟨N7, 0, none⟩) 1 1))) (fun g x => .inl x))
        replace HO7 := hidp (hs.own (fun g e => .inr e) HO7.out)
        have HNW : Hid (uw.ownBlock ≠ some N7) := hidp (fun e => by have := (ho.lt _ e).1; have := HNq.out; omega)
        clear hw ho hd4 hs HLw HLs4
        refine hK.out _ _ ?_ (fun hHeld => ?_)
        · (try dsimp only)
          first | exact ⟨HC.out.three.1, HC.out.three.2.1, HC.out.three.2.2, HX.out.two.1, HX.out.two.2⟩ | exact hHeld
        clear hK K
        (try simp only [Act.put, gA, gB, gC, sA, sB, sC])
        refine wpAnyH_ready (rs := [9]) (by kernel_rfl) (by simp) ?_
        refine AllReadyH.cons (o := _) rfl (fun K hK => ?_) AllReadyH.nil
        · skip
          refine step_append_any rfl _ _ 37 rfl N7 3 i0 (.int .i64 0) 1 8 Try.underlying37 hin hz0 hz1 hz2 rfl (by decide) (.slice (some ⟨N7, 0, none⟩) 1 1) 1 [.int .i64 (p : Int)] rfl HO7.out ⟨g10, 0, none⟩ nl c10 (ntVs (l1 ++ l2)) rfl ?c0 ?c1 ?c2 ?c3 ?c4 ?c5 _ rfl ?_
          case c0 => rw [ntVs_len, HLr.out]; omega
          case c1 =>
            intro j u hu
            have hj := getE_lt hu
            rw [ntVs_len, HLr.out] at hj
            rw [add_zero0, HO10.out.cellAt j (by omega), hu]
          case c2 => exact ntVs_one _
          case c3 => unfold maxLen; omega
          case c4 => omega
          case c5 => exact Nat.le_of_lt (HO7.out.lt N7 rfl).2
          intro u9 v14 hown hgr hat hnn
          have HO9 : Hid (v14.ownsRow N7 3 1 u9 (p :: (l1 ++ l2)).length (ntVs (p :: (l1 ++ l2)))) := hidp (by rw [List.length_cons, HLr.out, Nat.add_comm nl 1]; exact hown)
          replace HD := hidp (HD.out.grown (G' := GU (GU (fun g => g = W.heap.size ∨ g = W.heap.size + 1) (.slice (some ⟨g10, 0, none⟩) nl c10)) u9) hgr (fun g e => ⟨.inr e, by
            have : N7 = g := by simpa [Value.ownBlock] using e
            have := HN7.out
            omega⟩) (fun g hg => by
            rcases hg with hg | hg
            · exact .inl (.inl hg)
            · rcases hat with h1 | h1
              · exact .inl (.inr (by rw [← h1]; exact hg))
              · rw [hg] at h1
                injection h1 with h1
                exact .inr ⟨by omega, (hown.lt g hg).2⟩))
          replace HC := hidp (held_grown HC.out hgr (by simp [Value.ownBlock]; have := HN7.out; omega))
          replace HX := hidp (held_grown HX.out hgr (by simp [Value.ownBlock]; have := HN7.out; omega))
          replace HO10 := hidp (own_kept HO10.out (fun g e => hgr.block g (HO10.out.lt g e).2 (by simp [Value.ownBlock] at e ⊢; have := HN10.out; omega)))
          replace HOw := hidp (own_kept HOw.out (fun g e => hgr.block g (HOw.out.lt g e).2 (fun e2 => HNW.out (e.trans e2))))
          clear HNW
          clear hown hgr hat hnn HO7
          refine hK.out _ _ ?_ (fun hHeld => ?_)
          · (try dsimp only)
            first | exact ⟨HC.out.three.1, HC.out.three.2.1, HC.out.three.2.2, HX.out.two.1, HX.out.two.2⟩ | exact hHeld
          clear hK K
          (try simp only [Act.put, gA, gB, gC, sA, sB, sC])
          refine wpAnyH_ready (rs := [10]) (by kernel_rfl) (by simp) ?_
          refine AllReadyH.cons (o := _) rfl (fun K hK => ?_) AllReadyH.nil
          go_simp
          refine (Ints_same _ _ _ _ (rowV_nat6 HOw.out) (rowV_nat6 HO9.out)).mono ?_
          rintro e v15 ⟨rfl, j, hj⟩
          have hb := Bdraw (B0 v14) j
          rw [← hj] at hb
          clear hj
          replace HC := hidp (HC.out.keep hb)
          replace HX := hidp (HX.out.keep hb)
          replace HO10 := hidp (own_below HO10.out hb)
          replace HO9 := hidp (own_below HO9.out hb)
          replace HD := hidp (HD.out.keep hb)
          clear hb HOw
          refine hK.out _ _ ?_ (fun hHeld => ?_)
          · (try dsimp only)
            first | exact ⟨HC.out.three.1, HC.out.three.2.1, HC.out.three.2.2, HX.out.two.1, HX.out.two.2⟩ | exact hHeld
          clear hK K
          (try simp only [Act.put, gA, gB, gC, sA, sB, sC])
          refine tkO (i := 11) (v := ?_) rfl (by kernel_rfl) (fun _ _ _ h => h) (by rfl) ?_ (by assumption) ?_
          rotate_left
          · intro w hSw; (try dsimp only at hSw); go_simp; (try with_reducible rfl)
          (try simp only [Act.put, gA, gB, gC, sA, sB, sC])
          refine wpAnyH_done (by kernel_rfl) ?_ _
          replace HD := hidp (HD.out.less (G' := (GU (fun g => g = W.heap.size ∨ g = W.heap.size + 1) (.slice (some ⟨g10, 0, none⟩) nl c10))) (fun g x => .inl x))
          clear HO9
          have HLs5' := HLs5
          obtain ⟨x0, x1, x2⟩ := HC.out.three
          obtain ⟨y0, y1⟩ := HX.out.two
          go_wp2_with fail
          refine (lkPull_c hn40 (by omega) (p : Int) HD.out.at1).mono ?_
          rintro e v16 ⟨rfl, h1, _⟩
          obtain ⟨Av16, h2, h3⟩ := HD.out.left1 h1.left
          rw [(pgB_nat HPG.out).2] at h2
          have HLn := HasL.pull (l1 := []) (l2 := l1 ++ l2) HLs5'.out.1 HF.out hh30 HLs5'.out.2
          generalize pullS n (wholeK13 vals) H.t H.p H.s hd p s5 = s6 at h2 HLn
          have HLs6 : Hid (HasL H.t H.p hd n (wholeK13 vals) s6 (l1 ++ l2) ∧ VW n (wholeK13 vals) s6) := hidp HLn
          replace HC := hidp (h3.held (.inl (.inl rfl)) HC.out)
          replace HX := hidp (h3.held (.inl (.inr rfl)) HX.out)
          replace HO10 := hidp (h3.own (fun g e => .inr e) HO10.out)
          replace HD := hidp h2
          clear h1 h2 h3 HLn HLs5
          clear x0 x1 x2 y0 y1
          obtain ⟨x0, x1, x2⟩ := HC.out.three
          obtain ⟨y0, y1⟩ := HX.out.two
          clear HLs5'
          go_wp2_with fail
          refine (lkWalk_c hn40 (by omega) HD.out.at1).mono ?_
          intro e v17 hw
          obtain ⟨uw, Av17, rfl, ho, hd4, hs⟩ := HD.out.walk1 hw
          have HLw := HLs6.out.1.walk HF.out HLs6.out.2
          rw [HLw.1] at ho
          generalize walkS n (wholeK13 vals) H.t H.p H.s hd s6 = s7 at hd4 HLw
          have HLs7 : Hid (HasL H.t H.p hd n (wholeK13 vals) s7 (l1 ++ l2) ∧ VW n (wholeK13 vals) s7) := hidp ⟨by unfold HasL; rw [HLw.2.2]; exact HLs6.out.1, HLw.2.1⟩
          have HOw := hidp ho
          replace HC := hidp (hs.held (.inl (.inl rfl)) HC.out)
          replace HX := hidp (hs.held (.inl (.inr rfl)) HX.out)
          replace HO10 := hidp (hs.own (fun g e => .inr e) HO10.out)
          replace HD := hidp (hd4.less (G' := (GU (fun g => g = W.heap.size ∨ g = W.heap.size + 1) (.slice (some ⟨g10, 0, none⟩) nl c10))) (fun g x => .inl x))
          clear hw ho hd4 hs HLw HLs6
          clear x0 x1 x2 y0 y1
          obtain ⟨x0, x1, x2⟩ := HC.out.three
          obtain ⟨y0, y1⟩ := HX.out.two
          go_wp2_with fail
          refine (Ints_same _ _ _ _ (rowV_nat6 HOw.out) (rowV_nat6 (by rw [HLr.out]; exact HO10.out))).mono ?_
          rintro e v18 ⟨rfl, j, hj⟩
          have hb := Bdraw (B0 v17) j
          rw [← hj] at hb
          clear hj
          replace HC := hidp (HC.out.keep hb)
          replace HX := hidp (HX.out.keep hb)
          replace HO10 := hidp (own_below HO10.out hb)
          replace HD := hidp (HD.out.keep hb)
          clear hb HOw
          clear x0 x1 x2 y0 y1
          obtain ⟨x0, x1, x2⟩ := HC.out.three
          obtain ⟨y0, y1⟩ := HX.out.two
          have HB := hidp HD.out.bel
          go_wp2_with fail
          refine (live_c _).mono ?_
          rintro e w9 ⟨rfl, hb⟩
          replace HB := hidp (Bgo HB.out hb)
          clear hb
          go_wp2
          go_ret
          exact ⟨rfl, HB.out⟩

theorem LinkPulls_calls (t q s : Int) (A : Option Addr) (c : Nat) (vals : List Nat) (x y : Int) (hnc : vals.length ≤ c) (hcm : c ≤ maxLen) (h32 : ∀ x ∈ vals, x < 2 ^ 32) (W : World) (HR : Hid (Reads W W.heap.size 1 A vals.length (valVs vals))) :
    Calls Try.prog 4 #[.agg #[.int .i64 t, .int .i64 q, .int .i64 s], .slice A vals.length c, .agg #[.int .i64 x, .int .i64 y]] W (Keeps W) := by
  by_cases hq : q ≤ 64
  · rcases heap13_or W t q s A c vals hnc hcm h32 HR.out with ⟨m, hX⟩ | ⟨H, ad, m, rfl, rfl, rfl, rfl, hV, HV, hv, hto, hX⟩
    · exact LinkPulls_no t q s x y A _ c m hq W (hidp hX)
    · rcases Int.lt_or_le x 2 with h1 | h1
      · exact LinkPulls_low _ _ _ x y _ _ c m hq h1 W (hidp hX)
      · rcases Int.lt_or_le 21 x with h2 | h2
        · exact LinkPulls_high _ _ _ x y _ _ c m hq h2 W (hidp hX)
        · obtain ⟨hd, rfl⟩ := Int.eq_ofNat_of_zero_le (show 0 ≤ x by omega)
          exact LinkPulls_main ad _ c m hd HV (by omega) (by omega) y vals (hidp rfl) (hidp h32) hV (by omega) (told_lists hto (by omega) (by omega)) W HR (hidp hX)
  · exact LinkPulls_few t q s x y A _ c 0 (by omega) W

end Go.Proofs.Ythiobfghanlelaa

namespace Go.Proofs.Ythiobfghanlelaa
open Go.ChangeShapes Go.WideShapes Go.ChangeAt Go.RowKit

set_option maxRecDepth 100000 in
set_option linter.unusedVariables false in
theorem LinkPulls_walk {H : Type} {enc : TypeId × Value → H} {W : World} {base : Nat} {args : Array Value} {ds : List (DataW H)} {ps : List MemPlace}
    (g : Given enc Try.prog Try.f4 W base args ds ps) : Calls Try.prog 4 args W (Keeps W) := by
  have hval := g.ok
  have hA := g.trod
  rw [Try.params4] at hA hval
  obtain ⟨v0, vs0, d0, ds0, p0, q0, hargs, rfl, rfl, h0, r0⟩ := trodAll_cons hA
  obtain ⟨v1, vs1, d1, ds1, p1, q1, rfl, rfl, rfl, h1, r1⟩ := trodAll_cons r0
  obtain ⟨v2, vs2, d2, ds2, p2, q2, rfl, rfl, rfl, h2, r2⟩ := trodAll_cons r1
  obtain ⟨rfl, rfl, rfl⟩ := trodAll_nil r2
  obtain rfl : args = #[v0, v1, v2] := by cases args; simp_all
  obtain ⟨t, p, s, rfl⟩ := open_conf (hval 0 23 v0 rfl rfl) h0
  obtain ⟨A, c, vals, rfl, hc0, hm0, h32_0, hR0⟩ := open_vals Try.underlying24 Try.underlying54 (by kernel_rfl) (hval 1 24 v1 rfl rfl) h1 (fun x hx => g.lt x (List.mem_append_right _ (List.mem_append_left _ hx)))
  obtain ⟨x, y, rfl⟩ := open_two (hval 2 46 v2 rfl rfl) h2
  exact LinkPulls_calls t p s A c vals x y hc0 hm0 h32_0 W (hidp hR0)

set_option maxRecDepth 100000 in
theorem LinkPulls_lifted (os : Os) (started : os.Started) (H : Type) (enc : TypeId × Value → H) :
    ReturnsInHanded {} Try.checked os 4 .any (Rows.linkPullsSpec.pre6 enc Try.prog Try.f4 Rows.linkPullsRow.domain false) (Rows.linkPullsSpec.post enc Try.prog Try.f4 false true false false) :=
  law_lifted (C := Try.checked) (tb := 4) (by kernel_rfl) started (by kernel_rfl) Try.func4
    (ChangeSpec.witness6 (enc := enc) (C := Try.checked) false ⟨#[], #[.agg #[.int .i64 0, .int .i64 0, .int .i64 0], .slice none 0 0, .agg #[.int .i64 0, .int .i64 0]], []⟩ 8 (by kernel_rfl) (by kernel_rfl) (by kernel_rfl) (by kernel_rfl))
    (by kernel_rfl) (by kernel_rfl) rfl (by kernel_rfl) Try.underlying4
    (fun ds h => by
      have h' : ds.length = 3 := h
      match ds, h' with
      | [_, _, _], _ => rfl)
    (fun W base args ds ps g => LinkPulls_walk g)

theorem LinkPulls_holds : Rows.LinkPullsSaid :=
  OpenClaim.holds_of_wide 4 Try.f4 rfl rfl rfl rfl rfl rfl rfl ⟨rfl, rfl, rfl, rfl, rfl⟩ rfl rfl rfl rfl rfl (by kernel_rfl) Try.func4 (by kernel_rfl)
    (of_decide_eq_true (by kernel_rfl)) (by unfold Func.isWrapper; first | (rw [if_pos (by decide +kernel)]; kernel_rfl) | (rw [if_neg (by decide +kernel)]; exact ⟨rfl, rfl⟩))
    (fun os started H enc _ => LinkPulls_lifted os started H enc)
end Go.Proofs.Ythiobfghanlelaa
