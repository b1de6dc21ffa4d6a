/-
  Contracts of head.mustBe and head.isHead: a map of words by their numbers.
-/
import Derived.Test.YtdhpjlbcldcfjaaHeadEnc
import Derived.Test.YtdhpjlbcldcfjaaWords
import Derived.Maps.OwnSet
import Derived.Maps.AppendAt
namespace Go.Proofs.Ytdhpjlbcldcfjaa
open Go.ChangeShapes Go.WideShapes Go.ChangeAt Go.RowKit Go.Maps
set_option linter.unusedVariables false
set_option linter.unusedSimpArgs false

theorem intKey : Keyed Try.prog 3 := int_keyed Try.underlying3
theorem zeroWord (w : World) : (zeroValue 39).run Try.prog w = .ok (.int .u64 0) w := by kernel_rfl
theorem int_eq0 (z : Nat) : ((z : Int) == 0) = decide (z = 0) := by rw [Bool.eq_iff_iff]; simp
theorem u64_wf {n : Nat} (h : n < 2 ^ 64) : (Lit.int .u64 (n : Int)).wf = true := by
  simp only [Lit.wf, Bool.and_eq_true, IntKind.min, IntKind.max, IntKind.signed, IntKind.bits]
  simp
  omega
theorem i64_wf {n : Nat} (h : n < 2 ^ 63) : (Lit.int .i64 (n : Int)).wf = true := by
  simp only [Lit.wf, Bool.and_eq_true, IntKind.min, IntKind.max, IntKind.signed, IntKind.bits]
  simp
  omega

theorem below_grown {w w' : World} (h : Below w.heap.size w w') : w.grownBy w' none := ⟨h.os, h.tape, h.output, h.size, fun i hi _ => h.block i hi⟩
/-- a map holds the words of a list that are told to be there, by their numbers -/
structure MapIs (D : DataW Unit) (L : List Nat) (there : Nat → Bool) (n : Nat) : Prop where
  has : ∀ i : Nat, i < 2 ^ 63 → Maps.has D (.int .i64 (i : Int)) = there i
  at_ : ∀ i : Nat, i < 2 ^ 63 → there i = true → D.atKey (.int .i64 (i : Int)) (.lit (.int .u64 0)) = .lit (.int .u64 ((L.getD i 0 : Nat) : Int))
  tidy : Tidy D
  size : Maps.size D = n

theorem key_ne {i j : Nat} (h : i ≠ j) : (Lit.int .i64 (i : Int)) ≠ .int .i64 (j : Int) := fun e => by
  injection e with _ e
  omega
theorem MapIs.empty (L : List Nat) : MapIs (.map []) L (fun _ => false) 0 :=
  ⟨fun i _ => rfl, fun i _ h => (by cases h), Maps.tidy_empty, rfl⟩
theorem MapIs.put {D : DataW Unit} {L : List Nat} {k : Nat} (h : MapIs D L (fun i => decide (i < k)) k) (hk : k < 2 ^ 62) :
    MapIs (D.put (.int .i64 (k : Int)) (.lit (.int .u64 ((L.getD k 0 : Nat) : Int)))) L (fun i => decide (i < k + 1)) (k + 1) := by
  have hkey : WideAt.IsKeyLit (.int .i64 (k : Int)) := by trivial
  refine ⟨fun i hi => ?_, fun i hi ht => ?_, h.tidy.put hkey _, ?_⟩
  · by_cases e : i = k
    · subst e
      rw [has_put_same h.tidy.isMap hkey]
      simp
    · rw [has_put_other (key_ne e), h.has i hi]
      have : (i < k) ↔ (i < k + 1) := by omega
      simp [this]
  · by_cases e : i = k
    · subst e
      rw [atKey_put_same h.tidy.isMap hkey]
    · rw [atKey_put_other (key_ne e)]
      refine h.at_ i hi ?_
      simp at ht ⊢
      omega
  · rw [size_put h.tidy, h.has k (by omega), h.size]
    simp
theorem MapIs.congr {D : DataW Unit} {L : List Nat} {f g : Nat → Bool} {n m : Nat} (h : MapIs D L f n) (e : ∀ i, f i = g i) (e2 : n = m) : MapIs D L g m := by
  obtain rfl : f = g := funext e
  subst e2
  exact h
/-- what is left behind k words that were looked at -/
def leftB (L l : List Nat) (k i : Nat) : Bool := decide (i < 8 ∧ (k ≤ i ∨ L.getD i 0 ≠ l.getD i 0))
theorem MapIs.del {D : DataW Unit} {L l : List Nat} {k : Nat} (h : MapIs D L (leftB L l k) (8 - alike L l k)) (hk : k < 8) (he : L.getD k 0 = l.getD k 0) :
    MapIs (D.del (.int .i64 (k : Int))) L (leftB L l (k + 1)) (8 - alike L l (k + 1)) := by
  refine ⟨fun i hi => ?_, fun i hi ht => ?_, h.tidy.del _, ?_⟩
  · by_cases e : i = k
    · subst e
      rw [has_del_same]
      unfold leftB
      symm
      refine decide_eq_false ?_
      rintro ⟨_, h | h⟩
      · omega
      · exact h he
    · rw [has_del_other (key_ne e), h.has i hi]
      unfold leftB
      have : (k ≤ i) ↔ (k + 1 ≤ i) := by omega
      simp [this]
  · have hne : i ≠ k := by
      rintro rfl
      unfold leftB at ht
      have ht := of_decide_eq_true ht
      rcases ht.2 with h | h
      · omega
      · exact h he
    rw [atKey_del_other (key_ne hne)]
    refine h.at_ i hi ?_
    unfold leftB at ht ⊢
    have ht := of_decide_eq_true ht
    refine decide_eq_true ⟨ht.1, ?_⟩
    rcases ht.2 with h | h
    · left; omega
    · right; exact h
  · have h1 := size_del (k := .int .i64 (k : Int)) h.tidy
    rw [h.has k (by omega), h.size] at h1
    have h2 : leftB L l k k = true := by unfold leftB; exact decide_eq_true ⟨hk, .inl (Nat.le_refl _)⟩
    rw [h2, if_pos rfl] at h1
    have h3 : alike L l (k + 1) = alike L l k + 1 := by rw [alike, if_pos he]
    omega
theorem MapIs.stay {D : DataW Unit} {L l : List Nat} {k : Nat} (h : MapIs D L (leftB L l k) (8 - alike L l k)) (he : L.getD k 0 ≠ l.getD k 0) :
    MapIs D L (leftB L l (k + 1)) (8 - alike L l (k + 1)) := by
  refine h.congr (fun i => ?_) (by rw [alike, if_neg he]; omega)
  unfold leftB
  by_cases e : i = k
  · subst e
    exact decide_eq_decide.2 ⟨fun h => ⟨h.1, .inr he⟩, fun h => ⟨h.1, .inr he⟩⟩
  · have : (k ≤ i) ↔ (k + 1 ≤ i) := by omega
    simp [this]
theorem MapIs.start {D : DataW Unit} {L : List Nat} (l : List Nat) (h : MapIs D L (fun i => decide (i < 8)) 8) : MapIs D L (leftB L l 0) (8 - alike L l 0) :=
  h.congr (fun i => by unfold leftB; simp) rfl

set_option maxHeartbeats 1600000 in
theorem mustBe_c (t p s : Int) (hr : rightB t p s = true) (w : World) :
    Calls Try.prog 36 #[.agg #[.int .i64 t, .int .i64 p, .int .i64 s]] w fun e w' =>
      ∃ B D, e = .returned (.map (some B)) ∧ w.heap.size ≤ B ∧ w'.ownsMap Try.prog 3 (plainElem Try.prog 39) B 8 D ∧ MapIs D (headL t p s) (fun i => decide (i < 8)) 8 ∧ Below w.heap.size w w' := by
  have hmm := @run_makeMap Try.prog
  have HL := hidp (encL_yes hr)
  have H64 : Hid (∀ k, (headL t p s).getD k 0 < 2 ^ 64) := hidp (fun k => getD_lt (by omega) (headL_lt t p s) k)
  have H8 := hidp (headL_len t p s)
  clear hr
  go_enter Try.func36, Try.ntmps36
  go_wp2_with fail
  refine (hdEncode_c t p s _).mono ?_
  rintro e w1 ⟨u, rfl, hown, hb⟩
  rw [HL.out] at hown
  rw [headL_len] at hown
  obtain ⟨g, cap, rfl, hg1, hg2⟩ := hown.form (by omega)
  have HR := hidp (Reads.of_own hown)
  have hm := (World.ownsMap_made (w.alloc (.cells #[.int .i64 t, .int .i64 p, .int .i64 s] 23)) Try.prog 3 (plainElem (H := Unit) Try.prog 39))
  have hm1 := hm.kept (row := none) (below_grown hb) (by simp)
  clear hown
  go_wp2
  have hz : w.heap.size + 2 ≤ w1.heap.size := by have := hb.size; simp at this; omega
  have hb0 : Below w.heap.size w w1 := Bgo (Bnew (Bnew (B0 _) _) _) hb
  have HL2 : Hid (∀ D : DataW Unit, ∀ k, k < 8 → MapIs D (headL t p s) (fun i => decide (i < k)) k → MapIs (D.put (.int .i64 (k : Int)) (.lit (.int .u64 (((headL t p s).getD k 0 : Nat) : Int)))) (headL t p s) (fun i => decide (i < k + 1)) (k + 1)) :=
    hidp (fun D k hk h => h.put (by omega))
  have HME : Hid (MapIs (.map []) (headL t p s) (fun i => decide (i < 0)) 0) := hidp ((MapIs.empty _).congr (fun i => by simp) rfl)
  rw [show (w.alloc (.cells #[.int .i64 t, .int .i64 p, .int .i64 s] 23)).heap.size = w.heap.size + 1 from by simp] at hm1
  have HM1 := hidp hm1
  have HB0 := hidp hb0
  clear hm hm1 hb hb0 hmm
  go_loopw [4, 5, 10] (fun _ _ i wr => ∃ (k : Nat) (D : DataW Unit), k ≤ 8 ∧ i = .int .i64 k ∧ wr.ownsMap Try.prog 3 (plainElem Try.prog 39) (w.heap.size + 1) k D ∧ Hid (MapIs D (headL t p s) (fun i => decide (i < k)) k) ∧ w1.grownBy wr (some (w.heap.size + 1)) ∧ Below w.heap.size w wr)
    (fun _ _ i _ => 8 - (intOf i).toNat)
  case atStart => exact ⟨0, _, by omega, rfl, HM1.out, HME, World.grownBy.refl _ _, HB0.out⟩
  case round =>
    obtain ⟨k, D, hk, rfl, hown, HI, hgw, hbw⟩ := hrel
    by_cases hlt : k < 8
    · obtain ⟨ad, had, _, hc⟩ := words_at H8.out HR.out hlt
      obtain rfl : ad = ⟨g, 0, none⟩ := by injection had with had; exact had.symm
      have hc1 : wr.cell? ⟨g, k, none⟩ = some (.int .u64 (((headL t p s).getD k 0 : Nat) : Int)) := by
        have h1 := hgw.cell hc (by simp only [ne_eq, Option.some.injEq, block_of_add]; simp at hg1; omega)
        rwa [add_blk] at h1
      have HK := hidp (HL2.out D k hlt HI.out)
      have hx := H64.out k
      generalize (headL t p s).getD k 0 = x at *
      have hkey : keyOf Try.prog 3 (.int .i64 (k : Int)) = some (.int .i64 (k : Int)) := keyOf_int_mk Try.underlying3 (i64_wf (by omega))
      go_wp2_with (first
        | (at_mapUpdate; refine wpList_mapUpdate_own _ rfl _ _ _ 64 rfl 3 39 intKey Try.underlying64 _ (w.heap.size + 1) k _ rfl hown (by unfold maxLen; omega) _ _ _ rfl rfl hkey _ [] (plainElem_int Try.underlying39 (u64_wf hx)) ?_; intro w2 hown1 hgrow1)
        | go_in)
      go_roundw
      case rel => exact ⟨k + 1, _, by omega, by go_num, hown1, HK, hgw.trans hgrow1, hbw.grown hgrow1 hbw.size (fun j hj => by cases hj; omega)⟩
      case measure => simp [intOf]; omega
    · obtain rfl : k = 8 := by omega
      go_wp2
      go_ret
      exact ⟨_, D, rfl, by omega, hown, HI.out, hbw⟩
set_option maxHeartbeats 1600000 in
theorem isHead_c (A : Option Addr) (c : Nat) (l : List Nat) (t p s : Int) (hr : rightB t p s = true) (hl : l.length = 8) (h64 : ∀ x ∈ l, x < 2 ^ 64) (w : World) (hR : Reads w w.heap.size 1 A 8 (wordVs l)) :
    Calls Try.prog 21 #[.slice A 8 c, .agg #[.int .i64 t, .int .i64 p, .int .i64 s]] w fun e w' => e = .returned (.bool (decide (l = headL t p s))) ∧ Below w.heap.size w w' := by
  have HRT := hidp hr
  have H8 := hidp (headL_len t p s)
  have HL8 := hidp hl
  have H64 : Hid (∀ k, (headL t p s).getD k 0 < 2 ^ 64) := hidp (fun k => getD_lt (by omega) (headL_lt t p s) k)
  have HW64 : Hid (∀ k, l.getD k 0 < 2 ^ 64) := hidp (fun k => getD_lt (by omega) h64 k)
  have HR := hidp hR
  clear hr hl h64 hR
  go_enter Try.func21, Try.ntmps21
  go_wp2_with fail
  refine (mustBe_c t p s HRT.out _).mono ?_
  rintro e w1 ⟨b, D0, rfl, hb8, hown0, hI0, hb1⟩
  have hb := Bgo (Bnew (B0 w) (.cells #[.int .i64 t, .int .i64 p, .int .i64 s] 23)) hb1
  have HI0 := hidp (hI0.start l)
  have HO0 := hidp hown0
  have HB := hidp hb
  have HRW := hidp ((HR.out.alloc (Nat.le_refl _) (.cells #[.int .i64 t, .int .i64 p, .int .i64 s] 23)).more (B' := w.heap.size) (Nat.le_refl _))
  clear hI0 hown0 hb hb1
  go_wp2_with fail
  go_loopw [6, 7, 12] (fun _ _ i wr => ∃ (k : Nat) (D : DataW Unit), k ≤ 8 ∧ i = .int .i64 k ∧ wr.ownsMap Try.prog 3 (plainElem Try.prog 39) b 8 D ∧ Hid (MapIs D (headL t p s) (leftB (headL t p s) l k) (8 - alike (headL t p s) l k)) ∧ Below w.heap.size w wr)
    (fun _ _ i _ => 8 - (intOf i).toNat)
  case atStart => exact ⟨0, _, by omega, rfl, HO0.out, HI0, HB.out⟩
  case round =>
    obtain ⟨k, D, hk, rfl, hown, HI, hbw⟩ := hrel
    by_cases hlt : k < 8
    · obtain ⟨ad, rfl, _, hc⟩ := words_at HL8.out (HR.out.below hbw) hlt
      have hat0 := HI.out.at_ k (by omega) (by unfold leftB; exact decide_eq_true ⟨hlt, .inl (Nat.le_refl _)⟩)
      have hx := H64.out k
      have hy := HW64.out k
      have hkey : keyOf Try.prog 3 (.int .i64 (k : Int)) = some (.int .i64 (k : Int)) := keyOf_int_mk Try.underlying3 (i64_wf (by omega))
      by_cases he : (headL t p s).getD k 0 = l.getD k 0
      · have HK := hidp (HI.out.del hlt he)
        rw [he] at hat0
        clear he hx
        generalize l.getD k 0 = x at *
        go_wp2_with (first
          | (at_lookup; refine wpList_lookup_own_int _ rfl _ _ 64 rfl 3 39 .u64 intKey Try.underlying64 Try.underlying39 (zeroWord _) b 8 D rfl hown _ _ rfl hkey ?_
             intro c hat hwc
             obtain rfl : c = (x : Int) := by rw [hat0] at hat; injection hat with hat; injection hat with _ hat; exact hat.symm)
          | (at_delete; refine wpList_delete_own _ rfl _ _ 64 3 rfl 39 intKey Try.underlying64 _ b 8 D rfl hown _ _ rfl hkey ?_; intro w2 hown1 hturn1)
          | go_in)
        go_roundw
        case rel => exact ⟨k + 1, _, by omega, by go_num, hown1, HK, hbw.grown hturn1.grown hbw.size (fun j hj => by cases hj; simp at hb8; omega)⟩
        case measure => simp [intOf]; omega
      · have HK := hidp (HI.out.stay he)
        generalize l.getD k 0 = y at *
        generalize (headL t p s).getD k 0 = x at *
        have t1 : ((x : Int) == y) = false := by simp; omega
        have t2 : (x == y) = false := by simp; omega
        clear he
        go_wp2_with (first
          | (at_lookup; refine wpList_lookup_own_int _ rfl _ _ 64 rfl 3 39 .u64 intKey Try.underlying64 Try.underlying39 (zeroWord _) b 8 D rfl hown _ _ rfl hkey ?_
             intro c hat hwc
             obtain rfl : c = (x : Int) := by rw [hat0] at hat; injection hat with hat; injection hat with _ hat; exact hat.symm)
          | go_in)
        go_roundw
        case rel => exact ⟨k + 1, _, by omega, by go_num, hown, HK, hbw⟩
        case measure => simp [intOf]; omega
    · obtain rfl : k = 8 := by omega
      have HS : Hid (decide (l = headL t p s) = decide (Maps.size D = 0)) := hidp (by
        rw [HI.out.size, decide_eq_decide, alike_eq _ _ H8.out HL8.out]
        exact ⟨fun h => h.symm, fun h => h.symm⟩)
      generalize hsz : Maps.size D = z at *
      have HZ := hidp hsz
      clear hsz
      go_wp2_with (first
        | (at_len; refine wpList_len_own _ rfl _ 64 rfl 3 39 Try.underlying64 _ b 8 D rfl hown ?_; rw [HZ.out])
        | go_in)
      go_ret
      exact ⟨by rw [HS.out]; exact ret_bool (int_eq0 z), hbw⟩
end Go.Proofs.Ytdhpjlbcldcfjaa
