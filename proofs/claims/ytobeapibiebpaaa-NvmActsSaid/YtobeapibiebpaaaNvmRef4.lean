/-
  The document's answer for memories (nacreref10.M): Fence, Pending.
-/
import Derived.Test.YtobeapibiebpaaaNvmRef3
namespace Go.Proofs.Ytobeapibiebpaaa
open Go.ChangeShapes Go.WideShapes Go.ChangeAt Go.RowKit Go.Maps
set_option linter.unusedVariables false
set_option linter.unusedSimpArgs false

theorem pendL_out {o : RGeo} {w : World} {s : Mst} (h : IsRef w o s) {who : Int} (hw : who < 0 ∨ 16 < who) (n : Nat) : pendL n s.P who = [] := by
  unfold pendL
  rw [List.filter_eq_nil_iff]
  intro l _ hl
  have := h.low who l hl
  omega
theorem pendL_succ (n : Nat) (p : Int → Nat → Bool) (who : Int) : pendL (n + 1) p who = pendL n p who ++ (if p who n = true then [n] else []) := by
  unfold pendL
  rw [List.range_succ, List.filter_append]
  congr 1
  by_cases h : p who n = true
  · simp [h]
  · simp [h]
theorem pendL_lt {n : Nat} {p : Int → Nat → Bool} {who : Int} {l : Nat} (h : l ∈ pendL n p who) : l < n := by
  unfold pendL at h
  exact List.mem_range.1 (List.mem_filter.1 h).1
theorem fenceS_out {o : RGeo} {w : World} {s : Mst} (h : IsRef w o s) {who : Int} (hw : who < 0 ∨ 16 < who) : fenceS o.n s who = s := by
  unfold fenceS
  rw [pendL_out h hw, keepAll_nil, delAll_nil]
/-- behind the first l lines of a fence -/
def fenceT (s : Mst) (who : Int) (l : Nat) : Mst := ⟨s.W, keepAll s.W s.K (pendL l s.P who), delAll s.P who (pendL l s.P who)⟩
theorem fenceT_zero (s : Mst) (who : Int) : fenceT s who 0 = s := by
  unfold fenceT
  rw [show pendL 0 s.P who = [] from rfl, keepAll_nil, delAll_nil]
theorem fenceT_P (s : Mst) (who : Int) (l : Nat) : (fenceT s who l).P who l = s.P who l := by
  show (!(who == who && (pendL l s.P who).contains l) && s.P who l) = s.P who l
  have : (pendL l s.P who).contains l = false := by
    cases h : (pendL l s.P who).contains l
    · rfl
    · have := pendL_lt (List.contains_iff_mem.1 h)
      omega
  rw [this]
  simp
theorem fenceT_no {s : Mst} {who : Int} {l : Nat} (h : s.P who l = false) : fenceT s who (l + 1) = fenceT s who l ∧ (pendL (l + 1) s.P who).length = (pendL l s.P who).length := by
  unfold fenceT
  rw [pendL_succ, h]
  simp
theorem fenceT_yes {s : Mst} {who : Int} {l : Nat} (h : s.P who l = true) : fenceT s who (l + 1) = ⟨s.W, keepK s.W (fenceT s who l).K l 255 8, setP (fenceT s who l).P who l false⟩ ∧ (pendL (l + 1) s.P who).length = (pendL l s.P who).length + 1 := by
  unfold fenceT
  rw [pendL_succ, h, if_pos rfl]
  refine ⟨?_, by simp⟩
  show Mst.mk _ _ _ = _
  rw [setP_del, delAll_step, keepAll_step]

theorem RFence_m (o : RGeo) (s : Mst) (who : Int) (w : World) (h : IsRef w o s) :
    Calls Try.prog 34 #[.pointer (some ⟨o.b, 0, none⟩), .int .i64 who] w fun e w' =>
      e = .returned (.int .i64 (((pendL (o.n / 8) s.P who).length : Nat) : Int)) ∧ IsRef w' o (fenceS o.n s who) ∧ Turns o.F w w' := by
  rcases Int.lt_or_le who 0 with h1 | h1
  · rw [pendL_out h (.inl h1), fenceS_out h (.inl h1)]
    have HH := hidp h
    have u1 : decide (who < 0) = true := decide_eq_true h1
    clear h
    go_enter Try.func34, Try.ntmps34
    go_wp2
    go_ret
    exact ⟨rfl, HH.out, T0 _ _⟩
  rcases Int.lt_or_le 16 who with h2 | h2
  · rw [pendL_out h (.inr h2), fenceS_out h (.inr h2)]
    have HH := hidp h
    have u1 : decide (who < 0) = false := decide_eq_false (by omega)
    have u2 : decide ((16 : Int) < who) = true := decide_eq_true h2
    clear h
    go_enter Try.func34, Try.ntmps34
    go_wp2
    go_ret
    exact ⟨rfl, HH.out, T0 _ _⟩
  obtain ⟨a, rfl⟩ := Int.eq_ofNat_of_zero_le h1
  have ha : a < 17 := by omega
  have hnk := h.nk
  have hnm := h.nmax
  have hk8 : o.n / 8 = o.k := by omega
  have HFS : Hid (fenceS o.n s (a : Int) = fenceT s (a : Int) o.k) := hidp (by unfold fenceS fenceT; rw [hk8])
  have u1 : decide ((a : Int) < 0) = false := decide_eq_false (by omega)
  have u2 : decide ((16 : Int) < a) = false := decide_eq_false (by omega)
  have u3 : decide (16 < a) = false := decide_eq_false (by omega)
  have H0 : Hid (IsRef w o (fenceT s (a : Int) 0)) := hidp (by rw [fenceT_zero]; exact h)
  rw [hk8, HFS.out]
  have hkm : o.k ≤ 8192 := by omega
  clear h HFS hk8
  go_enter Try.func34, Try.ntmps34
  go_wp2_with fail
  go_loopw [5, 6] (fun c i wr => ∃ l : Nat, l ≤ o.k ∧ c = .int .i64 (((pendL l s.P (a : Int)).length : Nat) : Int) ∧ i = .int .i64 l ∧ Hid (IsRef wr o (fenceT s (a : Int) l)) ∧ Hid (Turns o.F w wr)) (fun _ i _ => o.k - (intOf i).toNat)
  case atStart => exact ⟨0, by omega, rfl, rfl, H0, hidp (T0 _ _)⟩
  case round =>
    obtain ⟨l, hl, rfl, rfl, HI, HT⟩ := hrel
    clear H0
    have c1 := HI.out.cp ha
    by_cases hlt : l < o.k
    · have c2 := (HI.out.rows a ha).cell hlt
      have hle := pendL_le l s.P (a : Int)
      cases hb : s.P (a : Int) l
      · have HN := hidp (fenceT_no hb)
        have e2 : wr.cell? ⟨o.p a, l, none⟩ = some (.bool false) := by
          rw [c2]
          unfold boolF
          rw [fenceT_P, hb]
        clear c2 hb
        go_wp2
        go_roundw
        case rel => exact ⟨l + 1, by omega, by rw [HN.out.2], by go_num, by rw [HN.out.1]; exact HI, HT⟩
        case measure => simp [intOf]; omega
      · have HN := hidp (fenceT_yes hb)
        have e2 : wr.cell? ⟨o.p a, l, none⟩ = some (.bool true) := by
          rw [c2]
          unfold boolF
          rw [fenceT_P, hb]
        clear c2 hb
        go_wp2_with fail
        refine (REvict_yes o _ l 255 hlt (by omega) (by omega) _ HI.out).mono ?_
        rintro e w2 ⟨rfl, hI2, hT2⟩
        have d1 := hI2.cp ha
        have d2 := (hI2.rows a ha).cell hlt
        have f2 := (hI2.rows a ha).thawed l
        have HI2 := hidp (hI2.setPend ha hlt false)
        have HT2 := hidp (hT2)
        clear hI2 hT2 c1 e2
        generalize (pendL l s.P (a : Int)).length = z at *
        go_wp2
        go_roundw
        case rel => exact ⟨l + 1, by omega, by rw [HN.out.2]; go_num, by go_num, by rw [HN.out.1]; exact HI2, hidp ((HT.out.trans HT2.out).put (p := ⟨o.p a, l, none⟩) (.inr (.inr (.inr ⟨a, ha, rfl⟩))) _)⟩
        case measure => simp [intOf]; omega
    · obtain rfl : l = o.k := by omega
      go_wp2
      go_ret
      exact ⟨rfl, HI.out, HT.out⟩

set_option maxHeartbeats 1600000 in
theorem RPending_m (o : RGeo) (s : Mst) (who : Int) (w : World) (h : IsRef w o s) :
    Calls Try.prog 18 #[.pointer (some ⟨o.b, 0, none⟩), .int .i64 who] w fun e w' =>
      ∃ v, e = .returned v ∧ w'.ownsRow w.heap.size 3 1 v (pendL (o.n / 8) s.P who).length ((castL (pendL (o.n / 8) s.P who)).map (Value.int .i64)) ∧ Below w.heap.size w w' := by
  have hem := World.ownsRow_made (base := w.heap.size) (e := 3) (size := 1) w #[] 0 (Nat.le_refl _) (Nat.zero_le _) (by simp)
  rcases Int.lt_or_le who 0 with h1 | h1
  · rw [pendL_out h (.inl h1)]
    have u1 : decide (who < 0) = true := decide_eq_true h1
    clear h
    go_enter Try.func18, Try.ntmps18
    go_wp2
    go_ret
    exact ⟨_, rfl, hem, Bnew (B0 _) _⟩
  rcases Int.lt_or_le 16 who with h2 | h2
  · rw [pendL_out h (.inr h2)]
    have u1 : decide (who < 0) = false := decide_eq_false (by omega)
    have u2 : decide ((16 : Int) < who) = true := decide_eq_true h2
    clear h
    go_enter Try.func18, Try.ntmps18
    go_wp2
    go_ret
    exact ⟨_, rfl, hem, Bnew (B0 _) _⟩
  obtain ⟨a, rfl⟩ := Int.eq_ofNat_of_zero_le h1
  have ha : a < 17 := by omega
  have hnk := h.nk
  have hnm := h.nmax
  have hk8 : o.n / 8 = o.k := by omega
  rw [hk8]
  have u1 : decide ((a : Int) < 0) = false := decide_eq_false (by omega)
  have u2 : decide ((16 : Int) < a) = false := decide_eq_false (by omega)
  have u3 : decide (16 < a) = false := decide_eq_false (by omega)
  have hkm : o.k ≤ 8192 := by omega
  have HH := hidp h
  have HE := hidp hem
  obtain ⟨i0, hi, hz0, hz1, hz2⟩ := info_parts intInfo
  clear h hk8 hem
  go_enter Try.func18, Try.ntmps18
  go_wp2_with fail
  go_loopw [5, 6] (fun v i wr => ∃ l : Nat, l ≤ o.k ∧ i = .int .i64 l ∧ Hid (wr.ownsRow w.heap.size 3 1 v (pendL l s.P (a : Int)).length ((castL (pendL l s.P (a : Int))).map (Value.int .i64))) ∧ Hid (Below w.heap.size w wr)) (fun _ i _ => o.k - (intOf i).toNat)
  case atStart => exact ⟨0, by omega, rfl, HE, hidp (Bnew (B0 _) _)⟩
  case round =>
    obtain ⟨l, hl, rfl, HR, HB⟩ := hrel
    clear HE
    have HI := hidp (HH.out.keep HB.out)
    have c1 := HI.out.cp ha
    by_cases hlt : l < o.k
    · have c2 := (HI.out.rows a ha).cell hlt
      have hle := pendL_le l s.P (a : Int)
      have hbs := HB.out.size
      unfold boolF at c2
      cases hb : s.P (a : Int) l
      · have HN : Hid (pendL (l + 1) s.P (a : Int) = pendL l s.P (a : Int)) := hidp (by rw [pendL_succ, hb]; simp)
        rw [hb] at c2
        clear hb
        go_wp2
        go_roundw
        case rel => exact ⟨l + 1, by omega, by go_num, by rw [HN.out]; exact HR, HB⟩
        case measure => simp [intOf]; omega
      · have HN : Hid (pendL (l + 1) s.P (a : Int) = pendL l s.P (a : Int) ++ [l]) := hidp (by rw [pendL_succ, hb]; simp)
        rw [hb] at c2
        clear hb
        generalize pendL l s.P (a : Int) = L at *
        go_wp2_with (first
          | (at_builtin
             refine wpList_append_own _ rfl _ _ 43 rfl w.heap.size 3 i0 (.int .i64 0) 1 8 Try.underlying43 hi hz0 hz1 hz2 rfl (by decide) _ _ _ rfl (HR.out.alloc _) ⟨_, 0, none⟩ 1 1 [.int .i64 (l : Int)] rfl rfl ?c1 ?c2 ?c3 ?c4 ?c5 ?_
             case c1 => intro j y hy; rcases j with _ | j; (· simp at hy; subst hy; simp [Addr.add]); (· simp at hy)
             case c2 => simp [Value.oneCell']
             case c3 => unfold maxLen; omega
             case c4 => omega
             case c5 => simp; omega
             intro v' w4 hown4 hgrow4 _)
          | go_in)
        go_roundw
        case rel => exact ⟨l + 1, by omega, by go_num, hidp (by rw [HN.out]; unfold castL at hown4 ⊢; simpa using hown4), hidp ((Bnew HB.out _).grown hgrow4 (by simp; omega) (fun j hj => (HR.out.lt j hj).1))⟩
        case measure => simp [intOf]; omega
    · obtain rfl : l = o.k := by omega
      go_wp2
      go_ret
      exact ⟨_, rfl, HR.out, HB.out⟩
end Go.Proofs.Ytobeapibiebpaaa
