/-
  Contracts of head.Encode and of the document's answer to it.
-/
import Derived.Test.YtdhpjlbcldcfjaaHeadMath
import Derived.Test.YtdhpjlbcldcfjaaSum
import Derived.Test.YtdhpjlbcldcfjaaConfRef
import Derived.Test.YtdhpjlbcldcfjaaPlaceRef
namespace Go.Proofs.Ytdhpjlbcldcfjaa
open Go.ChangeShapes Go.WideShapes Go.ChangeAt Go.RowKit
set_option linter.unusedVariables false
set_option linter.unusedSimpArgs false

theorem wordInfo : (Try.prog.info? 39).map (fun i => (i.zero, i.size, i.bytes)) = some (some (.int .u64 0), 1, 8) := by kernel_rfl

set_option maxHeartbeats 1600000 in
theorem hdEncode_no (t p s : Int) (hr : rightB t p s = false) (w : World) :
    Calls Try.prog 8 #[.agg #[.int .i64 t, .int .i64 p, .int .i64 s]] w fun e w' => e = .returned (.slice none 0 0) ∧ Below w.heap.size w w' := by
  have HR := hidp hr
  clear hr
  go_enter Try.func8, Try.ntmps8
  go_wp2_with fail
  refine (cfWord_c t p s _).mono ?_
  rintro e w1 ⟨rfl, hb1⟩
  rw [HR.out]
  go_wp2
  go_ret
  exact ⟨by first | rfl | trivial, Bgo (Bnew (B0 _) _) hb1⟩

set_option maxHeartbeats 1600000 in
theorem hdEncode_yes (t p s : Int) (hr : rightB t p s = true) (w : World) :
    Calls Try.prog 8 #[.agg #[.int .i64 t, .int .i64 p, .int .i64 s]] w fun e w' => ∃ u, e = .returned u ∧ w'.ownsRow w.heap.size 39 1 u 8 (wordVs (headL t p s)) ∧ Below w.heap.size w w' := by
  have HR := hidp hr
  obtain ⟨x, hx⟩ : ∃ x, wordN t p s = x := ⟨_, rfl⟩
  have hx64 := word_lt t p s
  rw [hx] at hx64
  have HX := hidp hx
  obtain ⟨b0, b1, _⟩ := words_bounds t p s
  obtain ⟨m, hm⟩ : ∃ m : Nat, lW t p s = m := ⟨(lW t p s).toNat, by omega⟩
  have HM := hidp hm
  have hm1 : m ≤ 8296 := by omega
  clear hr hx hm b0 b1
  have hc := Held.new w 23 #[.int .i64 t, .int .i64 p, .int .i64 s]
  go_enter Try.func8, Try.ntmps8
  go_wp2_with fail
  refine (cfWord_c t p s _).mono ?_
  rintro e w1 ⟨rfl, hb1⟩
  rw [HR.out, HX.out]
  have hc1 := hc.keep hb1
  obtain ⟨x0, x1, x2⟩ := hc1.three
  go_wp2_with fail
  refine (plWords_c t p s _).mono ?_
  rintro e w2 ⟨rfl, hb2⟩
  rw [HM.out]
  have hb12 := Bgo (Bgo (Bnew (B0 w) (.cells #[.int .i64 t, .int .i64 p, .int .i64 s] 23)) hb1) hb2
  have H7 := hidp (show head7 t p s = [0x4e41435245303031, 1, x, m, 0, 0, 0] by unfold head7; rw [HX.out, HM.out, Int.toNat_natCast])
  have hown := World.ownsRow_lit (base := w.heap.size) (e := 39) (size := 1) w2 #[.int .u64 0x4e41435245303031, .int .u64 1, .int .u64 x, .int .u64 m, .int .u64 0, .int .u64 0, .int .u64 0] 7 hb12.size (by unfold maxLen; omega) rfl
  have HO := hidp hown
  have HF : Hid (Reads (w2.alloc (.cells #[.int .u64 0x4e41435245303031, .int .u64 1, .int .u64 x, .int .u64 m, .int .u64 0, .int .u64 0, .int .u64 0] 39)) (w2.heap.size + 1) 1 (some ⟨w2.heap.size, 0, none⟩) 7 (wordVs [0x4e41435245303031, 1, x, m, 0, 0, 0])) :=
    hidp ((Reads.of_own hown).more (by simp))
  have HB := hidp hb12
  have H64 : ∀ y ∈ [0x4e41435245303031, 1, x, m, 0, 0, 0], y < 2 ^ 64 := by
    have := head7_lt t p s
    rw [H7.out] at this
    exact this
  obtain ⟨c, hcs⟩ : ∃ c, SM.ofN [0x4e41435245303031, 1, x, m, 0, 0, 0] = c := ⟨_, rfl⟩
  have hcl : c < 2 ^ 32 := by rw [← hcs]; exact ofN_lt _
  have HC := hidp hcs
  obtain ⟨i0, hi, hz0, hz1, hz2⟩ := info_parts wordInfo
  clear hown hb12 hcs hb1 hb2
  go_wp2_with fail
  refine (Of_n _ _ 7 [0x4e41435245303031, 1, x, m, 0, 0, 0] (hidp rfl) (hidp H64) (hidp (by unfold maxLen; omega)) _ _ HF.out).mono ?_
  rintro e w3 ⟨rfl, rfl⟩
  rw [HC.out]
  go_wp2_with
    (at_builtin
     refine wpList_append_own _ rfl _ _ 25 rfl w.heap.size 39 i0 (.int .u64 0) 1 8 Try.underlying25 hi hz0 hz1 hz2 rfl (by decide) _ _ _ rfl (HO.out.alloc _) ⟨_, 0, none⟩ 1 1 [.int .u64 (c : Int)] rfl rfl ?c1 ?c2 ?c3 ?c4 ?c5 ?_
     case c1 => intro j y hy; rcases j with _ | j; (· simp at hy; subst hy; simp [Addr.add]); (· simp at hy)
     case c2 => simp [Value.oneCell']
     case c3 => unfold maxLen; simp
     case c4 => simp
     case c5 => have := HB.out.size; simp; omega
     intro u1 w4 hown1 hgrow _)
  go_ret
  have hE : wordVs (headL t p s) = [Value.int .u64 0x4e41435245303031, .int .u64 1, .int .u64 x, .int .u64 m, .int .u64 0, .int .u64 0, .int .u64 0] ++ [.int .u64 (c : Int)] := by
    unfold headL
    rw [H7.out, HC.out]
    rfl
  refine ⟨u1, rfl, by rw [hE]; exact hown1, ?_⟩
  have hb := ((HB.out.alloc HB.out.size (.cells #[.int .u64 0x4e41435245303031, .int .u64 1, .int .u64 x, .int .u64 m, .int .u64 0, .int .u64 0, .int .u64 0] 39)).alloc (by have := HB.out.size; simp; omega) (.cells #[.int .u64 (c : Int)] 39))
  exact hb.grown hgrow (by have := HB.out.size; simp; omega) (fun j hj => (HO.out.lt j hj).1)

/-- what Encode leaves: a list of its own, or nil -/
def Gives (L : List Nat) (w : World) (e : Ending) (w' : World) : Prop :=
  ∃ u, e = .returned u ∧ w'.ownsRow w.heap.size 39 1 u L.length (wordVs L) ∧ Below w.heap.size w w'
theorem hdEncode_c (t p s : Int) (w : World) : Calls Try.prog 8 #[.agg #[.int .i64 t, .int .i64 p, .int .i64 s]] w (Gives (encL t p s) w) := by
  cases hr : rightB t p s
  · refine (hdEncode_no t p s hr w).mono ?_
    rintro e w' ⟨rfl, hb⟩
    rw [encL_no hr]
    exact ⟨_, rfl, World.ownsRow_nil _ _ _ _, hb⟩
  · refine (hdEncode_yes t p s hr w).mono ?_
    rintro e w' h
    rw [encL_yes hr]
    exact h

set_option maxHeartbeats 1600000 in
theorem r8Encode_no (t p s : Int) (hr : rightB t p s = false) (w : World) :
    Calls Try.prog 9 #[.agg #[.int .i64 t, .int .i64 p, .int .i64 s]] w fun e w' => e = .returned (.slice none 0 0) ∧ Below w.heap.size w w' := by
  have HR := hidp hr
  clear hr
  go_enter Try.func9, Try.ntmps9
  go_wp2_with fail
  refine (r4Word_c t p s _).mono ?_
  rintro e w1 ⟨rfl, hb1⟩
  rw [HR.out]
  go_wp2
  go_ret
  exact ⟨by first | rfl | trivial, Bgo (Bnew (B0 _) _) hb1⟩

set_option maxHeartbeats 1600000 in
theorem r8Encode_yes (t p s : Int) (hr : rightB t p s = true) (w : World) :
    Calls Try.prog 9 #[.agg #[.int .i64 t, .int .i64 p, .int .i64 s]] w fun e w' => ∃ u, e = .returned u ∧ w'.ownsRow w.heap.size 39 1 u 8 (wordVs (headL t p s)) ∧ Below w.heap.size w w' := by
  have HR := hidp hr
  obtain ⟨x, hx⟩ : ∃ x, wordN t p s = x := ⟨_, rfl⟩
  have hx64 := word_lt t p s
  rw [hx] at hx64
  have HX := hidp hx
  obtain ⟨b0, b1, _⟩ := words_bounds t p s
  obtain ⟨m, hm⟩ : ∃ m : Nat, lW t p s = m := ⟨(lW t p s).toNat, by omega⟩
  have HM := hidp hm
  have hm1 : m ≤ 8296 := by omega
  clear hr hx hm b0 b1
  have hc := Held.new w 23 #[.int .i64 t, .int .i64 p, .int .i64 s]
  go_enter Try.func9, Try.ntmps9
  go_wp2_with fail
  refine (r4Word_c t p s _).mono ?_
  rintro e w1 ⟨rfl, hb1⟩
  rw [HR.out, HX.out]
  have hc1 := hc.keep hb1
  obtain ⟨x0, x1, x2⟩ := hc1.three
  go_wp2_with fail
  refine (r7Words_c t p s _).mono ?_
  rintro e w2 ⟨rfl, hb2⟩
  rw [HM.out]
  have hb12 := Bgo (Bgo (Bnew (B0 w) (.cells #[.int .i64 t, .int .i64 p, .int .i64 s] 23)) hb1) hb2
  have H7 := hidp (show head7 t p s = [0x4e41435245303031, 1, x, m, 0, 0, 0] by unfold head7; rw [HX.out, HM.out, Int.toNat_natCast])
  have hown := World.ownsRow_lit (base := w.heap.size) (e := 39) (size := 1) w2 #[.int .u64 0x4e41435245303031, .int .u64 1, .int .u64 x, .int .u64 m, .int .u64 0, .int .u64 0, .int .u64 0] 7 hb12.size (by unfold maxLen; omega) rfl
  have HO := hidp hown
  have HF : Hid (Reads (w2.alloc (.cells #[.int .u64 0x4e41435245303031, .int .u64 1, .int .u64 x, .int .u64 m, .int .u64 0, .int .u64 0, .int .u64 0] 39)) (w2.heap.size + 1) 1 (some ⟨w2.heap.size, 0, none⟩) 7 (wordVs [0x4e41435245303031, 1, x, m, 0, 0, 0])) :=
    hidp ((Reads.of_own hown).more (by simp))
  have HB := hidp hb12
  have H64 : ∀ y ∈ [0x4e41435245303031, 1, x, m, 0, 0, 0], y < 2 ^ 64 := by
    have := head7_lt t p s
    rw [H7.out] at this
    exact this
  obtain ⟨c, hcs⟩ : ∃ c, SM.ofN [0x4e41435245303031, 1, x, m, 0, 0, 0] = c := ⟨_, rfl⟩
  have hcl : c < 2 ^ 32 := by rw [← hcs]; exact ofN_lt _
  have HC := hidp hcs
  obtain ⟨i0, hi, hz0, hz1, hz2⟩ := info_parts wordInfo
  clear hown hb12 hcs hb1 hb2
  go_wp2_with fail
  refine (ROf_n _ _ 7 [0x4e41435245303031, 1, x, m, 0, 0, 0] (hidp rfl) (hidp H64) (hidp (by unfold maxLen; omega)) _ _ HF.out).mono ?_
  rintro e w3 ⟨rfl, rfl⟩
  rw [HC.out]
  go_wp2_with
    (at_builtin
     refine wpList_append_own _ rfl _ _ 25 rfl w.heap.size 39 i0 (.int .u64 0) 1 8 Try.underlying25 hi hz0 hz1 hz2 rfl (by decide) _ _ _ rfl (HO.out.alloc _) ⟨_, 0, none⟩ 1 1 [.int .u64 (c : Int)] rfl rfl ?c1 ?c2 ?c3 ?c4 ?c5 ?_
     case c1 => intro j y hy; rcases j with _ | j; (· simp at hy; subst hy; simp [Addr.add]); (· simp at hy)
     case c2 => simp [Value.oneCell']
     case c3 => unfold maxLen; simp
     case c4 => simp
     case c5 => have := HB.out.size; simp; omega
     intro u1 w4 hown1 hgrow _)
  go_ret
  have hE : wordVs (headL t p s) = [Value.int .u64 0x4e41435245303031, .int .u64 1, .int .u64 x, .int .u64 m, .int .u64 0, .int .u64 0, .int .u64 0] ++ [.int .u64 (c : Int)] := by
    unfold headL
    rw [H7.out, HC.out]
    rfl
  refine ⟨u1, rfl, by rw [hE]; exact hown1, ?_⟩
  have hb := ((HB.out.alloc HB.out.size (.cells #[.int .u64 0x4e41435245303031, .int .u64 1, .int .u64 x, .int .u64 m, .int .u64 0, .int .u64 0, .int .u64 0] 39)).alloc (by have := HB.out.size; simp; omega) (.cells #[.int .u64 (c : Int)] 39))
  exact hb.grown hgrow (by have := HB.out.size; simp; omega) (fun j hj => (HO.out.lt j hj).1)

theorem r8Encode_c (t p s : Int) (w : World) : Calls Try.prog 9 #[.agg #[.int .i64 t, .int .i64 p, .int .i64 s]] w (Gives (encL t p s) w) := by
  cases hr : rightB t p s
  · refine (r8Encode_no t p s hr w).mono ?_
    rintro e w' ⟨rfl, hb⟩
    rw [encL_no hr]
    exact ⟨_, rfl, World.ownsRow_nil _ _ _ _, hb⟩
  · refine (r8Encode_yes t p s hr w).mono ?_
    rintro e w' h
    rw [encL_yes hr]
    exact h

end Go.Proofs.Ytdhpjlbcldcfjaa
