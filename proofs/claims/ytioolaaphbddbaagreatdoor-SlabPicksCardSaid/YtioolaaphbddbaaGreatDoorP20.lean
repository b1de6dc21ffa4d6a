/-
  What the document's Pick does. Written by slab/gen_ref.py.
-/
import Derived.Test.YtioolaaphbddbaaGreatDoorP18
import Derived.Test.YtioolaaphbddbaaGreatDoorP19
import Derived.Test.YtioolaaphbddbaaGreatDoorP14
import Derived.Test.YtioolaaphbddbaaGreatDoorP17
import Derived.Test.YtioolaaphbddbaaGreatDoorP07
import Derived.Test.YtioolaaphbddbaaGreatDoorP03
import Derived.Test.YtioolaaphbddbaaGreatDoorP16
import Derived.Test.YtioolaaphbddbaaGreatDoorKit
import Derived.Lib.SmallJoins
import Derived.OpenShut
namespace Go.Proofs.YtioolaaphbddbaaGreatDoor
open Go.ChangeShapes Go.WideShapes Go.ChangeAt Go.RowKit Go.Maps
set_option linter.unusedVariables false
set_option linter.unusedSimpArgs false
set_option maxRecDepth 100000
section
theorem freeTo_more (v : Nat) {i m : Nat} (h : i ≤ m) : ∃ r, HM.freeTo v m = HM.freeTo v i ++ r := by
  induction m with
  | zero => exact ⟨[], by rw [show i = 0 by omega]; simp⟩
  | succ m ih =>
    by_cases e : i = m + 1
    · exact ⟨[], by rw [e]; simp⟩
    · obtain ⟨r, hr⟩ := ih (by omega)
      rw [HM.freeTo_succ, hr]
      exact ⟨_, List.append_assoc ..⟩
theorem someF_at {v m wn i nl : Nat} (hi : i ≤ m) (hl : (HM.freeTo v i).length = nl) (hn : nl ≤ wn) (he : i = m ∨ nl = wn) : someF v m wn = HM.freeTo v i := by
  unfold someF
  rcases he with rfl | rfl
  · exact List.take_of_length_le (by omega)
  · obtain ⟨r, hr⟩ := freeTo_more v hi
    rw [hr, List.take_append_of_le_length (by omega), List.take_of_length_le (by omega)]
theorem layB_add {v m i j : Nat} (hv : v < 2 ^ 32) (hi : i ≤ 32) (hj : j < (HM.freeTo v i).length) : layB v ((HM.freeTo v i).take (j + 1)) = layB v ((HM.freeTo v i).take j) + 2 ^ (HM.freeTo v i).getD j 0 ∧ (HM.freeTo v i).getD j 0 < 32 ∧ layB v ((HM.freeTo v i).take (j + 1)) < 2 ^ 32 := by
  have hup : (HM.freeTo v i).Pairwise (· < ·) := by unfold HM.freeTo; exact List.pairwise_lt_range.filter _
  have hmem : ∀ x ∈ HM.freeTo v i, x < i ∧ v.testBit x = false := fun x hx => by
    unfold HM.freeTo at hx
    rw [List.mem_filter, List.mem_range] at hx
    simpa using hx
  generalize HM.freeTo v i = l at *
  have hg : l.getD j 0 = l[j] := by simp [List.getD, List.getElem?_eq_getElem hj]
  have hm := hmem _ (List.getElem_mem hj)
  rw [hg]
  have e : layB v (l.take (j + 1)) = layB v (l.take j) ||| 2 ^ l[j] := by
    unfold layB
    rw [List.take_add_one, List.getElem?_eq_getElem hj, List.foldl_append]
    rfl
  refine ⟨?_, by omega, layB_lt _ _ hv (fun x hx => by have := (hmem x (List.mem_of_mem_take hx)).1; omega)⟩
  rw [e]
  refine (add_or16 ?_).symm
  apply Nat.eq_of_testBit_eq
  intro x
  rw [Nat.testBit_and, Nat.zero_testBit, testBit_pow]
  by_cases hx : x = l[j]
  · subst hx
    rw [layB_bit, hm.2, Bool.false_or]
    have : ¬ l[j] ∈ l.take j := fun hin => by
      obtain ⟨y, hy, e2⟩ := List.mem_iff_getElem.1 hin
      have hy2 : y < j := by rw [List.length_take] at hy; omega
      rw [List.getElem_take] at e2
      have := List.pairwise_iff_getElem.1 hup y j (by omega) hj hy2
      omega
    rw [decide_eq_false this]
    rfl
  · rw [decide_eq_false hx, Bool.and_false]
section
variable {O : Ob} {w0 ws w w' : World} {A G : Nat → Prop} {N : Nat} {T : TypeId} {cs : Array Value} {base : Nat} {u : Value} {nl : Nat} {xs : List Value} {st s' : Vst}
theorem RowW.drew (h : RowW O w0 A G ws N T cs base u nl xs st w) : RowW O w0 A G ws N T cs base u nl xs st w.drew := h.keep (Bdrew (B0 w))
theorem RowW.endAll {c : Nat} {B : Option Addr} {l : List Nat} {p : Nat} (h : RowW O w0 A G ws N T cs ws.heap.size (.slice B nl c) nl (ntVs l) st w) (hl : l.length = nl) : PickEnd O w0 A G (some (p, l)) st ws (.returned (.tuple #[.int .i64 (p : Int), .slice B nl c, .bool true])) w := by
  have h1 := h.end_ (Nat.le_refl nl) (by rw [List.length_take]; omega)
  rw [List.take_of_length_le (by omega)] at h1
  exact ⟨_, rfl, h1⟩
end
section
variable {base b n : Nat} {wh all : Bool} {K : Nat → Option Nat} {st : Vst} {w w0 : World} {A G : Nat → Prop} {t q s k : Int}

set_option maxHeartbeats 6400000 in
theorem r16Pick_bad_k0 (want : Int) (hb : k < 0) (h : (rOb base b n all K).At w0 A G st w) :
    Calls Tryz.prog 13 #[.pointer (some ⟨b, 0, none⟩), .agg #[.int .i64 t, .int .i64 q, .int .i64 s], .int .i64 k, .int .i64 want] w (PickEnd (rOb base b n all K) w0 A G none st w) := by
  have W0 := hidp ((WL.start h).new 23 #[.int .i64 t, .int .i64 q, .int .i64 s])
  have t0 : decide (k < (0 : Int)) = true := decide_eq_true hb
  clear h
  go_enter Tryz.func13, Tryz.ntmps13
  obtain ⟨x0, x1, x2⟩ := W0.out.h0.three
  go_wp2
  go_ret3
  exact PickEnd.no W0.out.fin.1 W0.out.fin.2

set_option maxHeartbeats 6400000 in
theorem r16Pick_bad_k8 (want : Int) (hb : 8 < k) (h : (rOb base b n all K).At w0 A G st w) :
    Calls Tryz.prog 13 #[.pointer (some ⟨b, 0, none⟩), .agg #[.int .i64 t, .int .i64 q, .int .i64 s], .int .i64 k, .int .i64 want] w (PickEnd (rOb base b n all K) w0 A G none st w) := by
  have W0 := hidp ((WL.start h).new 23 #[.int .i64 t, .int .i64 q, .int .i64 s])
  have t0 : decide (k < (0 : Int)) = false := decide_eq_false (by omega)
  have t1 : decide ((8 : Int) < k) = true := decide_eq_true hb
  clear h
  go_enter Tryz.func13, Tryz.ntmps13
  obtain ⟨x0, x1, x2⟩ := W0.out.h0.three
  go_wp2
  go_ret3
  exact PickEnd.no W0.out.fin.1 W0.out.fin.2

set_option maxHeartbeats 6400000 in
theorem r16Pick_bad_low (want : Int) (k0 : 0 ≤ k) (k8 : k ≤ 8) (hb : want < 1) (h : (rOb base b n all K).At w0 A G st w) :
    Calls Tryz.prog 13 #[.pointer (some ⟨b, 0, none⟩), .agg #[.int .i64 t, .int .i64 q, .int .i64 s], .int .i64 k, .int .i64 want] w (PickEnd (rOb base b n all K) w0 A G none st w) := by
  have W0 := hidp ((WL.start h).new 23 #[.int .i64 t, .int .i64 q, .int .i64 s])
  have t0 : decide (k < (0 : Int)) = false := decide_eq_false (by omega)
  have t1 : decide ((8 : Int) < k) = false := decide_eq_false (by omega)
  have t2 : decide (want < (1 : Int)) = true := decide_eq_true hb
  clear h
  go_enter Tryz.func13, Tryz.ntmps13
  obtain ⟨x0, x1, x2⟩ := W0.out.h0.three
  go_wp2
  go_ret3
  exact PickEnd.no W0.out.fin.1 W0.out.fin.2

set_option maxHeartbeats 6400000 in
theorem r16Pick_bad_high (want : Int) (k0 : 0 ≤ k) (k8 : k ≤ 8) (hb : 4 < want) (h : (rOb base b n all K).At w0 A G st w) :
    Calls Tryz.prog 13 #[.pointer (some ⟨b, 0, none⟩), .agg #[.int .i64 t, .int .i64 q, .int .i64 s], .int .i64 k, .int .i64 want] w (PickEnd (rOb base b n all K) w0 A G none st w) := by
  have W0 := hidp ((WL.start h).new 23 #[.int .i64 t, .int .i64 q, .int .i64 s])
  have t0 : decide (k < (0 : Int)) = false := decide_eq_false (by omega)
  have t1 : decide ((8 : Int) < k) = false := decide_eq_false (by omega)
  have t2 : decide (want < (1 : Int)) = false := decide_eq_false (by omega)
  have t3 : decide ((4 : Int) < want) = true := decide_eq_true hb
  clear h
  go_enter Tryz.func13, Tryz.ntmps13
  obtain ⟨x0, x1, x2⟩ := W0.out.h0.three
  go_wp2
  go_ret3
  exact PickEnd.no W0.out.fin.1 W0.out.fin.2

set_option maxHeartbeats 6400000 in
theorem r16Pick_none (hn : n < 2 ^ 40) (hq : q ≤ 1024) (k0 : 0 ≤ k) (k8 : k ≤ 8) (wn : Nat) (hw : 1 ≤ wn) (hw2 : wn ≤ 4) (hr : getV n K st (13 + k) = 0) (s1 : Vst) (ht : takeI n K t q s 1 (getS n K st (13 + k)) = (none, s1)) (h : (rOb base b n all K).At w0 A G st w) :
    Calls Tryz.prog 13 #[.pointer (some ⟨b, 0, none⟩), .agg #[.int .i64 t, .int .i64 q, .int .i64 s], .int .i64 k, .int .i64 (wn : Int)] w (PickEnd (rOb base b n all K) w0 A G none s1 w) := by
  have W0 := hidp ((WL.start h).new 23 #[.int .i64 t, .int .i64 q, .int .i64 s])
  have hq2 : q ≤ 2 ^ 31 := by omega
  have t0 : decide (k < (0 : Int)) = false := decide_eq_false (by omega)
  have t1 : decide ((8 : Int) < k) = false := decide_eq_false (by omega)
  have t2 : decide ((wn : Int) < (1 : Int)) = false := decide_eq_false (by omega)
  have t3 : decide ((4 : Int) < (wn : Int)) = false := decide_eq_false (by omega)
  have HRK := hidp (rack_at k0 k8)
  have HRV := hidp hr
  have HTK := hidp ht
  clear h hr ht
  go_enter Tryz.func13, Tryz.ntmps13
  obtain ⟨x0, x1, x2⟩ := W0.out.h0.three
  go_wp2_with fail
  refine (r7Rack_c k _).mono ?_; rintro e w9 ⟨rfl, rfl⟩; rw [HRK.out]
  go_wp2_with fail
  refine (rGetA hn _ W0.out.at_).mono ?_; rintro e w1 ⟨rfl, h1, h2⟩; have W1 := hidp (W0.out.call h1 h2); clear h1 h2 W0; rw [HRV.out]
  obtain ⟨x0, x1, x2⟩ := W1.out.h0.three
  go_wp2_with fail
  refine (r15Take_c hn hq 1 W1.out.at_).mono ?_; rintro e w2 ⟨rfl, h1, h2⟩; have W2 := hidp (W1.out.call h1 h2); clear h1 h2 W1; rw [HTK.out] at W2 ⊢; dsimp only [foundI, Option.isSome] at W2 ⊢
  obtain ⟨x0, x1, x2⟩ := W2.out.h0.three
  go_wp2
  go_ret3
  exact PickEnd.no W2.out.fin.1 W2.out.fin.2

set_option maxHeartbeats 6400000 in
theorem r16Pick_rack (hn : n < 2 ^ 40) (hq : q ≤ 1024) (k0 : 0 ≤ k) (k8 : k ≤ 8) (wn : Nat) (hw : 1 ≤ wn) (hw2 : wn ≤ 4) (p : Nat) (hr : getV n K st (13 + k) = p + 1) (v : Nat) (hv : getV n K (getS n K st (13 + k)) (pageI t q s (p : Int) 5) = v) (h : (rOb base b n all K).At w0 A G st w) :
    Calls Tryz.prog 13 #[.pointer (some ⟨b, 0, none⟩), .agg #[.int .i64 t, .int .i64 q, .int .i64 s], .int .i64 k, .int .i64 (wn : Int)] w (PickEnd (rOb base b n all K) w0 A G (pickAt n K t q s k p wn (getS n K st (13 + k))).1 (pickAt n K t q s k p wn (getS n K st (13 + k))).2 w) := by
  have W0 := hidp ((WL.start h).new 23 #[.int .i64 t, .int .i64 q, .int .i64 s])
  have hq2 : q ≤ 2 ^ 31 := by omega
  have t0 : decide (k < (0 : Int)) = false := decide_eq_false (by omega)
  have t1 : decide ((8 : Int) < k) = false := decide_eq_false (by omega)
  have t2 : decide ((wn : Int) < (1 : Int)) = false := decide_eq_false (by omega)
  have t3 : decide ((4 : Int) < (wn : Int)) = false := decide_eq_false (by omega)
  have HRK := hidp (rack_at k0 k8)
  obtain ⟨i0, hin, hz0, hz1, hz2⟩ := info_parts intInfo
  obtain ⟨m, hm⟩ : ∃ m, slotI k = m := ⟨_, rfl⟩
  have hm32 : m ≤ 32 := by rw [← hm]; exact slotI_le k
  have HMM := hidp hm
  have HGL : Hid (∀ g, G g → g < w.heap.size) := hidp (fun g x => h.own_lt g x)
  obtain ⟨rv, hrv⟩ : ∃ rv, p + 1 = rv := ⟨_, rfl⟩
  have hrl := rAt_lt h (13 + k)
  rw [hr, hrv] at hrl
  rw [hrv] at hr
  have HRV := hidp hr
  have v1 : (rv : Int) - 1 = (p : Int) := by omega
  have v2 : IntKind.i64.wrap ((rv : Int) - 1) = (p : Int) := by rw [v1]; exact i64_same (by omega) (by omega)
  have v3 : ((rv : Int) == 0) = false := by simp; omega
  have HV := hidp hv
  clear h hr hrv hm hv
  go_enter Tryz.func13, Tryz.ntmps13
  obtain ⟨x0, x1, x2⟩ := W0.out.h0.three
  go_wp2_with fail
  refine (r7Rack_c k _).mono ?_; rintro e w9 ⟨rfl, rfl⟩; rw [HRK.out]
  go_wp2_with fail
  refine (rGetA hn _ W0.out.at_).mono ?_; rintro e w1 ⟨rfl, h1, h2⟩; have W1 := hidp (W0.out.call h1 h2); clear h1 h2 W0; rw [HRV.out]
  obtain ⟨x0, x1, x2⟩ := W1.out.h0.three
  go_wp2_with fail
  refine (r7Taken_c t q s (p : Int) _).mono ?_; rintro e w2 ⟨rfl, hb⟩; have W2 := hidp (W1.out.keep hb); clear hb W1
  obtain ⟨x0, x1, x2⟩ := W2.out.h0.three
  have hv32 : v < 2 ^ 32 := by rw [← HV.out]; exact rAt_lt W2.out.at_ _
  go_wp2_with fail
  refine (rGetA hn _ W2.out.at_).mono ?_; rintro e w3 ⟨rfl, h1, h2⟩; have W3 := hidp (W2.out.call h1 h2); clear h1 h2 W2; rw [HV.out]
  obtain ⟨x0, x1, x2⟩ := W3.out.h0.three
  have HO0 : Hid ((w3.alloc (.cells #[] 3)).ownsRow w3.heap.size 3 1 (.slice (some ⟨w3.heap.size, 0, none⟩) 0 0) 0 []) := hidp (World.ownsRow_lit (base := w3.heap.size) (e := 3) (size := 1) w3 #[] 0 (by simp) (by unfold maxLen; omega) rfl)
  have HR := hidp (W3.out.row (Bnew (B0 _) (.cells #[] 3)) HO0.out)
  clear W3 HO0 x0 x1 x2
  obtain ⟨x0, x1, x2⟩ := HR.out.held.three
  go_wp2_with fail
  generalize hW1 : w3.alloc (.cells #[] 3) = W1 at *
  generalize hN1 : w3.heap.size = N1 at *
  clear hW1 hN1
  go_loopw [16, 17] (fun u16 u17 wr => ∃ (i nl : Nat), u17 = .int .i64 (i : Int) ∧ i ≤ m ∧ nl ≤ wn ∧ Hid ((HM.freeTo v i).length = nl) ∧ (∃ B c, u16 = .slice B nl c ∧ nl ≤ c ∧ c ≤ 9223372036854775807) ∧ Hid (RowW (rOb base b n all K) w0 A G w w.heap.size 23 #[.int .i64 t, .int .i64 q, .int .i64 s] w.heap.size u16 nl (ntVs (HM.freeTo v i)) (getS n K (getS n K st (13 + k)) (pageI t q s (p : Int) 5)) wr)) (fun _ u17 _ => m - (intOf u17).toNat)
  case atStart => exact ⟨0, 0, by go_num, by omega, by omega, hidp rfl, ⟨_, _, rfl, by omega, by omega⟩, HR⟩
  case round =>
    clear HR x0 x1 x2
    obtain ⟨i, nl, rfl, hi, hnl, HLN, ⟨B, cu, rfl, hcu0, hcu⟩, HR⟩ := hrel
    obtain ⟨x0, x1, x2⟩ := HR.out.held.three
    have hsl : ∀ W : World, Calls Tryz.prog 22 #[.int .i64 k] W fun e w' => e = .returned (.int .i64 (m : Int)) ∧ W = w' := fun W => by have := r5Slots_c k (by omega) (by omega) W; rw [HMM.out] at this; exact this
    by_cases hgo : i < m ∧ nl < wn
    · have t4 : decide ((i : Int) < (m : Int)) = true := decide_eq_true (by omega)
      have t5 : decide ((nl : Int) < (wn : Int)) = true := decide_eq_true (by omega)
      have hi32 : i < 32 := by omega
      have HLE := hidp hnl
      cases hbit : v.testBit i
      · have HT := hidp ((congrArg v.testBit (Int.toNat_natCast i)).trans hbit)
        have HZ := hidp (HM.freeTo_succ v i)
        have HBT := hidp hbit
        clear hbit
        go_wp2_with (first
          | (go_at_call 22; refine (hsl _).mono ?_; rintro e w9 ⟨rfl, rfl⟩)
          | (go_at_call 47; refine (Bit_c v i _ hv32 (by omega) (by omega) HT.out _).mono ?_; rintro e w9 ⟨rfl, rfl⟩)
          | (at_builtin
             refine wpList_append_lies _ rfl _ _ 33 rfl w.heap.size 3 i0 (.int .i64 0) 1 8 Tryz.underlying33 hin hz0 hz1 hz2 rfl (by decide) (.slice B nl cu) nl (ntVs (HM.freeTo v i)) rfl (own_below HR.out.own (Bnew (B0 _) _)) ⟨_, 0, none⟩ 1 1 [.int .i64 (i : Int)] rfl rfl ?c1 ?c2 (by omega) ?c3 ?c4 ?c5 _ rfl ?_
             case c1 => intro j y hy; rcases j with _ | j; (· simp at hy; subst hy; simp [Addr.add]); (· simp at hy)
             case c2 => simp [Value.oneCell']
             case c3 => unfold maxLen; omega
             case c4 => omega
             case c5 => have := HR.out.held.lt; simp; omega
             intro g cap w4 hown4 hgrow4 hat4 hlt4
             have HR4 := hidp (row_grown HR.out.at_ HR.out.own HR.out.held (heldOwn_ne HR.out.held HR.out.own (by decide)) HR.out.stay hown4 hgrow4 hat4 hlt4 HGL.out)
             clear hown4 hgrow4 hat4 hlt4 x0 x1 x2
             obtain ⟨x0, x1, x2⟩ := HR4.out.held.three)
          | fail)
        have hcc := own_caps9 HR4.out.own
        go_roundw
        case rel => exact ⟨i + 1, nl + 1, by go_num, by omega, by omega, hidp (by rw [HZ.out, HBT.out, List.length_append, HLN.out]; rfl), ⟨_, _, rfl, hcc.1, hcc.2⟩, hidp (by rw [HZ.out, HBT.out]; rw [if_neg (by simp), ntVs_snoc]; exact HR4.out)⟩
        case measure => simp [intOf]; omega
      · have HT := hidp ((congrArg v.testBit (Int.toNat_natCast i)).trans hbit)
        have HZ := hidp (HM.freeTo_succ v i)
        have HBT := hidp hbit
        clear hbit
        go_wp2_with (first
          | (go_at_call 22; refine (hsl _).mono ?_; rintro e w9 ⟨rfl, rfl⟩)
          | (go_at_call 47; refine (Bit_c v i _ hv32 (by omega) (by omega) HT.out _).mono ?_; rintro e w9 ⟨rfl, rfl⟩)
          | fail)
        go_roundw
        case rel => exact ⟨i + 1, nl, by go_num, by omega, by omega, hidp (by rw [HZ.out, HBT.out, if_pos rfl, List.append_nil]; exact HLN.out), ⟨_, _, rfl, hcu0, hcu⟩, hidp (by rw [HZ.out, HBT.out, if_pos rfl, List.append_nil]; exact HR.out)⟩
        case measure => simp [intOf]; omega
    · have HSF := hidp (someF_at (v := v) hi HLN.out hnl (by omega))
      have HLA := hidp (fun (j : Nat) (hj : j < nl) => layB_add (m := m) hv32 (show i ≤ 32 by omega) (show j < (HM.freeTo v i).length by rw [HLN.out]; exact hj))
      have HL32 : Hid (∀ x ∈ HM.freeTo v i, x < 32) := hidp (fun x hx => by unfold HM.freeTo at hx; rw [List.mem_filter, List.mem_range] at hx; omega)
      generalize HM.freeTo v i = l at *
      by_cases hn0 : nl = 0
      · subst hn0
        have hl0 : l = [] := List.eq_nil_of_length_eq_zero HLN.out
        have hpe : pickAt n K t q s k p wn (getS n K st (13 + k)) = (none, (getS n K (getS n K st (13 + k)) (pageI t q s (p : Int) 5))) := pickAt_none HV.out (by rw [HMM.out, HSF.out, hl0])
        have HPE := hidp hpe
        clear hpe hl0
        have him : ¬ i < m := fun e => hgo ⟨e, by omega⟩
        have t4 : decide ((i : Int) < (m : Int)) = false := decide_eq_false (by omega)
        have t5 : decide (i < m) = false := decide_eq_false him
        clear hgo him
        go_wp2_with (first | (go_at_call 22; refine (hsl _).mono ?_; rintro e w9 ⟨rfl, rfl⟩) | fail)
        go_ret3
        rw [HPE.out]
        exact PickEnd.no HR.out.fin0.1 HR.out.fin0.2
      · have hl0 : l ≠ [] := fun e => hn0 (by rw [← HLN.out, e]; rfl)
        obtain ⟨u, hu⟩ : ∃ u, layB v l = u := ⟨_, rfl⟩
        obtain ⟨bb, hbb⟩ : ∃ bb, fullB u k = bb := ⟨_, rfl⟩
        have hu32 : u < 2 ^ 32 := by rw [← hu]; exact layB_lt _ _ hv32 HL32.out
        have hpe : pickAt n K t q s k p wn (getS n K st (13 + k)) = (some (p, l), bitsS n K t q s k p u bb (getS n K st (13 + k))) := by rw [pickAt_some HV.out (by rw [HMM.out, HSF.out]) hl0, hu, hbb]
        have HPE := hidp hpe
        have HU : Hid (layB v (l.take nl) = u) := hidp (by rw [← hu, List.take_of_length_le (by rw [HLN.out]; exact Nat.le_refl _)])
        have HBB := hidp hbb
        clear hpe hl0 hu hbb
        obtain ⟨g2, c3, hg2, _⟩ := HR.out.own.form (by omega)
        injection hg2 with hg3 _ hg4
        subst hg3
        clear hg4
        have t8 : ((nl : Int) == 0) = false := by simp; omega
        have HCL : Hid (∀ j, j < nl → wr.cell? ⟨g2, j, none⟩ = some (.int .i64 ((l.getD j 0 : Nat) : Int))) := hidp (fun j hj => by have := row_cells HR.out.own (Nat.le_refl nl) HLN.out j hj; rw [Nat.zero_add, List.take_of_length_le (by rw [HLN.out]; exact Nat.le_refl _)] at this; exact this)
        obtain ⟨b0, hb0⟩ : ∃ b0, decide ((i : Int) < (m : Int)) = b0 := ⟨_, rfl⟩
        have hb1 : decide (i < m) = b0 := by rw [← hb0]; exact decide_eq_decide.2 (by omega)
        have t5 : b0 = true → decide ((nl : Int) < (wn : Int)) = false := fun e => by rw [e] at hb0; have := of_decide_eq_true hb0; exact decide_eq_false (by omega)
        cases b0
        all_goals
          have t6 := hidp t5
          clear t5
          try (have t7 := t6.out rfl)
          try (have t7n : decide (nl < wn) = false := by rw [← t7]; exact decide_eq_decide.2 (by omega))
          go_wp2_with (first | (go_at_call 22; refine (hsl _).mono ?_; rintro e w9 ⟨rfl, rfl⟩) | fail)
          skip
          go_loopw [15, 18] (fun u15 u18 wr2 => ∃ j : Nat, j ≤ nl ∧ u18 = .int .i64 (j : Int) ∧ u15 = .int .u32 ((layB v (l.take j) : Nat) : Int) ∧ wr2 = wr) (fun _ u18 _ => nl - (intOf u18).toNat)
          case atStart => exact ⟨0, by omega, by go_num, by simp [layB], rfl⟩
          case round =>
            obtain ⟨j, hj, rfl, rfl, rfl⟩ := hrel
            by_cases hlt : j < nl
            · have c1 := HCL.out j hlt
              obtain ⟨e1, e2, e3⟩ := HLA.out j hlt
              have HE := hidp e1
              rw [e1] at e3
              clear e1
              generalize l.getD j 0 = x at *
              generalize layB v (l.take j) = y at *
              obtain ⟨z, hz⟩ : ∃ z, 2 ^ x = z := ⟨_, rfl⟩
              have HBI : Hid (∀ W, Calls Tryz.prog 48 #[.int .i64 (x : Int)] W fun e w' => e = .returned (.int .u32 (z : Int)) ∧ W = w') := hidp (fun W => by rw [← hz]; exact r16Bit_c x e2 W)
              rw [hz] at HE e3
              clear hz
              have v9 : IntKind.u32.wrap ((y : Int) + (z : Int)) = (y : Int) + (z : Int) := wrap32_small (by omega) (by omega)
              go_wp2_with (first | (go_at_call 48; refine (HBI.out _).mono ?_; rintro e w9 ⟨rfl, rfl⟩) | fail)
              go_roundw
              case rel => exact ⟨j + 1, by omega, by go_num, by rw [HE.out]; go_num, by first | rfl | trivial⟩
              case measure => simp [intOf]; omega
            · obtain rfl : j = nl := by omega
              rw [HU.out]
              go_wp2_with fail
              have W0 := HR
              clear HR
              refine (r7Taken_c t q s (p : Int) _).mono ?_; rintro e w1 ⟨rfl, hb⟩; have W1 := hidp (W0.out.keep hb); clear hb W0
              obtain ⟨x0, x1, x2⟩ := W1.out.h0.three
              go_wp2_with fail
              refine (rPutA hn _ u hu32 W1.out.at_).mono ?_; rintro e w2 ⟨rfl, h1, h2⟩; have W2 := hidp (W1.out.call h1 h2); clear h1 h2 W1
              obtain ⟨x0, x1, x2⟩ := W2.out.h0.three
              go_wp2_with fail
              refine (r16Full_c u k k0 k8 hu32 _).mono ?_; rintro e w9 ⟨rfl, rfl⟩; rw [HBB.out]
              cases bb with
              | false =>
                go_wp2
                go_ret3
                rw [HPE.out]
                exact W2.out.endAll HLN.out
              | true =>
                go_wp2_with fail
                refine wp_region_held_drew (S := (fun w' => w'.cell? ⟨w.heap.size, 0, none⟩ = some (.int .i64 t) ∧ w'.cell? ⟨w.heap.size, 1, none⟩ = some (.int .i64 q) ∧ w'.cell? ⟨w.heap.size, 2, none⟩ = some (.int .i64 s))) (by kernel_rfl) ?_ (fun hHeld => ?_)
                · (try dsimp only)
                  exact ⟨W2.out.drew.h0.three.1, W2.out.drew.h0.three.2.1, W2.out.drew.h0.three.2.2⟩
                refine tkz 0 ?_
                refine tkz 1 ?_
                refine tkz 2 ?_
                refine tkz 4 ?_
                refine wpAnyH_ready (rs := [3]) (by kernel_rfl) (by simp) ?_
                refine AllReadyH.cons (o := _) rfl (fun K hK => ?_) AllReadyH.nil
                go_simp
                refine (r7Rack_c k _).mono ?_; rintro e w9 ⟨rfl, rfl⟩; rw [HRK.out]
                refine hK.out _ _ ?_ (fun hHeld => ?_)
                · (try dsimp only)
                  exact ⟨W2.out.drew.h0.three.1, W2.out.drew.h0.three.2.1, W2.out.drew.h0.three.2.2⟩
                clear hK K
                (try simp only [Act.put, gA, gB, gC, sA, sB, sC])
                refine wpAnyH_ready (rs := [5]) (by kernel_rfl) (by simp) ?_
                refine AllReadyH.cons (o := _) rfl (fun K hK => ?_) AllReadyH.nil
                go_simp
                refine (rkPull_c hn hq2 (p : Int) W2.out.drew.at_).mono ?_; rintro e w3 ⟨rfl, h1, h2⟩; have W3 := hidp (W2.out.drew.call h1 h2); clear h1 h2 W2
                refine hK.out _ _ ?_ (fun hHeld => ?_)
                · (try dsimp only)
                  exact ⟨W3.out.h0.three.1, W3.out.h0.three.2.1, W3.out.h0.three.2.2⟩
                clear hK K
                (try simp only [Act.put, gA, gB, gC, sA, sB, sC])
                refine wpAnyH_done (by kernel_rfl) ?_ _
                obtain ⟨x0, x1, x2⟩ := W3.out.h0.three
                go_wp2
                go_ret3
                rw [HPE.out]
                exact W3.out.endAll HLN.out

set_option maxHeartbeats 6400000 in
theorem r16Pick_fresh (hn : n < 2 ^ 40) (hq : q ≤ 1024) (k0 : 0 ≤ k) (k8 : k ≤ 8) (wn : Nat) (hw : 1 ≤ wn) (hw2 : wn ≤ 4) (p : Nat) (hr : getV n K st (13 + k) = 0) (s1 s2 : Vst) (ht : takeI n K t q s 1 (getS n K st (13 + k)) = (some p, s1)) (hs2 : slabS n K t q s k p s1 = s2) (v : Nat) (hv : getV n K s2 (pageI t q s (p : Int) 5) = v) (h : (rOb base b n all K).At w0 A G st w) :
    Calls Tryz.prog 13 #[.pointer (some ⟨b, 0, none⟩), .agg #[.int .i64 t, .int .i64 q, .int .i64 s], .int .i64 k, .int .i64 (wn : Int)] w (PickEnd (rOb base b n all K) w0 A G (pickAt n K t q s k p wn s2).1 (pickAt n K t q s k p wn s2).2 w) := by
  have W0 := hidp ((WL.start h).new 23 #[.int .i64 t, .int .i64 q, .int .i64 s])
  have hq2 : q ≤ 2 ^ 31 := by omega
  have t0 : decide (k < (0 : Int)) = false := decide_eq_false (by omega)
  have t1 : decide ((8 : Int) < k) = false := decide_eq_false (by omega)
  have t2 : decide ((wn : Int) < (1 : Int)) = false := decide_eq_false (by omega)
  have t3 : decide ((4 : Int) < (wn : Int)) = false := decide_eq_false (by omega)
  have HRK := hidp (rack_at k0 k8)
  obtain ⟨i0, hin, hz0, hz1, hz2⟩ := info_parts intInfo
  obtain ⟨m, hm⟩ : ∃ m, slotI k = m := ⟨_, rfl⟩
  have hm32 : m ≤ 32 := by rw [← hm]; exact slotI_le k
  have HMM := hidp hm
  have HGL : Hid (∀ g, G g → g < w.heap.size) := hidp (fun g x => h.own_lt g x)
  have HRV := hidp hr
  have HTK := hidp ht
  have HS2 := hidp hs2
  unfold slabS at HS2
  have HV := hidp hv
  have HIV := hidp (infoV_lt 3 1 k)
  clear h hr ht hm hv hs2
  go_enter Tryz.func13, Tryz.ntmps13
  obtain ⟨x0, x1, x2⟩ := W0.out.h0.three
  go_wp2_with fail
  refine (r7Rack_c k _).mono ?_; rintro e w9 ⟨rfl, rfl⟩; rw [HRK.out]
  go_wp2_with fail
  refine (rGetA hn _ W0.out.at_).mono ?_; rintro e w1 ⟨rfl, h1, h2⟩; have W1 := hidp (W0.out.call h1 h2); clear h1 h2 W0; rw [HRV.out]
  obtain ⟨x0, x1, x2⟩ := W1.out.h0.three
  go_wp2_with fail
  refine (r15Take_c hn hq 1 W1.out.at_).mono ?_; rintro e w2 ⟨rfl, h1, h2⟩; have W2 := hidp (W1.out.call h1 h2); clear h1 h2 W1; rw [HTK.out] at W2 ⊢; dsimp only [foundI, Option.isSome] at W2 ⊢
  obtain ⟨x0, x1, x2⟩ := W2.out.h0.three
  go_wp2_with fail
  refine (r7Info_c t q s (p : Int) _).mono ?_; rintro e w3 ⟨rfl, hb⟩; have W3 := hidp (W2.out.keep hb); clear hb W2
  obtain ⟨x0, x1, x2⟩ := W3.out.h0.three
  go_wp2_with fail
  refine (r9Value_c 3 1 k _).mono ?_; rintro e w4 ⟨rfl, hb⟩; have W4 := hidp (W3.out.keep hb); clear hb W3
  obtain ⟨x0, x1, x2⟩ := W4.out.h0.three
  go_wp2_with fail
  refine (rPutA hn _ _ HIV.out W4.out.at_).mono ?_; rintro e w5 ⟨rfl, h1, h2⟩; have W5 := hidp (W4.out.call h1 h2); clear h1 h2 W4
  obtain ⟨x0, x1, x2⟩ := W5.out.h0.three
  go_wp2_with fail
  refine wp_region_held_drew (S := (fun w' => w'.cell? ⟨w.heap.size, 0, none⟩ = some (.int .i64 t) ∧ w'.cell? ⟨w.heap.size, 1, none⟩ = some (.int .i64 q) ∧ w'.cell? ⟨w.heap.size, 2, none⟩ = some (.int .i64 s))) (by kernel_rfl) ?_ (fun hHeld => ?_)
  · (try dsimp only)
    exact ⟨W5.out.drew.h0.three.1, W5.out.drew.h0.three.2.1, W5.out.drew.h0.three.2.2⟩
  refine tkz 0 ?_
  refine tkz 1 ?_
  refine tkz 2 ?_
  refine tkz 4 ?_
  refine wpAnyH_ready (rs := [3]) (by kernel_rfl) (by simp) ?_
  refine AllReadyH.cons (o := _) rfl (fun K hK => ?_) AllReadyH.nil
  go_simp
  refine (r7Rack_c k _).mono ?_; rintro e w9 ⟨rfl, rfl⟩; rw [HRK.out]
  refine hK.out _ _ ?_ (fun hHeld => ?_)
  · (try dsimp only)
    exact ⟨W5.out.drew.h0.three.1, W5.out.drew.h0.three.2.1, W5.out.drew.h0.three.2.2⟩
  clear hK K
  (try simp only [Act.put, gA, gB, gC, sA, sB, sC])
  refine wpAnyH_ready (rs := [5]) (by kernel_rfl) (by simp) ?_
  refine AllReadyH.cons (o := _) rfl (fun K hK => ?_) AllReadyH.nil
  go_simp
  refine (rkPush_c hn hq2 (p : Int) W5.out.drew.at_).mono ?_; rintro e w6 ⟨rfl, h1, h2⟩; have W6 := hidp (W5.out.drew.call h1 h2); clear h1 h2 W5; rw [HS2.out] at W6
  refine hK.out _ _ ?_ (fun hHeld => ?_)
  · (try dsimp only)
    exact ⟨W6.out.h0.three.1, W6.out.h0.three.2.1, W6.out.h0.three.2.2⟩
  clear hK K
  (try simp only [Act.put, gA, gB, gC, sA, sB, sC])
  refine wpAnyH_done (by kernel_rfl) ?_ _
  obtain ⟨x0, x1, x2⟩ := W6.out.h0.three
  go_wp2_with fail
  refine (r7Taken_c t q s (p : Int) _).mono ?_; rintro e w7 ⟨rfl, hb⟩; have W7 := hidp (W6.out.keep hb); clear hb W6
  obtain ⟨x0, x1, x2⟩ := W7.out.h0.three
  have hv32 : v < 2 ^ 32 := by rw [← HV.out]; exact rAt_lt W7.out.at_ _
  go_wp2_with fail
  refine (rGetA hn _ W7.out.at_).mono ?_; rintro e w8 ⟨rfl, h1, h2⟩; have W8 := hidp (W7.out.call h1 h2); clear h1 h2 W7; rw [HV.out]
  obtain ⟨x0, x1, x2⟩ := W8.out.h0.three
  have HO0 : Hid ((w8.alloc (.cells #[] 3)).ownsRow w8.heap.size 3 1 (.slice (some ⟨w8.heap.size, 0, none⟩) 0 0) 0 []) := hidp (World.ownsRow_lit (base := w8.heap.size) (e := 3) (size := 1) w8 #[] 0 (by simp) (by unfold maxLen; omega) rfl)
  have HR := hidp (W8.out.row (Bnew (B0 _) (.cells #[] 3)) HO0.out)
  clear W8 HO0 x0 x1 x2
  obtain ⟨x0, x1, x2⟩ := HR.out.held.three
  go_wp2_with fail
  generalize hW1 : w8.alloc (.cells #[] 3) = W1 at *
  generalize hN1 : w8.heap.size = N1 at *
  clear hW1 hN1
  go_loopw [16, 17] (fun u16 u17 wr => ∃ (i nl : Nat), u17 = .int .i64 (i : Int) ∧ i ≤ m ∧ nl ≤ wn ∧ Hid ((HM.freeTo v i).length = nl) ∧ (∃ B c, u16 = .slice B nl c ∧ nl ≤ c ∧ c ≤ 9223372036854775807) ∧ Hid (RowW (rOb base b n all K) w0 A G w w.heap.size 23 #[.int .i64 t, .int .i64 q, .int .i64 s] w.heap.size u16 nl (ntVs (HM.freeTo v i)) (getS n K s2 (pageI t q s (p : Int) 5)) wr)) (fun _ u17 _ => m - (intOf u17).toNat)
  case atStart => exact ⟨0, 0, by go_num, by omega, by omega, hidp rfl, ⟨_, _, rfl, by omega, by omega⟩, HR⟩
  case round =>
    clear HR x0 x1 x2
    obtain ⟨i, nl, rfl, hi, hnl, HLN, ⟨B, cu, rfl, hcu0, hcu⟩, HR⟩ := hrel
    obtain ⟨x0, x1, x2⟩ := HR.out.held.three
    have hsl : ∀ W : World, Calls Tryz.prog 22 #[.int .i64 k] W fun e w' => e = .returned (.int .i64 (m : Int)) ∧ W = w' := fun W => by have := r5Slots_c k (by omega) (by omega) W; rw [HMM.out] at this; exact this
    by_cases hgo : i < m ∧ nl < wn
    · have t4 : decide ((i : Int) < (m : Int)) = true := decide_eq_true (by omega)
      have t5 : decide ((nl : Int) < (wn : Int)) = true := decide_eq_true (by omega)
      have hi32 : i < 32 := by omega
      have HLE := hidp hnl
      cases hbit : v.testBit i
      · have HT := hidp ((congrArg v.testBit (Int.toNat_natCast i)).trans hbit)
        have HZ := hidp (HM.freeTo_succ v i)
        have HBT := hidp hbit
        clear hbit
        go_wp2_with (first
          | (go_at_call 22; refine (hsl _).mono ?_; rintro e w9 ⟨rfl, rfl⟩)
          | (go_at_call 47; refine (Bit_c v i _ hv32 (by omega) (by omega) HT.out _).mono ?_; rintro e w9 ⟨rfl, rfl⟩)
          | (at_builtin
             refine wpList_append_lies _ rfl _ _ 33 rfl w.heap.size 3 i0 (.int .i64 0) 1 8 Tryz.underlying33 hin hz0 hz1 hz2 rfl (by decide) (.slice B nl cu) nl (ntVs (HM.freeTo v i)) rfl (own_below HR.out.own (Bnew (B0 _) _)) ⟨_, 0, none⟩ 1 1 [.int .i64 (i : Int)] rfl rfl ?c1 ?c2 (by omega) ?c3 ?c4 ?c5 _ rfl ?_
             case c1 => intro j y hy; rcases j with _ | j; (· simp at hy; subst hy; simp [Addr.add]); (· simp at hy)
             case c2 => simp [Value.oneCell']
             case c3 => unfold maxLen; omega
             case c4 => omega
             case c5 => have := HR.out.held.lt; simp; omega
             intro g cap w4 hown4 hgrow4 hat4 hlt4
             have HR4 := hidp (row_grown HR.out.at_ HR.out.own HR.out.held (heldOwn_ne HR.out.held HR.out.own (by decide)) HR.out.stay hown4 hgrow4 hat4 hlt4 HGL.out)
             clear hown4 hgrow4 hat4 hlt4 x0 x1 x2
             obtain ⟨x0, x1, x2⟩ := HR4.out.held.three)
          | fail)
        have hcc := own_caps9 HR4.out.own
        go_roundw
        case rel => exact ⟨i + 1, nl + 1, by go_num, by omega, by omega, hidp (by rw [HZ.out, HBT.out, List.length_append, HLN.out]; rfl), ⟨_, _, rfl, hcc.1, hcc.2⟩, hidp (by rw [HZ.out, HBT.out]; rw [if_neg (by simp), ntVs_snoc]; exact HR4.out)⟩
        case measure => simp [intOf]; omega
      · have HT := hidp ((congrArg v.testBit (Int.toNat_natCast i)).trans hbit)
        have HZ := hidp (HM.freeTo_succ v i)
        have HBT := hidp hbit
        clear hbit
        go_wp2_with (first
          | (go_at_call 22; refine (hsl _).mono ?_; rintro e w9 ⟨rfl, rfl⟩)
          | (go_at_call 47; refine (Bit_c v i _ hv32 (by omega) (by omega) HT.out _).mono ?_; rintro e w9 ⟨rfl, rfl⟩)
          | fail)
        go_roundw
        case rel => exact ⟨i + 1, nl, by go_num, by omega, by omega, hidp (by rw [HZ.out, HBT.out, if_pos rfl, List.append_nil]; exact HLN.out), ⟨_, _, rfl, hcu0, hcu⟩, hidp (by rw [HZ.out, HBT.out, if_pos rfl, List.append_nil]; exact HR.out)⟩
        case measure => simp [intOf]; omega
    · have HSF := hidp (someF_at (v := v) hi HLN.out hnl (by omega))
      have HLA := hidp (fun (j : Nat) (hj : j < nl) => layB_add (m := m) hv32 (show i ≤ 32 by omega) (show j < (HM.freeTo v i).length by rw [HLN.out]; exact hj))
      have HL32 : Hid (∀ x ∈ HM.freeTo v i, x < 32) := hidp (fun x hx => by unfold HM.freeTo at hx; rw [List.mem_filter, List.mem_range] at hx; omega)
      generalize HM.freeTo v i = l at *
      by_cases hn0 : nl = 0
      · subst hn0
        have hl0 : l = [] := List.eq_nil_of_length_eq_zero HLN.out
        have hpe : pickAt n K t q s k p wn s2 = (none, (getS n K s2 (pageI t q s (p : Int) 5))) := pickAt_none HV.out (by rw [HMM.out, HSF.out, hl0])
        have HPE := hidp hpe
        clear hpe hl0
        have him : ¬ i < m := fun e => hgo ⟨e, by omega⟩
        have t4 : decide ((i : Int) < (m : Int)) = false := decide_eq_false (by omega)
        have t5 : decide (i < m) = false := decide_eq_false him
        clear hgo him
        go_wp2_with (first | (go_at_call 22; refine (hsl _).mono ?_; rintro e w9 ⟨rfl, rfl⟩) | fail)
        go_ret3
        rw [HPE.out]
        exact PickEnd.no HR.out.fin0.1 HR.out.fin0.2
      · have hl0 : l ≠ [] := fun e => hn0 (by rw [← HLN.out, e]; rfl)
        obtain ⟨u, hu⟩ : ∃ u, layB v l = u := ⟨_, rfl⟩
        obtain ⟨bb, hbb⟩ : ∃ bb, fullB u k = bb := ⟨_, rfl⟩
        have hu32 : u < 2 ^ 32 := by rw [← hu]; exact layB_lt _ _ hv32 HL32.out
        have hpe : pickAt n K t q s k p wn s2 = (some (p, l), bitsS n K t q s k p u bb s2) := by rw [pickAt_some HV.out (by rw [HMM.out, HSF.out]) hl0, hu, hbb]
        have HPE := hidp hpe
        have HU : Hid (layB v (l.take nl) = u) := hidp (by rw [← hu, List.take_of_length_le (by rw [HLN.out]; exact Nat.le_refl _)])
        have HBB := hidp hbb
        clear hpe hl0 hu hbb
        obtain ⟨g2, c3, hg2, _⟩ := HR.out.own.form (by omega)
        injection hg2 with hg3 _ hg4
        subst hg3
        clear hg4
        have t8 : ((nl : Int) == 0) = false := by simp; omega
        have HCL : Hid (∀ j, j < nl → wr.cell? ⟨g2, j, none⟩ = some (.int .i64 ((l.getD j 0 : Nat) : Int))) := hidp (fun j hj => by have := row_cells HR.out.own (Nat.le_refl nl) HLN.out j hj; rw [Nat.zero_add, List.take_of_length_le (by rw [HLN.out]; exact Nat.le_refl _)] at this; exact this)
        obtain ⟨b0, hb0⟩ : ∃ b0, decide ((i : Int) < (m : Int)) = b0 := ⟨_, rfl⟩
        have hb1 : decide (i < m) = b0 := by rw [← hb0]; exact decide_eq_decide.2 (by omega)
        have t5 : b0 = true → decide ((nl : Int) < (wn : Int)) = false := fun e => by rw [e] at hb0; have := of_decide_eq_true hb0; exact decide_eq_false (by omega)
        cases b0
        all_goals
          have t6 := hidp t5
          clear t5
          try (have t7 := t6.out rfl)
          try (have t7n : decide (nl < wn) = false := by rw [← t7]; exact decide_eq_decide.2 (by omega))
          go_wp2_with (first | (go_at_call 22; refine (hsl _).mono ?_; rintro e w9 ⟨rfl, rfl⟩) | fail)
          skip
          go_loopw [15, 18] (fun u15 u18 wr2 => ∃ j : Nat, j ≤ nl ∧ u18 = .int .i64 (j : Int) ∧ u15 = .int .u32 ((layB v (l.take j) : Nat) : Int) ∧ wr2 = wr) (fun _ u18 _ => nl - (intOf u18).toNat)
          case atStart => exact ⟨0, by omega, by go_num, by simp [layB], rfl⟩
          case round =>
            obtain ⟨j, hj, rfl, rfl, rfl⟩ := hrel
            by_cases hlt : j < nl
            · have c1 := HCL.out j hlt
              obtain ⟨e1, e2, e3⟩ := HLA.out j hlt
              have HE := hidp e1
              rw [e1] at e3
              clear e1
              generalize l.getD j 0 = x at *
              generalize layB v (l.take j) = y at *
              obtain ⟨z, hz⟩ : ∃ z, 2 ^ x = z := ⟨_, rfl⟩
              have HBI : Hid (∀ W, Calls Tryz.prog 48 #[.int .i64 (x : Int)] W fun e w' => e = .returned (.int .u32 (z : Int)) ∧ W = w') := hidp (fun W => by rw [← hz]; exact r16Bit_c x e2 W)
              rw [hz] at HE e3
              clear hz
              have v9 : IntKind.u32.wrap ((y : Int) + (z : Int)) = (y : Int) + (z : Int) := wrap32_small (by omega) (by omega)
              go_wp2_with (first | (go_at_call 48; refine (HBI.out _).mono ?_; rintro e w9 ⟨rfl, rfl⟩) | fail)
              go_roundw
              case rel => exact ⟨j + 1, by omega, by go_num, by rw [HE.out]; go_num, by first | rfl | trivial⟩
              case measure => simp [intOf]; omega
            · obtain rfl : j = nl := by omega
              rw [HU.out]
              go_wp2_with fail
              have W0 := HR
              clear HR
              refine (r7Taken_c t q s (p : Int) _).mono ?_; rintro e w1 ⟨rfl, hb⟩; have W1 := hidp (W0.out.keep hb); clear hb W0
              obtain ⟨x0, x1, x2⟩ := W1.out.h0.three
              go_wp2_with fail
              refine (rPutA hn _ u hu32 W1.out.at_).mono ?_; rintro e w2 ⟨rfl, h1, h2⟩; have W2 := hidp (W1.out.call h1 h2); clear h1 h2 W1
              obtain ⟨x0, x1, x2⟩ := W2.out.h0.three
              go_wp2_with fail
              refine (r16Full_c u k k0 k8 hu32 _).mono ?_; rintro e w9 ⟨rfl, rfl⟩; rw [HBB.out]
              cases bb with
              | false =>
                go_wp2
                go_ret3
                rw [HPE.out]
                exact W2.out.endAll HLN.out
              | true =>
                go_wp2_with fail
                refine wp_region_held_drew (S := (fun w' => w'.cell? ⟨w.heap.size, 0, none⟩ = some (.int .i64 t) ∧ w'.cell? ⟨w.heap.size, 1, none⟩ = some (.int .i64 q) ∧ w'.cell? ⟨w.heap.size, 2, none⟩ = some (.int .i64 s))) (by kernel_rfl) ?_ (fun hHeld => ?_)
                · (try dsimp only)
                  exact ⟨W2.out.drew.h0.three.1, W2.out.drew.h0.three.2.1, W2.out.drew.h0.three.2.2⟩
                refine tkz 0 ?_
                refine tkz 1 ?_
                refine tkz 2 ?_
                refine tkz 4 ?_
                refine wpAnyH_ready (rs := [3]) (by kernel_rfl) (by simp) ?_
                refine AllReadyH.cons (o := _) rfl (fun K hK => ?_) AllReadyH.nil
                go_simp
                refine (r7Rack_c k _).mono ?_; rintro e w9 ⟨rfl, rfl⟩; rw [HRK.out]
                refine hK.out _ _ ?_ (fun hHeld => ?_)
                · (try dsimp only)
                  exact ⟨W2.out.drew.h0.three.1, W2.out.drew.h0.three.2.1, W2.out.drew.h0.three.2.2⟩
                clear hK K
                (try simp only [Act.put, gA, gB, gC, sA, sB, sC])
                refine wpAnyH_ready (rs := [5]) (by kernel_rfl) (by simp) ?_
                refine AllReadyH.cons (o := _) rfl (fun K hK => ?_) AllReadyH.nil
                go_simp
                refine (rkPull_c hn hq2 (p : Int) W2.out.drew.at_).mono ?_; rintro e w3 ⟨rfl, h1, h2⟩; have W3 := hidp (W2.out.drew.call h1 h2); clear h1 h2 W2
                refine hK.out _ _ ?_ (fun hHeld => ?_)
                · (try dsimp only)
                  exact ⟨W3.out.h0.three.1, W3.out.h0.three.2.1, W3.out.h0.three.2.2⟩
                clear hK K
                (try simp only [Act.put, gA, gB, gC, sA, sB, sC])
                refine wpAnyH_done (by kernel_rfl) ?_ _
                obtain ⟨x0, x1, x2⟩ := W3.out.h0.three
                go_wp2
                go_ret3
                rw [HPE.out]
                exact W3.out.endAll HLN.out

theorem r16Pick_in (hn : n < 2 ^ 40) (hq : q ≤ 1024) (k0 : 0 ≤ k) (k8 : k ≤ 8) (wn : Nat) (hw : 1 ≤ wn) (hw2 : wn ≤ 4) (h : (rOb base b n all K).At w0 A G st w) :
    Calls Tryz.prog 13 #[.pointer (some ⟨b, 0, none⟩), .agg #[.int .i64 t, .int .i64 q, .int .i64 s], .int .i64 k, .int .i64 (wn : Int)] w (PickEnd (rOb base b n all K) w0 A G (pickI n K t q s k wn st).1 (pickI n K t q s k wn st).2 w) := by
  cases hr : getV n K st (13 + k) with
  | succ r =>
    rw [pickI_rack hr]
    exact r16Pick_rack hn hq k0 k8 wn hw hw2 r hr _ rfl h
  | zero =>
    obtain ⟨⟨o, s1⟩, ht⟩ : ∃ x, takeI n K t q s 1 (getS n K st (13 + k)) = x := ⟨_, rfl⟩
    cases o with
    | none =>
      rw [pickI_none hr ht]
      exact r16Pick_none hn hq k0 k8 wn hw hw2 hr s1 ht h
    | some p =>
      rw [pickI_fresh hr ht]
      exact r16Pick_fresh hn hq k0 k8 wn hw hw2 p hr s1 _ ht rfl _ rfl h
theorem r16Pick_c (hn : n < 2 ^ 40) (hq : q ≤ 1024) (want : Int) (h : (rOb base b n all K).At w0 A G st w) :
    Calls Tryz.prog 13 #[.pointer (some ⟨b, 0, none⟩), .agg #[.int .i64 t, .int .i64 q, .int .i64 s], .int .i64 k, .int .i64 want] w (PickEnd (rOb base b n all K) w0 A G (pickZ n K t q s k want st).1 (pickZ n K t q s k want st).2 w) := by
  by_cases hb : (0 ≤ k ∧ k ≤ 8) ∧ 1 ≤ want ∧ want ≤ 4
  · obtain ⟨wn, rfl⟩ := Int.eq_ofNat_of_zero_le (show 0 ≤ want by omega)
    have e : pickZ n K t q s k (wn : Int) st = pickI n K t q s k wn st := pickZ_yes hb.1.1 hb.1.2 (by omega) (by omega)
    rw [e]
    exact r16Pick_in hn hq hb.1.1 hb.1.2 wn (by omega) (by omega) h
  · rw [pickZ_no hb]
    by_cases b1 : k < 0
    · exact r16Pick_bad_k0 want b1 h
    · by_cases b2 : 8 < k
      · exact r16Pick_bad_k8 want b2 h
      · by_cases b3 : want < 1
        · exact r16Pick_bad_low want (by omega) (by omega) b3 h
        · exact r16Pick_bad_high want (by omega) (by omega) (by omega) h
end
end
end Go.Proofs.YtioolaaphbddbaaGreatDoor

namespace Go.Proofs.YtioolaaphbddbaaGreatDoor
open Go.ChangeShapes Go.WideShapes Go.ChangeAt Go.RowKit Go.Shelf
set_option linter.unusedVariables false
set_option linter.unusedSimpArgs false
section
set_option maxHeartbeats 1600000 in
theorem xSound_c (t q s : Int) (A : Option Addr) (n c m : Nat) (b : Bool) (w : World) (hC : XCheckIs w t q s A n c m b) :
    Calls Tryz.prog 8 #[.agg #[.int .i64 t, .int .i64 q, .int .i64 s], .slice A n c] w fun e w' => e = .returned (.bool b) ∧ Below w.heap.size w w' := by
  have HX0 := hidp (Held.new w 23 #[.int .i64 t, .int .i64 q, .int .i64 s])
  obtain ⟨c0, c1, c2⟩ := HX0.out.three
  have HBW := hidp (Bnew (B0 w) (.cells #[.int .i64 t, .int .i64 q, .int .i64 s] 23))
  have HCK := hidp (hC _ HBW.out)
  clear hC
  go_enter Tryz.func8, Tryz.ntmps8
  go_wp2_with (first
    | (go_at_call 30; refine HCK.out.mono ?_; rintro e w2 ⟨rfl, hb2⟩; have HB2 := hidp (Bgo HBW.out hb2); clear hb2)
    | fail)
  go_ret
  exact ⟨rfl, HB2.out⟩
end
end Go.Proofs.YtioolaaphbddbaaGreatDoor

namespace Go.Proofs.YtioolaaphbddbaaGreatDoor
open Go.ChangeShapes Go.WideShapes Go.ChangeAt Go.RowKit Go.Maps
set_option linter.unusedVariables false
set_option linter.unusedSimpArgs false
set_option maxRecDepth 100000
section
def AuH.idleAt (H : AuH) (p i : Nat) : Bool := decide (H.K p = 3) && (H.cel p 5).testBit i && !(H.cel p 4).testBit i

theorem idle16_p0 (t q s p i : Int) (A : Option Addr) (n c : Nat) (h : p < 0) (w : World) :
    Calls Tryz.prog 19 #[.agg #[.int .i64 t, .int .i64 q, .int .i64 s], .slice A n c, .int .i64 p, .int .i64 i] w fun e w' => e = .returned (.bool false) ∧ Below w.heap.size w w' := by
  have HB := hidp (Bnew (B0 w) (.cells #[.int .i64 t, .int .i64 q, .int .i64 s] 23))
  obtain ⟨x0, x1, x2⟩ := (Held.new w 23 #[.int .i64 t, .int .i64 q, .int .i64 s]).three
  have t0 : decide (p < (0 : Int)) = true := decide_eq_true h
  go_enter Tryz.func19, Tryz.ntmps19
  go_wp2
  go_ret
  exact ⟨rfl, HB.out⟩
theorem idle16_p1 (t q s p i : Int) (A : Option Addr) (n c : Nat) (h0 : ¬ p < 0) (h : q ≤ p) (w : World) :
    Calls Tryz.prog 19 #[.agg #[.int .i64 t, .int .i64 q, .int .i64 s], .slice A n c, .int .i64 p, .int .i64 i] w fun e w' => e = .returned (.bool false) ∧ Below w.heap.size w w' := by
  have HB := hidp (Bnew (B0 w) (.cells #[.int .i64 t, .int .i64 q, .int .i64 s] 23))
  obtain ⟨x0, x1, x2⟩ := (Held.new w 23 #[.int .i64 t, .int .i64 q, .int .i64 s]).three
  have t0 : decide (p < (0 : Int)) = false := decide_eq_false h0
  have t1 : decide (q ≤ p) = true := decide_eq_true h
  go_enter Tryz.func19, Tryz.ntmps19
  go_wp2
  go_ret
  exact ⟨rfl, HB.out⟩
theorem idle16_i0 (t q s p i : Int) (A : Option Addr) (n c : Nat) (h0 : ¬ p < 0) (h1 : ¬ q ≤ p) (h : i < 0) (w : World) :
    Calls Tryz.prog 19 #[.agg #[.int .i64 t, .int .i64 q, .int .i64 s], .slice A n c, .int .i64 p, .int .i64 i] w fun e w' => e = .returned (.bool false) ∧ Below w.heap.size w w' := by
  have HB := hidp (Bnew (B0 w) (.cells #[.int .i64 t, .int .i64 q, .int .i64 s] 23))
  obtain ⟨x0, x1, x2⟩ := (Held.new w 23 #[.int .i64 t, .int .i64 q, .int .i64 s]).three
  have t0 : decide (p < (0 : Int)) = false := decide_eq_false h0
  have t1 : decide (q ≤ p) = false := decide_eq_false h1
  have t2 : decide (i < (0 : Int)) = true := decide_eq_true h
  go_enter Tryz.func19, Tryz.ntmps19
  go_wp2
  go_ret
  exact ⟨rfl, HB.out⟩
theorem idle16_i1 (t q s p i : Int) (A : Option Addr) (n c : Nat) (h0 : ¬ p < 0) (h1 : ¬ q ≤ p) (h2 : ¬ i < 0) (h : 31 < i) (w : World) :
    Calls Tryz.prog 19 #[.agg #[.int .i64 t, .int .i64 q, .int .i64 s], .slice A n c, .int .i64 p, .int .i64 i] w fun e w' => e = .returned (.bool false) ∧ Below w.heap.size w w' := by
  have HB := hidp (Bnew (B0 w) (.cells #[.int .i64 t, .int .i64 q, .int .i64 s] 23))
  obtain ⟨x0, x1, x2⟩ := (Held.new w 23 #[.int .i64 t, .int .i64 q, .int .i64 s]).three
  have t0 : decide (p < (0 : Int)) = false := decide_eq_false h0
  have t1 : decide (q ≤ p) = false := decide_eq_false h1
  have t2 : decide (i < (0 : Int)) = false := decide_eq_false h2
  have t3 : decide ((31 : Int) < i) = true := decide_eq_true h
  go_enter Tryz.func19, Tryz.ntmps19
  go_wp2
  go_ret
  exact ⟨rfl, HB.out⟩
theorem idle16_no (t q s p i : Int) (A : Option Addr) (n c : Nat) (h : p < 0 ∨ q ≤ p ∨ i < 0 ∨ 31 < i) (w : World) :
    Calls Tryz.prog 19 #[.agg #[.int .i64 t, .int .i64 q, .int .i64 s], .slice A n c, .int .i64 p, .int .i64 i] w fun e w' => e = .returned (.bool false) ∧ Below w.heap.size w w' := by
  by_cases h0 : p < 0
  · exact idle16_p0 t q s p i A n c h0 w
  · by_cases h1 : q ≤ p
    · exact idle16_p1 t q s p i A n c h0 h1 w
    · by_cases h2 : i < 0
      · exact idle16_i0 t q s p i A n c h0 h1 h2 w
      · exact idle16_i1 t q s p i A n c h0 h1 h2 (by omega) w

set_option maxHeartbeats 3200000 in
theorem idle16_c {H : AuH} {n c : Nat} (HV : HeapV H n c) (ad : Addr) {p i : Nat} (hp : p < H.p) (hi : i < 32) (w : World) (hv : IsVals w ad n H.V) :
    Calls Tryz.prog 19 #[.agg #[.int .i64 (H.t : Int), .int .i64 (H.p : Int), .int .i64 (H.s : Int)], .slice (some ad) n c, .int .i64 (p : Int), .int .i64 (i : Int)] w fun e w' => e = .returned (.bool (H.idleAt p i)) ∧ Below w.heap.size w w' := by
  have t0 : decide ((p : Int) < 0) = false := decide_eq_false (by omega)
  have t1 : decide ((H.p : Int) ≤ (p : Int)) = false := decide_eq_false (by omega)
  have t2 : decide ((i : Int) < 0) = false := decide_eq_false (by omega)
  have t3 : decide ((31 : Int) < (i : Int)) = false := decide_eq_false (by omega)
  have HVL := hidp hv
  have HX := hidp (Held.new2 w (.cells #[.int .i64 (H.t : Int), .int .i64 (H.p : Int), .int .i64 (H.s : Int)] 23) 58 #[.int .i64 (H.t : Int), .int .i64 (H.p : Int), .int .i64 (H.s : Int), .slice (some ad) n c])
  have HB := hidp (Bnew (Bnew (B0 w) (.cells #[.int .i64 (H.t : Int), .int .i64 (H.p : Int), .int .i64 (H.s : Int)] 23)) (.cells #[.int .i64 (H.t : Int), .int .i64 (H.p : Int), .int .i64 (H.s : Int), .slice (some ad) n c] 58))
  obtain ⟨v0, v1, v2⟩ := (Held.new w 23 #[.int .i64 (H.t : Int), .int .i64 (H.p : Int), .int .i64 (H.s : Int)]).three
  obtain ⟨v0', v1', v2'⟩ := ((Held.new w 23 #[.int .i64 (H.t : Int), .int .i64 (H.p : Int), .int .i64 (H.s : Int)]).alloc (.cells #[.int .i64 (H.t : Int), .int .i64 (H.p : Int), .int .i64 (H.s : Int), .slice (some ad) n c] 58)).three
  obtain ⟨y0, y1, y2, y3⟩ := HX.out.four
  obtain ⟨kk, hkk⟩ : ∃ kk, H.K p = kk := ⟨_, rfl⟩
  obtain ⟨ll, hll⟩ : ∃ ll, H.ln p = ll := ⟨_, rfl⟩
  obtain ⟨cc, hcc⟩ : ∃ cc, H.Cl p = cc := ⟨_, rfl⟩
  obtain ⟨tk, htk⟩ : ∃ tk, H.cel p 5 = tk := ⟨_, rfl⟩
  obtain ⟨sl, hsl⟩ : ∃ sl, H.cel p 4 = sl := ⟨_, rfl⟩
  have hk32 : tk < 2 ^ 32 := by rw [← htk]; exact HV.cel_lt hp (by omega)
  have hs32 : sl < 2 ^ 32 := by rw [← hsl]; exact HV.cel_lt hp (by omega)
  have hfd : ∀ w : World, (Instr.field 60 (.agg #[.int .i64 kk, .int .i64 (ll : Int), .int .i64 cc]) 0).run Tryz.prog w = .ok (.int .i64 kk) w := fun _ => by kernel_rfl
  have HK := hidp hkk
  have HL := hidp hll
  have HCC := hidp hcc
  have HTK := hidp htk
  have HSL := hidp hsl
  have e0 : H.idleAt p i = (decide (kk = 3) && tk.testBit i && !sl.testBit i) := by unfold AuH.idleAt; rw [hkk, htk, hsl]
  rw [e0]
  clear e0 hkk hll hcc htk hsl hv
  obtain ⟨b1, hb1⟩ : ∃ b1, tk.testBit i = b1 := ⟨_, rfl⟩
  obtain ⟨b2, hb2⟩ : ∃ b2, sl.testBit i = b2 := ⟨_, rfl⟩
  rw [hb1, hb2]
  have HT1 := hidp ((congrArg tk.testBit (Int.toNat_natCast i)).trans hb1)
  have HT2 := hidp ((congrArg sl.testBit (Int.toNat_natCast i)).trans hb2)
  clear hb1 hb2
  by_cases h3 : kk = 3
  · rw [decide_eq_true h3, Bool.true_and]
    have t4 : (kk == 3) = true := by simpa using h3
    clear h3
    cases b1 with
    | false =>
      rw [Bool.false_and]
      go_enter Tryz.func19, Tryz.ntmps19
      go_wp2_with fail
      refine (xInfo_c HV ad hp _ (HVL.out.below HB.out)).mono ?_
      rintro e w4 ⟨rfl, hb⟩
      rw [HK.out, HL.out, HCC.out]
      replace HX := hidp (HX.out.keep hb)
      replace HB := hidp (Bgo HB.out hb)
      clear hb y0 y1 y2 y3
      obtain ⟨y0, y1, y2, y3⟩ := HX.out.four
      go_wp2_with fail
      refine (xTaken_c HV ad hp _ (HVL.out.below HB.out)).mono ?_
      rintro e w5 ⟨rfl, hb⟩
      rw [HTK.out]
      replace HX := hidp (HX.out.keep hb)
      replace HB := hidp (Bgo HB.out hb)
      clear hb y0 y1 y2 y3
      obtain ⟨y0, y1, y2, y3⟩ := HX.out.four
      go_wp2_with fail
      refine (Bit_c tk i _ hk32 (by omega) (by omega) HT1.out _).mono ?_; rintro e w9 ⟨rfl, rfl⟩
      go_wp2
      go_ret
      exact ⟨rfl, HB.out⟩
    | true =>
      rw [Bool.true_and]
      go_enter Tryz.func19, Tryz.ntmps19
      go_wp2_with fail
      refine (xInfo_c HV ad hp _ (HVL.out.below HB.out)).mono ?_
      rintro e w4 ⟨rfl, hb⟩
      rw [HK.out, HL.out, HCC.out]
      replace HX := hidp (HX.out.keep hb)
      replace HB := hidp (Bgo HB.out hb)
      clear hb y0 y1 y2 y3
      obtain ⟨y0, y1, y2, y3⟩ := HX.out.four
      go_wp2_with fail
      refine (xTaken_c HV ad hp _ (HVL.out.below HB.out)).mono ?_
      rintro e w5 ⟨rfl, hb⟩
      rw [HTK.out]
      replace HX := hidp (HX.out.keep hb)
      replace HB := hidp (Bgo HB.out hb)
      clear hb y0 y1 y2 y3
      obtain ⟨y0, y1, y2, y3⟩ := HX.out.four
      go_wp2_with fail
      refine (Bit_c tk i _ hk32 (by omega) (by omega) HT1.out _).mono ?_; rintro e w9 ⟨rfl, rfl⟩
      go_wp2_with fail
      refine (xSlots_c HV ad hp _ (HVL.out.below HB.out)).mono ?_
      rintro e w6 ⟨rfl, hb⟩
      rw [HSL.out]
      replace HX := hidp (HX.out.keep hb)
      replace HB := hidp (Bgo HB.out hb)
      clear hb y0 y1 y2 y3
      obtain ⟨y0, y1, y2, y3⟩ := HX.out.four
      go_wp2_with fail
      refine (Bit_c sl i _ hs32 (by omega) (by omega) HT2.out _).mono ?_; rintro e w9 ⟨rfl, rfl⟩
      go_wp2
      go_ret
      exact ⟨rfl, HB.out⟩
  · rw [decide_eq_false h3, Bool.false_and, Bool.false_and]
    have t4 : (kk == 3) = false := by simpa using h3
    clear h3
    go_enter Tryz.func19, Tryz.ntmps19
    go_wp2_with fail
    refine (xInfo_c HV ad hp _ (HVL.out.below HB.out)).mono ?_
    rintro e w4 ⟨rfl, hb⟩
    rw [HK.out, HL.out, HCC.out]
    replace HB := hidp (Bgo HB.out hb)
    clear hb
    go_wp2
    go_ret
    exact ⟨rfl, HB.out⟩
end
end Go.Proofs.YtioolaaphbddbaaGreatDoor

namespace Go.Proofs.YtioolaaphbddbaaGreatDoor
open Go.ChangeShapes Go.WideShapes Go.ChangeAt Go.RowKit
set_option linter.unusedVariables false
set_option maxRecDepth 100000
section
section
variable {H : Type} {enc : TypeId × Value → H} {P : Program} {w : World} {base : Nat} {sp : Nat → Bool} {held : Bool}
theorem open_vals {t e : TypeId} {v : Value} {d : DataW H} {p : List MemPlace} (ht : P.underlying t = some (.slice e)) (he : P.underlying e = some (.int .u32)) (hc : P.cellsOf e = 1)
    {r : Reach} {b0 : Nat} (hval : Value.okWide P w r b0 t v) (h : DataW.Trod enc P w base sp held t v d p) (hlt : ∀ x ∈ p, x.block < w.heap.size) :
    ∃ (A : Option Addr) (c : Nat) (ws : List Nat), v = .slice A ws.length c ∧ ws.length ≤ c ∧ c ≤ maxLen ∧ (∀ x ∈ ws, x < 2 ^ 32) ∧ Reads w w.heap.size 1 A ws.length (valVs ws) := by
  obtain ⟨fuel, hf⟩ := h
  have hv : v.cells = #[v] := by
    obtain ⟨A, n, c, rfl⟩ := okWide_slice ht hval
    rfl
  rw [hv] at hf
  rcases open_ints ht he hc hf with ⟨hcs, _⟩ | ⟨a, len, cap, zs, hcs, hb, hl, hm, hz, hx, hcell, hwf⟩
  · injection hcs with hcs
    subst hcs
    exact ⟨none, 0, [], rfl, Nat.le_refl _, Nat.zero_le _, by simp, Reads.none_⟩
  · injection hcs with hcs
    subst hcs
    have hlz : len ≤ zs.length := by rw [hz]; split <;> omega
    have hlen : ((zs.take len).map Int.toNat).length = len := by simp; omega
    refine ⟨some a, cap, (zs.take len).map Int.toNat, by rw [hlen], by rw [hlen]; exact hl, hm, ?_, ?_⟩
    · intro x hx
      obtain ⟨z, hz1, rfl⟩ := List.mem_map.1 hx
      obtain ⟨n, rfl, hn⟩ := u32_nat (hwf z (List.mem_of_mem_take hz1))
      simpa using hn
    · refine ⟨by rw [valVs_len]; omega, fun hn => ?_⟩
      rw [hlen] at hn
      refine ⟨a, rfl, ?_, fun j u hu => ?_⟩
      · have hp : (p : List MemPlace) = MemPlace.row a zs.length := by
          have := congrArg Prod.snd hx
          simpa using this
        have h0 : MemPlace.cell a.block a.off ∈ p ∨ (∃ x ∈ p, x.block = a.block) := by
          right
          rw [hp]
          refine ⟨(MemPlace.row a zs.length)[0]'(by simp [MemPlace.row]; omega), List.getElem_mem _, ?_⟩
          simp [MemPlace.row, MemPlace.block]
        rcases h0 with h0 | ⟨x, hx1, hx2⟩
        · exact hlt _ h0
        · rw [← hx2]; exact hlt x hx1
      · unfold valVs at hu
        rw [List.map_map] at hu
        have hj : j < len := by
          rcases Nat.lt_or_ge j len with h1 | h1
          · exact h1
          · rw [List.getElem?_eq_none (by simp; omega)] at hu; cases hu
        rw [List.getElem?_map, List.getElem?_take_of_lt hj, List.getElem?_eq_getElem (by omega)] at hu
        simp only [Option.map_some, Option.some.injEq, Function.comp_apply] at hu
        subst hu
        rw [hcell j (by omega)]
        have hw := hwf zs[j] (List.getElem_mem _)
        obtain ⟨n, hn1, _⟩ := u32_nat hw
        have : (zs.getD j 0) = zs[j] := by simp [List.getD, List.getElem?_eq_getElem (show j < zs.length by omega)]
        rw [this, hn1]
        simp
end
end
end Go.Proofs.YtioolaaphbddbaaGreatDoor

namespace Go.Proofs.YtioolaaphbddbaaGreatDoor
open Go.ChangeShapes Go.WideShapes Go.ChangeAt Go.RowKit
set_option linter.unusedVariables false
section
theorem heap13_of (W : World) (t q s : Int) (A : Option Addr) (c : Nat) (vals : List Nat) (hnc : vals.length ≤ c) (hcm : c ≤ maxLen) (h32 : ∀ x ∈ vals, x < 2 ^ 32) (hR : Reads W W.heap.size 1 A vals.length (valVs vals)) (h : lC t q s ≠ 0 ∧ (vals.length : Int) = lC t q s) :
    ∃ (H : AuH) (ad : Addr), t = H.t ∧ q = H.p ∧ s = H.s ∧ A = some ad ∧ (∀ i, H.V i = vals.getD i 0) ∧ HeapV H vals.length c ∧ IsVals W ad vals.length H.V := by
  cases hr : rightB t q s
  · exact absurd (lay_no hr).5 h.1
  · have hn := (rightB_iff t q s).1 hr
    have hl := (lay_yes hr).5
    have hlen : 0 < vals.length := by have := h.2; rw [hl] at this; omega
    obtain ⟨ad, rfl, hb, hc⟩ := hR.2 hlen
    have hx : ∀ i, i < vals.length → vals[i]? = some (vals.getD i 0) := fun i hi => by simp [List.getD, List.getElem?_eq_getElem hi]
    refine ⟨⟨t.toNat, q.toNat, s.toNat, fun i => vals.getD i 0⟩, ad, by show t = _; simp; omega, by show q = _; simp; omega, by show s = _; simp; omega, rfl, fun i => rfl, ⟨?_, ?_, hnc, hcm, fun i hi => ?_⟩, hb, fun i hi => ?_⟩
    · show rightB ((t.toNat : Nat) : Int) ((q.toNat : Nat) : Int) ((s.toNat : Nat) : Int) = true
      rw [show ((t.toNat : Nat) : Int) = t by omega, show ((q.toNat : Nat) : Int) = q by omega, show ((s.toNat : Nat) : Int) = s by omega]
      exact hr
    · show vals.length = 30 + 4 * t.toNat + 6 * q.toNat
      have := h.2
      rw [hl] at this
      omega
    · exact h32 _ (List.mem_of_getElem? (hx i hi))
    · refine hc i _ ?_
      unfold valVs
      rw [List.getElem?_map, hx i hi]
      rfl
theorem heap13_or (W : World) (t q s : Int) (A : Option Addr) (c : Nat) (vals : List Nat) (hnc : vals.length ≤ c) (hcm : c ≤ maxLen) (h32 : ∀ x ∈ vals, x < 2 ^ 32) (hR : Reads W W.heap.size 1 A vals.length (valVs vals)) :
    (∃ m, XCheckIs W t q s A vals.length c m false) ∨ ∃ (H : AuH) (ad : Addr) (m : Nat), t = H.t ∧ q = H.p ∧ s = H.s ∧ A = some ad ∧ (∀ i, H.V i = vals.getD i 0) ∧ HeapV H vals.length c ∧ IsVals W ad vals.length H.V ∧ H.Told m true ∧ XCheckIs W H.t H.p H.s (some ad) vals.length c m true := by
  by_cases h : lC t q s ≠ 0 ∧ (vals.length : Int) = lC t q s
  · obtain ⟨H, ad, rfl, rfl, rfl, rfl, hV, HV, hv⟩ := heap13_of W t q s A c vals hnc hcm h32 hR h
    obtain ⟨m, b, hto⟩ := H.told_is
    have hX := xCheckIs_yes HV ad W hv hto
    cases b with
    | true => exact .inr ⟨H, ad, m, rfl, rfl, rfl, rfl, hV, HV, hv, hto, hX⟩
    | false => exact .inl ⟨m, hX⟩
  · exact .inl ⟨1, xCheckIs_no W t q s A vals.length c hnc hcm h⟩
end
end Go.Proofs.YtioolaaphbddbaaGreatDoor

namespace Go.Proofs.YtioolaaphbddbaaGreatDoor
open Go.ChangeShapes Go.WideShapes Go.ChangeAt Go.RowKit Go.Maps
set_option linter.unusedVariables false
set_option linter.unusedSimpArgs false
set_option maxRecDepth 100000
section
theorem ntVs_ints (l : List Nat) : ntVs l = (l.map fun (i : Nat) => (i : Int)).map (Value.int .i64) := by unfold ntVs; rw [List.map_map]; rfl
theorem ints_own {w : World} {base : Nat} {u : Value} {l : List Nat} (h : w.ownsRow base 3 1 u l.length (ntVs l)) : RowV w u ((l.map fun (i : Nat) => (i : Int)).map (Value.int .i64)) := by
  rw [← ntVs_ints]
  have h2 : w.ownsRow base 3 1 u (ntVs l).length (ntVs l) := by rw [ntVs_len]; exact h
  exact RowV.of_own h2

theorem SlabPicks_few (t q s x0 x1 : Int) (A : Option Addr) (n c m : Nat) (hq : 64 < q) (W : World) (hT : SlotsLaid W)  : Calls Tryz.prog 3 #[.agg #[.int .i64 t, .int .i64 q, .int .i64 s], .slice A n c, .agg #[.int .i64 x0, .int .i64 x1]] W (Keeps W) := by
  have t2 : decide (q ≤ (64 : Int)) = false := decide_eq_false (by omega)
  have HC := hidp ((Held.new W 23 #[.int .i64 t, .int .i64 q, .int .i64 s]).alloc (.cells #[.int .i64 x0, .int .i64 x1] 25))
  have HX := hidp (Held.new2 W (.cells #[.int .i64 t, .int .i64 q, .int .i64 s] 23) 25 #[.int .i64 x0, .int .i64 x1])
  have HB := hidp (Bnew (Bnew (B0 W) (.cells #[.int .i64 t, .int .i64 q, .int .i64 s] 23)) (.cells #[.int .i64 x0, .int .i64 x1] 25))
  have HTL := hidp hT
  clear hT
  obtain ⟨x0', x1', x2'⟩ := HC.out.three
  obtain ⟨y0', y1'⟩ := HX.out.two
  go_enter Tryz.func3, Tryz.ntmps3
  go_wp2_with fail
  refine (few14_c t q s _).mono ?_
  rintro e w1 ⟨rfl, hb⟩
  rw [t2]
  replace HC := hidp (HC.out.keep hb)
  replace HX := hidp (HX.out.keep hb)
  replace HB := hidp (Bgo HB.out hb)
  clear hb
  clear x0' x1' x2' y0' y1'
  obtain ⟨x0', x1', x2'⟩ := HC.out.three
  obtain ⟨y0', y1'⟩ := HX.out.two

  
  go_wp2_with fail
  refine (live16_c _ (HTL.out.below HB.out)).mono ?_
  rintro e w19 ⟨rfl, hb⟩
  have HBL := hidp (Bgo HB.out hb)
  clear hb
  go_wp2
  go_ret
  exact ⟨rfl, HBL.out⟩

theorem SlabPicks_no (t q s x0 x1 : Int) (A : Option Addr) (n c m : Nat) (hq : q ≤ 64) (W : World) (hT : SlotsLaid W) (hX : Hid (XCheckIs W t q s A n c m false)) : Calls Tryz.prog 3 #[.agg #[.int .i64 t, .int .i64 q, .int .i64 s], .slice A n c, .agg #[.int .i64 x0, .int .i64 x1]] W (Keeps W) := by
  have t2 : decide (q ≤ (64 : Int)) = true := decide_eq_true (by omega)
  have HC := hidp ((Held.new W 23 #[.int .i64 t, .int .i64 q, .int .i64 s]).alloc (.cells #[.int .i64 x0, .int .i64 x1] 25))
  have HX := hidp (Held.new2 W (.cells #[.int .i64 t, .int .i64 q, .int .i64 s] 23) 25 #[.int .i64 x0, .int .i64 x1])
  have HB := hidp (Bnew (Bnew (B0 W) (.cells #[.int .i64 t, .int .i64 q, .int .i64 s] 23)) (.cells #[.int .i64 x0, .int .i64 x1] 25))
  have HTL := hidp hT
  clear hT
  obtain ⟨x0', x1', x2'⟩ := HC.out.three
  obtain ⟨y0', y1'⟩ := HX.out.two
  go_enter Tryz.func3, Tryz.ntmps3
  go_wp2_with fail
  refine (few14_c t q s _).mono ?_
  rintro e w1 ⟨rfl, hb⟩
  rw [t2]
  replace HC := hidp (HC.out.keep hb)
  replace HX := hidp (HX.out.keep hb)
  replace HB := hidp (Bgo HB.out hb)
  clear hb
  clear x0' x1' x2' y0' y1'
  obtain ⟨x0', x1', x2'⟩ := HC.out.three
  obtain ⟨y0', y1'⟩ := HX.out.two
  go_wp2_with fail
  refine (xSound_c t q s A n c m false _ (hX.out.grown HB.out)).mono ?_
  rintro e w2 ⟨rfl, hb⟩
  replace HC := hidp (HC.out.keep hb)
  replace HX := hidp (HX.out.keep hb)
  replace HB := hidp (Bgo HB.out hb)
  clear hb
  clear x0' x1' x2' y0' y1'
  obtain ⟨x0', x1', x2'⟩ := HC.out.three
  obtain ⟨y0', y1'⟩ := HX.out.two
  
  go_wp2_with fail
  refine (live16_c _ (HTL.out.below HB.out)).mono ?_
  rintro e w19 ⟨rfl, hb⟩
  have HBL := hidp (Bgo HB.out hb)
  clear hb
  go_wp2
  go_ret
  exact ⟨rfl, HBL.out⟩

set_option maxHeartbeats 12800000 in
theorem SlabPicks_main {H : AuH} (ad : Addr) (n c m : Nat) (HV : HeapV H n c) (vals : List Nat) (HNN : Hid (vals.length = n)) (H32 : Hid (∀ x ∈ vals, x < 2 ^ 32)) (hq : H.p ≤ 64) (hnc : n ≤ c) (x0 x1 : Int) (hx0 : -9223372036854775808 ≤ x0 ∧ x0 ≤ 9223372036854775807)
    (W : World) (hT : SlotsLaid W) (HR : Hid (Reads W W.heap.size 1 (some ad) n (valVs vals))) (hv : Hid (IsVals W ad n H.V)) (hX : Hid (XCheckIs W H.t H.p H.s (some ad) n c m true)) :
    Calls Tryz.prog 3 #[.agg #[.int .i64 (H.t : Int), .int .i64 (H.p : Int), .int .i64 (H.s : Int)], .slice (some ad) n c, .agg #[.int .i64 x0, .int .i64 x1]] W (Keeps W) := by
  have t2 : decide ((H.p : Int) ≤ (64 : Int)) = true := decide_eq_true (by omega)
  have hn : n ≤ 6238 := by have := HV.nums; omega
  have hcm : c ≤ maxLen := HV.max
  have hcm2 : c ≤ 9223372036854775807 := hcm
  have hn40 : n < 2 ^ 40 := by omega
  have hq10 : (H.p : Int) ≤ 1024 := by omega
  have HC := hidp ((Held.new W 23 #[.int .i64 (H.t : Int), .int .i64 (H.p : Int), .int .i64 (H.s : Int)]).alloc (.cells #[.int .i64 x0, .int .i64 x1] 25))
  have HX := hidp (Held.new2 W (.cells #[.int .i64 (H.t : Int), .int .i64 (H.p : Int), .int .i64 (H.s : Int)] 23) 25 #[.int .i64 x0, .int .i64 x1])
  have HB := hidp (Bnew (Bnew (B0 W) (.cells #[.int .i64 (H.t : Int), .int .i64 (H.p : Int), .int .i64 (H.s : Int)] 23)) (.cells #[.int .i64 x0, .int .i64 x1] 25))
  have HTL := hidp hT
  clear hT
  obtain ⟨x0', x1', x2'⟩ := HC.out.three
  obtain ⟨y0', y1'⟩ := HX.out.two
  go_enter Tryz.func3, Tryz.ntmps3
  go_wp2_with fail
  refine (few14_c H.t H.p H.s _).mono ?_
  rintro e w1 ⟨rfl, hb⟩
  rw [t2]
  replace HC := hidp (HC.out.keep hb)
  replace HX := hidp (HX.out.keep hb)
  replace HB := hidp (Bgo HB.out hb)
  clear hb
  clear x0' x1' x2' y0' y1'
  obtain ⟨x0', x1', x2'⟩ := HC.out.three
  obtain ⟨y0', y1'⟩ := HX.out.two
  go_wp2_with fail
  refine (xSound_c H.t H.p H.s (some ad) n c m true _ (hX.out.grown HB.out)).mono ?_
  rintro e w2 ⟨rfl, hb⟩
  replace HC := hidp (HC.out.keep hb)
  replace HX := hidp (HX.out.keep hb)
  replace HB := hidp (Bgo HB.out hb)
  clear hb
  clear x0' x1' x2' y0' y1'
  obtain ⟨x0', x1', x2'⟩ := HC.out.three
  obtain ⟨y0', y1'⟩ := HX.out.two
  have HL0 : Hid (W.heap.size < w2.heap.size) := hidp HC.out.lt
  have HL1 : Hid (W.heap.size + 1 < w2.heap.size) := hidp HX.out.lt
  have HWS : Hid (W.heap.size ≤ w2.heap.size) := hidp HB.out.size
  have HR1 : Hid (Reads w2 w2.heap.size 1 (some ad) n (valVs vals)) := hidp ((HR.out.below HB.out).more HB.out.size)
  go_wp2_with fail
  refine (Whole_c (some ad) c vals n HNN.out (by omega) H32.out _ (by
    intro h0
    obtain ⟨ad', e, _, hc⟩ := HR1.out.2 h0
    exact ⟨ad', e, hc⟩)).mono ?_
  rintro e w3 ⟨b1, o1, rfl, hI, hB⟩
  have HV2 : Hid (IsView w3 w2.heap.size b1 n true o1 (wholeV15 vals) freshS) := hidp hI
  replace HB := hidp (Bgo HB.out hB)
  have HR2 : Hid (Reads w3 w3.heap.size 1 (some ad) n (valVs vals)) := hidp ((HR1.out.below hB).more hB.size)
  replace HC := hidp (HC.out.keep hB)
  replace HX := hidp (HX.out.keep hB)
  have HLT : Hid ((W.heap.size) < w2.heap.size ∧ ((W.heap.size + 1)) < w2.heap.size) := hidp ⟨HL0.out, HL1.out⟩
  have HWZ : Hid (W.heap.size ≤ w2.heap.size) := hidp HWS.out
  clear hI hB HR1
  clear x0' x1' x2' y0' y1'
  obtain ⟨x0', x1', x2'⟩ := HC.out.three
  obtain ⟨y0', y1'⟩ := HX.out.two
  go_wp2_with fail
  refine (RWhole_c (some ad) c vals n HNN.out (by omega) hnc hcm H32.out _ HR2.out).mono ?_
  rintro e w4 ⟨b2, v2, rfl, hI, hB⟩
  have HV3 := hidp (HV2.out.keep hB)
  have HA3 : Hid (IsRefV w4 w3.heap.size b2 n true v2 (wholeV15 vals) freshS) := hidp hI
  replace HB := hidp (Bgo HB.out hB)
  replace HC := hidp (HC.out.keep hB)
  replace HX := hidp (HX.out.keep hB)
  have HL2 : Hid (∀ i, o1.A b1 i → i < w3.heap.size) := hidp HV2.out.lt
  have HL9 : Hid (w2.heap.size ≤ w3.heap.size) := hidp (by have h1 := HV2.out.head.lt; have h2 := HV2.out.ge b1 (.inl (.inl (.inl rfl))); omega)
  clear hI hB HV2 HR2
  generalize hz1 : w2.heap.size = z1 at *
  generalize hz2 : w3.heap.size = z2 at *
  have HD : Hid (Duo W (vOb z1 b1 n true (wholeV15 vals)) (rOb z2 b2 n true (wholeV15 vals)) (o1.A b1) (OwnF b2 6 v2) (fun g => g = W.heap.size ∨ g = (W.heap.size + 1)) freshS freshS w4) := hidp ⟨⟨o1, HV3.out, rfl⟩, ⟨v2, HA3.out, rfl⟩, fun i hi hj => by have := HL2.out i hi; have := HA3.out.parts.ge i hj; omega, fun g hg => by
      have hl := HLT.out
      have hl1 := HL9.out
      have hlt := HV3.out.head.lt
      rcases hg with hg | hg
      · subst hg; exact ⟨HC.out.lt, fun x => by have := HV3.out.ge _ x; omega, fun x => by have := HA3.out.parts.ge _ x; omega⟩
      · subst hg; exact ⟨HX.out.lt, fun x => by have := HV3.out.ge _ x; omega, fun x => by have := HA3.out.parts.ge _ x; omega⟩, fun i hi => by
      have := HWZ.out
      rcases hi with hi | hi
      · have := HV3.out.ge _ hi; omega
      · have := HA3.out.parts.ge _ hi; have := HL9.out; omega, HB.out⟩
  clear HV3 HA3 HL2 HL9 HLT HWZ hz1 hz2
  clear x0' x1' x2' y0' y1'
  obtain ⟨x0', x1', x2'⟩ := HC.out.three
  obtain ⟨y0', y1'⟩ := HX.out.two
  obtain ⟨pv, hpv⟩ : ∃ pv, pickP (pickZ n (wholeV15 vals) H.t H.p H.s x0 x1 freshS).1 = pv := ⟨_, rfl⟩
  obtain ⟨lv, hlv⟩ : ∃ lv, pickL (pickZ n (wholeV15 vals) H.t H.p H.s x0 x1 freshS).1 = lv := ⟨_, rfl⟩
  obtain ⟨bv, hbv⟩ : ∃ bv, (pickZ n (wholeV15 vals) H.t H.p H.s x0 x1 freshS).1.isSome = bv := ⟨_, rfl⟩
  obtain ⟨sx, hsx⟩ : ∃ sx, (pickZ n (wholeV15 vals) H.t H.p H.s x0 x1 freshS).2 = sx := ⟨_, rfl⟩
  have HPV := hidp hpv
  have HLV := hidp hlv
  have HBV := hidp hbv
  have HSX := hidp hsx
  clear hpv hlv hbv hsx
  have hpp : (pv == pv) = true := by simp
  have hbb : (bv == bv) = true := by simp
  go_wp2_with fail
  refine (slPick_c hn40 hq10 hx0.1 hx0.2 (HD.out.slots HTL.out).1 (HD.out.slots HTL.out).2.1 x1 HD.out.at1).mono ?_
  rintro e w5 h1
  obtain ⟨u5, A4, rfl, ho, h2, h3⟩ := HD.out.pick1 h1
  rw [HPV.out, HBV.out]
  rw [HLV.out] at ho
  rw [HSX.out] at h2
  replace HC := hidp (h3.held (.inl rfl) HC.out)
  replace HX := hidp (h3.held (.inr rfl) HX.out)
  have HO1 := hidp ho
  replace HD := hidp h2
  clear h1 h2 h3 ho
  clear x0' x1' x2' y0' y1'
  obtain ⟨x0', x1', x2'⟩ := HC.out.three
  obtain ⟨y0', y1'⟩ := HX.out.two
  go_wp2_with fail
  refine (r16Pick_c hn40 hq10 x1 HD.out.at2).mono ?_
  rintro e w6 h1
  obtain ⟨u6, A5, rfl, ho, h2, h3⟩ := HD.out.pick2 h1
  rw [HPV.out, HBV.out]
  rw [HLV.out] at ho
  rw [HSX.out] at h2
  replace HC := hidp (h3.held (.inl (.inl rfl)) HC.out)
  replace HX := hidp (h3.held (.inl (.inr rfl)) HX.out)
  replace HO1 := hidp (h3.own (fun g e => .inr e) HO1.out)
  have HO2 := hidp ho
  replace HD := hidp h2
  clear h1 h2 h3 ho HPV HLV HBV HSX
  clear x0' x1' x2' y0' y1'
  obtain ⟨x0', x1', x2'⟩ := HC.out.three
  obtain ⟨y0', y1'⟩ := HX.out.two
  go_wp2_with fail
  refine (Ints_same _ u5 u6 _ (ints_own HO1.out) (ints_own HO2.out)).mono ?_
  rintro e w7 ⟨rfl, n7, hw7⟩
  replace HD : Hid (Duo W _ _ _ _ _ sx sx w7) := hidp (by rw [hw7]; exact HD.out.keep (Bdraw (B0 _) n7))
  clear hw7 HO1 HO2 HC HX x0' x1' x2' y0' y1'
  obtain ⟨o, hI, _⟩ := HD.out.i1
  obtain ⟨v, hR, _⟩ := HD.out.i2
  have HV := hidp hI
  have HAA := hidp hR
  have HB := hidp HD.out.bel
  have HL : Hid (sx.rd.length < 2 ^ 40 ∧ sx.wr.length < 2 ^ 40) := hidp (by have := hI.ok.few; omega)
  clear hI hR HD
  go_wp2_with fail
  refine (vReads_c HL.out.1 _ HV.out).mono ?_
  rintro e w90 ⟨r6, rfl, ho, hb⟩
  have HV := hidp (HV.out.keep hb)
  have HAA := hidp (HAA.out.keep hb)
  have HB := hidp (Bgo HB.out hb)
  have HR6 := hidp (rowV_nat6 ho)
  clear hb ho
  go_wp2_with fail
  refine (vWrites_c HL.out.2 _ HV.out).mono ?_
  rintro e w91 ⟨r7, rfl, ho, hb⟩
  have HV := hidp (HV.out.keep hb)
  have HAA := hidp (HAA.out.keep hb)
  have HB := hidp (Bgo HB.out hb)
  have HP7 := hidp (RowP.of_own ho)
  have HR7 := hidp (HR6.out.below hb)
  clear hb ho HR6
  go_wp2_with fail
  refine (vMissing_c _ HV.out).mono ?_
  rintro e w92 ⟨rfl, hw⟩
  subst hw
  go_wp2_with fail
  refine (Same_c HL.out.1 HL.out.2 r6 r7 _ HAA.out HR7.out HP7.out).mono ?_
  rintro e w93 ⟨rfl, hb⟩
  have HB := hidp (Bgo HB.out hb)
  clear hb HV HAA HR7 HP7
  go_wp2_with fail
  refine (live16_c _ (HTL.out.below HB.out)).mono ?_
  rintro e w19 ⟨rfl, hb⟩
  have HBL := hidp (Bgo HB.out hb)
  clear hb
  go_wp2
  go_ret
  exact ⟨rfl, HBL.out⟩
theorem SlabPicks_calls (t q s x0 x1 : Int) (hx0 : -9223372036854775808 ≤ x0 ∧ x0 ≤ 9223372036854775807) (hx1 : -9223372036854775808 ≤ x1 ∧ x1 ≤ 9223372036854775807) (A : Option Addr) (c : Nat) (vals : List Nat) (hnc : vals.length ≤ c) (hcm : c ≤ maxLen) (h32 : ∀ x ∈ vals, x < 2 ^ 32) (W : World) (hT : SlotsLaid W) (HR : Hid (Reads W W.heap.size 1 A vals.length (valVs vals))) :
    Calls Tryz.prog 3 #[.agg #[.int .i64 t, .int .i64 q, .int .i64 s], .slice A vals.length c, .agg #[.int .i64 x0, .int .i64 x1]] W (Keeps W) := by
  by_cases hq : q ≤ 64
  · rcases heap13_or W t q s A c vals hnc hcm h32 HR.out with ⟨m, hX⟩ | ⟨H, ad, m, rfl, rfl, rfl, rfl, hV, HV, hv, hto, hX⟩
    · exact SlabPicks_no t q s x0 x1 A _ c m hq W hT (hidp hX)
    · exact SlabPicks_main ad _ c m HV vals (hidp rfl) (hidp h32) (by omega) hnc x0 x1 hx0 W hT HR (hidp hv) (hidp hX)
  · exact SlabPicks_few t q s x0 x1 A _ c 0 (by omega) W hT
end
end Go.Proofs.YtioolaaphbddbaaGreatDoor

namespace Go.Proofs.YtioolaaphbddbaaGreatDoor
open Go.ChangeShapes Go.WideShapes Go.ChangeAt Go.RowKit
set_option linter.unusedVariables false
set_option linter.unusedSimpArgs false
section
set_option maxRecDepth 100000 in
theorem open_conf {H : Type} {enc : TypeId × Value → H} {W : World} {b base : Nat} {sp : Nat → Bool} {held : Bool} {v : Value} {d : DataW H} {p : List MemPlace}
    (hv : Value.okWide Tryz.prog W .any b 23 v) (h : DataW.Trod enc Tryz.prog W base sp held 23 v d p) :
    ∃ (t q s : Int), v = .agg #[.int .i64 t, .int .i64 q, .int .i64 s] := by
  obtain ⟨v0, v1, v2, y0, y1, y2, m, rfl, rfl, rfl, h0, h1, h2⟩ := Joins.open_agg3 Tryz.underlying23 (by kernel_rfl) (by kernel_rfl) hv h
  obtain ⟨a, e0, _, w0⟩ := DataW.trod_int Tryz.underlying3 h0
  obtain ⟨c, e1, _, w1⟩ := DataW.trod_int Tryz.underlying3 h1
  obtain ⟨k, e2, _, w2⟩ := DataW.trod_int Tryz.underlying3 h2
  simp at e0 e1 e2
  subst e0 e1 e2
  exact ⟨a, c, k, rfl⟩
end
section
set_option maxRecDepth 100000 in
theorem open_two15 {H : Type} {enc : TypeId × Value → H} {W : World} {b base : Nat} {sp : Nat → Bool} {held : Bool} {v : Value} {d : DataW H} {p : List MemPlace}
    (hv : Value.okWide Tryz.prog W .any b 25 v) (h : DataW.Trod enc Tryz.prog W base sp held 25 v d p) :
    ∃ (x y : Int), v = .agg #[.int .i64 x, .int .i64 y] ∧ (-9223372036854775808 ≤ x ∧ x ≤ 9223372036854775807) ∧ (-9223372036854775808 ≤ y ∧ y ≤ 9223372036854775807) := by
  have hu : Tryz.prog.underlying 25 = some (.array 2 3) := by kernel_rfl
  have hC : Tryz.prog.cellsOf 25 = 2 := by kernel_rfl
  have hc : Tryz.prog.cellsOf 3 = 1 := by kernel_rfl
  simp only [Value.okWide, hu] at hv
  obtain ⟨cs, rfl, h2, _⟩ := hv
  rw [hC] at h2
  obtain ⟨c0, c1, rfl⟩ : ∃ c0 c1, cs = #[c0, c1] := by
    rcases cs with ⟨l⟩
    match l, h2 with
    | [c0, c1], _ => exact ⟨c0, c1, rfl⟩
  obtain ⟨fuel, hf⟩ := h
  obtain ⟨xs, m, _, _, _, hl, hi⟩ := DataW.trod_array hu hf
  have h0 := hi 0 (by omega)
  have h1 := hi 1 (by omega)
  rw [hc] at h0 h1
  obtain ⟨y0, e0⟩ : ∃ y, xs[0]? = some y := ⟨_, List.getElem?_eq_getElem (by omega)⟩
  obtain ⟨y1, e1⟩ : ∃ y, xs[1]? = some y := ⟨_, List.getElem?_eq_getElem (by omega)⟩
  rw [e0] at h0
  rw [e1] at h1
  obtain ⟨a, f0, _, w0⟩ := DataW.trod_int Tryz.underlying3 h0
  obtain ⟨c, f1, _, w1⟩ := DataW.trod_int Tryz.underlying3 h1
  simp [Value.cells] at f0 f1
  subst f0 f1
  exact ⟨a, c, rfl, i64_bounds w0, i64_bounds w1⟩
end
end Go.Proofs.YtioolaaphbddbaaGreatDoor
