/-
  What the document's Pick does. Written by slab/gen_ref.py.
-/
import Derived.Test.YtjjfcaliippgpaaGreatDoorU10
import Derived.Test.YtjjfcaliippgpaaGreatDoorU19
import Derived.Test.YtjjfcaliippgpaaGreatDoorU13
import Derived.Test.YtjjfcaliippgpaaGreatDoorU18
import Derived.Test.YtjjfcaliippgpaaGreatDoorU16
import Derived.Test.YtjjfcaliippgpaaGreatDoorU01
import Derived.Test.YtjjfcaliippgpaaGreatDoorU05
import Derived.Test.YtjjfcaliippgpaaGreatDoorU07
import Derived.Test.YtjjfcaliippgpaaGreatDoorU08
namespace Go.Proofs.YtjjfcaliippgpaaGreatDoor
open Go.ChangeShapes Go.WideShapes Go.ChangeAt Go.RowKit Go.Maps
set_option linter.unusedVariables false
set_option linter.unusedSimpArgs false
set_option maxRecDepth 100000
section
theorem freeTo_more (v : Nat) {i m : Nat} (h : i <= m) : ∃ r, HM.freeTo v m = HM.freeTo v i ++ r := by
 induction m with
 | zero => exact ⟨[], by rw [show i = 0 by omega]; simp⟩
 | succ m ih =>
  by_cases e : i = m + 1
  ·exact ⟨[], by rw [e]; simp⟩
  ·obtain ⟨r, hr⟩ := ih (by omega)
   rw [HM.freeTo_succ, hr]
   exact ⟨_, List.append_assoc ..⟩
theorem someF_at {v m wn i nl : Nat} (hi : i <= m) (hl : (HM.freeTo v i).length = nl) (hn : nl <= wn) (he : i = m \/ nl = wn) : someF v m wn = HM.freeTo v i := by
 unfold someF
 rcases he with rfl | rfl
 ·exact List.take_of_length_le (by omega)
 ·obtain ⟨r, hr⟩ := freeTo_more v hi
  rw [hr, List.take_append_of_le_length (by omega), List.take_of_length_le (by omega)]
theorem layB_add {v m i j : Nat} (hv : v < 2 ^ 32) (hi : i <= 32) (hj : j < (HM.freeTo v i).length) : layB v ((HM.freeTo v i).take (j + 1)) = layB v ((HM.freeTo v i).take j) + 2 ^ (HM.freeTo v i).getD j 0 /\ (HM.freeTo v i).getD j 0 < 32 /\ layB v ((HM.freeTo v i).take (j + 1)) < 2 ^ 32 := by
 have hup : (HM.freeTo v i).Pairwise (· < ·) := by unfold HM.freeTo; exact List.pairwise_lt_range.filter _
 have hmem : ∀ x ∈ HM.freeTo v i, x < i /\ v.testBit x = false := fun x hx => by
  unfold HM.freeTo at hx
  rw [List.mem_filter, List.mem_range] at hx
  simpa using hx
 generalize HM.freeTo v i = l at *
 have hg : l.getD j 0 = l[j] := by simp [List.getD, List.getElem?_eq_getElem hj]
 have hm := hmem _ (List.getElem_mem hj)
 rw [hg]
 have e : layB v (l.take (j + 1)) = layB v (l.take j) ||| 2 ^ l[j] := by
  unfold layB
  rw [List.take_add_one, List.getElem?_eq_getElem hj, List.foldl_append]
  rfl
 refine ⟨?_, by omega, layB_lt _ _ hv (fun x hx => by have := (hmem x (List.mem_of_mem_take hx)).1; omega)⟩
 rw [e]
 refine (add_or16 ?_).symm
 apply Nat.eq_of_testBit_eq
 intro x
 rw [Nat.testBit_and, Nat.zero_testBit, testBit_pow]
 by_cases hx : x = l[j]
 ·subst hx
  rw [layB_bit, hm.2, Bool.false_or]
  have : ¬ l[j] ∈ l.take j := fun hin => by
   obtain ⟨y, hy, e2⟩ := List.mem_iff_getElem.1 hin
   have hy2 : y < j := by rw [List.length_take] at hy; omega
   rw [List.getElem_take] at e2
   have := List.pairwise_iff_getElem.1 hup y j (by omega) hj hy2
   omega
  rw [decide_eq_false this]
  rfl
 ·rw [decide_eq_false hx, Bool.and_false]
section
variable {O : Ob} {w0 ws w w' : World} {A G : Nat -> Prop} {N : Nat} {T : TypeId} {cs : Array Value} {base : Nat} {u : Value} {nl : Nat} {xs : List Value} {st s' : Vst}
theorem RowW.drew (h : RowW O w0 A G ws N T cs base u nl xs st w) : RowW O w0 A G ws N T cs base u nl xs st w.drew := h.keep (Bdrew (B0 w))
theorem RowW.endAll {c : Nat} {B : Option Addr} {l : List Nat} {p : Nat} (h : RowW O w0 A G ws N T cs ws.heap.size (.slice B nl c) nl (ntVs l) st w) (hl : l.length = nl) : PickEnd O w0 A G (some (p, l)) st ws (.returned (.tuple #[.int .i64 (p : Int), .slice B nl c, .bool true])) w := by
 have h1 := h.end_ (Nat.le_refl nl) (by rw [List.length_take]; omega)
 rw [List.take_of_length_le (by omega)] at h1
 exact ⟨_, rfl, h1⟩
end
section
variable {base b n : Nat} {wh all : Bool} {K : Nat -> Option Nat} {st : Vst} {w w0 : World} {A G : Nat -> Prop} {t q s k : Int}

set_option maxHeartbeats 6400000 in
theorem r16Pick_bad_k0 (want : Int) (hb : k < 0) (h : (rOb base b n all K).At w0 A G st w) :
  Calls Tryz.prog 45 #[.pointer (some ⟨b, 0, none⟩), .agg #[.int .i64 t, .int .i64 q, .int .i64 s], .int .i64 k, .int .i64 want] w (PickEnd (rOb base b n all K) w0 A G none st w) := by
 have W0 := hidp ((WL.start h).new 23 #[.int .i64 t, .int .i64 q, .int .i64 s])
 have t0 : decide (k < (0 : Int)) = true := decide_eq_true hb
 clear h
 go_enter Tryz.func45, Tryz.ntmps45
 obtain ⟨x0, x1, x2⟩ := W0.out.h0.three
 go_wp2
 go_ret3
 exact PickEnd.no W0.out.fin.1 W0.out.fin.2

set_option maxHeartbeats 6400000 in
theorem r16Pick_bad_k8 (want : Int) (hb : 8 < k) (h : (rOb base b n all K).At w0 A G st w) :
  Calls Tryz.prog 45 #[.pointer (some ⟨b, 0, none⟩), .agg #[.int .i64 t, .int .i64 q, .int .i64 s], .int .i64 k, .int .i64 want] w (PickEnd (rOb base b n all K) w0 A G none st w) := by
 have W0 := hidp ((WL.start h).new 23 #[.int .i64 t, .int .i64 q, .int .i64 s])
 have t0 : decide (k < (0 : Int)) = false := decide_eq_false (by omega)
 have t1 : decide ((8 : Int) < k) = true := decide_eq_true hb
 clear h
 go_enter Tryz.func45, Tryz.ntmps45
 obtain ⟨x0, x1, x2⟩ := W0.out.h0.three
 go_wp2
 go_ret3
 exact PickEnd.no W0.out.fin.1 W0.out.fin.2

set_option maxHeartbeats 6400000 in
theorem r16Pick_bad_low (want : Int) (k0 : 0 <= k) (k8 : k <= 8) (hb : want < 1) (h : (rOb base b n all K).At w0 A G st w) :
  Calls Tryz.prog 45 #[.pointer (some ⟨b, 0, none⟩), .agg #[.int .i64 t, .int .i64 q, .int .i64 s], .int .i64 k, .int .i64 want] w (PickEnd (rOb base b n all K) w0 A G none st w) := by
 have W0 := hidp ((WL.start h).new 23 #[.int .i64 t, .int .i64 q, .int .i64 s])
 have t0 : decide (k < (0 : Int)) = false := decide_eq_false (by omega)
 have t1 : decide ((8 : Int) < k) = false := decide_eq_false (by omega)
 have t2 : decide (want < (1 : Int)) = true := decide_eq_true hb
 clear h
 go_enter Tryz.func45, Tryz.ntmps45
 obtain ⟨x0, x1, x2⟩ := W0.out.h0.three
 go_wp2
 go_ret3
 exact PickEnd.no W0.out.fin.1 W0.out.fin.2

set_option maxHeartbeats 6400000 in
theorem r16Pick_bad_high (want : Int) (k0 : 0 <= k) (k8 : k <= 8) (hb : 4 < want) (h : (rOb base b n all K).At w0 A G st w) :
  Calls Tryz.prog 45 #[.pointer (some ⟨b, 0, none⟩), .agg #[.int .i64 t, .int .i64 q, .int .i64 s], .int .i64 k, .int .i64 want] w (PickEnd (rOb base b n all K) w0 A G none st w) := by
 have W0 := hidp ((WL.start h).new 23 #[.int .i64 t, .int .i64 q, .int .i64 s])
 have t0 : decide (k < (0 : Int)) = false := decide_eq_false (by omega)
 have t1 : decide ((8 : Int) < k) = false := decide_eq_false (by omega)
 have t2 : decide (want < (1 : Int)) = false := decide_eq_false (by omega)
 have t3 : decide ((4 : Int) < want) = true := decide_eq_true hb
 clear h
 go_enter Tryz.func45, Tryz.ntmps45
 obtain ⟨x0, x1, x2⟩ := W0.out.h0.three
 go_wp2
 go_ret3
 exact PickEnd.no W0.out.fin.1 W0.out.fin.2

set_option maxHeartbeats 6400000 in
theorem r16Pick_none (hn : n < 2 ^ 40) (hq : q <= 1024) (k0 : 0 <= k) (k8 : k <= 8) (wn : Nat) (hw : 1 <= wn) (hw2 : wn <= 4) (hr : getV n K st (13 + k) = 0) (s1 : Vst) (ht : takeI n K t q s 1 (getS n K st (13 + k)) = (none, s1)) (h : (rOb base b n all K).At w0 A G st w) :
  Calls Tryz.prog 45 #[.pointer (some ⟨b, 0, none⟩), .agg #[.int .i64 t, .int .i64 q, .int .i64 s], .int .i64 k, .int .i64 (wn : Int)] w (PickEnd (rOb base b n all K) w0 A G none s1 w) := by
 have W0 := hidp ((WL.start h).new 23 #[.int .i64 t, .int .i64 q, .int .i64 s])
 have hq2 : q <= 2 ^ 31 := by omega
 have t0 : decide (k < (0 : Int)) = false := decide_eq_false (by omega)
 have t1 : decide ((8 : Int) < k) = false := decide_eq_false (by omega)
 have t2 : decide ((wn : Int) < (1 : Int)) = false := decide_eq_false (by omega)
 have t3 : decide ((4 : Int) < (wn : Int)) = false := decide_eq_false (by omega)
 have HRK := hidp (rack_at k0 k8)
 have HRV := hidp hr
 have HTK := hidp ht
 clear h hr ht
 go_enter Tryz.func45, Tryz.ntmps45
 obtain ⟨x0, x1, x2⟩ := W0.out.h0.three
 go_wp2_with fail
 refine (r7Rack_c k _).mono ?_; rintro e w9 ⟨rfl, rfl⟩; rw [HRK.out]
 go_wp2_with fail
 refine (rGetA hn _ W0.out.at_).mono ?_; rintro e w1 ⟨rfl, h1, h2⟩; have W1 := hidp (W0.out.call h1 h2); clear h1 h2 W0; rw [HRV.out]
 obtain ⟨x0, x1, x2⟩ := W1.out.h0.three
 go_wp2_with fail
 refine (r15Take_c hn hq 1 W1.out.at_).mono ?_; rintro e w2 ⟨rfl, h1, h2⟩; have W2 := hidp (W1.out.call h1 h2); clear h1 h2 W1; rw [HTK.out] at W2 ⊢; dsimp only [foundI, Option.isSome] at W2 ⊢
 obtain ⟨x0, x1, x2⟩ := W2.out.h0.three
 go_wp2
 go_ret3
 exact PickEnd.no W2.out.fin.1 W2.out.fin.2

set_option maxHeartbeats 6400000 in
theorem r16Pick_rack (hn : n < 2 ^ 40) (hq : q <= 1024) (k0 : 0 <= k) (k8 : k <= 8) (wn : Nat) (hw : 1 <= wn) (hw2 : wn <= 4) (p : Nat) (hr : getV n K st (13 + k) = p + 1) (v : Nat) (hv : getV n K (getS n K st (13 + k)) (pageI t q s (p : Int) 5) = v) (h : (rOb base b n all K).At w0 A G st w) :
    Calls Tryz.prog 45 #[.pointer (some ⟨b, 0, none⟩), .agg #[.int .i64 t, .int .i64 q, .int .i64 s], .int .i64 k, .int .i64 (wn : Int)] w (PickEnd (rOb base b n all K) w0 A G (pickAt n K t q s k p wn (getS n K st (13 + k))).1 (pickAt n K t q s k p wn (getS n K st (13 + k))).2 w) := by
  have W0 := hidp ((WL.start h).new 23 #[.int .i64 t, .int .i64 q, .int .i64 s])
  have hq2 : q <= 2 ^ 31 := by omega
  have t0 : decide (k < (0 : Int)) = false := decide_eq_false (by omega)
  have t1 : decide ((8 : Int) < k) = false := decide_eq_false (by omega)
  have t2 : decide ((wn : Int) < (1 : Int)) = false := decide_eq_false (by omega)
  have t3 : decide ((4 : Int) < (wn : Int)) = false := decide_eq_false (by omega)
  have HRK := hidp (rack_at k0 k8)
  obtain ⟨i0, hin, hz0, hz1, hz2⟩ := info_parts intInfo
  obtain ⟨m, hm⟩ : ∃ m, slotI k = m := ⟨_, rfl⟩
  have hm32 : m <= 32 := by rw [<- hm]; exact slotI_le k
  have HMM := hidp hm
  have HGL : Hid (∀ g, G g -> g < w.heap.size) := hidp (fun g x => h.own_lt g x)
  obtain ⟨rv, hrv⟩ : ∃ rv, p + 1 = rv := ⟨_, rfl⟩
  have hrl := rAt_lt h (13 + k)
  rw [hr, hrv] at hrl
  rw [hrv] at hr
  have HRV := hidp hr
  have v1 : (rv : Int) - 1 = (p : Int) := by omega
  have v2 : IntKind.i64.wrap ((rv : Int) - 1) = (p : Int) := by rw [v1]; exact i64_same (by omega) (by omega)
  have v3 : ((rv : Int) == 0) = false := by simp; omega
  have HV := hidp hv
  clear h hr hrv hm hv
  go_enter Tryz.func45, Tryz.ntmps45
  obtain ⟨x0, x1, x2⟩ := W0.out.h0.three
  go_wp2_with fail
  refine (r7Rack_c k _).mono ?_; rintro e w9 ⟨rfl, rfl⟩; rw [HRK.out]
  go_wp2_with fail
  refine (rGetA hn _ W0.out.at_).mono ?_; rintro e w1 ⟨rfl, h1, h2⟩; have W1 := hidp (W0.out.call h1 h2); clear h1 h2 W0; rw [HRV.out]
  obtain ⟨x0, x1, x2⟩ := W1.out.h0.three
  go_wp2_with fail
  refine (r7Taken_c t q s (p : Int) _).mono ?_; rintro e w2 ⟨rfl, hb⟩; have W2 := hidp (W1.out.keep hb); clear hb W1
  obtain ⟨x0, x1, x2⟩ := W2.out.h0.three
  have hv32 : v < 2 ^ 32 := by rw [<- HV.out]; exact rAt_lt W2.out.at_ _
  go_wp2_with fail
  refine (rGetA hn _ W2.out.at_).mono ?_; rintro e w3 ⟨rfl, h1, h2⟩; have W3 := hidp (W2.out.call h1 h2); clear h1 h2 W2; rw [HV.out]
  obtain ⟨x0, x1, x2⟩ := W3.out.h0.three
  have HO0 : Hid ((w3.alloc (.cells #[] 3)).ownsRow w3.heap.size 3 1 (.slice (some ⟨w3.heap.size, 0, none⟩) 0 0) 0 []) := hidp (World.ownsRow_lit (base := w3.heap.size) (e := 3) (size := 1) w3 #[] 0 (by simp) (by unfold maxLen; omega) rfl)
  have HR := hidp (W3.out.row (Bnew (B0 _) (.cells #[] 3)) HO0.out)
  clear W3 HO0 x0 x1 x2
  obtain ⟨x0, x1, x2⟩ := HR.out.held.three
  go_wp2_with fail
  generalize hW1 : w3.alloc (.cells #[] 3) = W1 at *
  generalize hN1 : w3.heap.size = N1 at *
  clear hW1 hN1
  go_loopw [16, 17] (fun u16 u17 wr => ∃ (i nl : Nat), u17 = .int .i64 (i : Int) /\ i <= m /\ nl <= wn /\ Hid ((HM.freeTo v i).length = nl) /\ (∃ B c, u16 = .slice B nl c /\ nl <= c /\ c <= 9223372036854775807) /\ Hid (RowW (rOb base b n all K) w0 A G w w.heap.size 23 #[.int .i64 t, .int .i64 q, .int .i64 s] w.heap.size u16 nl (ntVs (HM.freeTo v i)) (getS n K (getS n K st (13 + k)) (pageI t q s (p : Int) 5)) wr)) (fun _ u17 _ => m - (intOf u17).toNat)
  case atStart => exact ⟨0, 0, by go_num, by omega, by omega, hidp rfl, ⟨_, _, rfl, by omega, by omega⟩, HR⟩
  case round =>
    clear HR x0 x1 x2
    obtain ⟨i, nl, rfl, hi, hnl, HLN, ⟨B, cu, rfl, hcu0, hcu⟩, HR⟩ := hrel
    obtain ⟨x0, x1, x2⟩ := HR.out.held.three
    have hsl : ∀ W : World, Calls Tryz.prog 72 #[.int .i64 k] W fun e w' => e = .returned (.int .i64 (m : Int)) /\ W = w' := fun W => by have := r5Slots_c k (by omega) (by omega) W; rw [HMM.out] at this; exact this
    by_cases hgo : i < m /\ nl < wn
    · have t4 : decide ((i : Int) < (m : Int)) = true := decide_eq_true (by omega)
      have t5 : decide ((nl : Int) < (wn : Int)) = true := decide_eq_true (by omega)
      have hi32 : i < 32 := by omega
      have HLE := hidp hnl
      cases hbit : v.testBit i
      · have HT := hidp ((congrArg v.testBit (Int.toNat_natCast i)).trans hbit)
        have HZ := hidp (HM.freeTo_succ v i)
        have HBT := hidp hbit
        clear hbit
        go_wp2_with (first
          | (go_at_call 72; refine (hsl _).mono ?_; rintro e w9 ⟨rfl, rfl⟩)
          | (go_at_call 58; refine (Bit_c v i _ hv32 (by omega) (by omega) HT.out _).mono ?_; rintro e w9 ⟨rfl, rfl⟩)
          | (at_builtin
             refine wpList_append_lies _ rfl _ _ 42 rfl w.heap.size 3 i0 (.int .i64 0) 1 8 Tryz.underlying42 hin hz0 hz1 hz2 rfl (by decide) (.slice B nl cu) nl (ntVs (HM.freeTo v i)) rfl (own_below HR.out.own (Bnew (B0 _) _)) ⟨_, 0, none⟩ 1 1 [.int .i64 (i : Int)] rfl rfl ?c1 ?c2 (by omega) ?c3 ?c4 ?c5 _ rfl ?_
             case c1 => intro j y hy; rcases j with _ | j; (· simp at hy; subst hy; simp [Addr.add]); (· simp at hy)
             case c2 => simp [Value.oneCell']
             case c3 => unfold maxLen; omega
             case c4 => omega
             case c5 => have := HR.out.held.lt; simp; omega
             intro g cap w4 hown4 hgrow4 hat4 hlt4
             have HR4 := hidp (row_grown HR.out.at_ HR.out.own HR.out.held (heldOwn_ne HR.out.held HR.out.own (by decide)) HR.out.stay hown4 hgrow4 hat4 hlt4 HGL.out)
             clear hown4 hgrow4 hat4 hlt4 x0 x1 x2
             obtain ⟨x0, x1, x2⟩ := HR4.out.held.three)
          | fail)
        have hcc := own_caps9 HR4.out.own
        go_roundw
        case rel => exact ⟨i + 1, nl + 1, by go_num, by omega, by omega, hidp (by rw [HZ.out, HBT.out, List.length_append, HLN.out]; rfl), ⟨_, _, rfl, hcc.1, hcc.2⟩, hidp (by rw [HZ.out, HBT.out]; rw [if_neg (by simp), ntVs_snoc]; exact HR4.out)⟩
        case measure => simp [intOf]; omega
      · have HT := hidp ((congrArg v.testBit (Int.toNat_natCast i)).trans hbit)
        have HZ := hidp (HM.freeTo_succ v i)
        have HBT := hidp hbit
        clear hbit
        go_wp2_with (first
          | (go_at_call 72; refine (hsl _).mono ?_; rintro e w9 ⟨rfl, rfl⟩)
          | (go_at_call 58; refine (Bit_c v i _ hv32 (by omega) (by omega) HT.out _).mono ?_; rintro e w9 ⟨rfl, rfl⟩)
          | fail)
        go_roundw
        case rel => exact ⟨i + 1, nl, by go_num, by omega, by omega, hidp (by rw [HZ.out, HBT.out, if_pos rfl, List.append_nil]; exact HLN.out), ⟨_, _, rfl, hcu0, hcu⟩, hidp (by rw [HZ.out, HBT.out, if_pos rfl, List.append_nil]; exact HR.out)⟩
        case measure => simp [intOf]; omega
    · have HSF := hidp (someF_at (v := v) hi HLN.out hnl (by omega))
      have HLA := hidp (fun (j : Nat) (hj : j < nl) => layB_add (m := m) hv32 (show i <= 32 by omega) (show j < (HM.freeTo v i).length by rw [HLN.out]; exact hj))
      have HL32 : Hid (∀ x ∈ HM.freeTo v i, x < 32) := hidp (fun x hx => by unfold HM.freeTo at hx; rw [List.mem_filter, List.mem_range] at hx; omega)
      generalize HM.freeTo v i = l at *
      by_cases hn0 : nl = 0
      · subst hn0
        have hl0 : l = [] := List.eq_nil_of_length_eq_zero HLN.out
        have hpe : pickAt n K t q s k p wn (getS n K st (13 + k)) = (none, (getS n K (getS n K st (13 + k)) (pageI t q s (p : Int) 5))) := pickAt_none HV.out (by rw [HMM.out, HSF.out, hl0])
        have HPE := hidp hpe
        clear hpe hl0
        have him : ¬ i < m := fun e => hgo ⟨e, by omega⟩
        have t4 : decide ((i : Int) < (m : Int)) = false := decide_eq_false (by omega)
        have t5 : decide (i < m) = false := decide_eq_false him
        clear hgo him
        go_wp2_with (first | (go_at_call 72; refine (hsl _).mono ?_; rintro e w9 ⟨rfl, rfl⟩) | fail)
        go_ret3
        rw [HPE.out]
        exact PickEnd.no HR.out.fin0.1 HR.out.fin0.2
      · have hl0 : l ≠ [] := fun e => hn0 (by rw [<- HLN.out, e]; rfl)
        obtain ⟨u, hu⟩ : ∃ u, layB v l = u := ⟨_, rfl⟩
        obtain ⟨bb, hbb⟩ : ∃ bb, fullB u k = bb := ⟨_, rfl⟩
        have hu32 : u < 2 ^ 32 := by rw [<- hu]; exact layB_lt _ _ hv32 HL32.out
        have hpe : pickAt n K t q s k p wn (getS n K st (13 + k)) = (some (p, l), bitsS n K t q s k p u bb (getS n K st (13 + k))) := by rw [pickAt_some HV.out (by rw [HMM.out, HSF.out]) hl0, hu, hbb]
        have HPE := hidp hpe
        have HU : Hid (layB v (l.take nl) = u) := hidp (by rw [<- hu, List.take_of_length_le (by rw [HLN.out]; exact Nat.le_refl _)])
        have HBB := hidp hbb
        clear hpe hl0 hu hbb
        obtain ⟨g2, c3, hg2, _⟩ := HR.out.own.form (by omega)
        injection hg2 with hg3 _ hg4
        subst hg3
        clear hg4
        have t8 : ((nl : Int) == 0) = false := by simp; omega
        have HCL : Hid (∀ j, j < nl -> wr.cell? ⟨g2, j, none⟩ = some (.int .i64 ((l.getD j 0 : Nat) : Int))) := hidp (fun j hj => by have := row_cells HR.out.own (Nat.le_refl nl) HLN.out j hj; rw [Nat.zero_add, List.take_of_length_le (by rw [HLN.out]; exact Nat.le_refl _)] at this; exact this)
        obtain ⟨b0, hb0⟩ : ∃ b0, decide ((i : Int) < (m : Int)) = b0 := ⟨_, rfl⟩
        have hb1 : decide (i < m) = b0 := by rw [<- hb0]; exact decide_eq_decide.2 (by omega)
        have t5 : b0 = true -> decide ((nl : Int) < (wn : Int)) = false := fun e => by rw [e] at hb0; have := of_decide_eq_true hb0; exact decide_eq_false (by omega)
        cases b0
        all_goals
          have t6 := hidp t5
          clear t5
          try (have t7 := t6.out rfl)
          try (have t7n : decide (nl < wn) = false := by rw [<- t7]; exact decide_eq_decide.2 (by omega))
          go_wp2_with (first | (go_at_call 72; refine (hsl _).mono ?_; rintro e w9 ⟨rfl, rfl⟩) | fail)
          skip
          go_loopw [15, 18] (fun u15 u18 wr2 => ∃ j : Nat, j <= nl /\ u18 = .int .i64 (j : Int) /\ u15 = .int .u32 ((layB v (l.take j) : Nat) : Int) /\ wr2 = wr) (fun _ u18 _ => nl - (intOf u18).toNat)
          case atStart => exact ⟨0, by omega, by go_num, by simp [layB], rfl⟩
          case round =>
            obtain ⟨j, hj, rfl, rfl, rfl⟩ := hrel
            by_cases hlt : j < nl
            · have c1 := HCL.out j hlt
              obtain ⟨e1, e2, e3⟩ := HLA.out j hlt
              have HE := hidp e1
              rw [e1] at e3
              clear e1
              generalize l.getD j 0 = x at *
              generalize layB v (l.take j) = y at *
              obtain ⟨z, hz⟩ : ∃ z, 2 ^ x = z := ⟨_, rfl⟩
              have HBI : Hid (∀ W, Calls Tryz.prog 44 #[.int .i64 (x : Int)] W fun e w' => e = .returned (.int .u32 (z : Int)) /\ W = w') := hidp (fun W => by rw [<- hz]; exact r16Bit_c x e2 W)
              rw [hz] at HE e3
              clear hz
              have v9 : IntKind.u32.wrap ((y : Int) + (z : Int)) = (y : Int) + (z : Int) := wrap32_small (by omega) (by omega)
              go_wp2_with (first | (go_at_call 44; refine (HBI.out _).mono ?_; rintro e w9 ⟨rfl, rfl⟩) | fail)
              go_roundw
              case rel => exact ⟨j + 1, by omega, by go_num, by rw [HE.out]; go_num, by first | rfl | trivial⟩
              case measure => simp [intOf]; omega
            · obtain rfl : j = nl := by omega
              rw [HU.out]
              go_wp2_with fail
              have W0 := HR
              clear HR
              refine (r7Taken_c t q s (p : Int) _).mono ?_; rintro e w1 ⟨rfl, hb⟩; have W1 := hidp (W0.out.keep hb); clear hb W0
              obtain ⟨x0, x1, x2⟩ := W1.out.h0.three
              go_wp2_with fail
              refine (rPutA hn _ u hu32 W1.out.at_).mono ?_; rintro e w2 ⟨rfl, h1, h2⟩; have W2 := hidp (W1.out.call h1 h2); clear h1 h2 W1
              obtain ⟨x0, x1, x2⟩ := W2.out.h0.three
              go_wp2_with fail
              refine (r16Full_c u k k0 k8 hu32 _).mono ?_; rintro e w9 ⟨rfl, rfl⟩; rw [HBB.out]
              cases bb with
              | false =>
                go_wp2
                go_ret3
                rw [HPE.out]
                exact W2.out.endAll HLN.out
              | true =>
                go_wp2_with fail
                refine wp_region_held_drew (S := (fun w' => w'.cell? ⟨w.heap.size, 0, none⟩ = some (.int .i64 t) /\ w'.cell? ⟨w.heap.size, 1, none⟩ = some (.int .i64 q) /\ w'.cell? ⟨w.heap.size, 2, none⟩ = some (.int .i64 s))) (by kernel_rfl) ?_ (fun hHeld => ?_)
                · (try dsimp only)
                  exact ⟨W2.out.drew.h0.three.1, W2.out.drew.h0.three.2.1, W2.out.drew.h0.three.2.2⟩
                refine tkz 0 ?_
                refine tkz 1 ?_
                refine tkz 2 ?_
                refine tkz 4 ?_
                refine rdz 3 fun K hK => ?_
                go_simp
                refine (r7Rack_c k _).mono ?_; rintro e w9 ⟨rfl, rfl⟩; rw [HRK.out]
                refine hK.out _ _ ?_ (fun hHeld => ?_)
                · (try dsimp only)
                  exact ⟨W2.out.drew.h0.three.1, W2.out.drew.h0.three.2.1, W2.out.drew.h0.three.2.2⟩
                clear hK K
                (try simp only [Act.put, gA, gB, gC, sA, sB, sC])
                refine rdz 5 fun K hK => ?_
                go_simp
                refine (rkPull_c hn hq2 (p : Int) W2.out.drew.at_).mono ?_; rintro e w3 ⟨rfl, h1, h2⟩; have W3 := hidp (W2.out.drew.call h1 h2); clear h1 h2 W2
                refine hK.out _ _ ?_ (fun hHeld => ?_)
                · (try dsimp only)
                  exact ⟨W3.out.h0.three.1, W3.out.h0.three.2.1, W3.out.h0.three.2.2⟩
                clear hK K
                (try simp only [Act.put, gA, gB, gC, sA, sB, sC])
                refine dnz ?_
                obtain ⟨x0, x1, x2⟩ := W3.out.h0.three
                go_wp2
                go_ret3
                rw [HPE.out]
                exact W3.out.endAll HLN.out

set_option maxHeartbeats 6400000 in
theorem r16Pick_fresh (hn : n < 2 ^ 40) (hq : q <= 1024) (k0 : 0 <= k) (k8 : k <= 8) (wn : Nat) (hw : 1 <= wn) (hw2 : wn <= 4) (p : Nat) (hr : getV n K st (13 + k) = 0) (s1 s2 : Vst) (ht : takeI n K t q s 1 (getS n K st (13 + k)) = (some p, s1)) (hs2 : slabS n K t q s k p s1 = s2) (v : Nat) (hv : getV n K s2 (pageI t q s (p : Int) 5) = v) (h : (rOb base b n all K).At w0 A G st w) :
    Calls Tryz.prog 45 #[.pointer (some ⟨b, 0, none⟩), .agg #[.int .i64 t, .int .i64 q, .int .i64 s], .int .i64 k, .int .i64 (wn : Int)] w (PickEnd (rOb base b n all K) w0 A G (pickAt n K t q s k p wn s2).1 (pickAt n K t q s k p wn s2).2 w) := by
  have W0 := hidp ((WL.start h).new 23 #[.int .i64 t, .int .i64 q, .int .i64 s])
  have hq2 : q <= 2 ^ 31 := by omega
  have t0 : decide (k < (0 : Int)) = false := decide_eq_false (by omega)
  have t1 : decide ((8 : Int) < k) = false := decide_eq_false (by omega)
  have t2 : decide ((wn : Int) < (1 : Int)) = false := decide_eq_false (by omega)
  have t3 : decide ((4 : Int) < (wn : Int)) = false := decide_eq_false (by omega)
  have HRK := hidp (rack_at k0 k8)
  obtain ⟨i0, hin, hz0, hz1, hz2⟩ := info_parts intInfo
  obtain ⟨m, hm⟩ : ∃ m, slotI k = m := ⟨_, rfl⟩
  have hm32 : m <= 32 := by rw [<- hm]; exact slotI_le k
  have HMM := hidp hm
  have HGL : Hid (∀ g, G g -> g < w.heap.size) := hidp (fun g x => h.own_lt g x)
  have HRV := hidp hr
  have HTK := hidp ht
  have HS2 := hidp hs2
  unfold slabS at HS2
  have HV := hidp hv
  have HIV := hidp (infoV_lt 3 1 k)
  clear h hr ht hm hv hs2
  go_enter Tryz.func45, Tryz.ntmps45
  obtain ⟨x0, x1, x2⟩ := W0.out.h0.three
  go_wp2_with fail
  refine (r7Rack_c k _).mono ?_; rintro e w9 ⟨rfl, rfl⟩; rw [HRK.out]
  go_wp2_with fail
  refine (rGetA hn _ W0.out.at_).mono ?_; rintro e w1 ⟨rfl, h1, h2⟩; have W1 := hidp (W0.out.call h1 h2); clear h1 h2 W0; rw [HRV.out]
  obtain ⟨x0, x1, x2⟩ := W1.out.h0.three
  go_wp2_with fail
  refine (r15Take_c hn hq 1 W1.out.at_).mono ?_; rintro e w2 ⟨rfl, h1, h2⟩; have W2 := hidp (W1.out.call h1 h2); clear h1 h2 W1; rw [HTK.out] at W2 ⊢; dsimp only [foundI, Option.isSome] at W2 ⊢
  obtain ⟨x0, x1, x2⟩ := W2.out.h0.three
  go_wp2_with fail
  refine (r7Info_c t q s (p : Int) _).mono ?_; rintro e w3 ⟨rfl, hb⟩; have W3 := hidp (W2.out.keep hb); clear hb W2
  obtain ⟨x0, x1, x2⟩ := W3.out.h0.three
  go_wp2_with fail
  refine (r9Value_c 3 1 k _).mono ?_; rintro e w4 ⟨rfl, hb⟩; have W4 := hidp (W3.out.keep hb); clear hb W3
  obtain ⟨x0, x1, x2⟩ := W4.out.h0.three
  go_wp2_with fail
  refine (rPutA hn _ _ HIV.out W4.out.at_).mono ?_; rintro e w5 ⟨rfl, h1, h2⟩; have W5 := hidp (W4.out.call h1 h2); clear h1 h2 W4
  obtain ⟨x0, x1, x2⟩ := W5.out.h0.three
  go_wp2_with fail
  refine wp_region_held_drew (S := (fun w' => w'.cell? ⟨w.heap.size, 0, none⟩ = some (.int .i64 t) /\ w'.cell? ⟨w.heap.size, 1, none⟩ = some (.int .i64 q) /\ w'.cell? ⟨w.heap.size, 2, none⟩ = some (.int .i64 s))) (by kernel_rfl) ?_ (fun hHeld => ?_)
  · (try dsimp only)
    exact ⟨W5.out.drew.h0.three.1, W5.out.drew.h0.three.2.1, W5.out.drew.h0.three.2.2⟩
  refine tkz 0 ?_
  refine tkz 1 ?_
  refine tkz 2 ?_
  refine tkz 4 ?_
  refine rdz 3 fun K hK => ?_
  go_simp
  refine (r7Rack_c k _).mono ?_; rintro e w9 ⟨rfl, rfl⟩; rw [HRK.out]
  refine hK.out _ _ ?_ (fun hHeld => ?_)
  · (try dsimp only)
    exact ⟨W5.out.drew.h0.three.1, W5.out.drew.h0.three.2.1, W5.out.drew.h0.three.2.2⟩
  clear hK K
  (try simp only [Act.put, gA, gB, gC, sA, sB, sC])
  refine rdz 5 fun K hK => ?_
  go_simp
  refine (rkPush_c hn hq2 (p : Int) W5.out.drew.at_).mono ?_; rintro e w6 ⟨rfl, h1, h2⟩; have W6 := hidp (W5.out.drew.call h1 h2); clear h1 h2 W5; rw [HS2.out] at W6
  refine hK.out _ _ ?_ (fun hHeld => ?_)
  · (try dsimp only)
    exact ⟨W6.out.h0.three.1, W6.out.h0.three.2.1, W6.out.h0.three.2.2⟩
  clear hK K
  (try simp only [Act.put, gA, gB, gC, sA, sB, sC])
  refine dnz ?_
  obtain ⟨x0, x1, x2⟩ := W6.out.h0.three
  go_wp2_with fail
  refine (r7Taken_c t q s (p : Int) _).mono ?_; rintro e w7 ⟨rfl, hb⟩; have W7 := hidp (W6.out.keep hb); clear hb W6
  obtain ⟨x0, x1, x2⟩ := W7.out.h0.three
  have hv32 : v < 2 ^ 32 := by rw [<- HV.out]; exact rAt_lt W7.out.at_ _
  go_wp2_with fail
  refine (rGetA hn _ W7.out.at_).mono ?_; rintro e w8 ⟨rfl, h1, h2⟩; have W8 := hidp (W7.out.call h1 h2); clear h1 h2 W7; rw [HV.out]
  obtain ⟨x0, x1, x2⟩ := W8.out.h0.three
  have HO0 : Hid ((w8.alloc (.cells #[] 3)).ownsRow w8.heap.size 3 1 (.slice (some ⟨w8.heap.size, 0, none⟩) 0 0) 0 []) := hidp (World.ownsRow_lit (base := w8.heap.size) (e := 3) (size := 1) w8 #[] 0 (by simp) (by unfold maxLen; omega) rfl)
  have HR := hidp (W8.out.row (Bnew (B0 _) (.cells #[] 3)) HO0.out)
  clear W8 HO0 x0 x1 x2
  obtain ⟨x0, x1, x2⟩ := HR.out.held.three
  go_wp2_with fail
  generalize hW1 : w8.alloc (.cells #[] 3) = W1 at *
  generalize hN1 : w8.heap.size = N1 at *
  clear hW1 hN1
  go_loopw [16, 17] (fun u16 u17 wr => ∃ (i nl : Nat), u17 = .int .i64 (i : Int) /\ i <= m /\ nl <= wn /\ Hid ((HM.freeTo v i).length = nl) /\ (∃ B c, u16 = .slice B nl c /\ nl <= c /\ c <= 9223372036854775807) /\ Hid (RowW (rOb base b n all K) w0 A G w w.heap.size 23 #[.int .i64 t, .int .i64 q, .int .i64 s] w.heap.size u16 nl (ntVs (HM.freeTo v i)) (getS n K s2 (pageI t q s (p : Int) 5)) wr)) (fun _ u17 _ => m - (intOf u17).toNat)
  case atStart => exact ⟨0, 0, by go_num, by omega, by omega, hidp rfl, ⟨_, _, rfl, by omega, by omega⟩, HR⟩
  case round =>
    clear HR x0 x1 x2
    obtain ⟨i, nl, rfl, hi, hnl, HLN, ⟨B, cu, rfl, hcu0, hcu⟩, HR⟩ := hrel
    obtain ⟨x0, x1, x2⟩ := HR.out.held.three
    have hsl : ∀ W : World, Calls Tryz.prog 72 #[.int .i64 k] W fun e w' => e = .returned (.int .i64 (m : Int)) /\ W = w' := fun W => by have := r5Slots_c k (by omega) (by omega) W; rw [HMM.out] at this; exact this
    by_cases hgo : i < m /\ nl < wn
    · have t4 : decide ((i : Int) < (m : Int)) = true := decide_eq_true (by omega)
      have t5 : decide ((nl : Int) < (wn : Int)) = true := decide_eq_true (by omega)
      have hi32 : i < 32 := by omega
      have HLE := hidp hnl
      cases hbit : v.testBit i
      · have HT := hidp ((congrArg v.testBit (Int.toNat_natCast i)).trans hbit)
        have HZ := hidp (HM.freeTo_succ v i)
        have HBT := hidp hbit
        clear hbit
        go_wp2_with (first
          | (go_at_call 72; refine (hsl _).mono ?_; rintro e w9 ⟨rfl, rfl⟩)
          | (go_at_call 58; refine (Bit_c v i _ hv32 (by omega) (by omega) HT.out _).mono ?_; rintro e w9 ⟨rfl, rfl⟩)
          | (at_builtin
             refine wpList_append_lies _ rfl _ _ 42 rfl w.heap.size 3 i0 (.int .i64 0) 1 8 Tryz.underlying42 hin hz0 hz1 hz2 rfl (by decide) (.slice B nl cu) nl (ntVs (HM.freeTo v i)) rfl (own_below HR.out.own (Bnew (B0 _) _)) ⟨_, 0, none⟩ 1 1 [.int .i64 (i : Int)] rfl rfl ?c1 ?c2 (by omega) ?c3 ?c4 ?c5 _ rfl ?_
             case c1 => intro j y hy; rcases j with _ | j; (· simp at hy; subst hy; simp [Addr.add]); (· simp at hy)
             case c2 => simp [Value.oneCell']
             case c3 => unfold maxLen; omega
             case c4 => omega
             case c5 => have := HR.out.held.lt; simp; omega
             intro g cap w4 hown4 hgrow4 hat4 hlt4
             have HR4 := hidp (row_grown HR.out.at_ HR.out.own HR.out.held (heldOwn_ne HR.out.held HR.out.own (by decide)) HR.out.stay hown4 hgrow4 hat4 hlt4 HGL.out)
             clear hown4 hgrow4 hat4 hlt4 x0 x1 x2
             obtain ⟨x0, x1, x2⟩ := HR4.out.held.three)
          | fail)
        have hcc := own_caps9 HR4.out.own
        go_roundw
        case rel => exact ⟨i + 1, nl + 1, by go_num, by omega, by omega, hidp (by rw [HZ.out, HBT.out, List.length_append, HLN.out]; rfl), ⟨_, _, rfl, hcc.1, hcc.2⟩, hidp (by rw [HZ.out, HBT.out]; rw [if_neg (by simp), ntVs_snoc]; exact HR4.out)⟩
        case measure => simp [intOf]; omega
      · have HT := hidp ((congrArg v.testBit (Int.toNat_natCast i)).trans hbit)
        have HZ := hidp (HM.freeTo_succ v i)
        have HBT := hidp hbit
        clear hbit
        go_wp2_with (first
          | (go_at_call 72; refine (hsl _).mono ?_; rintro e w9 ⟨rfl, rfl⟩)
          | (go_at_call 58; refine (Bit_c v i _ hv32 (by omega) (by omega) HT.out _).mono ?_; rintro e w9 ⟨rfl, rfl⟩)
          | fail)
        go_roundw
        case rel => exact ⟨i + 1, nl, by go_num, by omega, by omega, hidp (by rw [HZ.out, HBT.out, if_pos rfl, List.append_nil]; exact HLN.out), ⟨_, _, rfl, hcu0, hcu⟩, hidp (by rw [HZ.out, HBT.out, if_pos rfl, List.append_nil]; exact HR.out)⟩
        case measure => simp [intOf]; omega
    · have HSF := hidp (someF_at (v := v) hi HLN.out hnl (by omega))
      have HLA := hidp (fun (j : Nat) (hj : j < nl) => layB_add (m := m) hv32 (show i <= 32 by omega) (show j < (HM.freeTo v i).length by rw [HLN.out]; exact hj))
      have HL32 : Hid (∀ x ∈ HM.freeTo v i, x < 32) := hidp (fun x hx => by unfold HM.freeTo at hx; rw [List.mem_filter, List.mem_range] at hx; omega)
      generalize HM.freeTo v i = l at *
      by_cases hn0 : nl = 0
      · subst hn0
        have hl0 : l = [] := List.eq_nil_of_length_eq_zero HLN.out
        have hpe : pickAt n K t q s k p wn s2 = (none, (getS n K s2 (pageI t q s (p : Int) 5))) := pickAt_none HV.out (by rw [HMM.out, HSF.out, hl0])
        have HPE := hidp hpe
        clear hpe hl0
        have him : ¬ i < m := fun e => hgo ⟨e, by omega⟩
        have t4 : decide ((i : Int) < (m : Int)) = false := decide_eq_false (by omega)
        have t5 : decide (i < m) = false := decide_eq_false him
        clear hgo him
        go_wp2_with (first | (go_at_call 72; refine (hsl _).mono ?_; rintro e w9 ⟨rfl, rfl⟩) | fail)
        go_ret3
        rw [HPE.out]
        exact PickEnd.no HR.out.fin0.1 HR.out.fin0.2
      · have hl0 : l ≠ [] := fun e => hn0 (by rw [<- HLN.out, e]; rfl)
        obtain ⟨u, hu⟩ : ∃ u, layB v l = u := ⟨_, rfl⟩
        obtain ⟨bb, hbb⟩ : ∃ bb, fullB u k = bb := ⟨_, rfl⟩
        have hu32 : u < 2 ^ 32 := by rw [<- hu]; exact layB_lt _ _ hv32 HL32.out
        have hpe : pickAt n K t q s k p wn s2 = (some (p, l), bitsS n K t q s k p u bb s2) := by rw [pickAt_some HV.out (by rw [HMM.out, HSF.out]) hl0, hu, hbb]
        have HPE := hidp hpe
        have HU : Hid (layB v (l.take nl) = u) := hidp (by rw [<- hu, List.take_of_length_le (by rw [HLN.out]; exact Nat.le_refl _)])
        have HBB := hidp hbb
        clear hpe hl0 hu hbb
        obtain ⟨g2, c3, hg2, _⟩ := HR.out.own.form (by omega)
        injection hg2 with hg3 _ hg4
        subst hg3
        clear hg4
        have t8 : ((nl : Int) == 0) = false := by simp; omega
        have HCL : Hid (∀ j, j < nl -> wr.cell? ⟨g2, j, none⟩ = some (.int .i64 ((l.getD j 0 : Nat) : Int))) := hidp (fun j hj => by have := row_cells HR.out.own (Nat.le_refl nl) HLN.out j hj; rw [Nat.zero_add, List.take_of_length_le (by rw [HLN.out]; exact Nat.le_refl _)] at this; exact this)
        obtain ⟨b0, hb0⟩ : ∃ b0, decide ((i : Int) < (m : Int)) = b0 := ⟨_, rfl⟩
        have hb1 : decide (i < m) = b0 := by rw [<- hb0]; exact decide_eq_decide.2 (by omega)
        have t5 : b0 = true -> decide ((nl : Int) < (wn : Int)) = false := fun e => by rw [e] at hb0; have := of_decide_eq_true hb0; exact decide_eq_false (by omega)
        cases b0
        all_goals
          have t6 := hidp t5
          clear t5
          try (have t7 := t6.out rfl)
          try (have t7n : decide (nl < wn) = false := by rw [<- t7]; exact decide_eq_decide.2 (by omega))
          go_wp2_with (first | (go_at_call 72; refine (hsl _).mono ?_; rintro e w9 ⟨rfl, rfl⟩) | fail)
          skip
          go_loopw [15, 18] (fun u15 u18 wr2 => ∃ j : Nat, j <= nl /\ u18 = .int .i64 (j : Int) /\ u15 = .int .u32 ((layB v (l.take j) : Nat) : Int) /\ wr2 = wr) (fun _ u18 _ => nl - (intOf u18).toNat)
          case atStart => exact ⟨0, by omega, by go_num, by simp [layB], rfl⟩
          case round =>
            obtain ⟨j, hj, rfl, rfl, rfl⟩ := hrel
            by_cases hlt : j < nl
            · have c1 := HCL.out j hlt
              obtain ⟨e1, e2, e3⟩ := HLA.out j hlt
              have HE := hidp e1
              rw [e1] at e3
              clear e1
              generalize l.getD j 0 = x at *
              generalize layB v (l.take j) = y at *
              obtain ⟨z, hz⟩ : ∃ z, 2 ^ x = z := ⟨_, rfl⟩
              have HBI : Hid (∀ W, Calls Tryz.prog 44 #[.int .i64 (x : Int)] W fun e w' => e = .returned (.int .u32 (z : Int)) /\ W = w') := hidp (fun W => by rw [<- hz]; exact r16Bit_c x e2 W)
              rw [hz] at HE e3
              clear hz
              have v9 : IntKind.u32.wrap ((y : Int) + (z : Int)) = (y : Int) + (z : Int) := wrap32_small (by omega) (by omega)
              go_wp2_with (first | (go_at_call 44; refine (HBI.out _).mono ?_; rintro e w9 ⟨rfl, rfl⟩) | fail)
              go_roundw
              case rel => exact ⟨j + 1, by omega, by go_num, by rw [HE.out]; go_num, by first | rfl | trivial⟩
              case measure => simp [intOf]; omega
            · obtain rfl : j = nl := by omega
              rw [HU.out]
              go_wp2_with fail
              have W0 := HR
              clear HR
              refine (r7Taken_c t q s (p : Int) _).mono ?_; rintro e w1 ⟨rfl, hb⟩; have W1 := hidp (W0.out.keep hb); clear hb W0
              obtain ⟨x0, x1, x2⟩ := W1.out.h0.three
              go_wp2_with fail
              refine (rPutA hn _ u hu32 W1.out.at_).mono ?_; rintro e w2 ⟨rfl, h1, h2⟩; have W2 := hidp (W1.out.call h1 h2); clear h1 h2 W1
              obtain ⟨x0, x1, x2⟩ := W2.out.h0.three
              go_wp2_with fail
              refine (r16Full_c u k k0 k8 hu32 _).mono ?_; rintro e w9 ⟨rfl, rfl⟩; rw [HBB.out]
              cases bb with
              | false =>
                go_wp2
                go_ret3
                rw [HPE.out]
                exact W2.out.endAll HLN.out
              | true =>
                go_wp2_with fail
                refine wp_region_held_drew (S := (fun w' => w'.cell? ⟨w.heap.size, 0, none⟩ = some (.int .i64 t) /\ w'.cell? ⟨w.heap.size, 1, none⟩ = some (.int .i64 q) /\ w'.cell? ⟨w.heap.size, 2, none⟩ = some (.int .i64 s))) (by kernel_rfl) ?_ (fun hHeld => ?_)
                · (try dsimp only)
                  exact ⟨W2.out.drew.h0.three.1, W2.out.drew.h0.three.2.1, W2.out.drew.h0.three.2.2⟩
                refine tkz 0 ?_
                refine tkz 1 ?_
                refine tkz 2 ?_
                refine tkz 4 ?_
                refine rdz 3 fun K hK => ?_
                go_simp
                refine (r7Rack_c k _).mono ?_; rintro e w9 ⟨rfl, rfl⟩; rw [HRK.out]
                refine hK.out _ _ ?_ (fun hHeld => ?_)
                · (try dsimp only)
                  exact ⟨W2.out.drew.h0.three.1, W2.out.drew.h0.three.2.1, W2.out.drew.h0.three.2.2⟩
                clear hK K
                (try simp only [Act.put, gA, gB, gC, sA, sB, sC])
                refine rdz 5 fun K hK => ?_
                go_simp
                refine (rkPull_c hn hq2 (p : Int) W2.out.drew.at_).mono ?_; rintro e w3 ⟨rfl, h1, h2⟩; have W3 := hidp (W2.out.drew.call h1 h2); clear h1 h2 W2
                refine hK.out _ _ ?_ (fun hHeld => ?_)
                · (try dsimp only)
                  exact ⟨W3.out.h0.three.1, W3.out.h0.three.2.1, W3.out.h0.three.2.2⟩
                clear hK K
                (try simp only [Act.put, gA, gB, gC, sA, sB, sC])
                refine dnz ?_
                obtain ⟨x0, x1, x2⟩ := W3.out.h0.three
                go_wp2
                go_ret3
                rw [HPE.out]
                exact W3.out.endAll HLN.out

theorem r16Pick_in (hn : n < 2 ^ 40) (hq : q <= 1024) (k0 : 0 <= k) (k8 : k <= 8) (wn : Nat) (hw : 1 <= wn) (hw2 : wn <= 4) (h : (rOb base b n all K).At w0 A G st w) :
  Calls Tryz.prog 45 #[.pointer (some ⟨b, 0, none⟩), .agg #[.int .i64 t, .int .i64 q, .int .i64 s], .int .i64 k, .int .i64 (wn : Int)] w (PickEnd (rOb base b n all K) w0 A G (pickI n K t q s k wn st).1 (pickI n K t q s k wn st).2 w) := by
 cases hr : getV n K st (13 + k) with
 | succ r =>
  rw [pickI_rack hr]
  exact r16Pick_rack hn hq k0 k8 wn hw hw2 r hr _ rfl h
 | zero =>
  obtain ⟨⟨o, s1⟩, ht⟩ : ∃ x, takeI n K t q s 1 (getS n K st (13 + k)) = x := ⟨_, rfl⟩
  cases o with
  | none =>
   rw [pickI_none hr ht]
   exact r16Pick_none hn hq k0 k8 wn hw hw2 hr s1 ht h
  | some p =>
   rw [pickI_fresh hr ht]
   exact r16Pick_fresh hn hq k0 k8 wn hw hw2 p hr s1 _ ht rfl _ rfl h
theorem r16Pick_c (hn : n < 2 ^ 40) (hq : q <= 1024) (want : Int) (h : (rOb base b n all K).At w0 A G st w) :
  Calls Tryz.prog 45 #[.pointer (some ⟨b, 0, none⟩), .agg #[.int .i64 t, .int .i64 q, .int .i64 s], .int .i64 k, .int .i64 want] w (PickEnd (rOb base b n all K) w0 A G (pickZ n K t q s k want st).1 (pickZ n K t q s k want st).2 w) := by
 by_cases hb : (0 <= k /\ k <= 8) /\ 1 <= want /\ want <= 4
 ·obtain ⟨wn, rfl⟩ := Int.eq_ofNat_of_zero_le (show 0 <= want by omega)
  have e : pickZ n K t q s k (wn : Int) st = pickI n K t q s k wn st := pickZ_yes hb.1.1 hb.1.2 (by omega) (by omega)
  rw [e]
  exact r16Pick_in hn hq hb.1.1 hb.1.2 wn (by omega) (by omega) h
 ·rw [pickZ_no hb]
  by_cases b1 : k < 0
  ·exact r16Pick_bad_k0 want b1 h
  ·by_cases b2 : 8 < k
   ·exact r16Pick_bad_k8 want b2 h
   ·by_cases b3 : want < 1
    ·exact r16Pick_bad_low want (by omega) (by omega) b3 h
    ·exact r16Pick_bad_high want (by omega) (by omega) (by omega) h
end
end
end Go.Proofs.YtjjfcaliippgpaaGreatDoor

namespace Go.Proofs.YtjjfcaliippgpaaGreatDoor
open Go.ChangeShapes Go.WideShapes Go.ChangeAt Go.RowKit
set_option linter.unusedVariables false
set_option linter.unusedSimpArgs false
set_option maxRecDepth 100000
section
theorem r18Slot_c (t q s k a : Int) (hk0 : -9223372036854775808 <= k) (hk1 : k <= 9223372036854775807) (h0 : -9223372036854775808 <= a) (h1 : a <= 9223372036854775807) (w : World) :
  Calls Tryz.prog 29 #[.agg #[.int .i64 t, .int .i64 q, .int .i64 s], .int .i64 k, .int .i64 a] w fun e w' => e = .returned (.tuple #[.int .i64 (spotP t q s a), .int .i64 (slotR t q s k (spotO t q s a))]) /\ Below w.heap.size w w' := by
 have HC := hidp (Held.new w 23 #[.int .i64 t, .int .i64 q, .int .i64 s])
 have HB := hidp (Bnew (B0 w) (.cells #[.int .i64 t, .int .i64 q, .int .i64 s] 23))
 obtain ⟨x0, x1, x2⟩ := HC.out.three
 obtain ⟨o, ho⟩ : ∃ o, spotO t q s a = o := ⟨_, rfl⟩
 rw [ho]
 have HO := hidp ho
 clear ho
 go_enter Tryz.func29, Tryz.ntmps29
 go_wp2_with fail
 refine (r6Page_c t q s a h0 h1 _).mono ?_
 rintro e w2 ⟨rfl, hb⟩
 replace HC := hidp (HC.out.keep hb)
 replace HB := hidp (Bgo HB.out hb)
 clear hb x0 x1 x2
 obtain ⟨x0, x1, x2⟩ := HC.out.three
 rw [HO.out]
 go_wp2_with fail
 refine (r6Slot_c t q s k o hk0 hk1 _).mono ?_
 rintro e w3 ⟨rfl, hb⟩
 replace HB := hidp (Bgo HB.out hb)
 clear hb x0 x1 x2
 go_wp2
 go_ret2
 exact ⟨rfl, HB.out⟩
end
end Go.Proofs.YtjjfcaliippgpaaGreatDoor

namespace Go.Proofs.YtjjfcaliippgpaaGreatDoor
open Go.ChangeShapes Go.WideShapes Go.ChangeAt Go.RowKit Go.Maps
set_option linter.unusedVariables false
set_option linter.unusedSimpArgs false
set_option maxRecDepth 100000
section
section
variable {O : Ob} {w0 w w' : World} {A Q G : Nat -> Prop} {U V : Nat -> Sl} {Z Y : Nat -> List Int} {s s' : Vst}
theorem Pkt.row {u : Value} (h : Pkt O w0 A Q G U Z s w) (h1 : O.At w0 A (GU (PG w0 G U Z) u) s' w') (h2 : Stay (PG w0 G U Z) w w') : Pkt O w0 A Q (GU G u) U Z s' w' := by
 have k := h.call (h1.less fun i x => .inl x) h2
 refine ⟨h1.less fun i x => ?_, k.pk, k.old⟩
 rcases x with (x | x) | x
 ·exact .inl (.inl x)
 ·exact .inr x
 ·exact .inl (.inr x)
theorem Held.farP {g2 g : Nat} {t : TypeId} {cs : Array Value} (h : Held w g2 t cs) (hne : g2 ≠ g) (V : Nat -> Sl) : Held (_root_.Go.Proofs.YtjjfcaliippgpaaGreatDoor.setP w g V) g2 t cs := (heap_setP hne V).trans h
theorem Pkt.putP (h : Pkt O w0 A Q G U Z s w) {i : Nat} (hi : G i) (hn : ¬ PB U Z i) (V : Nat -> Sl) : Pkt O w0 A Q G U Z s (setP w i V) :=
 ((((((((h.put hi hn 0 _).put hi hn 1 _).put hi hn 2 _).put hi hn 3 _).put hi hn 4 _).put hi hn 5 _).put hi hn 6 _).put hi hn 7 _).put hi hn 8 _
end

section
variable {base b n : Nat} {all : Bool} {K : Nat -> Option Nat} {st : Vst} {w : World} {A : Nat -> Prop} {t q s : Int} {U : Nat -> Sl} {Z : Nat -> List Int}

set_option maxHeartbeats 6400000 in
theorem r18Alloc_bad (k : Int) (hk : k < 0 \/ 8 < k) (hP : PkV w U Z) (hF : ∀ i, PB U Z i -> ¬ A i) (h : (rOb base b n all K).I w st A) :
  Calls Tryz.prog 12 #[.pointer (some ⟨b, 0, none⟩), .agg #[.int .i64 t, .int .i64 q, .int .i64 s], .agg (pkC U), .int .i64 k] w fun e w' => e = .returned (.tuple #[.int .i64 0, .agg (pkC U), .bool false]) /\ PkLeft (rOb base b n all K) w A (PB U Z) U Z st w' := by
 have HBA := hidp (Bnew (Bnew (Bnew (B0 w) (.cells #[.int .i64 t, .int .i64 q, .int .i64 s] 23)) (.cells (pkC U) 36)) (.cells #[.slice none 0 0, .slice none 0 0, .slice none 0 0, .slice none 0 0, .slice none 0 0, .slice none 0 0, .slice none 0 0, .slice none 0 0, .slice none 0 0] 36))
 have HC := hidp (((Held.new w 23 #[.int .i64 t, .int .i64 q, .int .i64 s]).alloc (.cells (pkC U) 36)).alloc (.cells #[.slice none 0 0, .slice none 0 0, .slice none 0 0, .slice none 0 0, .slice none 0 0, .slice none 0 0, .slice none 0 0, .slice none 0 0, .slice none 0 0] 36))
 have HPB := hidp ((Held.new2 w (.cells #[.int .i64 t, .int .i64 q, .int .i64 s] 23) 36 (pkC U)).alloc (.cells #[.slice none 0 0, .slice none 0 0, .slice none 0 0, .slice none 0 0, .slice none 0 0, .slice none 0 0, .slice none 0 0, .slice none 0 0, .slice none 0 0] 36))
 have HRB : Hid (Held (((w.alloc (.cells #[.int .i64 t, .int .i64 q, .int .i64 s] 23)).alloc (.cells (pkC U) 36)).alloc (.cells #[.slice none 0 0, .slice none 0 0, .slice none 0 0, .slice none 0 0, .slice none 0 0, .slice none 0 0, .slice none 0 0, .slice none 0 0, .slice none 0 0] 36)) (w.heap.size + 2) 36 (pkC zeroU)) := hidp (by
  have := Held.new ((w.alloc (.cells #[.int .i64 t, .int .i64 q, .int .i64 s] 23)).alloc (.cells (pkC U) 36)) 36 #[.slice none 0 0, .slice none 0 0, .slice none 0 0, .slice none 0 0, .slice none 0 0, .slice none 0 0, .slice none 0 0, .slice none 0 0, .slice none 0 0]
  have e : ((w.alloc (.cells #[.int .i64 t, .int .i64 q, .int .i64 s] 23)).alloc (.cells (pkC U) 36)).heap.size = w.heap.size + 2 := by simp
  rw [e] at this
  exact this)
 have HSZ : Hid ((((w.alloc (.cells #[.int .i64 t, .int .i64 q, .int .i64 s] 23)).alloc (.cells (pkC U) 36)).alloc (.cells #[.slice none 0 0, .slice none 0 0, .slice none 0 0, .slice none 0 0, .slice none 0 0, .slice none 0 0, .slice none 0 0, .slice none 0 0, .slice none 0 0] 36)).heap.size = w.heap.size + 3) := hidp (by simp)
 have HK := hidp ((Pkt.start h hP hF).keep2 (G' := (fun i => i = w.heap.size \/ i = (w.heap.size + 1) \/ i = (w.heap.size + 2))) HBA.out (fun i x => by
  have := HSZ.out
  rcases x with x | x | x <;> (right; omega)))
 have HPL : Hid (∀ i, PB U Z i -> i < w.heap.size) := hidp (fun i hi => hi.lt hP)
 have HF := hidp hF
 have HI0 := hidp h
 obtain ⟨p0, p1, p2, p3, p4, p5, p6, p7, p8⟩ := HPB.out.nineP
 obtain ⟨z0, z1, z2, z3, z4, z5, z6, z7, z8⟩ := HRB.out.nineP
 obtain ⟨f0, f1, f2, f3, f4, f5, f6, f7, f8⟩ := HRB.out.thawP
 by_cases h0 : k < 0
 ·have t0 : decide (k < 0) = true := decide_eq_true h0
  go_enter Tryz.func12, Tryz.ntmps12
  go_wp2_with fail
  go_region
  go_wp2
  refine bodyPost_ret (v := .tuple #[.int .i64 0, .agg (pkC U), .bool false]) (by simp [results, Tryz.results12, go_sem]) rfl ⟨rfl, (((Pkt.start h hP hF).keep (Bgo (Bnew (Bnew (Bnew (B0 w) _) _) _) (Bdrew (B0 _)))).fin)⟩
 ·have t0 : decide (k < 0) = false := decide_eq_false h0
  have t1 : decide (8 < k) = true := decide_eq_true (by omega)
  go_enter Tryz.func12, Tryz.ntmps12
  go_wp2_with fail
  go_region
  go_wp2
  refine bodyPost_ret (v := .tuple #[.int .i64 0, .agg (pkC U), .bool false]) (by simp [results, Tryz.results12, go_sem]) rfl ⟨rfl, (((Pkt.start h hP hF).keep (Bgo (Bnew (Bnew (Bnew (B0 w) _) _) _) (Bdrew (B0 _)))).fin)⟩

set_option maxHeartbeats 6400000 in
theorem r18Alloc_hand (hn : n < 2 ^ 40) (k : Nat) (hk : k < 9) (ys : List Int) (a : Int) (hz : Z k = ys ++ [a]) (p i : Nat) (hp : spotP t q s a = (p : Int)) (hi : slotR t q s (k : Int) (spotO t q s a) = (i : Int)) (hi32 : i < 32) (hab : -9223372036854775808 <= a /\ a <= 9223372036854775807) (hP : PkV w U Z) (hF : ∀ i, PB U Z i -> ¬ A i) (h : (rOb base b n all K).I w st A) :
  Calls Tryz.prog 12 #[.pointer (some ⟨b, 0, none⟩), .agg #[.int .i64 t, .int .i64 q, .int .i64 s], .agg (pkC U), .int .i64 (k : Int)] w fun e w' => ∃ V, e = .returned (.tuple #[.int .i64 a, .agg (pkC V), .bool true]) /\ PkLeft (rOb base b n all K) w A (PB U Z) V (updF Z k ys) (onS n K t q s p i st) w' := by
 have t0 : decide ((k : Int) < 0) = false := decide_eq_false (by omega)
 have t1 : decide (8 < (k : Int)) = false := decide_eq_false (by omega)
 have HBA := hidp (Bnew (Bnew (Bnew (B0 w) (.cells #[.int .i64 t, .int .i64 q, .int .i64 s] 23)) (.cells (pkC U) 36)) (.cells #[.slice none 0 0, .slice none 0 0, .slice none 0 0, .slice none 0 0, .slice none 0 0, .slice none 0 0, .slice none 0 0, .slice none 0 0, .slice none 0 0] 36))
 have HC := hidp (((Held.new w 23 #[.int .i64 t, .int .i64 q, .int .i64 s]).alloc (.cells (pkC U) 36)).alloc (.cells #[.slice none 0 0, .slice none 0 0, .slice none 0 0, .slice none 0 0, .slice none 0 0, .slice none 0 0, .slice none 0 0, .slice none 0 0, .slice none 0 0] 36))
 have HPB := hidp ((Held.new2 w (.cells #[.int .i64 t, .int .i64 q, .int .i64 s] 23) 36 (pkC U)).alloc (.cells #[.slice none 0 0, .slice none 0 0, .slice none 0 0, .slice none 0 0, .slice none 0 0, .slice none 0 0, .slice none 0 0, .slice none 0 0, .slice none 0 0] 36))
 have HRB : Hid (Held (((w.alloc (.cells #[.int .i64 t, .int .i64 q, .int .i64 s] 23)).alloc (.cells (pkC U) 36)).alloc (.cells #[.slice none 0 0, .slice none 0 0, .slice none 0 0, .slice none 0 0, .slice none 0 0, .slice none 0 0, .slice none 0 0, .slice none 0 0, .slice none 0 0] 36)) (w.heap.size + 2) 36 (pkC zeroU)) := hidp (by
  have := Held.new ((w.alloc (.cells #[.int .i64 t, .int .i64 q, .int .i64 s] 23)).alloc (.cells (pkC U) 36)) 36 #[.slice none 0 0, .slice none 0 0, .slice none 0 0, .slice none 0 0, .slice none 0 0, .slice none 0 0, .slice none 0 0, .slice none 0 0, .slice none 0 0]
  have e : ((w.alloc (.cells #[.int .i64 t, .int .i64 q, .int .i64 s] 23)).alloc (.cells (pkC U) 36)).heap.size = w.heap.size + 2 := by simp
  rw [e] at this
  exact this)
 have HSZ : Hid ((((w.alloc (.cells #[.int .i64 t, .int .i64 q, .int .i64 s] 23)).alloc (.cells (pkC U) 36)).alloc (.cells #[.slice none 0 0, .slice none 0 0, .slice none 0 0, .slice none 0 0, .slice none 0 0, .slice none 0 0, .slice none 0 0, .slice none 0 0, .slice none 0 0] 36)).heap.size = w.heap.size + 3) := hidp (by simp)
 have HK := hidp ((Pkt.start h hP hF).keep2 (G' := (fun i => i = w.heap.size \/ i = (w.heap.size + 1) \/ i = (w.heap.size + 2))) HBA.out (fun i x => by
  have := HSZ.out
  rcases x with x | x | x <;> (right; omega)))
 have HPL : Hid (∀ i, PB U Z i -> i < w.heap.size) := hidp (fun i hi => hi.lt hP)
 have HF := hidp hF
 have HI0 := hidp h
 obtain ⟨p0, p1, p2, p3, p4, p5, p6, p7, p8⟩ := HPB.out.nineP
 go_enter Tryz.func12, Tryz.ntmps12
 go_wp2_with fail
 generalize hW3 : (((w.alloc (.cells #[.int .i64 t, .int .i64 q, .int .i64 s] 23)).alloc (.cells (pkC U) 36)).alloc (.cells #[.slice none 0 0, .slice none 0 0, .slice none 0 0, .slice none 0 0, .slice none 0 0, .slice none 0 0, .slice none 0 0, .slice none 0 0, .slice none 0 0] 36)) = W3 at *
 clear hW3
 refine (rPop_yes U Z k ys a hk hz _ HK.out.pk).mono ?_
 rintro e w2 ⟨rfl, hb, hV⟩
 have HPV : Hid (∀ j, PB (updF U k ⟨(U k).a, ys.length, (U k).c⟩) (updF Z k ys) j -> PB U Z j) := hidp (fun j hj => hj.turn_same hk rfl (fun _ => by rw [hz]; simp))
 have HKT := hidp (HK.out.turn hb hV (fun j hj => .inl (HPV.out j hj)))
 replace HC := hidp (HC.out.keep hb)
 replace HRB := hidp (HRB.out.keep hb)
 obtain ⟨V, hV2⟩ : ∃ V, updF U k ⟨(U k).a, ys.length, (U k).c⟩ = V := ⟨_, rfl⟩
 rw [hV2] at HKT HPV ⊢
 clear hb hV hV2 HK HPB p0 p1 p2 p3 p4 p5 p6 p7 p8
 have HQB := hidp (Held.new w2 36 (pkC V))
 have HK := hidp (HKT.out.keep2 (G' := fun i => i = w.heap.size \/ i = (w.heap.size + 1) \/ i = (w.heap.size + 2) \/ i = w2.heap.size) (Bnew (B0 w2) (.cells (pkC V) 36)) (fun i x => by
  rcases x with x | x | x | x
  ·exact .inl (.inl x)
  ·exact .inl (.inr (.inl x))
  ·exact .inl (.inr (.inr x))
  ·exact .inr ⟨by omega, by simp; omega⟩))
 have HCA := hidp (HC.out.alloc (.cells (pkC V) 36))
 replace HRB := hidp (HRB.out.alloc (.cells (pkC V) 36))
 obtain ⟨c0, c1, c2⟩ := HCA.out.three
 go_wp2_with fail
 generalize hNQ : w2.heap.size = NQ at *
 generalize hW4 : w2.alloc (.cells (pkC V) 36) = W4 at *
 clear hNQ hW4 HC HKT
 rename Hid (Held W4 w.heap.size 23 #[.int .i64 t, .int .i64 q, .int .i64 s]) => HC
 refine (r18Slot_c t q s (k : Int) a (by omega) (by omega) hab.1 hab.2 _).mono ?_
 rintro e w5 ⟨rfl, hb⟩
 rw [hp, hi]
 replace HK := hidp (HK.out.keep hb)
 replace HC := hidp (HC.out.keep hb)
 replace HRB := hidp (HRB.out.keep hb)
 replace HQB := hidp (HQB.out.keep hb)
 clear hb c0 c1 c2
 obtain ⟨sx, hsx⟩ : ∃ sx, st = sx := ⟨_, rfl⟩
 have HSX := hidp hsx
 rw [hsx] at HK
 clear hsx
 obtain ⟨v, hv⟩ : ∃ v, getV n K sx (pageI t q s (p : Int) 4) = v := ⟨_, rfl⟩
 have hv32 : v < 2 ^ 32 := by rw [<- hv]; exact rAt_lt HK.out.at_ _
 have HV := hidp hv
 obtain ⟨u, hu⟩ : ∃ u, v ||| 2 ^ i = u := ⟨_, rfl⟩
 have HU : Hid (u < 2 ^ 32) := hidp (by rw [<- hu]; exact setB_lt hv32 hi32)
 obtain ⟨x, hx⟩ : ∃ x, 2 ^ i = x := ⟨_, rfl⟩
 have HX := hidp hx
 have e1 : bits .or .u32 (v : Int) (x : Int) = (u : Int) := by rw [<- hu, <- hx]; exact setB_or hv32 hi32
 have HVU : Hid (getV n K sx (pageI t q s (p : Int) 4) ||| 2 ^ i = u) := hidp (by rw [hv, hu])
 clear hv hu hx hv32
 obtain ⟨c0, c1, c2⟩ := HC.out.three
 go_wp2_with fail
 refine (r7Slots_c t q s (p : Int) _).mono ?_
 rintro e w6 ⟨rfl, hb⟩
 replace HK := hidp (HK.out.keep hb)
 replace HC := hidp (HC.out.keep hb)
 replace HRB := hidp (HRB.out.keep hb)
 replace HQB := hidp (HQB.out.keep hb)
 clear hb
 clear c0 c1 c2
 obtain ⟨c0, c1, c2⟩ := HC.out.three
 go_wp2_with fail
 refine (rGetA hn _ HK.out.at_).mono ?_
 rintro e w7 ⟨rfl, h1, h2⟩
 rw [HV.out]
 replace HC := hidp (h2.held (.inl (.inl rfl)) HC.out)
 replace HRB := hidp (h2.held (.inl (.inr (.inr (.inl rfl)))) HRB.out)
 replace HQB := hidp (h2.held (.inl (.inr (.inr (.inr rfl)))) HQB.out)
 replace HK := hidp (HK.out.call h1 h2)
 clear h1 h2
 clear c0 c1 c2
 obtain ⟨c0, c1, c2⟩ := HC.out.three
 go_wp2_with fail
 refine (r7Slots_c t q s (p : Int) _).mono ?_
 rintro e w8 ⟨rfl, hb⟩
 replace HK := hidp (HK.out.keep hb)
 replace HC := hidp (HC.out.keep hb)
 replace HRB := hidp (HRB.out.keep hb)
 replace HQB := hidp (HQB.out.keep hb)
 clear hb
 clear c0 c1 c2
 obtain ⟨c0, c1, c2⟩ := HC.out.three
 go_wp2_with fail
 refine (r16Bit_c i hi32 _).mono ?_
 rintro e w9 ⟨rfl, rfl⟩
 rw [HX.out]
 go_wp2_with fail
 refine (rPutA hn _ u HU.out HK.out.at_).mono ?_
 rintro e w10 ⟨rfl, h1, h2⟩
 replace HRB := hidp (h2.held (.inl (.inr (.inr (.inl rfl)))) HRB.out)
 replace HQB := hidp (h2.held (.inl (.inr (.inr (.inr rfl)))) HQB.out)
 replace HK := hidp (HK.out.call h1 h2)
 clear h1 h2
 rw [<- HVU.out] at HK
 clear c0 c1 c2 HC e1 HV HU HX HVU
 obtain ⟨sy, hsy⟩ : ∃ sy, putS n (getS n K sx (pageI t q s (p : Int) 4)) (pageI t q s (p : Int) 4) (getV n K sx (pageI t q s (p : Int) 4) ||| 2 ^ i) = sy := ⟨_, rfl⟩
 have HSY : Hid (onS n K t q s p i sx = putS n (getS n K sy 1) 1 (inc32 (getV n K sy 1))) := hidp (by rw [<- hsy]; rfl)
 rw [hsy] at HK
 clear hsy
 obtain ⟨y, hy⟩ : ∃ y, getV n K sy 1 = y := ⟨_, rfl⟩
 have hy32 : y < 2 ^ 32 := by rw [<- hy]; exact rAt_lt HK.out.at_ _
 have HY := hidp hy
 obtain ⟨z, hz1⟩ : ∃ z, inc32 y = z := ⟨_, rfl⟩
 have HZ1 : Hid (z < 2 ^ 32) := hidp (by rw [<- hz1]; exact Nat.mod_lt _ (by decide))
 have e2 : ((y : Int) + 1) % 4294967296 = (z : Int) := by rw [<- hz1]; unfold inc32; omega
 have e3 : IntKind.u32.wrap ((y : Int) + 1) = (z : Int) := by unfold IntKind.wrap; simpa [IntKind.bits, IntKind.signed] using e2
 have HYZ : Hid (inc32 (getV n K sy 1) = z) := hidp (by rw [hy, hz1])
 clear hy hz1 hy32
 go_wp2_with fail
 refine (rGetA hn 1 HK.out.at_).mono ?_
 rintro e w11 ⟨rfl, h1, h2⟩
 rw [HY.out]
 replace HRB := hidp (h2.held (.inl (.inr (.inr (.inl rfl)))) HRB.out)
 replace HQB := hidp (h2.held (.inl (.inr (.inr (.inr rfl)))) HQB.out)
 replace HK := hidp (HK.out.call h1 h2)
 clear h1 h2
 go_wp2_with fail
 refine (rPutA hn 1 z HZ1.out HK.out.at_).mono ?_
 rintro e w12 ⟨rfl, h1, h2⟩
 replace HRB := hidp (h2.held (.inl (.inr (.inr (.inl rfl)))) HRB.out)
 replace HQB := hidp (h2.held (.inl (.inr (.inr (.inr rfl)))) HQB.out)
 replace HK := hidp (HK.out.call h1 h2)
 clear h1 h2
 rw [<- HYZ.out] at HK
 clear e2 e3 HYZ HY HZ1
 obtain ⟨p0, p1, p2, p3, p4, p5, p6, p7, p8⟩ := HQB.out.nineP
 obtain ⟨z0, z1, z2, z3, z4, z5, z6, z7, z8⟩ := HRB.out.nineP
 obtain ⟨f0, f1, f2, f3, f4, f5, f6, f7, f8⟩ := HRB.out.thawP
 go_wp2_with fail
 go_region
 obtain ⟨WF, hWF⟩ : ∃ WF, setP w12 (w.heap.size + 2) V = WF := ⟨_, rfl⟩
 have zz := hidp (Held.setP HRB.out V)
 have HNF := hidp (HK.out.putP (i := (w.heap.size + 2)) (.inr (.inr (.inl rfl))) (fun x => by have := HPL.out _ (HPV.out _ x); omega) V)
 rw [hWF] at zz HNF
 unfold setP at hWF
 rw [hWF]
 replace zz := hidp (zz.out.keep (Bdrew (B0 _)))
 replace HNF := hidp (HNF.out.keep (Bdrew (B0 _)))
 obtain ⟨y0, y1, y2, y3, y4, y5, y6, y7, y8⟩ := zz.out.nineP
 clear p0 p1 p2 p3 p4 p5 p6 p7 p8 z0 z1 z2 z3 z4 z5 z6 z7 z8 f0 f1 f2 f3 f4 f5 f6 f7 f8 hWF
 go_wp2
 refine bodyPost_ret (v := .tuple #[.int .i64 a, .agg (pkC V), .bool true]) (by simp [results, Tryz.results12, go_sem, y0, y1, y2, y3, y4, y5, y6, y7, y8]) rfl ?_
 exact ⟨V, rfl, by rw [HSX.out, HSY.out]; exact HNF.out.fin⟩

end
end
end Go.Proofs.YtjjfcaliippgpaaGreatDoor
