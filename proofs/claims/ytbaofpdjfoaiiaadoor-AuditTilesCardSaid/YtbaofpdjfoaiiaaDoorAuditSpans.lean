/-
  The spans of a heap, handed one by one to a round.
-/
import Derived.Test.YtbaofpdjfoaiiaaDoorAuditAt
import Derived.Test.YtbaofpdjfoaiiaaDoorRound
namespace Go.Proofs.YtbaofpdjfoaiiaaDoor
open Go.ChangeShapes Go.WideShapes Go.ChangeAt Go.RowKit Go.Shelf
set_option linter.unusedVariables false
set_option linter.unusedSimpArgs false

theorem Held.one {w : World} {g : Nat} {t : TypeId} {c0 : Value} (h : Held w g t #[c0]) : w.cell? ⟨g, 0, none⟩ = some c0 ∧ w.frozen? ⟨g, 0, none⟩ = false := ⟨h.cell 0, h.thawed 0⟩
theorem Held.put1 {w : World} {g : Nat} {t : TypeId} {c0 : Value} (h : Held w g t #[c0]) (u : Value) : Held (w.setCell ⟨g, 0, none⟩ u) g t #[u] := h.put 0 u
theorem Held.shut {w : World} {g : Nat} {t : TypeId} {cs : Array Value} (h : Held w g t cs) {D : Nat} {o o' : Obj} (hk : w.heap[D]? = some o) (ho : o.isCells = false) : Held (w.putObj D o') g t cs := (Mild.put (D := 0) o' (Nat.zero_le _) hk ho).held h
theorem shutB {W w : World} (h : Below W.heap.size W w) {D : Nat} {o o' : Obj} (hk : w.heap[D]? = some o) (ho : o.isCells = false) (hD : W.heap.size ≤ D) : Below W.heap.size W (w.putObj D o') := (Mild.put (D := W.heap.size) o' hD hk ho).below h (Nat.le_refl _)
theorem bool_no {b : Bool} {p : Prop} (hb : b = true ↔ p) (h : ¬ p) : b = false := by cases b; rfl; exact absurd (hb.1 rfl) h
theorem bool_yes {b : Bool} {p : Prop} (hb : b = true ↔ p) (h : p) : b = true := hb.2 h

def encS (H : AuH) (q : Nat) : Array Value := #[.int .i64 (q : Int), .agg #[.int .i64 (H.K q), .int .i64 (H.ln q : Int), .int .i64 (H.Cl q)]]

section
attribute [local go_sem] Oper.semAt_some
set_option maxHeartbeats 1600000 in
theorem auSpans_seq {H : AuH} {n c : Nat} (HV : HeapV H n c) (ad : Addr) (w0 : World) (hv : IsVals w0 ad n H.V) :
    SeqAt Tryd.prog 13 #[hpV H ad n c] (encS H) H.can H.nx w0 := by
  intro l J Jx W F0 hW hJ hJx hJB hJF hY h0
  have hn := HV.nums
  have HP : H.p ≤ 1024 := hn.2.2.2.1
  refine callsIn_of_wp Tryd.func13 rfl trivial ?_ rfl
  unfold hpV
  simp only [Tryd.ntmps13, List.size_toArray, List.length_cons, List.length_nil, Nat.reduceAdd, Nat.reduceSub, Array.replicate_succ, Array.replicate_zero, List.push_toArray, List.append_toArray, List.nil_append, List.cons_append]
  have hc := Held.new W 41 #[.int .i64 (H.t : Int), .int .i64 (H.p : Int), .int .i64 (H.s : Int), .slice (some ad) n c]
  have HF0 : Hid (¬ F0 W.heap.size) := hidp (fun hf => by have := hJF _ _ _ h0 _ hf; omega)
  have HJ0 := hidp (hJ _ _ _ _ h0 (Bnew (B0 W) (.cells #[.int .i64 (H.t : Int), .int .i64 (H.p : Int), .int .i64 (H.s : Int), .slice (some ad) n c] 41)))
  have HC0 := hidp hc
  have HJ := hidp hJ
  have HJX := hidp hJx
  have HJB := hidp hJB
  have HJF := hidp hJF
  have HY := hidp hY
  have HW := hidp hW
  have HVL := hidp hv
  clear hJ hJx hJB hJF hY h0 hc hn hW hv
  gi_wp2_with fail
  gi_loopw [4] (fun u wr => ∃ (pos : Nat) (F : Nat → Prop), u = .int .i64 (pos : Int) ∧ pos ≤ H.p ∧ Hid (J pos F wr) ∧ Hid (Held wr W.heap.size 41 #[.int .i64 (H.t : Int), .int .i64 (H.p : Int), .int .i64 (H.s : Int), .slice (some ad) n c]) ∧ Hid (¬ F W.heap.size)) (fun u _ => H.p - (intOf u).toNat)
  case atStart => exact ⟨0, F0, rfl, by omega, HJ0, HC0, HF0⟩
  case round =>
    clear HJ0 HC0 HF0
    obtain ⟨pos, F, rfl, hpos, HJS, HC, HF⟩ := hrel
    obtain ⟨c0, c1, c2, c3⟩ := HC.out.four
    by_cases hlt : pos < H.p
    · have HVR := hidp (HVL.out.below (HJB.out _ _ _ HJS.out))
      have hr : wr.heap.size = wr.heap.size := rfl
      have HT := hidp (H.K_cases pos)
      by_cases hk0 : H.K pos = 0
      · have HCN := hidp ((H.can_no pos).2 (fun h => h.2.1 hk0))
        have HIE := hidp (H.info_eq pos)
        rw [hk0] at HIE
        have hL : H.L pos = 0 := by rw [H.L_ln]; have := HT.out; omega
        rw [hL] at HIE
        generalize H.Cl pos = cl at *
        generalize H.ok pos = b at *
        clear hL hk0
        cases b
        all_goals
          gi_wp2_with (first
        | (refine ⟨trivial, rfl, ?_⟩; gi_at_call 27; refine (calls_out (auAt_Info_c HV ad hlt _ HVR.out)).mono ?_; rintro e w1 ⟨rfl, hb1⟩; have HB1 := hidp hb1; clear hb1)
        | (refine ⟨trivial, rfl, ?_⟩; gi_at_call 26; refine (calls_out (inGet_c _ _ _ _ _ (HV.cel_lt hlt (by omega)) HIE.out _)).mono ?_; rintro e w2 ⟨rfl, hb2⟩; have HB2 := hidp (Bgo HB1.out hb2); clear hb2)
        | fail)
          refine ⟨fun _ _ => trivial, ?_⟩
          gi_wp2
          refine bodyPost_ret (results_none rfl _ _ _) rfl ?_
          exact ⟨⟨_, rfl⟩, .inl ⟨pos, F, HJ.out _ _ _ _ HJS.out (Bnew HB2.out _), HCN.out⟩⟩
      · have HIE : Hid (infoG (H.cel pos 0) = (H.K pos, (H.ln pos : Int), H.Cl pos, true)) := hidp (by have h := H.info_eq pos; rw [H.ok_of pos hk0, H.L_ln] at h; exact h)
        have HEN : Hid (encS H pos = #[.int .i64 (pos : Int), .agg #[.int .i64 (H.K pos), .int .i64 (H.ln pos : Int), .int .i64 (H.Cl pos)]]) := hidp rfl
        have hm := H.ln_pos pos hk0
        have HCI := hidp (H.can_iff pos)
        have HCN := hidp (H.can_no pos)
        have HNX : Hid (H.nx pos = pos + H.ln pos) := hidp rfl
        generalize H.K pos = k at *
        generalize H.ln pos = m at *
        generalize H.Cl pos = cl at *
        have q0 : (k == 0) = false := by simpa using hk0
        have e0 : IntKind.i64.wrap ((H.p : Int) - pos) = (H.p : Int) - pos := i64_same (by omega) (by omega)
        rcases Nat.lt_or_ge (H.p - pos) m with h2 | h2
        · have q1 : decide ((H.p : Int) - pos < m) = true := decide_eq_true (by omega)
          gi_wp2_with (first
        | (refine ⟨trivial, rfl, ?_⟩; gi_at_call 27; refine (calls_out (auAt_Info_c HV ad hlt _ HVR.out)).mono ?_; rintro e w1 ⟨rfl, hb1⟩; have HB1 := hidp hb1; clear hb1)
        | (refine ⟨trivial, rfl, ?_⟩; gi_at_call 26; refine (calls_out (inGet_c _ _ _ _ _ (HV.cel_lt hlt (by omega)) HIE.out _)).mono ?_; rintro e w2 ⟨rfl, hb2⟩; have HB2 := hidp (Bgo HB1.out hb2); clear hb2; obtain ⟨d0, d1, d2, d3⟩ := (HC.out.keep (Bnew HB2.out (.cells #[.int .i64 k, .int .i64 (m : Int), .int .i64 cl] 50))).four)
        | fail)
          refine ⟨fun _ _ => trivial, ?_⟩
          gi_wp2
          refine bodyPost_ret (results_none rfl _ _ _) rfl ?_
          exact ⟨⟨_, rfl⟩, .inl ⟨pos, F, HJ.out _ _ _ _ HJS.out (Bnew HB2.out _), HCN.out.2 (by omega)⟩⟩
        · have q1 : decide ((H.p : Int) - pos < m) = false := decide_eq_false (by omega)
          gi_wp2_with (first
        | (refine ⟨trivial, rfl, ?_⟩; gi_at_call 27; refine (calls_out (auAt_Info_c HV ad hlt _ HVR.out)).mono ?_; rintro e w1 ⟨rfl, hb1⟩; have HB1 := hidp hb1; clear hb1)
        | (refine ⟨trivial, rfl, ?_⟩; gi_at_call 26; refine (calls_out (inGet_c _ _ _ _ _ (HV.cel_lt hlt (by omega)) HIE.out _)).mono ?_; rintro e w2 ⟨rfl, hb2⟩; have HB2 := hidp (Bgo HB1.out hb2); clear hb2; obtain ⟨d0, d1, d2, d3⟩ := (HC.out.keep (Bnew HB2.out (.cells #[.int .i64 k, .int .i64 (m : Int), .int .i64 cl] 50))).four; obtain ⟨fn, tmps, assign, body, hy, hR⟩ := HY.out pos F _ (HJ.out _ _ _ _ HJS.out (Bnew HB2.out (.cells #[.int .i64 k, .int .i64 (m : Int), .int .i64 cl] 50))) (by have := HB2.out.size; have := HC.out.lt; simp; omega) (HCI.out.2 (by omega)); rw [HEN.out] at hy; have HRR := hidp hR; clear hR)
        | fail)
          have HLT := hidp HC.out.lt
          have HFW := hidp (HJF.out _ _ _ HJS.out)
          have HSZ2 : Hid (wr.heap.size ≤ w2.heap.size) := hidp HB2.out.size
          have HNT : Hid (Held (w2.alloc (.cells #[.int .i64 k, .int .i64 (m : Int), .int .i64 cl] 50)) w2.heap.size 50 #[.int .i64 k, .int .i64 (m : Int), .int .i64 cl]) := hidp (Held.new w2 _ _)
          have HCA := hidp (HC.out.keep (Bnew HB2.out (.cells #[.int .i64 k, .int .i64 (m : Int), .int .i64 cl] 50)))
          clear hy d0 d1 d2 d3 c0 c1 c2 c3 HB1 HB2 HIE HEN HC HVR HJS
          refine ⟨rfl, HRR.out.mono ?_⟩
          rintro e W3 (⟨rfl, F', hJ3, hsz3, hk3, hF3⟩ | ⟨rfl, hx⟩)
          · have hszA : (w2.alloc (.cells #[.int .i64 k, .int .i64 (m : Int), .int .i64 cl] 50)).heap.size = w2.heap.size + 1 := by simp
            have HC3 : Hid (Held W3 W.heap.size 41 #[.int .i64 (H.t : Int), .int .i64 (H.p : Int), .int .i64 (H.s : Int), .slice (some ad) n c]) :=
              hidp ((hk3 _ (Nat.le_refl _) HCA.out.lt HF.out).trans HCA.out)
            have HN3 : Hid (Held W3 w2.heap.size 50 #[.int .i64 k, .int .i64 (m : Int), .int .i64 cl]) := hidp ((hk3 _ (by have := HLT.out; have := HSZ2.out; omega) HNT.out.lt (fun hf => by have := HFW.out _ hf; have := HSZ2.out; omega)).trans HNT.out)
            have HF3 : Hid (¬ F' W.heap.size) := hidp (fun hf => by
              rcases hF3 _ hf with h | h
              · exact HF.out h
              · rw [hszA] at h; have := HLT.out; have := HSZ2.out; omega)
            have HJ3 := hidp hJ3
            rw [HNX.out] at HJ3
            have d1 := HN3.out.three.2.1
            clear hJ3 hk3 hF3 hsz3 hszA HCA HNT HRR HY HJ HJX HJB HF
            gi_wp2
            go_roundw
            case rel => exact ⟨pos + m, F', by go_num, by omega, HJ3, HC3, HF3⟩
            case measure => simp [intOf]; omega
          · have HX := hidp hx
            clear hx HY HJ HJX HJB HF HRR HCA
            gi_wp2
            refine bodyPost_ret (results_none rfl _ _ _) rfl ?_
            exact ⟨⟨_, rfl⟩, .inr HX.out⟩
    · gi_wp2
      go_end0
      exact ⟨⟨_, rfl⟩, .inl ⟨pos, F, HJS.out, (H.can_no pos).2 (by omega)⟩⟩
end
end Go.Proofs.YtbaofpdjfoaiiaaDoor
