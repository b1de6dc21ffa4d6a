/-
  Contracts of head.Encode and of the document's answer to it.
-/
import Derived.Test.YtmjkljdnioochaaA04
import Derived.Test.YtmjkljdnioochaaA02
import Derived.Laws.MakeOwn
import Derived.Test.YtmjkljdnioochaaA01
namespace Go.Proofs.Ytmjkljdnioochaa
open Go.ChangeShapes Go.WideShapes Go.ChangeAt Go.RowKit
set_option linter.unusedVariables false
set_option linter.unusedSimpArgs false
section
theorem wordInfo : (Try.prog.info? 46).map (fun i => (i.zero, i.size, i.bytes)) = some (some (.int .u64 0), 1, 8) := by kernel_rfl

set_option maxHeartbeats 1600000 in
theorem r8Encode_yes (t p s : Int) (hr : rightB t p s = true) (w : World) :
    Calls Try.prog 47 #[.agg #[.int .i64 t, .int .i64 p, .int .i64 s]] w fun e w' => ∃ u, e = .returned u /\ w'.ownsRow w.heap.size 46 1 u 8 (wordVs (headL t p s)) /\ Below w.heap.size w w' := by
  have HR := hidp hr
  obtain ⟨x, hx⟩ : ∃ x, wordN t p s = x := ⟨_, rfl⟩
  have hx64 := word_lt t p s
  rw [hx] at hx64
  have HX := hidp hx
  obtain ⟨b0, b1, _⟩ := words_bounds t p s
  obtain ⟨m, hm⟩ : ∃ m : Nat, lW t p s = m := ⟨(lW t p s).toNat, by omega⟩
  have HM := hidp hm
  have hm1 : m <= 8296 := by omega
  clear hr hx hm b0 b1
  have hc := Held.new w 23 #[.int .i64 t, .int .i64 p, .int .i64 s]
  go_enter Try.func47, Try.ntmps47
  go_wp2_with fail
  refine (r4Word_c t p s _).mono ?_
  rintro e w1 ⟨rfl, hb1⟩
  rw [HR.out, HX.out]
  have hc1 := hc.keep hb1
  obtain ⟨x0, x1, x2⟩ := hc1.three
  go_wp2_with fail
  refine (r7Words_c t p s _).mono ?_
  rintro e w2 ⟨rfl, hb2⟩
  rw [HM.out]
  have hb12 := Bgo (Bgo (Bnew (B0 w) (.cells #[.int .i64 t, .int .i64 p, .int .i64 s] 23)) hb1) hb2
  have H7 := hidp (show head7 t p s = [0x4e41435245303031, 1, x, m, 0, 0, 0] by unfold head7; rw [HX.out, HM.out, Int.toNat_natCast])
  have hown := World.ownsRow_lit (base := w.heap.size) (e := 46) (size := 1) w2 #[.int .u64 0x4e41435245303031, .int .u64 1, .int .u64 x, .int .u64 m, .int .u64 0, .int .u64 0, .int .u64 0] 7 hb12.size (by unfold maxLen; omega) rfl
  have HO := hidp hown
  have HF : Hid (Reads (w2.alloc (.cells #[.int .u64 0x4e41435245303031, .int .u64 1, .int .u64 x, .int .u64 m, .int .u64 0, .int .u64 0, .int .u64 0] 46)) (w2.heap.size + 1) 1 (some ⟨w2.heap.size, 0, none⟩) 7 (wordVs [0x4e41435245303031, 1, x, m, 0, 0, 0])) :=
    hidp ((Reads.of_own hown).more (by simp))
  have HB := hidp hb12
  have H64 : ∀ y ∈ [0x4e41435245303031, 1, x, m, 0, 0, 0], y < 2 ^ 64 := by
    have := head7_lt t p s
    rw [H7.out] at this
    exact this
  obtain ⟨c, hcs⟩ : ∃ c, SM.ofN [0x4e41435245303031, 1, x, m, 0, 0, 0] = c := ⟨_, rfl⟩
  have hcl : c < 2 ^ 32 := by rw [<- hcs]; exact ofN_lt _
  have HC := hidp hcs
  obtain ⟨i0, hi, hz0, hz1, hz2⟩ := info_parts wordInfo
  clear hown hb12 hcs hb1 hb2
  go_wp2_with fail
  refine (ROf_n _ _ 7 [0x4e41435245303031, 1, x, m, 0, 0, 0] (hidp rfl) (hidp H64) (hidp (by unfold maxLen; omega)) _ _ HF.out).mono ?_
  rintro e w3 ⟨rfl, rfl⟩
  rw [HC.out]
  go_wp2_with
    (at_builtin
     refine wpList_append_own _ rfl _ _ 24 rfl w.heap.size 46 i0 (.int .u64 0) 1 8 Try.underlying24 hi hz0 hz1 hz2 rfl (by decide) _ _ _ rfl (HO.out.alloc _) ⟨_, 0, none⟩ 1 1 [.int .u64 (c : Int)] rfl rfl ?c1 ?c2 ?c3 ?c4 ?c5 ?_
     case c1 => intro j y hy; rcases j with _ | j; (· simp at hy; subst hy; simp [Addr.add]); (· simp at hy)
     case c2 => simp [Value.oneCell']
     case c3 => unfold maxLen; simp
     case c4 => simp
     case c5 => have := HB.out.size; simp; omega
     intro u1 w4 hown1 hgrow _)
  go_ret
  have hE : wordVs (headL t p s) = [Value.int .u64 0x4e41435245303031, .int .u64 1, .int .u64 x, .int .u64 m, .int .u64 0, .int .u64 0, .int .u64 0] ++ [.int .u64 (c : Int)] := by
    unfold headL
    rw [H7.out, HC.out]
    rfl
  refine ⟨u1, rfl, by rw [hE]; exact hown1, ?_⟩
  have hb := ((HB.out.alloc HB.out.size (.cells #[.int .u64 0x4e41435245303031, .int .u64 1, .int .u64 x, .int .u64 m, .int .u64 0, .int .u64 0, .int .u64 0] 46)).alloc (by have := HB.out.size; simp; omega) (.cells #[.int .u64 (c : Int)] 46))
  exact hb.grown hgrow (by have := HB.out.size; simp; omega) (fun j hj => (HO.out.lt j hj).1)
end
end Go.Proofs.Ytmjkljdnioochaa

namespace Go.Proofs.Ytmjkljdnioochaa
open Go.ChangeShapes Go.WideShapes Go.ChangeAt Go.RowKit Go.Maps
set_option linter.unusedVariables false
set_option linter.unusedSimpArgs false
set_option maxRecDepth 100000
section
theorem u32_info25 : (Try.prog.info? 25).map (fun i => (i.zero, i.size, i.bytes)) = some (some (.int .u32 0), 1, 4) := by kernel_rfl
theorem make_u32 (n : Nat) (hn : n <= 1000000) (w : World) : (Instr.makeSlice 41 (.int .i64 (n : Int)) (.int .i64 (n : Int))).run Try.prog w = .ok (.slice (some ⟨w.heap.size, 0, none⟩) n n) (w.alloc (.cells (madeCells #[.int .u32 0] n) 25)) := by
 obtain ⟨i, hi⟩ : ∃ i, Try.prog.info? 25 = some i := Option.isSome_iff_exists.1 (by kernel_rfl)
 have h := u32_info25
 rw [hi] at h
 simp only [Option.map_some, Option.some.injEq, Prod.mk.injEq] at h
 obtain ⟨hz, hs, hb⟩ := h
 have := run_makeSlice (w := w) 41 25 i _ Try.underlying41 hi hz .i64 .i64 (n : Int) (n : Int) (by omega) (by omega) (by rw [hs]; omega) (by rw [hb]; omega) (by omega)
 rw [Int.toNat_natCast, hs, Nat.mul_one] at this
 exact this
theorem row_made {w : World} {t : TypeId} {z : Value} {n : Nat} (hn : n <= maxLen) : RowF (w.alloc (.cells (madeCells #[z] n) t)) w.heap.size t n n (fun _ => z) := by
 refine ⟨_, Held.new w t _, by unfold madeCells; simp, Nat.le_refl _, hn, fun i hi => ?_⟩
 unfold madeCells
 rw [Array.getElem?_map, Array.getElem?_range, if_pos hi]
 simp [Nat.mod_one]
theorem row_made1 {w : World} {t : TypeId} {z : Value} {n i : Nat} (hn : n <= maxLen) (hi : i < n) (u : Value) : RowF (w.alloc (.cells ((madeCells #[z] n).setIfInBounds i u) t)) w.heap.size t n n (updF (fun _ => z) i u) := by
 refine ⟨_, Held.new w t _, by unfold madeCells; simp, Nat.le_refl _, hn, fun j hj => ?_⟩
 by_cases e : j = i
 ·subst e
  rw [updF_same]
  simp [madeCells, Array.getElem?_setIfInBounds, hj]
 ·rw [updF_other _ _ e, Array.getElem?_setIfInBounds_ne (by omega)]
  unfold madeCells
  rw [Array.getElem?_map, Array.getElem?_range, if_pos hj]
  simp [Nat.mod_one]
set_option maxHeartbeats 3200000 in
theorem r25Vals_yes (t p s n : Nat) (hr : rightB t p s = true) (hn : n = 30 + 4 * t + 6 * p) (w : World) :
  Calls Try.prog 21 #[.agg #[.int .i64 (t : Int), .int .i64 (p : Int), .int .i64 (s : Int)]] w fun e w' => ∃ g, e = .returned (.slice (some ⟨g, 0, none⟩) n n) /\ RowF w' g 25 n n (valF (frV t p)) /\ w.heap.size <= g /\ Below w.heap.size w w' := by
 have hri := (rightB_iff t p s).1 hr
 have HC := hidp (Held.new w 23 #[.int .i64 (t : Int), .int .i64 (p : Int), .int .i64 (s : Int)])
 have HB := hidp (Bnew (B0 w) (.cells #[.int .i64 (t : Int), .int .i64 (p : Int), .int .i64 (s : Int)] 23))
 have E0 : Hid (lC t p s = (n : Int)) := hidp (by unfold lC; rw [hr, hn]; simp)
 have hn2 : n <= 1000000 := by omega
 have hmk := make_u32 n hn2
 have q0 : ((n : Int) == 0) = false := by simp; omega
 have HN := hidp hn
 have h0n : 30 <= n := by omega
 have hnu : n <= 6238 := by omega
 clear hn hn2
 obtain ⟨x0, x1, x2⟩ := HC.out.three
 go_enter Try.func21, Try.ntmps21
 go_wp2_with fail
 refine (r7Cells_c t p s _).mono ?_; rintro e w1 ⟨rfl, hb⟩; rw [E0.out]
 replace HC := hidp (HC.out.keep hb)
 replace HB := hidp (Bgo HB.out hb)
 clear hb x0 x1 x2
 have HM := hidp (row_made (w := w1) (t := 25) (z := .int .u32 0) (n := n) (by have := HN.out; unfold maxLen; omega))
 have HC2 := hidp (HC.out.alloc (.cells ((madeCells #[.int .u32 0] n).setIfInBounds 0 (.int .u32 (p : Int))) 25))
 have HC3 := hidp (HC.out.alloc (.cells (madeCells #[.int .u32 0] n) 25))
 obtain ⟨_, a1, _⟩ := HC3.out.three
 obtain ⟨x0, x1, x2⟩ := HC2.out.three
 have y0 := HM.out.cell (i := 0) (by have := HN.out; omega)
 have f0 := HM.out.thawed 0
 have cp : IntKind.u32.wrap (p : Int) = (p : Int) := wrap_nat32 p (by omega)
 go_wp2_with fail
 clear hmk a1 y0 f0 x0 x1 x2 HM HC3
 have HRW := hidp (row_made1 (w := w1) (t := 25) (z := .int .u32 0) (n := n) (i := 0) (by have := HN.out; unfold maxLen; omega) (by omega) (.int .u32 (p : Int)))
 replace HB := hidp (Bnew HB.out (.cells ((madeCells #[.int .u32 0] n).setIfInBounds 0 (.int .u32 (p : Int))) 25))
 have HG : Hid (w.heap.size < w1.heap.size) := hidp HC.out.lt
 replace HC := HC2
 clear HC2
 generalize hg : w1.heap.size = g at *
 generalize hw2 : w1.alloc (.cells ((madeCells #[.int .u32 0] n).setIfInBounds 0 (.int .u32 (p : Int))) 25) = w2 at *
 clear hg hw2
 have hfr := frB_at (p := p) (by omega) (by omega)
 obtain ⟨fb, hfb⟩ : ∃ x, frB p = x := ⟨_, rfl⟩
 rw [hfb] at hfr
 obtain ⟨k, hk, hk10, _⟩ := ofI_nat (n := p) (by omega) (by omega)
 have hok : 2 + (k : Int) = (fb : Int) := by
  have : ofI (p : Int) = HM.logI (p : Int) := by unfold ofI; rw [if_neg (by omega)]
  omega
 have HOF := hidp hk
 have HFB := hidp hfb
 have HBI : Hid (nthI 2 11 1 (k : Int) = (fb : Int)) := hidp (by rw [nth_on (by omega) (by omega) (by omega)]; omega)
 obtain ⟨ip, hip⟩ : ∃ x, 30 + 4 * t = x := ⟨_, rfl⟩
 have HIP := hidp hip
 clear hip
 have HPI : Hid (pageI (t : Int) (p : Int) (s : Int) 0 0 = (ip : Int)) := hidp (by rw [pcell_yes hr (by omega) (by omega) (by omega) (by omega)]; have := HIP.out; omega)
 have HPF : Hid (pageI (t : Int) (p : Int) (s : Int) ((p : Int) - 1) 1 = ((30 + 4 * t + 6 * (p - 1) + 1 : Nat) : Int)) := hidp (by rw [pcell_yes hr (by omega) (by omega) (by omega) (by omega)]; omega)
 have HIV : Hid (infoV 1 (p : Int) 0 = 1 + 16 * p) := hidp (by rw [infoV_yes (infoB_yes (by unfold infoP; omega))]; simp)
 have hfb12 : 2 <= fb /\ fb <= 12 := hfr.2
 clear hfr hok hk hfb
 refine (r14Of_c (p : Int) (by omega) (by omega) _).mono ?_
 rintro e w9 ⟨rfl, rfl⟩
 rw [HOF.out]
 obtain ⟨x0, x1, x2⟩ := HC.out.three
 go_wp2_with fail
 refine (r7Bin_c (k : Int) _).mono ?_
 rintro e w9 ⟨rfl, rfl⟩
 rw [HBI.out]
 have y4 := HRW.out.cell (i := fb) (by omega)
 have f4 := HRW.out.thawed (fb)
 have q4 : decide ((fb : Int) < (n : Int)) = true := decide_eq_true (by omega)
 go_wp2_with fail
 replace HB := hidp (Bput HB.out (p := ⟨g, fb, none⟩) (by have := HG.out; show w.heap.size <= g; omega) (.int .u32 1))
 replace HC := hidp (HC.out.far (p := ⟨g, fb, none⟩) (by have := HG.out; show w.heap.size ≠ g; omega) (.int .u32 1))
 replace HRW := hidp (HRW.out.put (i := fb) (by omega) (.int .u32 1))
 clear y4 f4 x0 x1 x2
 replace HC := hidp HC.out.drw
 replace HRW := hidp (HRW.out.keep (Bdrew (B0 _)))
 replace HB := hidp (Bdrew HB.out)
 have hi5n : ip < n := by have := HN.out; have := HIP.out; omega
 have hi5 : (ip : Int) < (n : Int) := by omega
 refine wp_region_held_drew (S := (fun w' => w'.cell? ⟨w.heap.size, 0, none⟩ = some (.int .i64 (t : Int)) /\ w'.cell? ⟨w.heap.size, 1, none⟩ = some (.int .i64 (p : Int)) /\ w'.cell? ⟨w.heap.size, 2, none⟩ = some (.int .i64 (s : Int)))) (by kernel_rfl) ?_ (fun hHeld => ?_)
 ·(try dsimp only)
  first | exact HC.out.three | exact hHeld
 refine tkz 0 ?_
 refine tkz 1 ?_
 refine tkz 3 ?_
 refine tkz 4 ?_
 refine rdz 2 fun K hK => ?_
 go_simp
 refine (r7Info_c t p s 0 _).mono ?_
 rintro e w4 ⟨rfl, hb⟩
 rw [HPI.out]
 replace HC := hidp (HC.out.keep hb)
 replace HRW := hidp (HRW.out.keep hb)
 replace HB := hidp (Bgo HB.out hb)
 clear hb
 refine hK.out _ _ ?_ (fun hHeld => ?_)
 ·(try dsimp only)
  first | exact HC.out.three | exact hHeld
 clear hK K
 (try simp only [Act.put, gA, gB, gC, sA, sB, sC])
 refine rdz 5 fun K hK => ?_
 go_simp
 refine (r9Value_c 1 p 0 _).mono ?_
 rintro e w5 ⟨rfl, hb⟩
 rw [HIV.out]
 replace HC := hidp (HC.out.keep hb)
 replace HRW := hidp (HRW.out.keep hb)
 replace HB := hidp (Bgo HB.out hb)
 clear hb
 have y5 := HRW.out.cell (i := ip) hi5n
 have f5 := HRW.out.thawed (ip)
 refine hK.out _ _ ?_ (fun hHeld => ?_)
 ·(try dsimp only)
  first | exact HC.out.three | exact hHeld
 clear hK K
 (try simp only [Act.put, gA, gB, gC, sA, sB, sC])
 refine tkz 6 ?_
 refine rdz 7 fun K hK => ?_
 go_simp
 replace HB := hidp (Bput HB.out (p := ⟨g, ip, none⟩) (by have := HG.out; show w.heap.size <= g; omega) (.int .u32 ((1 + 16 * p : Nat) : Int)))
 replace HC := hidp (HC.out.far (p := ⟨g, ip, none⟩) (by have := HG.out; show w.heap.size ≠ g; omega) (.int .u32 ((1 + 16 * p : Nat) : Int)))
 replace HRW := hidp (HRW.out.put (i := ip) hi5n (.int .u32 ((1 + 16 * p : Nat) : Int)))
 refine hK.out _ _ ?_ (fun hHeld => ?_)
 ·(try dsimp only)
  first | exact HC.out.three | exact hHeld
 clear hK K
 (try simp only [Act.put, gA, gB, gC, sA, sB, sC])
 refine dnz ?_
 clear y5 f5
 obtain ⟨x0, x1, x2⟩ := HC.out.three
 have cs : IntKind.i64.wrap ((p : Int) - 1) = (p : Int) - 1 := i64_same (by omega) (by omega)
 go_wp2_with fail
 refine (r7Foot_c t p s ((p : Int) - 1) _).mono ?_
 rintro e w6 ⟨rfl, hb⟩
 rw [HPF.out]
 replace HC := hidp (HC.out.keep hb)
 replace HRW := hidp (HRW.out.keep hb)
 replace HB := hidp (Bgo HB.out hb)
 clear hb
 have y6 := HRW.out.cell (i := 30 + 4 * t + 6 * (p - 1) + 1) (by have := HN.out; omega)
 have f6 := HRW.out.thawed (30 + 4 * t + 6 * (p - 1) + 1)
 have hi6 : 30 + 4 * t + 6 * (p - 1) + 1 < n := by have := HN.out; omega
 obtain ⟨ix, hix⟩ : ∃ x, 30 + 4 * t + 6 * (p - 1) + 1 = x := ⟨_, rfl⟩
 rw [hix] at y6 f6 hi6 ⊢
 have HIX := hidp hix
 clear x0 x1 x2 hix
 go_wp2
 go_ret
 replace HB := hidp (Bput HB.out (p := ⟨g, ix, none⟩) (by have := HG.out; show w.heap.size <= g; omega) (.int .u32 1))
 replace HC := hidp (HC.out.far (p := ⟨g, ix, none⟩) (by have := HG.out; show w.heap.size ≠ g; omega) (.int .u32 1))
 replace HRW := hidp (HRW.out.put (i := ix) hi6 (.int .u32 1))
 refine ⟨g, rfl, HRW.out.congr fun i hi => ?_, by have := HG.out; omega, HB.out⟩
 have h1 := HIX.out
 have h2 := HFB.out
 have h3 := HIP.out
 show _ = Value.int .u32 (frV t p i : Nat)
 unfold frV
 rw [h2, h1, h3]
 unfold updF
 by_cases e1 : i = ix
 ·subst e1
  rw [if_pos rfl, if_neg (by omega), if_neg (by omega), if_neg (by omega), if_pos rfl]
  rfl
 ·rw [if_neg e1]
  by_cases e2 : i = ip
  ·rw [if_pos e2, if_neg (by omega), if_neg (by omega), if_pos e2]
  ·rw [if_neg e2]
   by_cases e3 : i = fb
   ·rw [if_pos e3, if_neg (by omega), if_pos e3]
    rfl
   ·rw [if_neg e3]
    by_cases e4 : i = 0
    ·rw [if_pos e4, if_pos e4]
    ·rw [if_neg e4, if_neg e4, if_neg e3, if_neg e2, if_neg e1]
     rfl
end
section
theorem rd_maker {t p s u : Int} {m : Nat} : okW t p s m = false \/ (okW t p s m = true /\ decide (0 <= u /\ u <= t) = false) \/ (okW t p s m = true /\ decide (0 <= u /\ u <= t) = true) := by
 cases okW t p s m <;> cases decide (0 <= u /\ u <= t) <;> simp
set_option maxHeartbeats 1600000 in
theorem rdLay_no {A A2 : Option Addr} {m c k c2 : Nat} {w : World} {t p s : Int} (u : Int) (st : Nat) (hst : st < 2 ^ 32) (hk : k <= maxLen) (h : okW t p s m = false \/ u < 0 \/ t < u \/ 96 < k) :
  Calls Try.prog 10 #[.agg #[.int .i64 t, .int .i64 p, .int .i64 s], .slice A m c, .int .i64 u, .int .u32 (st : Int), .slice A2 k c2] w fun e w' => outW none m e w' /\ Below w.heap.size w w' := by
 have HC := hidp (Held.new w 23 #[.int .i64 t, .int .i64 p, .int .i64 s])
 have HB := hidp (Bnew (B0 w) (.cells #[.int .i64 t, .int .i64 p, .int .i64 s] 23))
 have hkm : k <= 9223372036854775807 := hk
 obtain ⟨x0, x1, x2⟩ := HC.out.three
 rcases rd_maker (t := t) (p := p) (s := s) (u := u) (m := m) with h1 | ⟨h1, h2⟩ | ⟨h1, h2⟩
 ·have HOK := hidp h1
  clear h h1
  go_enter Try.func10, Try.ntmps10
  go_wp2_with fail
  refine (rdAre_c t p s A m c _ HOK.out _).mono ?_
  rintro e w1 ⟨rfl, hb⟩
  replace HB := hidp (Bgo HB.out hb)
  clear hb
  go_wp2
  go_ret2
  exact ⟨⟨_, _, rfl⟩, HB.out⟩
 ·have HOK := hidp h1
  have HMK := hidp h2
  clear h h1 h2
  go_enter Try.func10, Try.ntmps10
  go_wp2_with fail
  refine (rdAre_c t p s A m c _ HOK.out _).mono ?_
  rintro e w1 ⟨rfl, hb⟩
  replace HC := hidp (HC.out.keep hb)
  replace HB := hidp (Bgo HB.out hb)
  clear hb
  clear x0 x1 x2
  obtain ⟨x0, x1, x2⟩ := HC.out.three
  go_wp2_with fail
  refine (rdMaker_c t p s u _ HMK.out _).mono ?_
  rintro e w2 ⟨rfl, hb⟩
  replace HB := hidp (Bgo HB.out hb)
  clear hb
  go_wp2
  go_ret2
  exact ⟨⟨_, _, rfl⟩, HB.out⟩
 ·have hk96 : 96 < k := by
   rcases h with h | h | h | h
   ·rw [h1] at h; cases h
   ·have := of_decide_eq_true h2; omega
   ·have := of_decide_eq_true h2; omega
   ·exact h
  have HOK := hidp h1
  have HMK := hidp h2
  have HNT : Hid (notB (k : Int) = false /\ notN st true (k : Int) = 0) := hidp (not_no st true (k : Int) (.inr (by omega)))
  clear h h1 h2
  go_enter Try.func10, Try.ntmps10
  go_wp2_with fail
  refine (rdAre_c t p s A m c _ HOK.out _).mono ?_
  rintro e w1 ⟨rfl, hb⟩
  replace HC := hidp (HC.out.keep hb)
  replace HB := hidp (Bgo HB.out hb)
  clear hb
  clear x0 x1 x2
  obtain ⟨x0, x1, x2⟩ := HC.out.three
  go_wp2_with fail
  refine (rdMaker_c t p s u _ HMK.out _).mono ?_
  rintro e w2 ⟨rfl, hb⟩
  replace HC := hidp (HC.out.keep hb)
  replace HB := hidp (Bgo HB.out hb)
  clear hb
  clear x0 x1 x2
  obtain ⟨x0, x1, x2⟩ := HC.out.three
  go_wp2_with fail
  refine (mkNote_c st true (k : Int) hst (by omega) (by omega) _).mono ?_
  rintro e w3 ⟨rfl, hb⟩
  rw [HNT.out.1, HNT.out.2]
  replace HB := hidp (Bgo HB.out hb)
  clear hb
  go_wp2
  go_ret2
  exact ⟨⟨_, _, rfl⟩, HB.out⟩

section
variable {t p s u m c st : Nat} {A A2 : Option Addr} {c2 : Nat} {f : Nat -> Nat} {w : World}
theorem layTo_or {l : List PairV} (hl : ∀ a ∈ l, 0 <= a.cell /\ a.cell < (rdN t p : Int)) (h32 : ∀ a ∈ l, a.val < 2 ^ 32) (hn : rdN t p < 65536) : ∀ j, j <= l.length -> ∀ i, layTo t p u l f j i = f i \/ layTo t p u l f j i < 2 ^ 64
 | 0, _, i => .inl rfl
 | j + 1, hj, i => by
  show updF (layTo t p u l f j) (rdL t p u j) _ i = f i \/ updF (layTo t p u l f j) (rdL t p u j) _ i < _
  have hx : l[j]? = some l[j] := List.getElem?_eq_getElem (by omega)
  have h1 := hl _ (List.getElem_mem (h := (by omega : j < l.length)))
  have h2 := h32 _ (List.getElem_mem (h := (by omega : j < l.length)))
  by_cases e : i = rdL t p u j
  ·subst e
   rw [updF_same, hx]
   right
   show l[j].cell.toNat * 4294967296 + l[j].val < _
   omega
  ·rw [updF_other _ _ e]
   exact layTo_or hl h32 hn j (by omega) i
theorem updF_swap {f : Nat -> Nat} {a b x y : Nat} (h : a ≠ b) : updF (updF f a x) b y = updF (updF f b y) a x := by
 funext j
 unfold updF
 by_cases h1 : j = b <;> by_cases h2 : j = a <;> simp [h1, h2] <;> omega
theorem layTo_note {l : List PairV} {v : Nat} : ∀ j, layTo t p u l (updF f (rdT t p u) v) j = updF (layTo t p u l f j) (rdT t p u) v
 | 0 => rfl
 | j + 1 => by
  show updF (layTo t p u l (updF f (rdT t p u) v) j) _ _ = updF (updF (layTo t p u l f j) (rdL t p u j) _) _ _
  rw [layTo_note j, updF_swap (by unfold rdL rdT; omega)]
set_option maxHeartbeats 12800000 in
theorem rdLay_in {k : Nat} (X : Option (Nat -> Nat)) (l : List PairV) (hk : l.length = k) (hX : layR t p f u st l = X) (hok : okW (t : Int) (p : Int) (s : Int) m = true) (hu : u <= t) (hk96 : k <= 96) (hkc : k <= c2) (hc2 : c2 <= maxLen) (hst32 : st < 2 ^ 32) (hlo : ∀ a ∈ l, a.Ok) (hW : WV w A m c f) (hP : PairVs w A2 l) :
  Calls Try.prog 10 #[.agg #[.int .i64 (t : Int), .int .i64 (p : Int), .int .i64 (s : Int)], .slice A m c, .int .i64 (u : Int), .int .u32 (st : Int), .slice A2 k c2] w fun e w' => outW X m e w' /\ Below w.heap.size w w' := by
 obtain ⟨hr, hm0, hmw, hm8⟩ := okW_right hok
 have hri := (rightB_iff t p s).1 hr
 rw [rdW_eq hr] at hmw
 have hM := rdM_lt t p
 have hWW : rdM t p <= rdW t p := by unfold rdW; omega
 obtain ⟨ad, rfl, hab, hcc⟩ := hW.ad hm0
 have hcc2 : c <= 9223372036854775807 := hW.max
 have hc22 : c2 <= 9223372036854775807 := hc2
 obtain ⟨n, hn⟩ : ∃ n, rdN t p = n := ⟨_, rfl⟩
 have hnu : n < 65536 := by rw [<- hn]; unfold rdN; omega
 have HNT : Hid (noteI (t : Int) (p : Int) (s : Int) (u : Int) = (rdT t p u : Int)) := hidp (rdT_eq hr hu)
 have hTm : rdT t p u < m := by have := rdT_lt (p := p) hu; omega
 obtain ⟨ti, hti⟩ : ∃ z, rdT t p u = z := ⟨_, rfl⟩
 obtain ⟨a0, ha0⟩ : ∃ a, rdL t p u 0 = a := ⟨_, rfl⟩
 have HRL : Hid (∀ j, rdL t p u j = a0 + j) := hidp (fun j => by rw [<- ha0]; unfold rdL; omega)
 have hakn : a0 + k <= m := by
  have hMW : rdW t p = rdM t p + (t + 1) * 120 := rfl
  have hLL : rdL t p u 0 = rdM t p + u * 120 + 24 := rfl
  have := Nat.mul_le_mul_right 120 hu
  omega
 have HXX : Hid (X = if k <= 96 /\ ∀ a ∈ l, 0 <= a.cell /\ a.cell < (n : Int) then some (layTo t p u l (updF f ti (st * 4294967296 + (2147483648 + k))) k) else none) := hidp (by
  rw [<- hX]
  unfold layR
  rw [hn, hk, <- hti, layTo_note])
 have HOR : Hid (∀ i, i < m -> (∀ a ∈ l, 0 <= a.cell /\ a.cell < (n : Int)) -> layTo t p u l (updF f ti (st * 4294967296 + (2147483648 + k))) k i < 2 ^ 64) := hidp (fun i hi h => by
  rcases layTo_or (t := t) (p := p) (u := u) (f := updF f ti (st * 4294967296 + (2147483648 + k))) (by rw [hn]; exact h) (fun a ha => (hlo a ha).val) (by omega) k (by omega) i with h1 | h1
  ·rw [h1]
   unfold updF
   split
   ·omega
   ·exact hW.lt i hi
  ·exact h1)
 rw [hti] at HNT hTm
 have HNV : Hid (notB (k : Int) = true /\ notN st true (k : Int) = st * 4294967296 + (2147483648 + k)) := hidp (by have := not_yes st true k hk96; simpa using this)
 obtain ⟨nv, hnv⟩ : ∃ z, st * 4294967296 + (2147483648 + k) = z := ⟨_, rfl⟩
 rw [hnv] at HXX HOR HNV
 have HOK := hidp hok
 have HLK := hidp hk
 have HLO := hidp hlo
 have HU := hidp hu
 have HMK : Hid (decide ((0 : Int) <= (u : Int) /\ (u : Int) <= (t : Int)) = true) := hidp (decide_eq_true (by omega))
 have HWI : Hid (∀ i : Int, decide (0 <= wordI (t : Int) (p : Int) (s : Int) i) = decide (0 <= i /\ i < (n : Int))) := hidp (word_is hr hn)
 have HC := hidp (Held.new w 23 #[.int .i64 (t : Int), .int .i64 (p : Int), .int .i64 (s : Int)])
 have HB := hidp (Bnew (B0 w) (.cells #[.int .i64 (t : Int), .int .i64 (p : Int), .int .i64 (s : Int)] 23))
 have HW := hidp (hW.below (Bnew (B0 w) (.cells #[.int .i64 (t : Int), .int .i64 (p : Int), .int .i64 (s : Int)] 23)))
 have HP := hidp (hP.below (Bnew (B0 w) (.cells #[.int .i64 (t : Int), .int .i64 (p : Int), .int .i64 (s : Int)] 23)))
 have HPW : Hid (∀ al, A2 = some al -> l ≠ [] -> al.block < w.heap.size) := hidp (fun al e hne => by
  obtain ⟨x, hx⟩ : ∃ x, l[0]? = some x := ⟨_, List.getElem?_eq_getElem (by cases l; exact absurd rfl hne; simp)⟩
  obtain ⟨al', e', h1, _⟩ := hP 0 x hx
  rw [e] at e'
  injection e' with e'
  rw [e']
  exact h1)
 clear hX hok hn hti hr hmw hM hWW hcc hk hlo hW hP ha0 hu hri hnv
 obtain ⟨x0, x1, x2⟩ := HC.out.three
 go_enter Try.func10, Try.ntmps10
 go_wp2_with fail
 refine (rdAre_c t p s (some ad) m c true HOK.out _).mono ?_
 rintro e w1 ⟨rfl, hb⟩
 replace HC := hidp (HC.out.keep hb)
 replace HW := hidp (HW.out.below hb)
 replace HP := hidp (HP.out.below hb)
 replace HB := hidp (Bgo HB.out hb)
 clear hb
 clear x0 x1 x2
 obtain ⟨x0, x1, x2⟩ := HC.out.three
 go_wp2_with fail
 refine (rdMaker_c t p s u true HMK.out _).mono ?_
 rintro e w2 ⟨rfl, hb⟩
 replace HC := hidp (HC.out.keep hb)
 replace HW := hidp (HW.out.below hb)
 replace HP := hidp (HP.out.below hb)
 replace HB := hidp (Bgo HB.out hb)
 clear hb
 clear x0 x1 x2
 obtain ⟨x0, x1, x2⟩ := HC.out.three
 go_wp2_with fail
 refine (mkNote_c st true (k : Int) hst32 (by omega) (by omega) _).mono ?_
 rintro e w3 ⟨rfl, hb⟩
 rw [HNV.out.1, HNV.out.2]
 replace HC := hidp (HC.out.keep hb)
 replace HW := hidp (HW.out.below hb)
 replace HP := hidp (HP.out.below hb)
 replace HB := hidp (Bgo HB.out hb)
 clear hb
 clear x0 x1 x2
 obtain ⟨x0, x1, x2⟩ := HC.out.three
 have hgs : w.heap.size + 1 <= w3.heap.size := HC.out.lt
 go_wp2_with fail
 refine (rdClone_c hm0 (by omega) HW.out).mono ?_
 rintro e w4 ⟨g, cg, rfl, hg2, hrw, hb⟩
 have HRW := hidp hrw
 have HG : Hid (w.heap.size < g) := hidp (by omega)
 have HPG : Hid (∀ al, A2 = some al -> l ≠ [] -> al.block ≠ g) := hidp (fun al e hne h => by have := HPW.out al e hne; have := HG.out; omega)
 have hcg := HRW.out.le
 have hcgm : cg <= 9223372036854775807 := HRW.out.max
 replace HC := hidp (HC.out.keep hb)
 replace HP := hidp (HP.out.below hb)
 replace HB := hidp (Bgo HB.out hb)
 clear hb hrw HW hg2 hgs
 clear x0 x1 x2
 obtain ⟨x0, x1, x2⟩ := HC.out.three
 go_wp2_with fail
 refine (plNote_c t p s u _).mono ?_
 rintro e w5 ⟨rfl, hb⟩
 rw [HNT.out]
 replace HC := hidp (HC.out.keep hb)
 replace HP := hidp (HP.out.below hb)
 replace HRW := hidp (HRW.out.keep hb)
 replace HB := hidp (Bgo HB.out hb)
 clear hb
 clear x0 x1 x2
 obtain ⟨x0, x1, x2⟩ := HC.out.three
 have i1 : (ti : Int) < (m : Int) := by omega
 have yq := HRW.out.cell (i := ti) hTm
 have fq := HRW.out.thawed ti
 obtain ⟨w6, hw6⟩ : ∃ z, w5.setCell ⟨g, ti, none⟩ (.int .u64 (nv : Int)) = z := ⟨_, rfl⟩
 replace HB := hidp (Bput HB.out (p := ⟨g, ti, none⟩) (by have := HG.out; show w.heap.size <= g; omega) (.int .u64 (nv : Int)))
 replace HC := hidp (HC.out.far (p := ⟨g, ti, none⟩) (by have := HG.out; show w.heap.size ≠ g; omega) (.int .u64 (nv : Int)))
 replace HP := hidp (pairVs_far HP.out HPG.out (p := ⟨g, ti, none⟩) rfl (.int .u64 (nv : Int)))
 replace HRW := hidp (HRW.out.put (i := ti) hTm (.int .u64 (nv : Int)))
 rw [hw6] at HB HC HP HRW
 replace HRW : Hid (RowF w6 g 46 m cg (wrdF (layTo t p u l (updF f ti nv) 0))) := hidp (HRW.out.congr fun i hi => by
  dsimp only [wrdF, updF, layTo]
  by_cases e : i = ti
  ·rw [if_pos e, if_pos e]
  ·rw [if_neg e, if_neg e])
 obtain ⟨F, hF⟩ : ∃ z, updF f ti nv = z := ⟨_, rfl⟩
 rw [hF] at HRW HXX HOR
 clear hF
 obtain ⟨v0, v1, v2⟩ := HC.out.three
 go_wp2_with fail
 clear yq fq hw6 x0 x1 x2 v0 v1 v2
 refine (rdEntries_c k HOK.out HU.out hk96 hcg HRW.out.max).mono ?_
 rintro e w7 ⟨rfl, hb⟩
 obtain ⟨A4, hA4⟩ : ∃ z, cutA ⟨g, 0, none⟩ (rdL t p u 0) k = z := ⟨_, rfl⟩
 have HA4 : Hid (0 < k -> A4 = ⟨g, a0, none⟩) := hidp (fun h => by
  rw [<- hA4, cutA_some (by omega), HRL.out, addr_add]
  rfl)
 rw [hA4]
 clear hA4
 replace HC := hidp (HC.out.keep hb)
 replace HP := hidp (HP.out.below hb)
 replace HRW := hidp (HRW.out.keep hb)
 replace HB := hidp (Bgo HB.out hb)
 clear hb
 have HIN0 : Hid (∀ i a, i < 0 -> l[i]? = some a -> 0 <= a.cell /\ a.cell < (n : Int)) := hidp (fun i a hi => by omega)
 go_wp2_with fail
 go_loopw [16, 17, 54] (fun u16 u17 u54 wr => ∃ j : Nat, j <= k /\ u54 = .int .i64 (j : Int) /\ Hid (∀ i a, i < j -> l[i]? = some a -> 0 <= a.cell /\ a.cell < (n : Int)) /\ Hid (RowF wr g 46 m cg (wrdF (layTo t p u l F j))) /\ Hid (Held wr w.heap.size 23 #[.int .i64 (t : Int), .int .i64 (p : Int), .int .i64 (s : Int)]) /\ Hid (PairVs wr A2 l) /\ Hid (Below w.heap.size w wr)) (fun u16 u17 u54 _ => k - (intOf u54).toNat)
 case atStart => exact ⟨0, by omega, rfl, HIN0, HRW, HC, HP, HB⟩
 case round =>
  clear HRW HC HP HB HIN0
  obtain ⟨j, hj, rfl, HIN, HRW, HC, HP, HB⟩ := hrel
  by_cases hlt : j < k
  ·have t1 : decide ((j : Int) < (k : Int)) = true := decide_eq_true (by omega)
   have t1n : decide (j < k) = true := decide_eq_true hlt
   obtain ⟨⟨ec, ev⟩, hx⟩ : ∃ x, l[j]? = some x := ⟨_, List.getElem?_eq_getElem (by rw [HLK.out]; exact hlt)⟩
   have hok := HLO.out _ (List.mem_of_getElem? hx)
   have hev32 : ev < 2 ^ 32 := hok.val
   have heb := i64_bounds hok.cell
   dsimp only at heb
   obtain ⟨al, hal, hlb, _⟩ := HP.out j _ hx
   subst hal
   obtain ⟨p0, p1⟩ := HP.out.cells hx
   dsimp only at p0 p1
   have HMEM : Hid ((⟨ec, ev⟩ : PairV) ∈ l) := hidp (List.mem_of_getElem? hx)
   have HIX := hidp hx
   obtain ⟨NP, hNP⟩ : ∃ z, wr.heap.size = z := ⟨_, rfl⟩
   have HQ := hidp (Held.new wr 56 #[.int .i64 ec, .int .u32 (ev : Int)])
   have HNG : Hid (g < NP) := hidp (by rw [<- hNP]; exact HRW.out.lt)
   have hb := Bnew (B0 wr) (.cells #[.int .i64 ec, .int .u32 (ev : Int)] 56)
   rw [hNP] at HQ
   replace HC := hidp (HC.out.keep hb)
   replace HP := hidp (HP.out.below hb)
   replace HRW := hidp (HRW.out.keep hb)
   replace HB := hidp (Bgo HB.out hb)
   obtain ⟨v0, v1⟩ := HQ.out.two
   rw [<- hNP] at v0 v1
   obtain ⟨x0, x1, x2⟩ := HC.out.three
   clear hx hok hlb hb
   go_wp2_with fail
   (try rw [hNP])
   generalize hWN : wr.alloc (.cells #[.int .i64 ec, .int .u32 (ev : Int)] 56) = wn at *
   clear hNP hWN v0 v1 p0 p1 x0 x1 x2
   by_cases hin : 0 <= ec /\ ec < (n : Int)
   ·obtain ⟨en, rfl⟩ := Int.eq_ofNat_of_zero_le hin.1
    have henn : en < n := by omega
    have HNX : Hid (layTo t p u l F (j + 1) = updF (layTo t p u l F j) (a0 + j) (en * 4294967296 + ev)) := hidp (by
     show updF (layTo t p u l F j) (rdL t p u j) _ = _
     rw [HIX.out, HRL.out]
     rfl)
    have HIS : Hid (decide (0 <= wordI (t : Int) (p : Int) (s : Int) (en : Int)) = true) := hidp (by rw [HWI.out]; exact decide_eq_true hin)
    have HIN1 : Hid (∀ i a, i < j + 1 -> l[i]? = some a -> 0 <= a.cell /\ a.cell < (n : Int)) := hidp (fun i a hi ha => by
     rcases Nat.lt_or_ge i j with h | h
     ·exact HIN.out i a h ha
     ·obtain rfl : i = j := by omega
      rw [HIX.out] at ha
      injection ha with ha
      subst ha
      exact hin)
    have HEN := hidp (ent_yes en ev (by omega))
    clear hin
    refine (rdCell_c t p s en true HIS.out _).mono ?_
    rintro e w8 ⟨rfl, hb⟩
    replace HC := hidp (HC.out.keep hb)
    replace HP := hidp (HP.out.below hb)
    replace HRW := hidp (HRW.out.keep hb)
    replace HQ := hidp (HQ.out.keep hb)
    replace HB := hidp (Bgo HB.out hb)
    clear hb
    obtain ⟨v0, v1⟩ := HQ.out.two
    go_wp2_with fail
    refine (mkEntry_c en ev hev32 (by omega) (by omega) _).mono ?_
    rintro e w9 ⟨rfl, hb⟩
    rw [HEN.out.1, HEN.out.2]
    replace HC := hidp (HC.out.keep hb)
    replace HP := hidp (HP.out.below hb)
    replace HRW := hidp (HRW.out.keep hb)
    replace HQ := hidp (HQ.out.keep hb)
    replace HB := hidp (Bgo HB.out hb)
    clear hb v0 v1
    have him : a0 + j < m := by omega
    have hA := HA4.out (by omega)
    have yq := HRW.out.cell (i := a0 + j) him
    have fq := HRW.out.thawed (a0 + j)
    have i3 : (j : Int) < (k : Int) := by omega
    subst hA
    replace HB := hidp (Bput HB.out (p := ⟨g, a0 + j, none⟩) (by have := HG.out; show w.heap.size <= g; omega) (.int .u64 ((en * 4294967296 + ev : Nat) : Int)))
    replace HC := hidp (HC.out.far (p := ⟨g, a0 + j, none⟩) (by have := HG.out; show w.heap.size ≠ g; omega) (.int .u64 ((en * 4294967296 + ev : Nat) : Int)))
    replace HP := hidp (pairVs_far HP.out HPG.out (p := ⟨g, a0 + j, none⟩) rfl (.int .u64 ((en * 4294967296 + ev : Nat) : Int)))
    replace HRW := hidp (HRW.out.put (i := a0 + j) him (.int .u64 ((en * 4294967296 + ev : Nat) : Int)))
    go_wp2
    go_roundw
    case rel => exact ⟨j + 1, by omega, by go_num, HIN1, hidp (HRW.out.congr fun i hi => by
      rw [HNX.out]
      dsimp only [wrdF, updF]
      by_cases e : i = a0 + j
      ·rw [if_pos e, if_pos e]
      ·rw [if_neg e, if_neg e]), HC, HP, HB⟩
    case measure => simp [intOf]; omega
   ·have HX0 : Hid (X = none) := hidp (by rw [HXX.out, if_neg (fun h => hin (h.2 _ HMEM.out))])
    have HIS : Hid (decide (0 <= wordI (t : Int) (p : Int) (s : Int) ec) = false) := hidp (by rw [HWI.out]; exact decide_eq_false hin)
    clear hin
    refine (rdCell_c t p s ec false HIS.out _).mono ?_
    rintro e w8 ⟨rfl, hb⟩
    replace HB := hidp (Bgo HB.out hb)
    clear hb
    go_wp2
    go_ret2
    exact ⟨by rw [HX0.out]; exact ⟨_, _, rfl⟩, HB.out⟩
  ·have t1 : decide ((j : Int) < (k : Int)) = false := decide_eq_false (by omega)
   have t1n : decide (j < k) = false := decide_eq_false hlt
   obtain rfl : j = k := by omega
   have HALL : Hid (∀ a ∈ l, 0 <= a.cell /\ a.cell < (n : Int)) := hidp (fun a ha => by
    obtain ⟨i, hi, e⟩ := List.mem_iff_getElem.1 ha
    exact HIN.out i a (by have := HLK.out; omega) (by rw [List.getElem?_eq_getElem hi, e]))
   have HX0 : Hid (X = some (layTo t p u l F j)) := hidp (by rw [HXX.out, if_pos ⟨by omega, HALL.out⟩])
   go_wp2
   go_ret2
   exact ⟨by rw [HX0.out]; exact ⟨_, _, rfl, WV.of_row HRW.out (fun i hi => HOR.out i hi HALL.out)⟩, HB.out⟩
end

set_option maxHeartbeats 1600000 in
theorem rdTidy_no {A : Option Addr} {m c : Nat} {w : World} {t p s : Int} (h : okW t p s m = false) :
  Calls Try.prog 15 #[.agg #[.int .i64 t, .int .i64 p, .int .i64 s], .slice A m c] w fun e w' => outW none m e w' /\ Below w.heap.size w w' := by
 have HC := hidp (Held.new w 23 #[.int .i64 t, .int .i64 p, .int .i64 s])
 have HB := hidp (Bnew (B0 w) (.cells #[.int .i64 t, .int .i64 p, .int .i64 s] 23))
 obtain ⟨x0, x1, x2⟩ := HC.out.three
 have HOK := hidp h
 clear h
 go_enter Try.func15, Try.ntmps15
 go_wp2_with fail
 refine (rdLast_no HOK.out).mono ?_
 rintro e w1 ⟨hv, hb⟩
 dsimp only [preV] at hv
 subst hv
 replace HB := hidp (Bgo HB.out hb)
 clear hb
 go_wp2
 go_ret2
 exact ⟨⟨_, _, rfl⟩, HB.out⟩
section
variable {t p s m c st u : Nat} {A : Option Addr} {f : Nat -> Nat} {w : World}
theorem preR_some (h : preR t p f = some (st, u)) : f 8 % 4294967296 <= 16 /\ f 8 % 4294967296 <= t /\ lowB (stI (f 8)) f (rdN t p) /\ stI (f 8) = st /\ f 8 % 4294967296 = u := by
 unfold preR at h
 split at h
 ·rename_i h1
  injection h with h
  injection h with h2 h3
  exact ⟨h1.1, h1.2.1, h1.2.2, h2, h3⟩
 ·cases h
theorem tidy_none (h : preR t p f = none) : tidyR t p f = none := by
 unfold preR at h
 split at h
 ·cases h
 ·rename_i h1
  unfold tidyR lastR
  rw [if_neg h1]
  rfl
theorem last_pre (h : preR t p f = some (st, u)) : lastR t p f = if openB (f (rdT t p u)) st = true then (logR t p f u).map fun x => (st, u, x.2) else some (st, u, []) := by
 obtain ⟨h1, h2, h3, h4, h5⟩ := preR_some h
 rw [lastR_in h1 h2 h3, h4, h5]
theorem tidy_shut (h : preR t p f = some (st, u)) (ho : openB (f (rdT t p u)) st = false) : tidyR t p f = some f := by
 unfold tidyR
 rw [last_pre h, if_neg (by rw [ho]; decide)]
 show some (closeR t p st u f f) = some f
 unfold closeR
 rw [if_neg (by rw [ho]; decide)]
theorem tidy_nolog (h : preR t p f = some (st, u)) (ho : openB (f (rdT t p u)) st = true) (hl : logR t p f u = none) : tidyR t p f = none := by
 unfold tidyR
 rw [last_pre h, if_pos ho, hl]
 rfl
theorem tidy_log {y : (Nat × Bool × Nat) × List (Nat × Nat)} (h : preR t p f = some (st, u)) (ho : openB (f (rdT t p u)) st = true) (hl : logR t p f u = some y) :
  tidyR t p f = some (updF (doneTo st y.2 f) (rdT t p u) (st * 4294967296 + (noteOf (f (rdT t p u))).2.2.1)) := by
 unfold tidyR
 rw [last_pre h, if_pos ho, hl]
 show some (closeR t p st u f (doneTo st y.2 f)) = _
 unfold closeR
 rw [if_pos ho]
theorem log_parts {y : (Nat × Bool × Nat) × List (Nat × Nat)} (hl : logR t p f u = some y) : y.1 = ((noteOf (f (rdT t p u))).1, (noteOf (f (rdT t p u))).2.1, (noteOf (f (rdT t p u))).2.2.1) /\ y.2.length = (noteOf (f (rdT t p u))).2.2.1 /\ ∀ e ∈ y.2, e.1 < rdN t p /\ e.2 < 4294967296 := by
 unfold logR at hl
 split at hl
 ·split at hl
  ·rename_i l h1
   injection hl with hl
   subst hl
   have h2 := entsI_cell h1
   exact ⟨rfl, h2.1, h2.2⟩
  ·cases hl
 ·cases hl

set_option maxHeartbeats 12800000 in
theorem rdTidy_in (X : Option (Nat -> Nat)) (hX : tidyR t p f = X) (hok : okW (t : Int) (p : Int) (s : Int) m = true) (hW : WV w A m c f) :
  Calls Try.prog 15 #[.agg #[.int .i64 (t : Int), .int .i64 (p : Int), .int .i64 (s : Int)], .slice A m c] w fun e w' => outW X m e w' /\ Below w.heap.size w w' := by
 obtain ⟨hr, hm0, hmw, hm8⟩ := okW_right hok
 have hri := (rightB_iff t p s).1 hr
 rw [rdW_eq hr] at hmw
 have hM := rdM_lt t p
 have hNN : rdN t p = 30 + 4 * t + 6 * p := rfl
 have hWW : rdM t p <= rdW t p := by unfold rdW; omega
 obtain ⟨ad, rfl, hab, hcc⟩ := hW.ad hm0
 have hcc2 : c <= 9223372036854775807 := hW.max
 have h8 : f 8 < 2 ^ 64 := hW.lt 8 (by omega)
 obtain ⟨n, hn⟩ : ∃ n, rdN t p = n := ⟨_, rfl⟩
 have hn1 : 0 < n /\ n <= 65536 /\ 16 + n <= m := by omega
 obtain ⟨Y, hY⟩ : ∃ Y, preR t p f = Y := ⟨_, rfl⟩
 have HYY := hidp hY
 have HXX := hidp hX
 have HOK := hidp hok
 have HW := hidp hW
 have HR := hidp hr
 have HMW := hidp hmw
 have H8 := hidp h8
 have HRN := hidp hn
 clear hX hY hok hW hr hmw hM hWW hcc h8 hri hNN hn
 have HC := hidp (Held.new w 23 #[.int .i64 (t : Int), .int .i64 (p : Int), .int .i64 (s : Int)])
 have HB := hidp (Bnew (B0 w) (.cells #[.int .i64 (t : Int), .int .i64 (p : Int), .int .i64 (s : Int)] 23))
 replace HW := hidp (HW.out.below (Bnew (B0 w) (.cells #[.int .i64 (t : Int), .int .i64 (p : Int), .int .i64 (s : Int)] 23)))
 obtain ⟨x0, x1, x2⟩ := HC.out.three
 go_enter Try.func15, Try.ntmps15
 go_wp2_with fail
 refine (rdLast_in Y HYY.out HOK.out HW.out).mono ?_
 rintro e w1 ⟨hv, hb⟩
 cases Y with
 | none =>
  dsimp only [preV] at hv
  subst hv
  have HX0 : Hid (X = none) := hidp (by rw [<- HXX.out]; exact tidy_none HYY.out)
  replace HB := hidp (Bgo HB.out hb)
  clear hb
  go_wp2
  go_ret2
  exact ⟨by rw [HX0.out]; exact ⟨_, _, rfl⟩, HB.out⟩
 | some y =>
  obtain ⟨st, u⟩ := y
  dsimp only [preV] at hv
  subst hv
  obtain ⟨q1, q2, q3, q4, q5⟩ := preR_some HYY.out
  have hst32 : st < 2 ^ 32 := by rw [<- q4]; have := H8.out; unfold stI; omega
  have hut : u <= t := by omega
  have HU := hidp hut
  have HNT : Hid (noteI (t : Int) (p : Int) (s : Int) (u : Int) = (rdT t p u : Int)) := hidp (rdT_eq HR.out hut)
  have hTm : rdT t p u < m := by have := rdT_lt (p := p) hut; have := HMW.out; omega
  have HTN : Hid (16 + n <= rdT t p u) := hidp (by have := rdM_lt t p; have := HRN.out; unfold rdT; omega)
  obtain ⟨ti, hti⟩ : ∃ z, rdT t p u = z := ⟨_, rfl⟩
  obtain ⟨z, hz⟩ : ∃ z, f ti = z := ⟨_, rfl⟩
  have HTI := hidp hti
  rw [hti] at HNT hTm HTN
  have hz64 : z < 2 ^ 64 := by rw [<- hz]; exact HW.out.lt _ hTm
  have HZ := hidp hz
  replace HC := hidp (HC.out.keep hb)
  replace HW := hidp (HW.out.below hb)
  replace HB := hidp (Bgo HB.out hb)
  clear hb q1 q2 q3 q4 q5 hti hz H8 x0 x1 x2
  obtain ⟨x0, x1, x2⟩ := HC.out.three
  go_wp2_with fail
  have hb := Bdrew (B0 w1)
  replace HC := hidp (HC.out.keep hb)
  replace HW := hidp (HW.out.below hb)
  replace HB := hidp (Bgo HB.out hb)
  clear hb x0 x1 x2
  refine wp_region_held_drew (S := (fun w' => w'.cell? ⟨w.heap.size, 0, none⟩ = some (.int .i64 (t : Int)) /\ w'.cell? ⟨w.heap.size, 1, none⟩ = some (.int .i64 (p : Int)) /\ w'.cell? ⟨w.heap.size, 2, none⟩ = some (.int .i64 (s : Int)))) (by kernel_rfl) ?_ (fun hHeld => ?_)
  ·(try dsimp only)
   first | exact HC.out.three | exact hHeld
  refine tkz 0 ?_
  refine tkz 2 ?_
  refine tkz 3 ?_
  refine rdz 1 fun K hK => ?_
  go_simp
  refine (rdClone_c hm0 (by omega) HW.out).mono ?_
  rintro e w4 ⟨g, cg, rfl, hg2, hrw, hb⟩
  have HRW := hidp hrw
  have HG : Hid (w.heap.size < g /\ ad.block < g) := hidp (by have := HC.out.lt; omega)
  replace HC := hidp (HC.out.keep hb)
  replace HW := hidp (HW.out.below hb)
  replace HB := hidp (Bgo HB.out hb)
  clear hb hrw hg2
  refine hK.out _ _ ?_ (fun hHeld => ?_)
  ·(try dsimp only)
   first | exact HC.out.three | exact hHeld
  clear hK K
  (try simp only [Act.put, gA, gB, gC, sA, sB, sC])
  refine rdz 4 fun K hK => ?_
  go_simp
  refine (plNote_c t p s u _).mono ?_
  rintro e w5 ⟨rfl, hb⟩
  rw [HNT.out]
  replace HC := hidp (HC.out.keep hb)
  replace HW := hidp (HW.out.below hb)
  replace HRW := hidp (HRW.out.keep hb)
  replace HB := hidp (Bgo HB.out hb)
  clear hb
  refine hK.out _ _ ?_ (fun hHeld => ?_)
  ·(try dsimp only)
   first | exact HC.out.three | exact hHeld
  clear hK K
  (try simp only [Act.put, gA, gB, gC, sA, sB, sC])
  refine tkz 5 ?_
  refine tkz 6 ?_
  refine dnz ?_
  have hcg := HRW.out.le
  have hcgm : cg <= 9223372036854775807 := HRW.out.max
  obtain ⟨x0, x1, x2⟩ := HC.out.three
  have cx : w5.cell? (ad.add ti) = some (.int .u64 (z : Int)) := by
   obtain ⟨ad', e, _, h2⟩ := HW.out.cell ti hTm
   injection e with e
   subst e
   rw [HZ.out] at h2
   exact h2
  have i1 : (ti : Int) < (m : Int) := by omega
  go_wp2_with fail
  refine (mkOpen_c z st hz64 hst32 _).mono ?_
  rintro e w6 ⟨rfl, hb⟩
  replace HC := hidp (HC.out.keep hb)
  replace HW := hidp (HW.out.below hb)
  replace HRW := hidp (HRW.out.keep hb)
  replace HB := hidp (Bgo HB.out hb)
  clear hb cx i1 x0 x1 x2
  obtain ⟨x0, x1, x2⟩ := HC.out.three
  obtain ⟨ob, hob⟩ : ∃ ob, openB z st = ob := ⟨_, rfl⟩
  rw [hob]
  have HOB : Hid (openB (f (rdT t p u)) st = ob) := hidp (by rw [HTI.out, HZ.out]; exact hob)
  cases ob with
  | false =>
   have HX0 : Hid (X = some f) := hidp (by rw [<- HXX.out]; exact tidy_shut HYY.out HOB.out)
   have HLT : Hid (∀ i, i < m -> f i < 2 ^ 64) := hidp HW.out.lt
   clear hob
   go_wp2
   go_ret2
   exact ⟨by rw [HX0.out]; exact ⟨_, _, rfl, WV.of_row HRW.out HLT.out⟩, HB.out⟩
  | true =>
   obtain ⟨L, hL⟩ : ∃ L, logR t p f u = L := ⟨_, rfl⟩
   have HLL := hidp hL
   obtain ⟨o1, o2, o3, o4⟩ := openB_note hob
   clear hob hL
   go_wp2_with fail
   refine (rdLogV L HLL.out HOK.out HU.out HW.out).mono ?_
   rintro e w7 ⟨hv, hb⟩
   cases L with
   | none =>
    dsimp only [logV] at hv
    subst hv
    have HX0 : Hid (X = none) := hidp (by rw [<- HXX.out]; exact tidy_nolog HYY.out HOB.out HLL.out)
    replace HB := hidp (Bnew (Bgo HB.out hb) (.cells #[.int .u32 0, .bool false, .int .i64 0] 32))
    clear hb
    go_wp2
    go_ret2
    exact ⟨by rw [HX0.out]; exact ⟨_, _, rfl⟩, HB.out⟩
   | some y =>
    obtain ⟨⟨s1, ob1, cn⟩, l⟩ := y
    obtain ⟨r1, r2, r3⟩ := log_parts HLL.out
    rw [HTI.out, HZ.out] at r1 r2
    dsimp only at r1 r2 r3
    injection r1 with r1 r4
    injection r4 with r4 r5
    rw [o2] at r4
    rw [o3] at r1
    rw [<- r5] at r2 o4
    subst r1 r4
    obtain ⟨v, rfl, ho⟩ := hv
    dsimp only at ho ⊢
    have HX0 : Hid (X = some (updF (doneTo s1 l f) ti (s1 * 4294967296 + cn))) := hidp (by rw [<- HXX.out, tidy_log HYY.out HOB.out HLL.out, HTI.out, HZ.out, <- r5])
    have HLK := hidp r2
    have HCELL : Hid (∀ e ∈ l, e.1 < n /\ e.2 < 4294967296) := hidp (by rw [<- HRN.out]; exact r3)
    have HVG : Hid (∀ g', v.ownBlock = some g' -> g' ≠ g) := hidp (fun g' e => by have := (ho.lt g' e).1; have := HRW.out.lt; omega)
    rw [r2] at ho
    obtain ⟨A1, c1, hu1⟩ := own_slice ho
    subst hu1
    have HO := hidp ho
    have HLT : Hid (∀ i, i < m -> f i < 2 ^ 64) := hidp HW.out.lt
    replace HC := hidp (HC.out.keep hb)
    replace HRW := hidp (HRW.out.keep hb)
    replace HB := hidp (Bgo HB.out hb)
    clear hb ho r2 r3 r5 o1 o2 o3 HXX HLL HOB HW x0 x1 x2
    obtain ⟨NB, hNB⟩ : ∃ z, w7.heap.size = z := ⟨_, rfl⟩
    have HN := hidp (Held.new w7 32 #[.int .u32 (s1 : Int), .bool true, .int .i64 (cn : Int)])
    have HNBG : Hid (g < NB /\ w.heap.size < NB) := hidp (by have h1 := HRW.out.lt; have h2 := HC.out.lt; omega)
    have hb := Bnew (B0 w7) (.cells #[.int .u32 (s1 : Int), .bool true, .int .i64 (cn : Int)] 32)
    rw [hNB] at HN
    replace HC := hidp (HC.out.keep hb)
    replace HRW := hidp (HRW.out.keep hb)
    replace HO := hidp (own_below HO.out hb)
    replace HB := hidp (Bgo HB.out hb)
    clear hb
    obtain ⟨x0, x1, x2⟩ := HC.out.three
    go_wp2_with fail
    (try rw [hNB])
    generalize hw8 : w7.alloc (.cells #[.int .u32 (s1 : Int), .bool true, .int .i64 (cn : Int)] 32) = w8 at *
    clear hNB hw8
    refine (rdCells_c n HRN.out HOK.out hcg HRW.out.max).mono ?_
    rintro e w9 ⟨rfl, hb⟩
    rw [cutA_some (show ¬ n = 0 by omega), addr_add]
    replace HC := hidp (HC.out.keep hb)
    replace HRW := hidp (HRW.out.keep hb)
    replace HO := hidp (own_below HO.out hb)
    replace HN := hidp (HN.out.keep hb)
    replace HB := hidp (Bgo HB.out hb)
    clear hb x0 x1 x2
    go_wp2_with fail
    refine (rdTurn_c hn1.1 hn1.2.1 hn1.2.2 (by omega) hst32 HLK.out HCELL.out HLT.out HRW.out HO.out HVG.out).mono ?_
    rintro e w10 ⟨rfl, hrw, ht⟩
    have HNG : Hid (NB ≠ g) := hidp (by have := HNBG.out; omega)
    replace HRW := hidp hrw
    replace HN := hidp (ht.held HN.out HNG.out)
    replace HC := hidp (ht.held HC.out (by have := HG.out; show ¬ w.heap.size = g; omega))
    replace HB := hidp (ht.below HB.out (fun i e => by have := HG.out; have e : i = g := e; omega))
    clear hrw ht HO HVG
    obtain ⟨n0, n1, n2⟩ := HN.out.three
    have f1 := HN.out.thawed 1
    obtain ⟨w11, hw11⟩ : ∃ z, w10.setCell ⟨NB, 1, none⟩ (.bool false) = z := ⟨_, rfl⟩
    replace HB := hidp (Bput HB.out (p := ⟨NB, 1, none⟩) (by have := HNBG.out; show w.heap.size <= NB; omega) (.bool false))
    replace HC := hidp (HC.out.far (p := ⟨NB, 1, none⟩) (by have := HNBG.out; show w.heap.size ≠ NB; omega) (.bool false))
    replace HRW := hidp (HRW.out.far (p := ⟨NB, 1, none⟩) (by have := HNBG.out; show g ≠ NB; omega) (.bool false))
    replace HN : Hid (Held w11 NB 32 #[.int .u32 (s1 : Int), .bool false, .int .i64 (cn : Int)]) := hidp (by rw [<- hw11]; exact HN.out.put 1 (.bool false))
    rw [hw11] at HB HC HRW
    obtain ⟨v0, v1, v2⟩ := HN.out.three
    go_wp2_with fail
    clear n0 n1 n2 f1 hw11
    refine (mkNote_c s1 false (cn : Int) hst32 (by omega) (by omega) _).mono ?_
    rintro e w12 ⟨rfl, hb⟩
    have HNV := not_yes s1 false cn o4
    rw [if_neg (by decide)] at HNV
    rw [HNV.1, HNV.2]
    clear HNV
    replace HC := hidp (HC.out.keep hb)
    replace HRW := hidp (HRW.out.keep hb)
    replace HB := hidp (Bgo HB.out hb)
    clear hb v0 v1 v2
    have i3 : (ti : Int) < (m : Int) := by omega
    have yq := HRW.out.cell (i := ti) hTm
    have fq := HRW.out.thawed ti
    replace HB := hidp (Bput HB.out (p := ⟨g, ti, none⟩) (by have := HG.out; show w.heap.size <= g; omega) (.int .u64 ((s1 * 4294967296 + cn : Nat) : Int)))
    replace HRW := hidp (HRW.out.put (i := ti) hTm (.int .u64 ((s1 * 4294967296 + cn : Nat) : Int)))
    have HL2 : Hid (∀ i, i < m -> updF (doneTo s1 l f) ti (s1 * 4294967296 + cn) i < 2 ^ 64) := hidp (fun i hi => by
     unfold updF
     split
     ·omega
     ·rw [doneTo_at _ _ (fun e he => (HCELL.out e he).2)]
      have h1 := HLT.out i hi
      split
      ·cases h2 : firstE l i with
       | none => exact h1
       | some v =>
        obtain ⟨_, _, _, hv⟩ := firstE_cell (n := n) HCELL.out h2
        show s1 * 4294967296 + v < _
        omega
      ·exact h1)
    go_wp2
    go_ret2
    exact ⟨by
     rw [HX0.out]
     exact ⟨_, _, rfl, WV.of_row (HRW.out.congr fun i hi => by
      dsimp only [wrdF, updF]
      by_cases e : i = ti
      ·rw [if_pos e, if_pos e]
      ·rw [if_neg e, if_neg e]) HL2.out⟩, HB.out⟩
end

set_option maxHeartbeats 1600000 in
theorem rdSettle_no {A : Option Addr} {m c : Nat} {w : World} {t p s : Int} (h : okW t p s m = false) :
  Calls Try.prog 14 #[.agg #[.int .i64 t, .int .i64 p, .int .i64 s], .slice A m c] w fun e w' => outV none 0 e w' /\ Below w.heap.size w w' := by
 have HC := hidp (Held.new w 23 #[.int .i64 t, .int .i64 p, .int .i64 s])
 have HB := hidp (Bnew (B0 w) (.cells #[.int .i64 t, .int .i64 p, .int .i64 s] 23))
 obtain ⟨x0, x1, x2⟩ := HC.out.three
 have HOK := hidp h
 clear h
 go_enter Try.func14, Try.ntmps14
 go_wp2_with fail
 refine (rdTidy_no HOK.out).mono ?_
 rintro e w1 ⟨⟨A1, c1, rfl⟩, hb⟩
 replace HB := hidp (Bgo HB.out hb)
 clear hb
 go_wp2
 go_ret2
 exact ⟨⟨_, _, rfl⟩, HB.out⟩
section
variable {t p s m c : Nat} {A : Option Addr} {f : Nat -> Nat} {w : World}
theorem SV.of_rowF {g n cap : Nat} (h : RowF w g 25 n cap (fun i => .int .u32 ((f i : Nat) : Int))) : SV w (some ⟨g, 0, none⟩) n cap f :=
 ⟨h.le, h.max, by
  have hl : (valVs ((List.range n).map f)).length = n := by simp [valVs]
  refine ⟨by rw [hl]; have := h.le; have := h.max; omega, .inr ⟨g, 0, cap, by rw [hl], h.lt, fun i v hv => ?_⟩⟩
  have hi : i < n := by
   rcases Nat.lt_or_ge i n with h1 | h1
   ·exact h1
   ·rw [List.getElem?_eq_none (by omega)] at hv; cases hv
  rw [Nat.zero_add, h.cell hi]
  unfold valVs at hv
  rw [List.getElem?_map, List.getElem?_map, List.getElem?_range hi] at hv
  exact hv⟩
set_option maxHeartbeats 6400000 in
theorem rdSettle_in (X : Option (Nat -> Nat)) (hX : tidyR t p f = X) (hok : okW (t : Int) (p : Int) (s : Int) m = true) (hW : WV w A m c f) :
  Calls Try.prog 14 #[.agg #[.int .i64 (t : Int), .int .i64 (p : Int), .int .i64 (s : Int)], .slice A m c] w fun e w' => outV X (rdN t p) e w' /\ Below w.heap.size w w' := by
 obtain ⟨hr, hm0, hmw, hm8⟩ := okW_right hok
 have hri := (rightB_iff t p s).1 hr
 rw [rdW_eq hr] at hmw
 have hM := rdM_lt t p
 have hNN : rdN t p = 30 + 4 * t + 6 * p := rfl
 have hWW : rdM t p <= rdW t p := by unfold rdW; omega
 obtain ⟨n, hn⟩ : ∃ n, rdN t p = n := ⟨_, rfl⟩
 have hn1 : 0 < n /\ n <= 65536 /\ 16 + n <= m := by omega
 rw [hn]
 have HXX := hidp hX
 have HOK := hidp hok
 have HW := hidp hW
 have HRN := hidp hn
 have hmk := make_u32 n (by omega)
 clear hX hok hW hr hmw hM hWW hri hNN hn
 have HC := hidp (Held.new w 23 #[.int .i64 (t : Int), .int .i64 (p : Int), .int .i64 (s : Int)])
 have HB := hidp (Bnew (B0 w) (.cells #[.int .i64 (t : Int), .int .i64 (p : Int), .int .i64 (s : Int)] 23))
 replace HW := hidp (HW.out.below (Bnew (B0 w) (.cells #[.int .i64 (t : Int), .int .i64 (p : Int), .int .i64 (s : Int)] 23)))
 obtain ⟨x0, x1, x2⟩ := HC.out.three
 go_enter Try.func14, Try.ntmps14
 go_wp2_with fail
 refine (rdTidy_in X HXX.out HOK.out HW.out).mono ?_
 rintro e w1 ⟨hv, hb⟩
 cases X with
 | none =>
  obtain ⟨A1, c1, rfl⟩ := hv
  replace HB := hidp (Bgo HB.out hb)
  clear hb
  go_wp2
  go_ret2
  exact ⟨⟨_, _, rfl⟩, HB.out⟩
 | some x =>
  obtain ⟨A1, c1, rfl, hw⟩ := hv
  obtain ⟨ad, rfl, hab, _⟩ := hw.ad hm0
  replace HW := hidp hw
  replace HC := hidp (HC.out.keep hb)
  replace HB := hidp (Bgo HB.out hb)
  have hc1 : c1 <= 9223372036854775807 := hw.max
  clear hb hw x0 x1 x2
  obtain ⟨x0, x1, x2⟩ := HC.out.three
  obtain ⟨ad2, had2⟩ : ∃ a, cutA ad 16 n = a := ⟨_, rfl⟩
  have HCUT : Hid (∀ W : World, WV W (some ad) m c1 x -> WV W (some ad2) n n (fun i => x (16 + i))) := hidp (fun W h => by rw [<- had2]; exact h.cut hn1.2.2)
  have HCA := hidp had2
  clear had2
  go_wp2_with fail
  refine (rdCells_c n HRN.out HOK.out HW.out.le HW.out.max).mono ?_
  rintro e w2 ⟨rfl, hb⟩
  rw [HCA.out]
  replace HW := hidp (HCUT.out _ (HW.out.below hb))
  replace HB := hidp (Bgo HB.out hb)
  clear hb HC HCUT HCA x0 x1 x2
  have HRW := hidp (row_made (w := w2) (t := 25) (z := .int .u32 0) (n := n) (by unfold maxLen; omega))
  obtain ⟨g, hg⟩ : ∃ z, w2.heap.size = z := ⟨_, rfl⟩
  have HG : Hid (w.heap.size <= g /\ ad2.block < g) := hidp (by
   obtain ⟨ad', e, h1, _⟩ := HW.out.ad hn1.1
   injection e with e
   subst e
   exact ⟨by have := HB.out.size; omega, by omega⟩)
  rw [hg] at HRW
  replace HW := hidp (HW.out.below (Bnew (B0 w2) (.cells (madeCells #[.int .u32 0] n) 25)))
  replace HB := hidp (Bnew HB.out (.cells (madeCells #[.int .u32 0] n) 25))
  replace HRW : Hid (RowF (w2.alloc (.cells (madeCells #[.int .u32 0] n) 25)) g 25 n n (fun i => .int .u32 (((if i < 0 then x (16 + i) % 4294967296 else 0 : Nat)) : Int))) := hidp (HRW.out.congr fun i hi => by rw [if_neg (by omega)]; rfl)
  go_wp2_with fail
  (try rw [hg])
  generalize hw3 : w2.alloc (.cells (madeCells #[.int .u32 0] n) 25) = w3 at *
  clear hg hw3 hmk
  go_loopw [10, 11, 28] (fun u10 u11 u28 wr => ∃ j : Nat, j <= n /\ u28 = .int .i64 (j : Int) /\ Hid (RowF wr g 25 n n (fun i => .int .u32 (((if i < j then x (16 + i) % 4294967296 else 0 : Nat)) : Int))) /\ Hid (WV wr (some ad2) n n (fun i => x (16 + i))) /\ Hid (Below w.heap.size w wr)) (fun u10 u11 u28 _ => n - (intOf u28).toNat)
  case atStart => exact ⟨0, by omega, rfl, HRW, HW, HB⟩
  case round =>
   clear HRW HW HB
   obtain ⟨j, hj, rfl, HRW, HW, HB⟩ := hrel
   by_cases hlt : j < n
   ·have t1 : decide ((j : Int) < (n : Int)) = true := decide_eq_true (by omega)
    have t1n : decide (j < n) = true := decide_eq_true hlt
    obtain ⟨y, hy⟩ : ∃ y, x (16 + j) = y := ⟨_, rfl⟩
    have hy64 : y < 2 ^ 64 := by rw [<- hy]; exact HW.out.lt _ hlt
    have cx : wr.cell? (ad2.add j) = some (.int .u64 (y : Int)) := by
     obtain ⟨ad', e, _, h2⟩ := HW.out.cell j hlt
     injection e with e
     subst e
     rw [hy] at h2
     exact h2
    have HY := hidp hy
    have i1 : (j : Int) < (n : Int) := by omega
    clear hy
    go_wp2_with fail
    refine (mkVal_c y hy64 _).mono ?_
    rintro e w4 ⟨rfl, rfl⟩
    obtain ⟨yl, hyl⟩ : ∃ z, y % 4294967296 = z := ⟨_, rfl⟩
    rw [hyl]
    have HYL : Hid (x (16 + j) % 4294967296 = yl) := hidp (by rw [HY.out]; exact hyl)
    have yq := HRW.out.cell (i := j) hlt
    have fq := HRW.out.thawed j
    clear hyl cx
    replace HB := hidp (Bput HB.out (p := ⟨g, j, none⟩) (by have := HG.out; show w.heap.size <= g; omega) (.int .u32 (yl : Int)))
    replace HW := hidp (wv_block HW.out (by simp) (Below.heap_setCell _ ⟨g, j, none⟩ (.int .u32 (yl : Int)) _ (by have := HG.out; show ad2.block ≠ g; omega)))
    replace HRW := hidp (HRW.out.put (i := j) hlt (.int .u32 (yl : Int)))
    go_wp2
    go_roundw
    case rel => exact ⟨j + 1, by omega, by go_num, hidp (HRW.out.congr fun i hi => by
      dsimp only [updF]
      by_cases e : i = j
      ·subst e
       rw [if_pos rfl, if_pos (by omega), HYL.out]
      ·rw [if_neg e]
       by_cases h2 : i < j
       ·rw [if_pos h2, if_pos (by omega)]
       ·rw [if_neg h2, if_neg (by omega)]), HW, HB⟩
    case measure => simp [intOf]; omega
   ·have t1 : decide ((j : Int) < (n : Int)) = false := decide_eq_false (by omega)
    have t1n : decide (j < n) = false := decide_eq_false hlt
    obtain rfl : j = n := by omega
    go_wp2
    go_ret2
    exact ⟨⟨_, _, rfl, SV.of_rowF (HRW.out.congr fun i hi => by rw [if_pos hi]; rfl)⟩, HB.out⟩
end
end
section
theorem own_lower {w : World} {base base' : Nat} {e : TypeId} {size n : Nat} {v : Value} {xs : List Value} (h : w.ownsRow base e size v n xs) (hb : base' <= base) : w.ownsRow base' e size v n xs := by
 refine ⟨h.1, ?_⟩
 rcases h.2 with h2 | ⟨g, cap, cur, rfl, hbg, hg, hr⟩
 ·exact .inl h2
 ·exact .inr ⟨g, cap, cur, rfl, Nat.le_trans hb hbg, hg, hr⟩
end
section
def fwT (t p s j i : Nat) : Nat := if i < 8 then (headL t p s).getD i 0 else if i = 8 then 4294967296 else if 16 <= i /\ i < 16 + j then frV t p (i - 16) else 0
def fwI (t p s : Nat) : Nat -> Nat := fwT t p s (30 + 4 * t + 6 * p)
def fwN (t p : Nat) : Nat := (16 + (30 + 4 * t + 6 * p) + 7) / 8 * 8 + (t + 1) * 120
theorem fwN_eq {t p s : Nat} (hr : rightB t p s = true) : lW (t : Int) (p : Int) (s : Int) = (fwN t p : Int) := by
 unfold lW lM lK fwN
 rw [hr]
 simp
theorem own_far25 {w : World} {base size n g : Nat} {e : TypeId} {v : Value} {xs : List Value} {p : Addr} (h : w.ownsRow base e size v n xs) (u : Value) (hv : v.ownBlock = some g) (hp : g ≠ p.block) : (w.setCell p u).ownsRow base e size v n xs :=
 own_kept h (fun g' e' => Below.heap_setCell w p u g' (by rw [hv] at e'; injection e' with e'; rw [<- e']; exact hp))
set_option maxHeartbeats 3200000 in
theorem r25Words_yes (t p s m : Nat) (hr : rightB t p s = true) (hm : m = fwN t p) (w : World) :
  Calls Try.prog 20 #[.agg #[.int .i64 (t : Int), .int .i64 (p : Int), .int .i64 (s : Int)]] w fun e w' => ∃ g, e = .returned (.slice (some ⟨g, 0, none⟩) m m) /\ RowF w' g 46 m m (wrdF (fwI t p s)) /\ w.heap.size <= g /\ Below w.heap.size w w' := by
 have hri := (rightB_iff t p s).1 hr
 have HC := hidp (Held.new w 23 #[.int .i64 (t : Int), .int .i64 (p : Int), .int .i64 (s : Int)])
 have HB := hidp (Bnew (B0 w) (.cells #[.int .i64 (t : Int), .int .i64 (p : Int), .int .i64 (s : Int)] 23))
 have E0 : Hid (lW t p s = (m : Int)) := hidp (by rw [fwN_eq hr, hm])
 obtain ⟨n, hn⟩ : ∃ n, n = 30 + 4 * t + 6 * p := ⟨_, rfl⟩
 have hmn : 16 + n <= m := by rw [hm, hn]; unfold fwN; omega
 have hmu : m <= 100000 := by rw [hm]; unfold fwN; omega
 have hmk := make_u64 m (by omega)
 have q0 : ((m : Int) == 0) = false := by simp; omega
 have HN := hidp hn
 have HVA := hidp (fun w => r25Vals_yes t p s n hr hn w)
 have HEN := hidp (fun w => r8Encode_yes t p s hr w)
 have HHL : Hid ((headL (t : Int) (p : Int) (s : Int)).length = 8) := hidp (headL_len _ _ _)
 have hn0 : 30 <= n := by omega
 clear hm hn
 obtain ⟨x0, x1, x2⟩ := HC.out.three
 go_enter Try.func20, Try.ntmps20
 go_wp2_with fail
 refine (r7Words_c t p s _).mono ?_; rintro e w1 ⟨rfl, hb⟩; rw [E0.out]
 replace HC := hidp (HC.out.keep hb)
 replace HB := hidp (Bgo HB.out hb)
 clear hb x0 x1 x2
 have HRW := hidp (row_made (w := w1) (t := 46) (z := .int .u64 0) (n := m) (by unfold maxLen; omega))
 have HG : Hid (w.heap.size < w1.heap.size) := hidp HC.out.lt
 replace HC := hidp (HC.out.alloc (.cells (madeCells #[.int .u64 0] m) 46))
 replace HB := hidp (Bnew HB.out (.cells (madeCells #[.int .u64 0] m) 46))
 obtain ⟨x0, x1, x2⟩ := HC.out.three
 go_wp2_with fail
 generalize hg : w1.heap.size = g at *
 generalize hw2 : w1.alloc (.cells (madeCells #[.int .u64 0] m) 46) = w2 at *
 clear hg hw2 hmk
 refine (HEN.out _).mono ?_
 rintro e w3 ⟨u, rfl, ho, hb⟩
 have hgl := HRW.out.lt
 replace HC := hidp (HC.out.keep hb)
 replace HRW := hidp (HRW.out.keep hb)
 replace HB := hidp (Bgo HB.out hb)
 clear hb
 rcases ho.2 with ⟨_, h8⟩ | ⟨g8, c8, cur8, rfl, hb8, _, hn8, hc8, _, _⟩
 ·omega
 have HO := hidp ho
 have HG8 : Hid (g < g8) := hidp (by omega)
 have hc8' : c8 <= 9223372036854775807 := hc8
 clear ho hgl hb8 x0 x1 x2
 obtain ⟨x0, x1, x2⟩ := HC.out.three
 go_wp2_with fail
 go_loopw [5] (fun u5 wr => ∃ j : Nat, j <= 8 /\ u5 = .int .i64 (j : Int) /\ Hid (RowF wr g 46 m m (wrdF fun i => if i < j then (headL (t : Int) (p : Int) (s : Int)).getD i 0 else 0)) /\ Hid (Held wr w.heap.size 23 #[.int .i64 (t : Int), .int .i64 (p : Int), .int .i64 (s : Int)]) /\ Hid (wr.ownsRow 0 46 1 (.slice (some ⟨g8, 0, none⟩) 8 c8) 8 (wordVs (headL (t : Int) (p : Int) (s : Int)))) /\ Hid (Below w.heap.size w wr)) (fun u5 _ => 8 - (intOf u5).toNat)
 case atStart => exact ⟨0, by omega, rfl, hidp (HRW.out.congr fun i hi => rfl), HC, hidp (own_lower HO.out (Nat.zero_le _)), HB⟩
 case round =>
  clear HRW HC HO HB x0 x1 x2
  obtain ⟨j, hj, rfl, HRW, HC, HO, HB⟩ := hrel
  obtain ⟨x0, x1, x2⟩ := HC.out.three
  by_cases hlt : j < 8
  ·have t1 : decide ((j : Int) < 8) = true := decide_eq_true (by omega)
   have t1n : decide (j < 8) = true := decide_eq_true hlt
   obtain ⟨h, hh⟩ : ∃ h, (headL (t : Int) (p : Int) (s : Int)).getD j 0 = h := ⟨_, rfl⟩
   have ch : wr.cell? ⟨g8, j, none⟩ = some (.int .u64 (h : Int)) := by
    rw [HO.out.cellAt j (by omega)]
    unfold wordVs
    rw [List.getElem?_map, List.getElem?_eq_getElem (by rw [HHL.out]; exact hlt)]
    rw [<- hh]
    simp [List.getD, List.getElem?_eq_getElem (show j < (headL (t : Int) (p : Int) (s : Int)).length by rw [HHL.out]; exact hlt)]
   have HH := hidp hh
   have y := HRW.out.cell (i := j) (by omega)
   have f := HRW.out.thawed j
   have i1 : (j : Int) < (m : Int) := by omega
   have i2 : (j : Int) < 8 := by omega
   clear hh
   go_wp2_with fail
   replace HB := hidp (Bput HB.out (p := ⟨g, j, none⟩) (by have := HG.out; show w.heap.size <= g; omega) (.int .u64 (h : Int)))
   replace HC := hidp (HC.out.far (p := ⟨g, j, none⟩) (by have := HG.out; show w.heap.size ≠ g; omega) (.int .u64 (h : Int)))
   replace HRW := hidp (HRW.out.put (i := j) (by omega) (.int .u64 (h : Int)))
   replace HO := hidp (own_far25 HO.out (g := g8) (p := ⟨g, j, none⟩) (.int .u64 (h : Int)) rfl (by have := HG8.out; show g8 ≠ g; omega))
   go_roundw
   case rel => exact ⟨j + 1, by omega, by go_num, hidp (HRW.out.congr fun i hi => by
     dsimp only [wrdF, updF]
     have := HH.out
     by_cases e : i = j
     ·subst e; rw [if_pos rfl, if_pos (by omega), this]
     ·rw [if_neg e]
      by_cases e2 : i < j
      ·rw [if_pos e2, if_pos (by omega)]
      ·rw [if_neg e2, if_neg (by omega)]), HC, HO, HB⟩
   case measure => simp [intOf]; omega
  ·have t1 : decide ((j : Int) < 8) = false := decide_eq_false (by omega)
   have t1n : decide (j < 8) = false := decide_eq_false hlt
   obtain rfl : j = 8 := by omega
   clear HO HHL HEN
   go_wp2_with fail
   refine (RJoin_c 1 0 (by decide) (by decide) _).mono ?_
   rintro e w9 ⟨rfl, rfl⟩
   rw [show ((1 * 4294967296 + 0 : Nat) : Int) = 4294967296 from rfl]
   have y := HRW.out.cell (i := 8) (by omega)
   have f := HRW.out.thawed 8
   have i1 : (8 : Int) < (m : Int) := by omega
   go_wp2_with fail
   replace HB := hidp (Bput HB.out (p := ⟨g, 8, none⟩) (by have := HG.out; show w.heap.size <= g; omega) (.int .u64 4294967296))
   replace HC := hidp (HC.out.far (p := ⟨g, 8, none⟩) (by have := HG.out; show w.heap.size ≠ g; omega) (.int .u64 4294967296))
   replace HRW := hidp (HRW.out.put (i := 8) (by omega) (.int .u64 4294967296))
   refine (HVA.out _).mono ?_
   rintro e w4 ⟨g2, rfl, hv, hg2, hb⟩
   have hgl := HRW.out.lt
   have HG2 : Hid (g < g2) := hidp (by omega)
   replace HC := hidp (HC.out.keep hb)
   replace HRW := hidp (HRW.out.keep hb)
   replace HB := hidp (Bgo HB.out hb)
   clear hb
   have HV := hidp hv
   clear hv hg2 hgl y f i1 x0 x1 x2
   obtain ⟨x0, x1, x2⟩ := HC.out.three
   go_wp2_with fail
   go_loopw [7] (fun u7 wr => ∃ j : Nat, j <= n /\ u7 = .int .i64 (j : Int) /\ Hid (RowF wr g 46 m m (wrdF (fwT t p s j))) /\ Hid (Held wr w.heap.size 23 #[.int .i64 (t : Int), .int .i64 (p : Int), .int .i64 (s : Int)]) /\ Hid (RowF wr g2 25 n n (valF (frV t p))) /\ Hid (Below w.heap.size w wr)) (fun u7 _ => n - (intOf u7).toNat)
   case atStart => exact ⟨0, by omega, rfl, hidp (HRW.out.congr fun i hi => by
     dsimp only [wrdF, updF, fwT]
     by_cases e : i = 8
     ·subst e; rw [if_pos rfl, if_neg (by omega), if_pos rfl]; rfl
     ·rw [if_neg e]
      by_cases e2 : i < 8
      ·rw [if_pos e2, if_pos e2]
      ·rw [if_neg e2, if_neg e2, if_neg e, if_neg (by omega)]), HC, HV, HB⟩
   case round =>
    clear HRW HC HV HB x0 x1 x2
    obtain ⟨j, hj, rfl, HRW, HC, HV, HB⟩ := hrel
    obtain ⟨x0, x1, x2⟩ := HC.out.three
    by_cases hlt : j < n
    ·have t1 : decide ((j : Int) < (n : Int)) = true := decide_eq_true (by omega)
     have t1n : decide (j < n) = true := decide_eq_true hlt
     obtain ⟨h, hh⟩ : ∃ h, frV t p j = h := ⟨_, rfl⟩
     have ch := HV.out.cell (i := j) hlt
     unfold valF at ch
     rw [hh] at ch
     have h32 : h < 2 ^ 32 := by rw [<- hh]; unfold frV; split; omega; split; omega; split; omega; split <;> omega
     have HH := hidp hh
     have y := HRW.out.cell (i := 16 + j) (by omega)
     have f := HRW.out.thawed (16 + j)
     have i1 : (16 : Int) + (j : Int) < (m : Int) := by omega
     have i2 : (j : Int) < (n : Int) := by omega
     have i3 : IntKind.i64.wrap ((16 : Int) + (j : Int)) = ((16 + j : Nat) : Int) := i64_same (by omega) (by omega)
     have i4 : IntKind.u64.wrap (h : Int) = (h : Int) := wrap_nat64 h (by omega)
     clear hh
     go_wp2_with fail
     replace HB := hidp (Bput HB.out (p := ⟨g, 16 + j, none⟩) (by have := HG.out; show w.heap.size <= g; omega) (.int .u64 (h : Int)))
     replace HC := hidp (HC.out.far (p := ⟨g, 16 + j, none⟩) (by have := HG.out; show w.heap.size ≠ g; omega) (.int .u64 (h : Int)))
     replace HRW := hidp (HRW.out.put (i := 16 + j) (by omega) (.int .u64 (h : Int)))
     replace HV := hidp (HV.out.far (p := ⟨g, 16 + j, none⟩) (by have := HG2.out; show g2 ≠ g; omega) (.int .u64 (h : Int)))
     go_roundw
     case rel => exact ⟨j + 1, by omega, by go_num, hidp (HRW.out.congr fun i hi => by
       dsimp only [wrdF, updF, fwT]
       have := HH.out
       by_cases e : i = 16 + j
       ·subst e; rw [if_pos rfl, if_neg (by omega), if_neg (by omega), if_pos (by omega), show 16 + j - 16 = j by omega, this]
       ·rw [if_neg e]
        by_cases e2 : i < 8
        ·rw [if_pos e2, if_pos e2]
        ·rw [if_neg e2, if_neg e2]
         by_cases e3 : i = 8
         ·rw [if_pos e3, if_pos e3]
         ·rw [if_neg e3, if_neg e3]
          by_cases e4 : 16 <= i /\ i < 16 + j
          ·rw [if_pos e4, if_pos (by omega)]
          ·rw [if_neg e4, if_neg (by omega)]), HC, HV, HB⟩
     case measure => simp [intOf]; omega
    ·have t1 : decide ((j : Int) < (n : Int)) = false := decide_eq_false (by omega)
     have t1n : decide (j < n) = false := decide_eq_false hlt
     obtain rfl : j = n := by omega
     go_wp2
     go_ret
     exact ⟨g, rfl, HRW.out.congr (fun i hi => by unfold fwI; rw [<- HN.out]), by have := HG.out; omega, HB.out⟩
end
end Go.Proofs.Ytmjkljdnioochaa

namespace Go.Proofs.Ytmjkljdnioochaa
open Go.ChangeShapes Go.WideShapes Go.ChangeAt Go.RowKit Go.Maps
set_option linter.unusedVariables false
set_option linter.unusedSimpArgs false
section
theorem rowV_of {w : World} {g n c : Nat} {t : TypeId} {f : Nat -> Value} (h : RowF w g t n c f) : RowV w (.slice (some ⟨g, 0, none⟩) n c) ((List.range n).map f) := by
 have hl : ((List.range n).map f).length = n := by simp
 refine ⟨by rw [hl]; exact Nat.le_trans h.le h.max, .inr ⟨g, 0, c, by rw [hl], h.lt, fun i u hu => ?_⟩⟩
 rw [List.getElem?_map] at hu
 have hi : i < n := by
  rcases Nat.lt_or_ge i n with h1 | h1
  ·exact h1
  ·rw [List.getElem?_eq_none (by simpa using h1)] at hu; cases hu
 rw [List.getElem?_range hi] at hu
 injection hu with hu
 rw [Nat.zero_add, h.cell hi, hu]
theorem fr_valVs (n : Nat) (f : Nat -> Nat) : (List.range n).map (valF f) = valVs ((List.range n).map f) := by unfold valVs; rw [List.map_map]; rfl
theorem rowV_vals {w : World} {g n c : Nat} {t : TypeId} {f : Nat -> Nat} (h : RowF w g t n c (valF f)) : RowV w (.slice (some ⟨g, 0, none⟩) n c) (valVs ((List.range n).map f)) := by
 have := rowV_of h
 rw [fr_valVs] at this
 exact this
end
end Go.Proofs.Ytmjkljdnioochaa
