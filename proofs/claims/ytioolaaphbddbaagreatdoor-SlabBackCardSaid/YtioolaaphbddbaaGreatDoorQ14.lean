/-
  What span's Take, Shrink and Grow do. Written by span/gen_take.py.
-/
import Derived.Test.YtioolaaphbddbaaGreatDoorQSpanRelease
import Derived.Test.YtioolaaphbddbaaGreatDoorQ06
import Derived.Test.YtioolaaphbddbaaGreatDoorQ03
import Derived.Test.YtioolaaphbddbaaGreatDoorQ07
import Derived.Test.YtioolaaphbddbaaGreatDoorQ11
namespace Go.Proofs.YtioolaaphbddbaaGreatDoor
open Go.ChangeShapes Go.WideShapes Go.ChangeAt Go.RowKit Go.Maps
set_option linter.unusedVariables false
set_option linter.unusedSimpArgs false
set_option maxRecDepth 100000
section
section
variable {base b n : Nat} {wh all : Bool} {K : Nat → Option Nat} {st : Vst} {w w0 : World} {A G : Nat → Prop} {t q s : Int}

theorem addS_none {p : Int} {l : Int} (h : l < 1) : addS n K t q s p l st = st := addS_no (fun hx => by omega)

theorem lookF_lt {nn : Int} {st : Vst} : ∀ (k l : Nat) (st : Vst) {p : Nat}, (lookF n K t q s nn k l st).1 = some p → (p : Int) < q
  | 0, l, st, p, h => by rw [lookF] at h; cases h
  | k + 1, l, st, p, h => by
    rw [lookF] at h
    by_cases h1 : 1 ≤ l ∧ (l : Int) ≤ q
    · rw [if_pos h1] at h
      by_cases h2 : fitB nn (getV n K st (pageI t q s ((l : Int) - 1) 0)) = true
      · rw [if_pos h2] at h
        injection h with h
        omega
      · rw [if_neg h2] at h
        exact lookF_lt (st := st) k _ _ h
    · rw [if_neg h1] at h
      cases h
theorem nextF_lt : ∀ (j k : Nat) (st : Vst) {p : Nat}, (nextF n K q j k st).1 = some p → (p : Int) < q
  | 0, k, st, p, h => by rw [nextF] at h; cases h
  | j + 1, k, st, p, h => by
    rw [nextF] at h
    by_cases h1 : 1 ≤ getV n K st ((2 + k : Nat) : Int) ∧ ((getV n K st ((2 + k : Nat) : Int) : Nat) : Int) ≤ q
    · rw [if_pos h1] at h
      injection h with h
      omega
    · rw [if_neg h1] at h
      exact nextF_lt j _ _ h
theorem findI_lt {nn : Int} {st s1 : Vst} {p : Nat} (h : findI n K t q s nn st = (some p, s1)) : (p : Int) < q ∧ 1 ≤ nn ∧ nn ≤ q := by
  by_cases h1 : 1 ≤ nn ∧ nn ≤ q
  · refine ⟨?_, h1⟩
    unfold findI at h
    rw [if_pos h1] at h
    unfold findF at h
    simp only at h
    cases hl : (lookF n K t q s nn q.toNat (getV n K st ((2 + (ofI nn).toNat : Nat) : Int)) (getS n K st ((2 + (ofI nn).toNat : Nat) : Int))).1 with
    | some x =>
      rw [hl] at h
      injection h with h _
      injection h with h
      subst h
      exact lookF_lt (st := st) _ _ _ hl
    | none =>
      rw [hl] at h
      exact nextF_lt _ _ _ (congrArg Prod.fst h)
  · rw [findI_no h1] at h
    injection h with h _
    cases h
theorem takeI_none {nn : Int} {st s1 : Vst} (h : findI n K t q s nn st = (none, s1)) : takeI n K t q s nn st = (none, s1) := by
  unfold takeI
  rw [h]
theorem takeI_some {m p : Nat} {st s1 : Vst} (h : findI n K t q s (m : Int) st = (some p, s1)) : takeI n K t q s (m : Int) st = (some p, takeS n K t q s p m s1) := by
  unfold takeI
  rw [h]
  simp
theorem lessS_eq {x : Nat} {z : Int} {st : Vst} (h : (x : Int) = z) : lessS n K x st = putS n (getS n K st 0) 0 (sub32 (getV n K st 0) z) := by
  subst h
  rfl
theorem restS_yes {p m : Nat} {l : Int} {st : Vst} (h : (m : Int) < l) : restS n K t q s p m l st = addS n K t q s ((p : Int) + (m : Int)) (l - (m : Int)) st := by unfold restS; rw [if_pos h]
theorem restS_no {p m : Nat} {l : Int} {st : Vst} (h : ¬ (m : Int) < l) : restS n K t q s p m l st = st := by unfold restS; rw [if_neg h]
theorem WL.h3 {O : Ob} {w0 ws w : World} {A G : Nat → Prop} {L : List Blk} {x y z u : Blk} {st : Vst} (h : WL O w0 A G ws (x :: y :: z :: u :: L) st w) : Held w u.n u.t u.cs := h.held u (by simp)
theorem WL.h4 {O : Ob} {w0 ws w : World} {A G : Nat → Prop} {L : List Blk} {x y z u v : Blk} {st : Vst} (h : WL O w0 A G ws (x :: y :: z :: u :: v :: L) st w) : Held w v.n v.t v.cs := h.held v (by simp)
theorem WL.h5 {O : Ob} {w0 ws w : World} {A G : Nat → Prop} {L : List Blk} {x y z u v r : Blk} {st : Vst} (h : WL O w0 A G ws (x :: y :: z :: u :: v :: r :: L) st w) : Held w r.n r.t r.cs := h.held r (by simp)

set_option maxHeartbeats 6400000 in
theorem snTake_none (hn : n < 2 ^ 40) (hq : q ≤ 1024) (nn : Int) (s1 : Vst) (hf : findI n K t q s nn st = (none, s1)) (h : (vOb base b n wh K).At w0 A G st w) :
    Calls Tryz.prog 79 #[.pointer (some ⟨b, 0, none⟩), .agg #[.int .i64 t, .int .i64 q, .int .i64 s], .int .i64 nn] w fun e w' => e = .returned (.tuple #[.int .i64 0, .bool false]) ∧ (vOb base b n wh K).At w0 A G (s1) w' ∧ Stay G w w' := by
  have W0 := hidp ((WL.start h).new 23 #[.int .i64 t, .int .i64 q, .int .i64 s])
  have hq2 : q ≤ 2147483648 := by omega
  have HFO := hidp hf
  clear h hf
  go_enter Tryz.func79, Tryz.ntmps79
  obtain ⟨x0, x1, x2⟩ := W0.out.h0.three
  go_wp2_with fail
  refine (bnFind_c hn hq nn W0.out.at_).mono ?_; rintro e w1 ⟨rfl, h1, h2⟩; have W1 := hidp (W0.out.call h1 h2); clear h1 h2 W0; rw [HFO.out] at W1 ⊢; dsimp only [foundI, Option.isSome] at W1 ⊢
  obtain ⟨x0, x1, x2⟩ := W1.out.h0.three
  go_wp2
  go_ret2
  exact ⟨rfl, W1.out.fin⟩

set_option maxHeartbeats 6400000 in
theorem snTake_more (hn : n < 2 ^ 40) (hq : q ≤ 1024) (p m : Nat) (hp : p ≤ 1024) (hm : m ≤ 1024) (l : Int) (hl0 : 0 ≤ l) (hl1 : l ≤ 1024) (s1 : Vst) (hf : findI n K t q s (m : Int) st = (some p, s1)) (hd : dropV n K t q s (p : Int) s1 = l) (hml : (m : Int) < l) (h : (vOb base b n wh K).At w0 A G st w) :
    Calls Tryz.prog 79 #[.pointer (some ⟨b, 0, none⟩), .agg #[.int .i64 t, .int .i64 q, .int .i64 s], .int .i64 (m : Int)] w fun e w' => e = .returned (.tuple #[.int .i64 (p : Int), .bool true]) ∧ (vOb base b n wh K).At w0 A G (putS n (getS n K (addS n K t q s ((p : Int) + (m : Int)) (l - (m : Int)) (usedS n t q s p m (dropS n K t q s (p : Int) s1))) 0) 0 (sub32 (getV n K (addS n K t q s ((p : Int) + (m : Int)) (l - (m : Int)) (usedS n t q s p m (dropS n K t q s (p : Int) s1))) 0) (m : Int))) w' ∧ Stay G w w' := by
  have W0 := hidp ((WL.start h).new 23 #[.int .i64 t, .int .i64 q, .int .i64 s])
  have hq2 : q ≤ 2147483648 := by omega
  have HFO := hidp hf
  have HDV := hidp hd
  have v4 : IntKind.i64.wrap ((p : Int) + (m : Int)) = ((p : Int) + (m : Int)) := i64_same (by omega) (by omega)
  have v6 : IntKind.i64.wrap (l - (m : Int)) = (l - (m : Int)) := i64_same (by omega) (by omega)
  have v7 : IntKind.i64.wrap (-(m : Int)) = (-(m : Int)) := i64_same (by omega) (by omega)
  have HSB : Hid (sub32 (getV n K (addS n K t q s ((p : Int) + (m : Int)) (l - (m : Int)) (usedS n t q s p m (dropS n K t q s (p : Int) s1))) 0) (m : Int) = add32 (getV n K (addS n K t q s ((p : Int) + (m : Int)) (l - (m : Int)) (usedS n t q s p m (dropS n K t q s (p : Int) s1))) 0) (-(m : Int))) := hidp (add32_neg _ _).symm
  clear h hf hd
  go_enter Tryz.func79, Tryz.ntmps79
  obtain ⟨x0, x1, x2⟩ := W0.out.h0.three
  go_wp2_with fail
  refine (bnFind_c hn hq (m : Int) W0.out.at_).mono ?_; rintro e w1 ⟨rfl, h1, h2⟩; have W1 := hidp (W0.out.call h1 h2); clear h1 h2 W0; rw [HFO.out] at W1 ⊢; dsimp only [foundI, Option.isSome] at W1 ⊢
  obtain ⟨x0, x1, x2⟩ := W1.out.h0.three
  generalize hNP : w1.heap.size = NP at *
  replace W1 := hidp (W1.out.new 142 #[.pointer (some ⟨b, 0, none⟩), .int .i64 t, .int .i64 q, .int .i64 s])
  rw [hNP] at W1
  obtain ⟨g0, g1, g2, g3⟩ := W1.out.h0.four
  obtain ⟨x0, x1, x2⟩ := W1.out.h1.three
  go_wp2_with fail
  refine (bnDrop_c hn hq2 (p : Int) W1.out.at_).mono ?_; rintro e w2 ⟨rfl, h1, h2⟩; have W2 := hidp (W1.out.call h1 h2); clear h1 h2 W1; rw [HDV.out]
  obtain ⟨g0, g1, g2, g3⟩ := W2.out.h0.four
  obtain ⟨x0, x1, x2⟩ := W2.out.h1.three
  go_wp2_with fail
  refine (spCut_c (p : Int) l (m : Int) v4 v6 _).mono ?_; rintro e w3 ⟨rfl, hb⟩; have W3 := hidp (W2.out.keep hb); clear hb W2
  generalize hNA : w3.heap.size = NA at *
  replace W3 := hidp ((W3.out.new 143 #[.int .i64 (p : Int), .int .i64 (m : Int)]).new 143 #[.int .i64 ((p : Int) + (m : Int)), .int .i64 (l - (m : Int))])
  rw [World.size_alloc, hNA] at W3
  obtain ⟨c0, c1⟩ := W3.out.h0.two
  obtain ⟨a0, a1⟩ := W3.out.h1.two
  obtain ⟨g0, g1, g2, g3⟩ := W3.out.h2.four
  obtain ⟨x0, x1, x2⟩ := W3.out.h3.three
  go_wp2_with fail
  refine (spUse_c hn p m (by omega) (by omega) W3.out.at_).mono ?_; rintro e w4 ⟨rfl, h1, h2⟩; have W4 := hidp (W3.out.call h1 h2); clear h1 h2 W3
  obtain ⟨c0, c1⟩ := W4.out.h0.two
  obtain ⟨a0, a1⟩ := W4.out.h1.two
  obtain ⟨g0, g1, g2, g3⟩ := W4.out.h2.four
  obtain ⟨x0, x1, x2⟩ := W4.out.h3.three
  go_wp2_with fail
  refine (spFree_c hn hq2 ((p : Int) + (m : Int)) (l - (m : Int)) W4.out.at_).mono ?_; rintro e w5 ⟨rfl, h1, h2⟩; have W5 := hidp (W4.out.call h1 h2); clear h1 h2 W4
  obtain ⟨c0, c1⟩ := W5.out.h0.two
  obtain ⟨a0, a1⟩ := W5.out.h1.two
  obtain ⟨g0, g1, g2, g3⟩ := W5.out.h2.four
  obtain ⟨x0, x1, x2⟩ := W5.out.h3.three
  go_wp2_with fail
  refine (spCount_c hn (-(m : Int)) W5.out.at_).mono ?_; rintro e w6 ⟨rfl, h1, h2⟩; have W6 := hidp (W5.out.call h1 h2); clear h1 h2 W5
  obtain ⟨c0, c1⟩ := W6.out.h0.two
  obtain ⟨a0, a1⟩ := W6.out.h1.two
  obtain ⟨g0, g1, g2, g3⟩ := W6.out.h2.four
  obtain ⟨x0, x1, x2⟩ := W6.out.h3.three
  go_wp2
  go_ret2
  exact ⟨rfl, by rw [HSB.out]; exact W6.out.fin.1, W6.out.fin.2⟩

set_option maxHeartbeats 6400000 in
theorem snTake_all (hn : n < 2 ^ 40) (hq : q ≤ 1024) (p m : Nat) (hp : p ≤ 1024) (hm : m ≤ 1024) (l : Int) (hl0 : 0 ≤ l) (hl1 : l ≤ 1024) (s1 : Vst) (hf : findI n K t q s (m : Int) st = (some p, s1)) (hd : dropV n K t q s (p : Int) s1 = l) (hml : ¬ (m : Int) < l) (h : (vOb base b n wh K).At w0 A G st w) :
    Calls Tryz.prog 79 #[.pointer (some ⟨b, 0, none⟩), .agg #[.int .i64 t, .int .i64 q, .int .i64 s], .int .i64 (m : Int)] w fun e w' => e = .returned (.tuple #[.int .i64 (p : Int), .bool true]) ∧ (vOb base b n wh K).At w0 A G (putS n (getS n K (usedS n t q s p m (dropS n K t q s (p : Int) s1)) 0) 0 (sub32 (getV n K (usedS n t q s p m (dropS n K t q s (p : Int) s1)) 0) (m : Int))) w' ∧ Stay G w w' := by
  have W0 := hidp ((WL.start h).new 23 #[.int .i64 t, .int .i64 q, .int .i64 s])
  have hq2 : q ≤ 2147483648 := by omega
  have HFO := hidp hf
  have HDV := hidp hd
  have v4 : IntKind.i64.wrap ((p : Int) + (m : Int)) = ((p : Int) + (m : Int)) := i64_same (by omega) (by omega)
  have v6 : IntKind.i64.wrap (l - (m : Int)) = (l - (m : Int)) := i64_same (by omega) (by omega)
  have v7 : IntKind.i64.wrap (-(m : Int)) = (-(m : Int)) := i64_same (by omega) (by omega)
  have HSB : Hid (sub32 (getV n K (usedS n t q s p m (dropS n K t q s (p : Int) s1)) 0) (m : Int) = add32 (getV n K (usedS n t q s p m (dropS n K t q s (p : Int) s1)) 0) (-(m : Int))) := hidp (add32_neg _ _).symm
  have HNO : Hid (addS n K t q s ((p : Int) + (m : Int)) (l - (m : Int)) (usedS n t q s p m (dropS n K t q s (p : Int) s1)) = usedS n t q s p m (dropS n K t q s (p : Int) s1)) := hidp (addS_none (by omega))
  clear h hf hd
  go_enter Tryz.func79, Tryz.ntmps79
  obtain ⟨x0, x1, x2⟩ := W0.out.h0.three
  go_wp2_with fail
  refine (bnFind_c hn hq (m : Int) W0.out.at_).mono ?_; rintro e w1 ⟨rfl, h1, h2⟩; have W1 := hidp (W0.out.call h1 h2); clear h1 h2 W0; rw [HFO.out] at W1 ⊢; dsimp only [foundI, Option.isSome] at W1 ⊢
  obtain ⟨x0, x1, x2⟩ := W1.out.h0.three
  generalize hNP : w1.heap.size = NP at *
  replace W1 := hidp (W1.out.new 142 #[.pointer (some ⟨b, 0, none⟩), .int .i64 t, .int .i64 q, .int .i64 s])
  rw [hNP] at W1
  obtain ⟨g0, g1, g2, g3⟩ := W1.out.h0.four
  obtain ⟨x0, x1, x2⟩ := W1.out.h1.three
  go_wp2_with fail
  refine (bnDrop_c hn hq2 (p : Int) W1.out.at_).mono ?_; rintro e w2 ⟨rfl, h1, h2⟩; have W2 := hidp (W1.out.call h1 h2); clear h1 h2 W1; rw [HDV.out]
  obtain ⟨g0, g1, g2, g3⟩ := W2.out.h0.four
  obtain ⟨x0, x1, x2⟩ := W2.out.h1.three
  go_wp2_with fail
  refine (spCut_c (p : Int) l (m : Int) v4 v6 _).mono ?_; rintro e w3 ⟨rfl, hb⟩; have W3 := hidp (W2.out.keep hb); clear hb W2
  generalize hNA : w3.heap.size = NA at *
  replace W3 := hidp ((W3.out.new 143 #[.int .i64 (p : Int), .int .i64 (m : Int)]).new 143 #[.int .i64 ((p : Int) + (m : Int)), .int .i64 (l - (m : Int))])
  rw [World.size_alloc, hNA] at W3
  obtain ⟨c0, c1⟩ := W3.out.h0.two
  obtain ⟨a0, a1⟩ := W3.out.h1.two
  obtain ⟨g0, g1, g2, g3⟩ := W3.out.h2.four
  obtain ⟨x0, x1, x2⟩ := W3.out.h3.three
  go_wp2_with fail
  refine (spUse_c hn p m (by omega) (by omega) W3.out.at_).mono ?_; rintro e w4 ⟨rfl, h1, h2⟩; have W4 := hidp (W3.out.call h1 h2); clear h1 h2 W3
  obtain ⟨c0, c1⟩ := W4.out.h0.two
  obtain ⟨a0, a1⟩ := W4.out.h1.two
  obtain ⟨g0, g1, g2, g3⟩ := W4.out.h2.four
  obtain ⟨x0, x1, x2⟩ := W4.out.h3.three
  go_wp2_with fail
  refine (spFree_c hn hq2 ((p : Int) + (m : Int)) (l - (m : Int)) W4.out.at_).mono ?_; rintro e w5 ⟨rfl, h1, h2⟩; have W5 := hidp (W4.out.call h1 h2); clear h1 h2 W4; rw [HNO.out] at W5
  obtain ⟨c0, c1⟩ := W5.out.h0.two
  obtain ⟨a0, a1⟩ := W5.out.h1.two
  obtain ⟨g0, g1, g2, g3⟩ := W5.out.h2.four
  obtain ⟨x0, x1, x2⟩ := W5.out.h3.three
  go_wp2_with fail
  refine (spCount_c hn (-(m : Int)) W5.out.at_).mono ?_; rintro e w6 ⟨rfl, h1, h2⟩; have W6 := hidp (W5.out.call h1 h2); clear h1 h2 W5
  obtain ⟨c0, c1⟩ := W6.out.h0.two
  obtain ⟨a0, a1⟩ := W6.out.h1.two
  obtain ⟨g0, g1, g2, g3⟩ := W6.out.h2.four
  obtain ⟨x0, x1, x2⟩ := W6.out.h3.three
  go_wp2
  go_ret2
  exact ⟨rfl, by rw [HSB.out]; exact W6.out.fin.1, W6.out.fin.2⟩

theorem snTake_c (hn : n < 2 ^ 40) (hq : q ≤ 1024) (nn : Int) (h : (vOb base b n wh K).At w0 A G st w) :
    Calls Tryz.prog 79 #[.pointer (some ⟨b, 0, none⟩), .agg #[.int .i64 t, .int .i64 q, .int .i64 s], .int .i64 nn] w fun e w' => e = .returned (.tuple #[.int .i64 (foundI (takeI n K t q s nn st).1), .bool (takeI n K t q s nn st).1.isSome]) ∧ (vOb base b n wh K).At w0 A G ((takeI n K t q s nn st).2) w' ∧ Stay G w w' := by
  obtain ⟨⟨o, s1⟩, hf⟩ : ∃ x, findI n K t q s nn st = x := ⟨_, rfl⟩
  cases o with
  | none =>
    rw [takeI_none hf]
    exact snTake_none hn hq nn s1 hf h
  | some p =>
    obtain ⟨h1, h2, h3⟩ := findI_lt hf
    obtain ⟨m, rfl⟩ := Int.eq_ofNat_of_zero_le (show 0 ≤ nn by omega)
    rw [takeI_some hf]
    dsimp only [foundI, Option.isSome]
    have hd := dropV_few (n := n) (K := K) (t := t) (q := q) (s := s) (p : Int) s1
    unfold takeS
    rw [lessS_eq rfl]
    by_cases hml : (m : Int) < dropV n K t q s (p : Int) s1
    · rw [restS_yes hml]
      exact snTake_more hn hq p m (by omega) (by omega) _ hd.1 hd.2 s1 hf rfl hml h
    · rw [restS_no hml]
      exact snTake_all hn hq p m (by omega) (by omega) _ hd.1 hd.2 s1 hf rfl hml h
end
end
section
theorem ex14_len : ex14L.length = 82 := by decide
theorem ex14_32 : ∀ x ∈ ex14L, x < 2 ^ 32 := by decide
theorem ex14_cells {w : World} {g : Nat} {t : TypeId} (h : Held w g t ex14C) : ∀ j u, (valVs ex14L)[j]? = some u → w.cell? ((⟨g, 0, none⟩ : Addr).add j) = some u := by
  intro j u hu
  have e : (⟨g, 0, none⟩ : Addr).add j = ⟨g, j, none⟩ := by
    unfold Addr.add
    by_cases hz : j = 0
    · rw [if_pos hz, hz]
    · rw [if_neg hz]; simp
  rw [e, h.cell j, ← hu, ← ex14_eq]
  simp
end
end Go.Proofs.YtioolaaphbddbaaGreatDoor

namespace Go.Proofs.YtioolaaphbddbaaGreatDoor
open Go.ChangeShapes Go.WideShapes Go.ChangeAt Go.RowKit Go.Maps
set_option linter.unusedVariables false
set_option linter.unusedSimpArgs false
section
def upd (g : Int → Nat) (c : Int) (v : Nat) : Int → Nat := fun a => if a = c then v else g a
theorem upd_same (g : Int → Nat) (c : Int) (v : Nat) : upd g c v c = v := if_pos rfl
theorem upd_other (g : Int → Nat) {c a : Int} (v : Nat) (h : a ≠ c) : upd g c v a = g a := if_neg h

structure Geo (P : Nat) (nx pv : Nat → Int) (hd : Int) : Prop where
  nn : ∀ a b, nx a = nx b → a = b
  pp : ∀ a b, pv a = pv b → a = b
  np : ∀ a b, nx a ≠ pv b
  hn : ∀ a, hd ≠ nx a
  hp : ∀ a, hd ≠ pv a

def Seg (P : Nat) (nx pv : Nat → Int) (g : Int → Nat) : Nat → Nat → List Nat → Nat → Nat → Prop
  | a, x, [], a', x' => a = a' ∧ x = x'
  | a, x, p :: r, a', x' => (x = p + 1 ∧ p < P ∧ g (pv p) = a) ∧ Seg P nx pv g (p + 1) (g (nx p)) r a' x'

section
variable {P : Nat} {nx pv : Nat → Int} {hd : Int} {g g' : Int → Nat} {l l1 l2 : List Nat} {a x a' x' p : Nat}
theorem Seg.append : ∀ {l1 l2 : List Nat} {a x a' x' : Nat}, Seg P nx pv g a x (l1 ++ l2) a' x' ↔ ∃ b y, Seg P nx pv g a x l1 b y ∧ Seg P nx pv g b y l2 a' x'
  | [], l2, a, x, a', x' => by
    constructor
    · intro h; exact ⟨a, x, ⟨rfl, rfl⟩, h⟩
    · rintro ⟨b, y, ⟨rfl, rfl⟩, h⟩; exact h
  | p :: r, l2, a, x, a', x' => by
    constructor
    · rintro ⟨h1, h2⟩
      obtain ⟨b, y, h3, h4⟩ := Seg.append.1 h2
      exact ⟨b, y, ⟨h1, h3⟩, h4⟩
    · rintro ⟨b, y, ⟨h1, h3⟩, h4⟩
      exact ⟨h1, Seg.append.2 ⟨b, y, h3, h4⟩⟩
theorem Seg.frame : ∀ {l : List Nat} {a x a' x' : Nat}, Seg P nx pv g a x l a' x' → (∀ p ∈ l, g' (nx p) = g (nx p) ∧ g' (pv p) = g (pv p)) → Seg P nx pv g' a x l a' x'
  | [], a, x, a', x', h, _ => h
  | p :: r, a, x, a', x', ⟨⟨h1, h2, h3⟩, h4⟩, hf => by
    have hp := hf p (List.mem_cons_self ..)
    refine ⟨⟨h1, h2, by rw [hp.2]; exact h3⟩, ?_⟩
    rw [hp.1]
    exact Seg.frame h4 (fun q hq => hf q (List.mem_cons_of_mem _ hq))
theorem Seg.lt : ∀ {l : List Nat} {a x a' x' : Nat}, Seg P nx pv g a x l a' x' → ∀ p ∈ l, p < P
  | [], a, x, a', x', _, p, hp => by cases hp
  | q :: r, a, x, a', x', ⟨⟨_, h2, _⟩, h4⟩, p, hp => by
    rcases List.mem_cons.1 hp with rfl | hp
    · exact h2
    · exact h4.lt p hp
theorem Seg.last (h : Seg P nx pv g a x (l ++ [p]) a' x') : a' = p + 1 ∧ x' = g (nx p) := by
  obtain ⟨b, y, _, h2, h3⟩ := Seg.append.1 h
  exact ⟨h3.1.symm, h3.2.symm⟩
theorem Seg.head (h : Seg P nx pv g a x (p :: l) a' x') : x = p + 1 ∧ p < P ∧ g (pv p) = a := h.1

structure IsL (P : Nat) (nx pv : Nat → Int) (hd : Int) (g : Int → Nat) (l : List Nat) : Prop where
  seg : ∃ a, Seg P nx pv g 0 (g hd) l a 0
  nodup : l.Nodup

def lk1 : List Nat → Nat
  | [] => 0
  | p :: _ => p + 1
theorem Seg.first {a' : Nat} (h : Seg P nx pv g a x l a' 0) : x = lk1 l := by
  cases l with
  | nil => exact h.2
  | cons p r => exact h.1.1
theorem Seg.reprev (G : Geo P nx pv hd) {b : Nat} (hl : l.Nodup) (h : Seg P nx pv g a x l a' x') (h1 : ∀ p ∈ l, g' (nx p) = g (nx p)) (h2 : ∀ p ∈ l.drop 1, g' (pv p) = g (pv p)) (h3 : ∀ p r, l = p :: r → g' (pv p) = b) (h0 : l = [] → a' = a) :
    ∃ c, Seg P nx pv g' b x l c x' := by
  cases l with
  | nil => exact ⟨b, rfl, h.2⟩
  | cons p r =>
    refine ⟨a', ⟨h.1.1, h.1.2.1, h3 p r rfl⟩, ?_⟩
    rw [h1 p (List.mem_cons_self ..)]
    exact h.2.frame (fun q hq => ⟨h1 q (List.mem_cons_of_mem _ hq), h2 q (by simpa using hq)⟩)

def push1G (nx pv : Nat → Int) (hd : Int) (p : Nat) (g : Int → Nat) : Int → Nat := upd (upd g (nx p) (g hd)) (pv p) 0
def pushG (nx pv : Nat → Int) (hd : Int) (p : Nat) (g : Int → Nat) : Int → Nat :=
  upd (if g hd = 0 then push1G nx pv hd p g else upd (push1G nx pv hd p g) (pv (g hd - 1)) (p + 1)) hd (p + 1)
theorem IsL.push (G : Geo P nx pv hd) (h : IsL P nx pv hd g l) (hp : p < P) (hn : ¬ p ∈ l) : IsL P nx pv hd (pushG nx pv hd p g) (p :: l) := by
  obtain ⟨⟨a', hs⟩, hd'⟩ := h
  have hf := hs.first
  have e0 : pushG nx pv hd p g hd = p + 1 := upd_same _ _ _
  have e1 : ∀ c, c ≠ hd → c ≠ nx p → c ≠ pv p → (∀ u r, l = u :: r → c ≠ pv u) → pushG nx pv hd p g c = g c := by
    intro c c1 c2 c3 c4
    unfold pushG
    rw [upd_other _ _ c1]
    have b1 : push1G nx pv hd p g c = g c := by unfold push1G; rw [upd_other _ _ c3, upd_other _ _ c2]
    split
    · exact b1
    · rename_i hz
      have : c ≠ pv (g hd - 1) := by
        cases l with
        | nil => exact absurd hf hz
        | cons u r => rw [hf]; exact c4 u r rfl
      rw [upd_other _ _ this, b1]
  have e2 : pushG nx pv hd p g (nx p) = g hd := by
    unfold pushG
    rw [upd_other _ _ (G.hn p).symm]
    have b1 : push1G nx pv hd p g (nx p) = g hd := by unfold push1G; rw [upd_other _ _ (G.np p p), upd_same]
    split
    · exact b1
    · rw [upd_other _ _ (G.np _ _), b1]
  have e3 : pushG nx pv hd p g (pv p) = 0 := by
    unfold pushG
    rw [upd_other _ _ (G.hp p).symm]
    have b1 : push1G nx pv hd p g (pv p) = 0 := by unfold push1G; rw [upd_same]
    split
    · exact b1
    · rename_i hz
      have : pv p ≠ pv (g hd - 1) := fun e => by
        have e := G.pp _ _ e
        cases l with
        | nil => exact hz hf
        | cons u r => have hf : g hd = u + 1 := hf; exact hn (by rw [e, hf]; simp)
      rw [upd_other _ _ this, b1]
  have e4 : ∀ u r, l = u :: r → pushG nx pv hd p g (pv u) = p + 1 := by
    intro u r hl
    subst hl
    have hf : g hd = u + 1 := hf
    unfold pushG
    rw [upd_other _ _ (G.hp u).symm, if_neg (by omega), hf]
    exact upd_same _ _ _
  refine ⟨?_, by rw [List.nodup_cons]; exact ⟨hn, hd'⟩⟩
  have hne : ∀ u ∈ l, u ≠ p := fun u hu e => hn (e ▸ hu)
  have hd2 : ∀ u r, l = u :: r → ∀ v ∈ r, v ≠ u := fun u r hl v hv e => by
    subst hl
    rw [List.nodup_cons] at hd'
    exact hd'.1 (e ▸ hv)
  obtain ⟨c, hc⟩ := hs.reprev (g' := pushG nx pv hd p g) (b := p + 1) G hd' (fun u hu => e1 _ (G.hn u).symm (fun e => hne u hu (G.nn _ _ e)) (G.np _ _) (fun v r _ => G.np _ _))
    (fun u hu => e1 _ (G.hp u).symm (fun e => G.np _ _ e.symm) (fun e => hne u (List.mem_of_mem_drop hu) (G.pp _ _ e)) (fun v r hl e => by
      have := G.pp _ _ e
      subst hl
      exact hd2 v r rfl u (by simpa using hu) this))
    e4 (fun hl => by subst hl; exact hs.1.symm)
  refine ⟨c, ?_⟩
  rw [e0]
  exact ⟨⟨rfl, hp, e3⟩, by rw [e2]; exact hc⟩

def pull1G (nx pv : Nat → Int) (hd : Int) (p : Nat) (g : Int → Nat) : Int → Nat := if g (pv p) = 0 then upd g hd (g (nx p)) else upd g (nx (g (pv p) - 1)) (g (nx p))
def pull2G (nx pv : Nat → Int) (hd : Int) (p : Nat) (g : Int → Nat) : Int → Nat := if g (nx p) = 0 then pull1G nx pv hd p g else upd (pull1G nx pv hd p g) (pv (g (nx p) - 1)) (g (pv p))
def pullG (nx pv : Nat → Int) (hd : Int) (p : Nat) (g : Int → Nat) : Int → Nat := upd (upd (pull2G nx pv hd p g) (nx p) 0) (pv p) 0
theorem pull_far (G : Geo P nx pv hd) (hl : (l1 ++ p :: l2).Nodup) (hs : Seg P nx pv g 0 (g hd) (l1 ++ p :: l2) a' 0) {c : Int} (c1 : c ≠ hd) (c2 : ∀ u ∈ l1 ++ p :: l2, c ≠ nx u ∧ c ≠ pv u) : pullG nx pv hd p g c = g c := by
  obtain ⟨b, y, s1, ⟨s2, s3, s4⟩, s5⟩ := Seg.append.1 hs
  have cp := c2 p (by simp)
  unfold pullG
  rw [upd_other _ _ cp.2, upd_other _ _ cp.1]
  have b1 : pull1G nx pv hd p g c = g c := by
    unfold pull1G
    split
    · exact upd_other _ _ c1
    · rename_i hz
      rw [s4] at hz ⊢
      rcases List.eq_nil_or_concat l1 with rfl | ⟨m1, u, rfl⟩
      · exact absurd s1.1.symm hz
      · rw [List.concat_eq_append] at s1 c2
        have := s1.last.1
        rw [this]
        exact upd_other _ _ (c2 u (by simp)).1
  unfold pull2G
  split
  · exact b1
  · rename_i hz
    have hx := s5.first
    cases l2 with
    | nil => exact absurd hx hz
    | cons v r =>
      have hx : g (nx p) = v + 1 := hx
      rw [hx, Nat.add_sub_cancel, upd_other _ _ (c2 v (by simp)).2]
      exact b1
theorem IsL.pull (G : Geo P nx pv hd) (h : IsL P nx pv hd g (l1 ++ p :: l2)) : IsL P nx pv hd (pullG nx pv hd p g) (l1 ++ l2) := by
  obtain ⟨⟨a', hs⟩, hl⟩ := h
  obtain ⟨b, y, s1, ⟨s2, s3, s4⟩, s5⟩ := Seg.append.1 hs
  have hx := s5.first
  have hnd := hl
  rw [List.nodup_append] at hnd
  obtain ⟨n1, n2, n3⟩ := hnd
  rw [List.nodup_cons] at n2
  obtain ⟨n4, n5⟩ := n2
  have q1 : ∀ u ∈ l1, u ≠ p := fun u hu => n3 u hu p (List.mem_cons_self ..)
  have q2 : ∀ u ∈ l2, u ≠ p := fun u hu e => n4 (e ▸ hu)
  have q3 : ∀ u ∈ l1, ∀ v ∈ l2, u ≠ v := fun u hu v hv => n3 u hu v (List.mem_cons_of_mem _ hv)
  -- what the cells are, but for those of p
  have w0 : ∀ c, c ≠ nx p → c ≠ pv p → pullG nx pv hd p g c = pull2G nx pv hd p g c := fun c c1 c2 => by unfold pullG; rw [upd_other _ _ c2, upd_other _ _ c1]
  have w1 : ∀ c, (∀ v r, l2 = v :: r → c ≠ pv v) → pull2G nx pv hd p g c = pull1G nx pv hd p g c := fun c c1 => by
    unfold pull2G
    split
    · rfl
    · rename_i hz
      cases l2 with
      | nil => exact absurd hx hz
      | cons v r =>
        have hx : g (nx p) = v + 1 := hx
        rw [hx, Nat.add_sub_cancel, upd_other _ _ (c1 v r rfl)]
  have w2 : ∀ v r, l2 = v :: r → pull2G nx pv hd p g (pv v) = b := fun v r e => by
    subst e
    have hx : g (nx p) = v + 1 := hx
    unfold pull2G
    rw [if_neg (by omega), hx, Nat.add_sub_cancel, upd_same, s4]
  have hs1 : ∃ b', Seg P nx pv (pullG nx pv hd p g) 0 (pullG nx pv hd p g hd) l1 b' (lk1 l2) ∧ b' = b := by
    have hdw : pullG nx pv hd p g hd = pull1G nx pv hd p g hd := by rw [w0 _ (G.hn p) (G.hp p), w1 _ (fun v r _ => G.hp v)]
    rcases List.eq_nil_or_concat l1 with rfl | ⟨m1, u, rfl⟩
    · have hb : b = 0 := s1.1.symm
      refine ⟨0, ⟨rfl, ?_⟩, hb.symm⟩
      rw [hdw]
      unfold pull1G
      rw [if_pos (by rw [s4]; exact hb), upd_same, hx]
    · rw [List.concat_eq_append] at *
      have hbu := s1.last.1
      have hb0 : ¬ g (pv p) = 0 := by rw [s4, hbu]; omega
      have w3 : ∀ c, c ≠ nx u → pull1G nx pv hd p g c = g c := fun c c1 => by
        unfold pull1G
        rw [if_neg hb0, s4, hbu, Nat.add_sub_cancel, upd_other _ _ c1]
      have w4 : pull1G nx pv hd p g (nx u) = lk1 l2 := by
        unfold pull1G
        rw [if_neg hb0, s4, hbu, Nat.add_sub_cancel, upd_same, hx]
      obtain ⟨b0, y0, t1, ⟨t2, t3, t4⟩, t5⟩ := Seg.append.1 s1
      have hum : ∀ v ∈ m1, v ≠ u := fun v hv => by
        have n1' := n1
        rw [List.nodup_append] at n1'
        exact n1'.2.2 v hv u (by simp)
      have k1 : Seg P nx pv (pullG nx pv hd p g) 0 (pullG nx pv hd p g hd) m1 b0 y0 := by
        rw [hdw, w3 _ (G.hn u)]
        refine t1.frame (fun v hv => ⟨?_, ?_⟩)
        · rw [w0 _ (fun e => q1 v (by simp [hv]) (G.nn _ _ e)) (G.np _ _), w1 _ (fun _ _ _ => G.np _ _), w3 _ (fun e => hum v hv (G.nn _ _ e))]
        · rw [w0 _ (fun e => G.np _ _ e.symm) (fun e => q1 v (by simp [hv]) (G.pp _ _ e)), w1 _ (fun z r hz e => q3 v (by simp [hv]) z (by rw [hz]; simp) (G.pp _ _ e)), w3 _ (fun e => G.np _ _ e.symm)]
      have k2 : pullG nx pv hd p g (pv u) = b0 := by
        rw [w0 _ (fun e => G.np _ _ e.symm) (fun e => q1 u (by simp) (G.pp _ _ e)), w1 _ (fun z r hz e => q3 u (by simp) z (by rw [hz]; simp) (G.pp _ _ e)), w3 _ (fun e => G.np _ _ e.symm), t4]
      have k3 : pullG nx pv hd p g (nx u) = lk1 l2 := by
        rw [w0 _ (fun e => q1 u (by simp) (G.nn _ _ e)) (G.np _ _), w1 _ (fun _ _ _ => G.np _ _), w4]
      exact ⟨b, Seg.append.2 ⟨b0, y0, k1, ⟨t2, t3, k2⟩, hbu.symm, k3⟩, rfl⟩
  obtain ⟨b', h1, rfl⟩ := hs1
  have w5 : ∀ c, c ≠ hd → (∀ u ∈ l1, c ≠ nx u) → pull1G nx pv hd p g c = g c := fun c c1 c2 => by
    unfold pull1G
    split
    · exact upd_other _ _ c1
    · rename_i hz
      rw [s4] at hz ⊢
      rcases List.eq_nil_or_concat l1 with rfl | ⟨m1, u, rfl⟩
      · exact absurd s1.1.symm hz
      · rw [List.concat_eq_append] at s1 c2
        have := s1.last.1
        rw [this]
        exact upd_other _ _ (c2 u (by simp))
  have hd2 : ∀ u r, l2 = u :: r → ∀ v ∈ r, v ≠ u := fun u r hl v hv e => by
    subst hl
    rw [List.nodup_cons] at n5
    exact n5.1 (e ▸ hv)
  obtain ⟨c, hc⟩ := s5.reprev (g' := pullG nx pv hd p g) (b := b') G n5
    (fun u hu => by rw [w0 _ (fun e => q2 u hu (G.nn _ _ e)) (G.np _ _), w1 _ (fun _ _ _ => G.np _ _), w5 _ (G.hn u).symm (fun v hv e => q3 v hv u hu (G.nn _ _ e.symm))])
    (fun u hu => by
      have hu' := List.mem_of_mem_drop hu
      rw [w0 _ (fun e => G.np _ _ e.symm) (fun e => q2 u hu' (G.pp _ _ e)), w1 _ (fun z r hz e => by
        have := G.pp _ _ e
        subst hz
        exact hd2 z r rfl u (by simpa using hu) this), w5 _ (G.hp u).symm (fun v hv e => G.np _ _ e.symm)])
    (fun v r e => by rw [w0 _ (fun e => G.np _ _ e.symm) (fun e2 => q2 v (by rw [e]; simp) (G.pp _ _ e2)), w2 v r e])
    (fun e => by subst e; exact s5.1.symm)
  rw [hx] at hc
  refine ⟨⟨c, Seg.append.2 ⟨b', _, h1, hc⟩⟩, ?_⟩
  rw [List.nodup_append]
  exact ⟨n1, n5, fun u hu v hv => q3 u hu v hv⟩
end
end
section
structure VW (n : Nat) (K : Nat → Option Nat) (s : Vst) : Prop where
  all : ∀ i, i < n → ∃ v, K i = some v
  lost : s.lost = false
section
variable {n : Nat} {K : Nat → Option Nat} {s : Vst} {c : Int} {v : Nat}
theorem VW.at_ (h : VW n K s) {i : Nat} (hi : i < n) : getV n K s (i : Int) = (match pos s.wr i with | some k => atW s.wr k | none => (K i).getD 0) := by
  have ho := opn_yes hi h.lost
  unfold getV
  rw [if_pos ho, Int.toNat_natCast]
  cases pos s.wr i <;> rfl
theorem getV_far (n : Nat) (K : Nat → Option Nat) (s : Vst) {a : Int} (h : ¬ (0 ≤ a ∧ a < n)) : getV n K s a = 0 := getV_no (by unfold opn; simp; intro _ h1; omega)
theorem VW.get (h : VW n K s) (c : Int) : VW n K (getS n K s c) ∧ getV n K (getS n K s c) = getV n K s := by
  by_cases ho : opn n s c = true
  · obtain ⟨i, rfl, hi, hl⟩ := opn_at ho
    cases hp : pos s.wr i with
    | some k => rw [getS_put ho hp]; exact ⟨h, rfl⟩
    | none =>
      obtain ⟨v, hv⟩ := h.all i hi
      rw [getS_known ho hp hv]
      have e1 : (noteS s i).wr = s.wr ∧ (noteS s i).lost = s.lost := by unfold noteS; split <;> exact ⟨rfl, rfl⟩
      refine ⟨⟨h.all, e1.2.trans h.lost⟩, ?_⟩
      funext a
      unfold getV opn
      rw [e1.1, e1.2]
  · rw [getS_no (by simpa using ho)]; exact ⟨h, rfl⟩
theorem VW.put (h : VW n K s) {i : Nat} (hi : i < n) (v : Nat) : VW n K (putS n s (i : Int) v) ∧ getV n K (putS n s (i : Int) v) = upd (getV n K s) (i : Int) v := by
  have ho := opn_yes hi h.lost
  have hV : VW n K (putS n s (i : Int) v) := ⟨h.all, by rw [putS_yes ho]; exact h.lost⟩
  refine ⟨hV, ?_⟩
  funext a
  by_cases ha : 0 ≤ a ∧ a < n
  · obtain ⟨j, rfl⟩ := Int.eq_ofNat_of_zero_le ha.1
    have hj : j < n := by omega
    rw [hV.at_ hj]
    have hw : (putS n s (i : Int) v).wr = putW s.wr i v := by rw [putS_yes ho]
    rw [hw, pos_putW]
    unfold upd
    cases hp : pos s.wr i with
    | some k =>
      obtain ⟨hk, hc⟩ := pos_some hp
      rw [putW_some hp]
      simp only
      by_cases e : j = i
      · subst e
        rw [if_pos rfl, hp]
        simp [atW, List.getD, hk]
      · rw [if_neg (by omega), h.at_ hj]
        cases hq : pos s.wr j with
        | none => rfl
        | some m =>
          have hm := pos_some hq
          have : m ≠ k := fun e2 => by subst e2; exact e (hm.2.symm.trans hc)
          simp [atW, List.getD, List.getElem?_set_ne (Ne.symm this)]
    | none =>
      rw [putW_none hp]
      simp only
      by_cases e : j = i
      · subst e
        rw [if_pos rfl, if_pos rfl]
        simp [atW, List.getD]
      · rw [if_neg e, if_neg (by omega), h.at_ hj]
        cases hq : pos s.wr j with
        | none => rfl
        | some m =>
          have hm := pos_some hq
          simp [atW, List.getD, List.getElem?_append_left hm.1]
  · rw [getV_far n K _ ha]
    unfold upd
    rw [if_neg (by omega), getV_far n K _ ha]
end

def nxH (t p : Nat) : Int := ((30 + 4 * t + 6 * p + 2 : Nat) : Int)
def pvH (t p : Nat) : Int := ((30 + 4 * t + 6 * p + 3 : Nat) : Int)
theorem geo (P t hd : Nat) (h : hd < 30) : Geo P (nxH t) (pvH t) (hd : Int) :=
  ⟨fun a b e => by unfold nxH at e; omega, fun a b e => by unfold pvH at e; omega, fun a b e => by unfold nxH pvH at e; omega, fun a e => by unfold nxH at e; omega, fun a e => by unfold pvH at e; omega⟩

section
variable {t P s n hd : Nat} {K : Nat → Option Nat} {st : Vst} {l l1 l2 : List Nat} {p : Nat}
structure Fit (t P s n : Nat) : Prop where
  right : rightB t P s = true
  len : n = 30 + 4 * t + 6 * P
theorem Fit.nums (h : Fit t P s n) : 4 ≤ P ∧ P ≤ 1024 := by
  have := (rightB_iff _ _ _).1 h.right
  omega
theorem Fit.nx (h : Fit t P s n) (hp : p < P) : pageI (t : Int) (P : Int) (s : Int) (p : Int) 2 = nxH t p := by
  rw [pcell_yes h.right (by omega) (by omega) (by omega) (by omega)]
  unfold nxH
  push_cast
  omega
theorem Fit.pv (h : Fit t P s n) (hp : p < P) : pageI (t : Int) (P : Int) (s : Int) (p : Int) 3 = pvH t p := by
  rw [pcell_yes h.right (by omega) (by omega) (by omega) (by omega)]
  unfold pvH
  push_cast
  omega
theorem Fit.nxl (h : Fit t P s n) {x : Nat} (h0 : x ≠ 0) (hp : x - 1 < P) : pageI (t : Int) (P : Int) (s : Int) ((x : Int) - 1) 2 = nxH t (x - 1) := by
  rw [← h.nx hp]
  congr 1
  omega
theorem Fit.pvl (h : Fit t P s n) {x : Nat} (h0 : x ≠ 0) (hp : x - 1 < P) : pageI (t : Int) (P : Int) (s : Int) ((x : Int) - 1) 3 = pvH t (x - 1) := by
  rw [← h.pv hp]
  congr 1
  omega
theorem Fit.putN (h : Fit t P s n) (hV : VW n K st) (hp : p < P) (v : Nat) : VW n K (putS n st (nxH t p) v) ∧ getV n K (putS n st (nxH t p) v) = upd (getV n K st) (nxH t p) v := hV.put (by have := h.len; omega) v
theorem Fit.putP (h : Fit t P s n) (hV : VW n K st) (hp : p < P) (v : Nat) : VW n K (putS n st (pvH t p) v) ∧ getV n K (putS n st (pvH t p) v) = upd (getV n K st) (pvH t p) v := hV.put (by have := h.len; omega) v
theorem Fit.putH (h : Fit t P s n) (hV : VW n K st) (hh : hd < 30) (v : Nat) : VW n K (putS n st (hd : Int) v) ∧ getV n K (putS n st (hd : Int) v) = upd (getV n K st) (hd : Int) v := hV.put (by have := h.len; omega) v

theorem Fit.push (h : Fit t P s n) (hh : hd < 30) (hV : VW n K st) (hp : p < P) (hx : getV n K st hd = 0 ∨ getV n K st hd - 1 < P) :
    VW n K (pushS n K t P s hd p st) ∧ getV n K (pushS n K t P s hd p st) = pushG (nxH t) (pvH t) hd p (getV n K st) := by
  obtain ⟨a1, a2⟩ := hV.get (hd : Int)
  obtain ⟨b1, b2⟩ := h.putN a1 hp (getV n K st hd)
  obtain ⟨c1, c2⟩ := h.putP b1 hp 0
  have hc : push1 n K t P s hd p st = putS n (putS n (getS n K st hd) (nxH t p) (getV n K st hd)) (pvH t p) 0 := by unfold push1; rw [h.nx hp, h.pv hp]
  rw [← hc] at c1 c2
  rw [b2, a2] at c2
  have hc2 : getV n K (push1 n K t P s hd p st) = push1G (nxH t) (pvH t) hd p (getV n K st) := c2
  have hd2 : VW n K (push2 n K t P s hd p st) ∧ getV n K (push2 n K t P s hd p st) = if getV n K st hd = 0 then push1G (nxH t) (pvH t) hd p (getV n K st) else upd (push1G (nxH t) (pvH t) hd p (getV n K st)) (pvH t (getV n K st hd - 1)) (p + 1) := by
    unfold push2
    by_cases hz : getV n K st hd = 0
    · rw [if_pos hz, if_pos hz]
      exact ⟨c1, hc2⟩
    · rw [if_neg hz, if_neg hz, h.pvl hz (by omega)]
      obtain ⟨d1, d2⟩ := h.putP c1 (show getV n K st hd - 1 < P by omega) (p + 1)
      rw [hc2] at d2
      exact ⟨d1, d2⟩
  obtain ⟨e1, e2⟩ := h.putH hd2.1 hh (p + 1)
  rw [hd2.2] at e2
  exact ⟨e1, e2⟩

theorem Fit.pull (h : Fit t P s n) (hh : hd < 30) (hV : VW n K st) (hp : p < P) (hx : getV n K st (nxH t p) = 0 ∨ getV n K st (nxH t p) - 1 < P) (hy : getV n K st (pvH t p) = 0 ∨ getV n K st (pvH t p) - 1 < P) :
    VW n K (pullS n K t P s hd p st) ∧ getV n K (pullS n K t P s hd p st) = pullG (nxH t) (pvH t) hd p (getV n K st) := by
  obtain ⟨a1, a2⟩ := hV.get (nxH t p)
  obtain ⟨b1, b2⟩ := a1.get (pvH t p)
  have eN : pullN n K t P s p st = getV n K st (nxH t p) := by unfold pullN; rw [h.nx hp]
  have eB : pullB n K t P s p st = getV n K st (pvH t p) := by unfold pullB; rw [h.nx hp, h.pv hp, a2]
  have e0 : pull0 n K t P s p st = getS n K (getS n K st (nxH t p)) (pvH t p) := by unfold pull0; rw [h.nx hp, h.pv hp]
  rw [← e0] at b1 b2
  rw [a2] at b2
  have c : VW n K (pull1 n K t P s hd p st) ∧ getV n K (pull1 n K t P s hd p st) = pull1G (nxH t) (pvH t) hd p (getV n K st) := by
    unfold pull1 pull1G
    rw [eB, eN]
    by_cases hz : getV n K st (pvH t p) = 0
    · rw [if_pos hz, if_pos hz]
      obtain ⟨d1, d2⟩ := h.putH b1 hh (getV n K st (nxH t p))
      rw [b2] at d2
      exact ⟨d1, d2⟩
    · rw [if_neg hz, if_neg hz, h.nxl hz (by omega)]
      obtain ⟨d1, d2⟩ := h.putN b1 (show getV n K st (pvH t p) - 1 < P by omega) (getV n K st (nxH t p))
      rw [b2] at d2
      exact ⟨d1, d2⟩
  have d : VW n K (pull2 n K t P s hd p st) ∧ getV n K (pull2 n K t P s hd p st) = pull2G (nxH t) (pvH t) hd p (getV n K st) := by
    unfold pull2 pull2G
    rw [eB, eN]
    by_cases hz : getV n K st (nxH t p) = 0
    · rw [if_pos hz, if_pos hz]
      exact c
    · rw [if_neg hz, if_neg hz, h.pvl hz (by omega)]
      obtain ⟨d1, d2⟩ := h.putP c.1 (show getV n K st (nxH t p) - 1 < P by omega) (getV n K st (pvH t p))
      rw [c.2] at d2
      exact ⟨d1, d2⟩
  unfold pullS pullG
  rw [h.nx hp, h.pv hp]
  obtain ⟨f1, f2⟩ := h.putN d.1 hp 0
  obtain ⟨g1, g2⟩ := h.putP f1 hp 0
  rw [f2, d.2] at g2
  exact ⟨g1, g2⟩

def HasL (t P hd n : Nat) (K : Nat → Option Nat) (st : Vst) (l : List Nat) : Prop := IsL P (nxH t) (pvH t) hd (getV n K st) l
theorem HasL.lt (h : HasL t P hd n K st l) : ∀ u ∈ l, u < P := by obtain ⟨⟨a, hs⟩, _⟩ := h; exact hs.lt
theorem HasL.len (h : HasL t P hd n K st l) : l.length ≤ P := nodup_few P l h.lt h.nodup
theorem walkF_seg (h : Fit t P s n) : ∀ (l : List Nat) (m x a a' : Nat) (st : Vst), VW n K st → l.length ≤ m → Seg P (nxH t) (pvH t) (getV n K st) a x l a' 0 →
    (walkF n K t P s m x st).1 = l ∧ VW n K (walkF n K t P s m x st).2 ∧ getV n K (walkF n K t P s m x st).2 = getV n K st
  | [], m, x, a, a', st, hV, hm, hs => by
    have hx : x = 0 := hs.2
    subst hx
    rw [walkF_end n K t P s (by omega)]
    exact ⟨rfl, hV, rfl⟩
  | p :: r, m, x, a, a', st, hV, hm, hs => by
    obtain ⟨⟨rfl, hp, _⟩, hr⟩ := hs
    obtain ⟨m', rfl⟩ : ∃ m', m = m' + 1 := ⟨m - 1, by simp at hm; omega⟩
    have hc : pageI (t : Int) (P : Int) (s : Int) (((p + 1 : Nat) : Int) - 1) 2 = nxH t p := by rw [h.nxl (by omega) (by omega)]; rfl
    rw [walkF_step n K t P s ⟨by omega, by omega⟩, hc]
    obtain ⟨g1, g2⟩ := hV.get (nxH t p)
    obtain ⟨i1, i2, i3⟩ := walkF_seg h r m' (getV n K st (nxH t p)) (p + 1) a' (getS n K st (nxH t p)) g1 (by simp at hm; omega) (by rw [g2]; exact hr)
    exact ⟨by rw [i1]; simp, i2, i3.trans g2⟩
theorem HasL.walk (h : HasL t P hd n K st l) (hf : Fit t P s n) (hV : VW n K st) : walkL n K t P s hd st = l ∧ VW n K (walkS n K t P s hd st) ∧ getV n K (walkS n K t P s hd st) = getV n K st := by
  obtain ⟨⟨a, hs⟩, hd'⟩ := id h
  obtain ⟨g1, g2⟩ := hV.get (hd : Int)
  have := walkF_seg hf l (P : Int).toNat (getV n K st hd) 0 a (getS n K st hd) g1 (by rw [Int.toNat_natCast]; exact h.len) (by rw [g2]; exact hs)
  exact ⟨this.1, this.2.1, this.2.2.trans g2⟩
theorem HasL.push (h : HasL t P hd n K st l) (hf : Fit t P s n) (hh : hd < 30) (hV : VW n K st) (hp : p < P) (hn : ¬ p ∈ l) :
    HasL t P hd n K (pushS n K t P s hd p st) (p :: l) ∧ VW n K (pushS n K t P s hd p st) := by
  have h1 : getV n K st hd = 0 ∨ getV n K st hd - 1 < P := by
    obtain ⟨⟨a, hs⟩, _⟩ := h
    have := hs.first
    cases l with
    | nil => exact .inl this
    | cons u r => right; have h2 := hs.lt u (by simp); have h3 : getV n K st hd = u + 1 := this; omega
  obtain ⟨h2, h3⟩ := hf.push hh hV hp h1
  refine ⟨?_, h2⟩
  unfold HasL
  rw [h3]
  exact IsL.push (geo P t hd hh) h hp hn
theorem HasL.links (h : HasL t P hd n K st (l1 ++ p :: l2)) : p < P ∧ (getV n K st (nxH t p) = 0 ∨ getV n K st (nxH t p) - 1 < P) ∧ (getV n K st (pvH t p) = 0 ∨ getV n K st (pvH t p) - 1 < P) := by
  have hlt := h.lt
  obtain ⟨⟨a, hs⟩, _⟩ := h
  obtain ⟨b, y, s1, ⟨s2, s3, s4⟩, s5⟩ := Seg.append.1 hs
  refine ⟨s3, ?_, ?_⟩
  · have := s5.first
    cases l2 with
    | nil => exact .inl this
    | cons u r => right; have h2 := hlt u (by simp); have h3 : getV n K st (nxH t p) = u + 1 := this; omega
  · rw [s4]
    rcases List.eq_nil_or_concat l1 with rfl | ⟨m1, u, rfl⟩
    · exact .inl s1.1.symm
    · rw [List.concat_eq_append] at s1 hlt
      right
      have h2 := hlt u (by simp)
      have h3 := s1.last.1
      omega
theorem HasL.pull (h : HasL t P hd n K st (l1 ++ p :: l2)) (hf : Fit t P s n) (hh : hd < 30) (hV : VW n K st) :
    HasL t P hd n K (pullS n K t P s hd p st) (l1 ++ l2) ∧ VW n K (pullS n K t P s hd p st) := by
  obtain ⟨hp, hx, hy⟩ := h.links
  obtain ⟨h2, h3⟩ := hf.pull hh hV hp hx hy
  refine ⟨?_, h2⟩
  unfold HasL
  rw [h3]
  exact IsL.pull (geo P t hd hh) h
theorem HasL.other {hd2 : Nat} {l' : List Nat} (h : HasL t P hd n K st (l1 ++ p :: l2)) (hf : Fit t P s n) (hh : hd < 30) (hV : VW n K st) (h2 : HasL t P hd2 n K st l') (hne : hd2 ≠ hd) (hh2 : hd2 < 30) (hap : ∀ u ∈ l', ¬ u ∈ l1 ++ p :: l2) :
    HasL t P hd2 n K (pullS n K t P s hd p st) l' := by
  obtain ⟨hp, hx, hy⟩ := h.links
  obtain ⟨_, h3⟩ := hf.pull hh hV hp hx hy
  have G := geo P t hd hh
  have G2 := geo P t hd2 hh2
  obtain ⟨⟨a, hs⟩, hnd⟩ := h
  obtain ⟨⟨a2, hs2⟩, hnd2⟩ := h2
  unfold HasL
  rw [h3]
  refine ⟨⟨a2, ?_⟩, hnd2⟩
  rw [pull_far G hnd hs (c := (hd2 : Int)) (by omega) (fun u _ => ⟨G2.hn u, G2.hp u⟩)]
  refine hs2.frame (fun u hu => ⟨?_, ?_⟩)
  · refine pull_far G hnd hs (G.hn u).symm (fun v hv => ⟨fun e => hap u hu (by rw [G.nn _ _ e]; exact hv), G.np _ _⟩)
  · refine pull_far G hnd hs (G.hp u).symm (fun v hv => ⟨fun e => G.np _ _ e.symm, fun e => hap u hu (by rw [G.pp _ _ e]; exact hv)⟩)
end

namespace AuH
variable {H : AuH}
theorem chain_full {head : Nat} : ∀ (r : Nat) (l : List Nat) (q a : Nat), H.Path head l q a → H.chain head r q a → ∃ l' a', H.Path head l' 0 a'
  | 0, l, q, a, hp, hc => by
    have : q = 0 := hc
    subst this
    exact ⟨l, a, hp⟩
  | r + 1, l, q, a, hp, hc => by
    obtain ⟨⟨h1, h2, h3, h4⟩, h5⟩ := hc
    exact chain_full r _ _ _ (.snoc hp h1 h2 h4) h5
theorem listOk_path {head : Nat} (h : H.ListOk head) : ∃ l a, H.Path head l 0 a := chain_full _ _ _ _ .nil h
end AuH
section
variable {H : AuH} {n c hd : Nat} {K : Nat → Option Nat} {l : List Nat}
theorem HeapV.fit (HV : HeapV H n c) : Fit H.t H.p H.s n := ⟨HV.right, HV.len⟩
theorem path_seg (hK : ∀ i, i < n → K i = some (H.V i)) (hn : n = 30 + 4 * H.t + 6 * H.p) {g : Int → Nat} (hg : ∀ i : Nat, i < n → g i = H.V i) (hh : hd < 30) {q a : Nat} (h : H.Path hd l q a) : Seg H.p (nxH H.t) (pvH H.t) g 0 (g hd) l a q := by
  induction h with
  | nil => exact ⟨rfl, hg hd (by omega)⟩
  | snoc h h1 h2 h3 ih =>
    rename_i l q a
    refine Seg.append.2 ⟨a, q, ih, ⟨by omega, by omega, ?_⟩, by omega, ?_⟩
    · unfold pvH
      rw [hg _ (by omega), ← h3]
      rfl
    · unfold nxH
      rw [hg _ (by omega)]
      rfl
theorem cntIn_nodup : ∀ {l : List Nat}, (∀ y, AuH.cntIn l y ≤ 1) → l.Nodup
  | [], _ => List.nodup_nil
  | a :: r, h => by
    have e : ∀ y, AuH.cntIn (a :: r) y = (if a = y then 1 else 0) + AuH.cntIn r y := fun y => by
      unfold AuH.cntIn
      rw [List.filter_cons]
      by_cases h : a = y
      · simp [h]; omega
      · simp [h]
    refine List.nodup_cons.2 ⟨fun hm => ?_, cntIn_nodup (fun y => by have := h y; rw [e] at this; omega)⟩
    have h1 := h a
    rw [e, if_pos rfl] at h1
    have := AuH.cntIn_pos hm
    omega
end
end
section
namespace AuH
def re (H : AuH) (V : Nat → Nat) : AuH := ⟨H.t, H.p, H.s, V⟩
structure Twin (H : AuH) (V : Nat → Nat) : Prop where
  cel : ∀ q b, b < 6 → b ≠ 2 → b ≠ 3 → (H.re V).cel q b = H.cel q b
  v0 : V 0 = H.V 0
  v1 : V 1 = H.V 1
  root : ∀ i, i < 8 → V (22 + i) = H.V (22 + i)
variable {H : AuH} {V : Nat → Nat}
namespace Twin
theorem c0 (T : H.Twin V) (q : Nat) : (H.re V).cel q 0 = H.cel q 0 := T.cel q 0 (by omega) (by omega) (by omega)
theorem c1 (T : H.Twin V) (q : Nat) : (H.re V).cel q 1 = H.cel q 1 := T.cel q 1 (by omega) (by omega) (by omega)
theorem c4 (T : H.Twin V) (q : Nat) : (H.re V).cel q 4 = H.cel q 4 := T.cel q 4 (by omega) (by omega) (by omega)
theorem c5 (T : H.Twin V) (q : Nat) : (H.re V).cel q 5 = H.cel q 5 := T.cel q 5 (by omega) (by omega) (by omega)
theorem K (T : H.Twin V) (q : Nat) : (H.re V).K q = H.K q := by unfold AuH.K; rw [T.c0]
theorem L (T : H.Twin V) (q : Nat) : (H.re V).L q = H.L q := by unfold AuH.L; rw [T.c0]
theorem Cl (T : H.Twin V) (q : Nat) : (H.re V).Cl q = H.Cl q := by unfold AuH.Cl; rw [T.c0]
theorem ln (T : H.Twin V) (q : Nat) : (H.re V).ln q = H.ln q := by unfold AuH.ln; rw [T.L]
theorem can (T : H.Twin V) (q : Nat) : (H.re V).can q = H.can q := by unfold AuH.can; rw [T.K, T.ln]; rfl
theorem nx (T : H.Twin V) (q : Nat) : (H.re V).nx q = H.nx q := by unfold AuH.nx; rw [T.ln]
theorem at_to (T : H.Twin V) {q : Nat} (h : H.At q) : (H.re V).At q := by
  induction h with
  | zero => exact .zero
  | step h hc ih =>
    rename_i q
    have := At.step ih (by rw [T.can]; exact hc)
    rwa [T.nx] at this
theorem at_of (T : H.Twin V) {q : Nat} (h : (H.re V).At q) : H.At q := by
  induction h with
  | zero => exact .zero
  | step h hc ih =>
    rename_i q
    rw [T.can] at hc
    have := At.step ih hc
    rwa [T.nx]
theorem tiled (T : H.Twin V) (h : H.Tiled) : (H.re V).Tiled := by
  refine ⟨T.at_to h.1, fun a ha hc hp q h1 h2 => ?_⟩
  rw [T.c0]
  rw [T.can] at hc
  rw [T.nx] at h2
  exact h.2 a (T.at_of ha) hc hp q h1 h2
theorem r3 (T : H.Twin V) (h : H.R3) : (H.re V).R3 := fun q hq hk => by
  rw [T.K] at hk
  obtain ⟨h1, h2⟩ := h q hq hk
  refine ⟨fun r hr h3 => ?_, ?_⟩
  · rw [T.ln] at h3
    rw [T.c1]
    exact h1 r hr h3
  · rw [T.ln, T.c1]
    exact h2
theorem r4 (T : H.Twin V) (h : H.R4) : (H.re V).R4 := fun q ha hq hk hn => by
  rw [T.K] at hk
  rw [T.nx] at hn ⊢
  rw [T.K]
  exact h q (T.at_of ha) hq hk hn
theorem r5 (T : H.Twin V) (h : H.R5) : (H.re V).R5 := fun q hq => by
  have h1 := h q hq
  unfold Slot5 at h1 ⊢
  rw [T.K, T.c5, T.c4, T.Cl]
  exact h1
theorem tgt (T : H.Twin V) (q : Nat) : (H.re V).tgt q = H.tgt q := by unfold AuH.tgt; rw [T.K, T.ln, T.Cl, T.c5]
theorem isF (T : H.Twin V) (hd : Int) : (H.re V).isF hd = H.isF hd := by funext q; unfold AuH.isF; rw [T.tgt]
theorem cnt (T : H.Twin V) (hd : Int) (x : Nat) : (H.re V).cnt hd x = H.cnt hd x := by unfold AuH.cnt; rw [T.isF]
theorem r9 (T : H.Twin V) (h : H.R9) : (H.re V).R9 := by
  have e1 : (H.re V).freeF = H.freeF := by funext q; unfold freeF; rw [T.K, T.ln]
  have e2 : (H.re V).liveF = H.liveF := by funext q; unfold liveF; rw [T.K, T.c4]
  unfold R9
  rw [e1, e2]
  exact ⟨T.v0.trans h.1, T.v1.trans h.2⟩
theorem liveAt (T : H.Twin V) (a : Int) : (H.re V).LiveAt a ↔ H.LiveAt a := by
  unfold LiveAt
  simp only [T.K, T.Cl, T.c4]
  exact Iff.rfl
theorem r10 (T : H.Twin V) (h : H.R10) : (H.re V).R10 := fun i hi hv => by
  have e : (H.re V).V (22 + i) = H.V (22 + i) := T.root i hi
  rw [e] at hv ⊢
  exact (T.liveAt _).2 (h i hi hv)
theorem partsAt (T : H.Twin V) : (H.re V).partsAt = H.partsAt := by
  funext q
  unfold AuH.partsAt slotsTo slack slotPart sl zs first pg
  simp only [T.K, T.ln, T.Cl, T.c4, T.c5]
  rfl
theorem parts (T : H.Twin V) : (H.re V).parts = H.parts := by unfold AuH.parts; rw [T.partsAt]; rfl
theorem told (T : H.Twin V) (h : ∀ i, i < 10 → H.rule i) (hl : ∀ hd, 2 ≤ hd → hd ≤ 21 → (H.re V).ListOk hd) (h8 : ∀ q, q < H.p → H.tgt q = -1 → (H.re V).cel q 2 = H.cel q 2 ∧ (H.re V).cel q 3 = H.cel q 3) : ∀ i, i < 10 → (H.re V).rule i
  | 0, _ => trivial
  | 1, _ => T.tiled (h 1 (by omega))
  | 2, _ => T.r3 (h 2 (by omega))
  | 3, _ => T.r4 (h 3 (by omega))
  | 4, _ => T.r5 (h 4 (by omega))
  | 5, _ => fun k hk => hl (2 + k) (by omega) (by omega)
  | 6, _ => fun k hk => hl (13 + k) (by omega) (by omega)
  | 7, _ => fun q hq ht => by
    rw [T.tgt] at ht
    have h1 : H.R8 := h 7 (by omega)
    rw [(h8 q hq ht).1, (h8 q hq ht).2]
    exact h1 q hq ht
  | 8, _ => T.r9 (h 8 (by omega))
  | 9, _ => T.r10 (h 9 (by omega))
  | i + 10, hi => absurd hi (by omega)
end Twin
end AuH

section
variable {H : AuH} {hd : Nat} {g : Int → Nat} {l : List Nat}
theorem seg_path (hg : ∀ i : Nat, i < 30 + 4 * H.t + 6 * H.p → g i = H.V i) (hh : hd < 30) : ∀ (l : List Nat) {a x : Nat}, Seg H.p (nxH H.t) (pvH H.t) g 0 (g hd) l a x → H.Path hd l x a := by
  intro l
  induction hn : l.length generalizing l with
  | zero =>
    intro a x h
    have : l = [] := List.eq_nil_of_length_eq_zero hn
    subst this
    obtain ⟨rfl, rfl⟩ := h
    rw [hg hd (by omega)]
    exact .nil
  | succ n ih =>
    intro a x h
    rcases List.eq_nil_or_concat l with rfl | ⟨m, p, rfl⟩
    · simp at hn
    · rw [List.concat_eq_append] at h hn ⊢
      obtain ⟨b, y, s1, ⟨rfl, s3, s4⟩, s5, s6⟩ := Seg.append.1 h
      have h1 := ih m (by simpa using hn) s1
      have h2 := AuH.Path.snoc h1 (by omega) (by omega) (by
        show H.cel (p + 1 - 1) 3 = b
        rw [Nat.add_sub_cancel, ← s4]
        unfold pvH
        rw [hg _ (by omega)]
        rfl)
      rw [Nat.add_sub_cancel] at h2
      subst s5
      have e : H.cel p 2 = x := by
        rw [← s6]
        unfold nxH
        rw [hg _ (by omega)]
        rfl
      rw [e] at h2
      exact h2
theorem listOk_of (hg : ∀ i : Nat, i < 30 + 4 * H.t + 6 * H.p → g i = H.V i) (hh : hd < 30) (hl : IsL H.p (nxH H.t) (pvH H.t) hd g l) (ht : ∀ y ∈ l, H.tgt y = hd) (hc : l.length = H.cnt hd H.p) : H.ListOk hd := by
  obtain ⟨⟨a, hs⟩, _⟩ := hl
  have := AuH.path_chain (seg_path hg hh l hs) (m := 0) ht rfl
  rw [Nat.add_zero, hc] at this
  exact this
theorem path_len {a : Nat} (hp : H.Path hd l 0 a) (hk : H.ListOk hd) : l.length = H.cnt hd H.p ∧ ∀ y ∈ l, H.tgt y = hd := by
  obtain ⟨h1, h2, h3⟩ := AuH.chain_path hk hp
  refine ⟨?_, h3⟩
  rcases hr : H.cnt hd H.p - l.length with _ | r
  · omega
  · rw [hr] at h2
    have := h2.1.1
    omega
end
end
section
def curV (n : Nat) (g : Int → Nat) (V : Nat → Nat) : Nat → Nat := fun i => if i < n then g (i : Int) else V i
theorem curV_in {n : Nat} {g : Int → Nat} {V : Nat → Nat} {i : Nat} (h : i < n) : curV n g V i = g i := if_pos h
section
variable {H : AuH} {n c hd : Nat} {g0 g' : Int → Nat} {l l' : List Nat}
def ListCell (t hd : Nat) (l : List Nat) (c : Int) : Prop := c = hd ∨ ∃ u ∈ l, c = nxH t u ∨ c = pvH t u
theorem path_mem {a q : Nat} (hp : H.Path hd l 0 a) (hk : H.ListOk hd) (hq : q < H.p) (ht : H.tgt q = hd) : q ∈ l := by
  have h1 := (AuH.listOk_iff hp).1 hk q hq
  unfold AuH.isF at h1
  rw [if_pos ht] at h1
  rcases Nat.eq_zero_or_pos (AuH.cntIn l q) with h2 | h2
  · omega
  · unfold AuH.cntIn at h2
    obtain ⟨x, hx⟩ := List.exists_mem_of_length_pos h2
    rw [List.mem_filter] at hx
    have : x = q := by simpa using hx.2
    subst this
    exact hx.1
end

section
variable {P hd t : Nat} {g : Int → Nat} {l l1 l2 : List Nat} {p a' : Nat}
theorem push_far (hh : hd < 30) (hs : Seg P (nxH t) (pvH t) g 0 (g hd) l a' 0) {c : Int} (hc : ¬ ListCell t hd (p :: l) c) : pushG (nxH t) (pvH t) hd p g c = g c := by
  have c1 : c ≠ hd := fun e => hc (.inl e)
  have c2 : c ≠ nxH t p := fun e => hc (.inr ⟨p, by simp, .inl e⟩)
  have c3 : c ≠ pvH t p := fun e => hc (.inr ⟨p, by simp, .inr e⟩)
  have hf := hs.first
  unfold pushG
  rw [upd_other _ _ c1]
  have b1 : push1G (nxH t) (pvH t) hd p g c = g c := by unfold push1G; rw [upd_other _ _ c3, upd_other _ _ c2]
  split
  · exact b1
  · rename_i hz
    have : c ≠ pvH t (g hd - 1) := by
      cases l with
      | nil => exact absurd hf hz
      | cons u r =>
        intro e
        refine hc (.inr ⟨u, by simp, .inr ?_⟩)
        rw [e, hf]
        rfl
    rw [upd_other _ _ this, b1]
theorem pull_far' (hh : hd < 30) (hl : (l1 ++ p :: l2).Nodup) (hs : Seg P (nxH t) (pvH t) g 0 (g hd) (l1 ++ p :: l2) a' 0) {c : Int} (hc : ¬ ListCell t hd (l1 ++ p :: l2) c) : pullG (nxH t) (pvH t) hd p g c = g c :=
  pull_far (geo P t hd hh) hl hs (fun e => hc (.inl e)) (fun u hu => ⟨fun e => hc (.inr ⟨u, hu, .inl e⟩), fun e => hc (.inr ⟨u, hu, .inr e⟩)⟩)
end
end
section
namespace AuH
structure Spans (H : AuH) : Prop where
  pos : 0 < H.p
  zero : H.K 0 ≠ 0
  fit : ∀ q, q < H.p → H.K q ≠ 0 → H.nx q ≤ H.p
  next : ∀ q, q < H.p → H.K q ≠ 0 → H.nx q < H.p → H.K (H.nx q) ≠ 0
  inside : ∀ q r, q < H.p → H.K q ≠ 0 → q < r → r < H.nx q → H.cel r 0 = 0
  none : ∀ q, q < H.p → H.K q = 0 → H.cel q 0 = 0
variable {H : AuH}
theorem Spans.at_ (h : H.Spans) {q : Nat} (ha : H.At q) : q = H.p ∨ (q < H.p ∧ H.K q ≠ 0) := by
  induction ha with
  | zero => exact .inr ⟨h.pos, h.zero⟩
  | step ha hc ih =>
    rename_i q
    have hcan := (H.can_iff q).1 hc
    rcases Nat.lt_or_ge (H.nx q) H.p with h1 | h1
    · exact .inr ⟨h1, h.next q hcan.1 hcan.2.1 h1⟩
    · have := h.fit q hcan.1 hcan.2.1
      exact .inl (by omega)
theorem Spans.can (h : H.Spans) {q : Nat} (hq : q < H.p) (hk : H.K q ≠ 0) : H.can q = true := (H.can_iff q).2 ⟨hq, hk, h.fit q hq hk⟩
theorem Spans.reach (h : H.Spans) : ∀ n x, x ≤ n → x ≤ H.p → (x = H.p ∨ H.K x ≠ 0) → H.At x := by
  intro n
  induction n with
  | zero => intro x hx _ _; have : x = 0 := by omega
            subst this; exact .zero
  | succ n ih =>
    intro x hx hxp hk
    rcases Nat.lt_or_ge x (n + 1) with h1 | h1
    · exact ih x (by omega) hxp hk
    · have hx0 : x = n + 1 := by omega
      subst hx0
      -- the last page below x with a span's info
      have hlast : ∀ m, m ≤ n + 1 → ∃ a, a < n + 1 ∧ H.K a ≠ 0 ∧ (∀ r, a < r → r < n + 1 → r ≤ m → H.K r = 0) := by
        intro m
        induction m with
        | zero => intro _; exact ⟨0, by omega, h.zero, fun r h1 h2 h3 => by omega⟩
        | succ m ihm =>
          intro hm
          obtain ⟨a, a1, a2, a3⟩ := ihm (by omega)
          by_cases hkm : H.K (m + 1) ≠ 0 ∧ m + 1 < n + 1
          · exact ⟨m + 1, hkm.2, hkm.1, fun r h1 h2 h3 => by omega⟩
          · refine ⟨a, a1, a2, fun r h1 h2 h3 => ?_⟩
            rcases Nat.lt_or_ge r (m + 1) with h4 | h4
            · exact a3 r h1 h2 (by omega)
            · have : r = m + 1 := by omega
              subst this
              by_cases h5 : H.K (m + 1) = 0
              · exact h5
              · exact absurd ⟨h5, h2⟩ hkm
      obtain ⟨a, a1, a2, a3⟩ := hlast (n + 1) (Nat.le_refl _)
      have hap : a < H.p := by omega
      have haa := ih a (by omega) (by omega) (.inr a2)
      have hgt := (H.nx_gt (h.can hap a2)).1
      have hfit := h.fit a hap a2
      have e : H.nx a = n + 1 := by
        rcases Nat.lt_trichotomy (H.nx a) (n + 1) with h2 | h2 | h2
        · have h3 := h.next a hap a2 (by omega)
          exact absurd (a3 _ hgt h2 (by omega)) h3
        · exact h2
        · have h3 := h.inside a (n + 1) hap a2 (by omega) h2
          have h4 := (H.K_zero (n + 1) h3).1
          rcases hk with h5 | h5
          · omega
          · exact absurd h4 h5
      have := At.step haa (h.can hap a2)
      rwa [e] at this
theorem Spans.tiled (h : H.Spans) : H.Tiled := by
  refine ⟨h.reach H.p H.p (Nat.le_refl _) (Nat.le_refl _) (.inl rfl), fun a ha hc hp q h1 h2 => ?_⟩
  have hcan := (H.can_iff a).1 hc
  exact h.inside a q hcan.1 hcan.2.1 h1 h2
theorem Tiled.spans (h : H.Tiled) (hp : 0 < H.p) : H.Spans where
  pos := hp
  zero := h.at_K .zero hp
  fit q hq hk := ((H.can_iff q).1 (h.start hq hk).2).2.2
  next q hq hk hn := by
    have hs := h.start hq hk
    exact h.at_K (.step hs.1 hs.2) hn
  inside q r hq hk h1 h2 := by
    have hs := h.start hq hk
    exact h.2 q hs.1 hs.2 hq r h1 h2
  none q hq hk := by
    obtain ⟨a, a1, a2, a3, a4, a5⟩ := h.cover hq
    rcases Nat.eq_or_lt_of_le a4 with h6 | h6
    · subst h6; exact absurd hk a3
    · have hs := h.start a2 a3
      exact h.2 a hs.1 hs.2 a2 q h6 a5
structure Ok (H : AuH) (L : Nat → List Nat) : Prop where
  spans : H.Spans
  feet : H.R3
  apart : ∀ q, q < H.p → H.K q = 1 → H.nx q < H.p → H.K (H.nx q) ≠ 1
  slots : H.R5
  list : ∀ hd : Nat, 2 ≤ hd → hd ≤ 21 → IsL H.p (nxH H.t) (pvH H.t) hd (fun c => H.V c.toNat) (L hd)
  mem : ∀ hd : Nat, 2 ≤ hd → hd ≤ 21 → ∀ y, y ∈ L hd ↔ y < H.p ∧ H.tgt y = hd
  loose : H.R8
  counts : H.R9
  roots : H.R10
theorem nodup_len {P : Nat → Bool} : ∀ (n : Nat) (l : List Nat), l.Nodup → (∀ y, y ∈ l ↔ y < n ∧ P y = true) → l.length = sumTo (fun q => if P q = true then 1 else 0) n
  | 0, l, hl, h => by
    cases l with
    | nil => rfl
    | cons a r => have := (h a).1 (by simp); omega
  | n + 1, l, hl, h => by
    show l.length = sumTo (fun q => if P q = true then 1 else 0) n + (if P n = true then 1 else 0)
    by_cases hn : P n = true
    · have hm : n ∈ l := (h n).2 ⟨by omega, hn⟩
      have h1 := nodup_len n (l.erase n) (hl.erase n) (fun y => by
        rw [hl.mem_erase_iff, h y]
        constructor
        · rintro ⟨h2, h3, h4⟩; exact ⟨by omega, h4⟩
        · rintro ⟨h2, h3⟩; exact ⟨by omega, by omega, h3⟩)
      rw [List.length_erase_of_mem hm] at h1
      have : 0 < l.length := List.length_pos_of_mem hm
      rw [if_pos hn]
      omega
    · rw [if_neg hn, Nat.add_zero]
      exact nodup_len n l hl (fun y => by
        rw [h y]
        constructor
        · rintro ⟨h3, h4⟩
          refine ⟨?_, h4⟩
          rcases Nat.lt_or_ge y n with h5 | h5
          · exact h5
          · have : y = n := by omega
            subst this
            exact absurd h4 hn
        · rintro ⟨h3, h4⟩; exact ⟨by omega, h4⟩)
theorem Ok.rules {L : Nat → List Nat} (h : H.Ok L) : ∀ i, i < 10 → H.rule i := by
  have hok : ∀ hd, 2 ≤ hd → hd ≤ 21 → H.ListOk hd := fun hd h2 h21 => by
    have hl := h.list hd h2 h21
    have hm := h.mem hd h2 h21
    refine listOk_of (g := fun c => H.V c.toNat) (fun i _ => by simp) (by omega) hl (fun y hy => ((hm y).1 hy).2) ?_
    have := nodup_len (P := fun q => decide (H.tgt q = (hd : Int))) H.p (L hd) hl.nodup (fun y => by rw [hm y, decide_eq_true_iff])
    rw [this]
    unfold cnt
    refine sumTo_congr _ (fun q _ => ?_)
    unfold isF
    simp
  intro i hi
  match i, hi with
  | 0, _ => trivial
  | 1, _ => exact h.spans.tiled
  | 2, _ => exact h.feet
  | 3, _ => exact fun q ha hq hk hn => h.apart q hq hk hn
  | 4, _ => exact h.slots
  | 5, _ => exact fun k hk => hok (2 + k) (by omega) (by omega)
  | 6, _ => exact fun k hk => hok (13 + k) (by omega) (by omega)
  | 7, _ => exact h.loose
  | 8, _ => exact h.counts
  | 9, _ => exact h.roots
  | i + 10, hi => omega
theorem okL_of (hp : 0 < H.p) (hr : ∀ i, i < 10 → H.rule i) : ∃ L, H.Ok L := by
  have hti : H.Tiled := hr 1 (by omega)
  have hok : ∀ h, 2 ≤ h → h ≤ 21 → H.ListOk h := fun h a1 a2 => by
    rcases Nat.lt_or_ge h 13 with h1 | h1
    · have h5 : ∀ k, k < 11 → H.ListOk (2 + k) := hr 5 (by omega)
      have := h5 (h - 2) (by omega)
      rwa [show 2 + (h - 2) = h by omega] at this
    · have h6 : ∀ k, k < 9 → H.ListOk (13 + k) := hr 6 (by omega)
      have := h6 (h - 13) (by omega)
      rwa [show 13 + (h - 13) = h by omega] at this
  have hex : ∀ j, ∃ l : List Nat, 2 ≤ j → j ≤ 21 → ∃ a, H.Path j l 0 a := fun j => by
    by_cases hj : 2 ≤ j ∧ j ≤ 21
    · obtain ⟨l, a, h⟩ := AuH.listOk_path (hok j hj.1 hj.2)
      exact ⟨l, fun _ _ => ⟨a, h⟩⟩
    · exact ⟨[], fun h1 h2 => absurd ⟨h1, h2⟩ hj⟩
  refine ⟨fun j => (hex j).choose, hti.spans hp, hr 2 (by omega), fun q hq hk hn => ?_, hr 4 (by omega), fun hd h2 h21 => ?_, fun hd h2 h21 y => ?_, hr 7 (by omega), hr 8 (by omega), hr 9 (by omega)⟩
  · exact (show H.R4 from hr 3 (by omega)) q (hti.start hq (by omega)).1 hq hk hn
  · obtain ⟨a, hpa⟩ := (hex hd).choose_spec h2 h21
    exact ⟨⟨a, path_seg (n := 30 + 4 * H.t + 6 * H.p) (K := fun i => some (H.V i)) (fun i _ => rfl) rfl (fun i _ => by simp) (by omega) hpa⟩, cntIn_nodup hpa.once.2.2.2⟩
  · obtain ⟨a, hpa⟩ := (hex hd).choose_spec h2 h21
    exact ⟨fun hy => ⟨hpa.lt y hy, (path_len hpa (hok hd h2 h21)).2 y hy⟩, fun hy => path_mem hpa (hok hd h2 h21) hy.1 hy.2⟩
end AuH
end
section
namespace AuH
structure Whole (H : AuH) (a b : Nat) : Prop where
  lt : a < b
  le : b ≤ H.p
  first : H.K a ≠ 0
  last : b < H.p → H.K b ≠ 0
variable {H : AuH} {V : Nat → Nat} {a b : Nat}
theorem Spans.ahead (h : H.Spans) {q x : Nat} (hx : H.K x ≠ 0) (hq : q < x) (hxp : x ≤ H.p) (hk : H.K q ≠ 0) : H.nx q ≤ x := by
  rcases Nat.lt_or_ge x (H.nx q) with h1 | h1
  · exact absurd (H.K_zero x (h.inside q x (by omega) hk hq h1)).1 hx
  · exact h1
theorem Spans.below (h : H.Spans) (w : H.Whole a b) {q : Nat} (hq : q < b) (hk : H.K q ≠ 0) : H.nx q ≤ b := by
  rcases Nat.eq_or_lt_of_le w.le with h1 | h1
  · rw [h1]; exact h.fit q (by omega) hk
  · exact h.ahead (w.last h1) hq w.le hk
structure Recut (H : AuH) (V : Nat → Nat) (a b : Nat) : Prop where
  whole : H.Whole a b
  out : ∀ q, q < H.p → ¬ (a ≤ q ∧ q < b) → (H.re V).cel q 0 = H.cel q 0
  first : (H.re V).K a ≠ 0
  fit : ∀ q, a ≤ q → q < b → (H.re V).K q ≠ 0 → (H.re V).nx q ≤ b
  next : ∀ q, a ≤ q → q < b → (H.re V).K q ≠ 0 → (H.re V).nx q < b → (H.re V).K ((H.re V).nx q) ≠ 0
  inside : ∀ q r, a ≤ q → q < b → (H.re V).K q ≠ 0 → q < r → r < (H.re V).nx q → (H.re V).cel r 0 = 0
  none : ∀ q, a ≤ q → q < b → (H.re V).K q = 0 → (H.re V).cel q 0 = 0
namespace Recut
theorem K (R : H.Recut V a b) {q : Nat} (hq : q < H.p) (h : ¬ (a ≤ q ∧ q < b)) : (H.re V).K q = H.K q := by unfold AuH.K; rw [R.out q hq h]
theorem ln (R : H.Recut V a b) {q : Nat} (hq : q < H.p) (h : ¬ (a ≤ q ∧ q < b)) : (H.re V).ln q = H.ln q := by unfold AuH.ln AuH.L; rw [R.out q hq h]
theorem Cl (R : H.Recut V a b) {q : Nat} (hq : q < H.p) (h : ¬ (a ≤ q ∧ q < b)) : (H.re V).Cl q = H.Cl q := by unfold AuH.Cl; rw [R.out q hq h]
theorem nx (R : H.Recut V a b) {q : Nat} (hq : q < H.p) (h : ¬ (a ≤ q ∧ q < b)) : (H.re V).nx q = H.nx q := by unfold AuH.nx; rw [R.ln hq h]
theorem ahead (R : H.Recut V a b) (h : H.Spans) {q : Nat} (hq : q < a) (hk : H.K q ≠ 0) : H.nx q ≤ a := h.ahead R.whole.first hq (by have := R.whole.lt; have := R.whole.le; omega) hk
theorem spans (R : H.Recut V a b) (h : H.Spans) : (H.re V).Spans := by
  have w := R.whole
  have hlt := w.lt
  have hle := w.le
  refine ⟨h.pos, ?_, fun q hq hk => ?_, fun q hq hk hn => ?_, fun q r hq hk h1 h2 => ?_, fun q hq hk => ?_⟩
  · by_cases h0 : a ≤ 0 ∧ 0 < b
    · have : a = 0 := by omega
      subst this
      exact R.first
    · rw [R.K h.pos h0]; exact h.zero
  · by_cases hi : a ≤ q ∧ q < b
    · have := R.fit q hi.1 hi.2 hk
      show (H.re V).nx q ≤ H.p
      omega
    · have hq : q < H.p := hq
      rw [R.K hq hi] at hk
      rw [R.nx hq hi]
      exact h.fit q hq hk
  · have hn : (H.re V).nx q < H.p := hn
    have hq : q < H.p := hq
    by_cases hi : a ≤ q ∧ q < b
    · have h1 := R.fit q hi.1 hi.2 hk
      rcases Nat.eq_or_lt_of_le h1 with h2 | h2
      · rw [h2] at hn ⊢
        rw [R.K hn (by omega)]
        exact w.last hn
      · exact R.next q hi.1 hi.2 hk h2
    · rw [R.K hq hi] at hk
      rw [R.nx hq hi] at hn ⊢
      by_cases hj : a ≤ H.nx q ∧ H.nx q < b
      · rcases Nat.lt_or_ge q a with h2 | h2
        · have := R.ahead h h2 hk
          have : H.nx q = a := by omega
          rw [this]
          exact R.first
        · have := (H.nx_gt (h.can hq hk)).1
          omega
      · rw [R.K hn hj]
        exact h.next q hq hk hn
  · have hq : q < H.p := hq
    by_cases hi : a ≤ q ∧ q < b
    · exact R.inside q r hi.1 hi.2 hk h1 h2
    · rw [R.K hq hi] at hk
      rw [R.nx hq hi] at h2
      have hfit := h.fit q hq hk
      have hj : ¬ (a ≤ r ∧ r < b) := by
        rintro ⟨j1, j2⟩
        rcases Nat.lt_or_ge q a with h3 | h3
        · have := R.ahead h h3 hk; omega
        · omega
      rw [R.out r (by omega) hj]
      exact h.inside q r hq hk h1 h2
  · have hq : q < H.p := hq
    by_cases hi : a ≤ q ∧ q < b
    · exact R.none q hi.1 hi.2 hk
    · rw [R.K hq hi] at hk
      rw [R.out q hq hi]
      exact h.none q hq hk
theorem feet (R : H.Recut V a b) (h : H.Spans) (hf : H.R3) (ho : ∀ q, q < H.p → ¬ (a ≤ q ∧ q < b) → (H.re V).cel q 1 = H.cel q 1) (hi : ∀ q, a ≤ q → q < b → (H.re V).K q ≠ 0 → (H.re V).Foot q) : (H.re V).R3 := fun q hq hk => by
  have hq : q < H.p := hq
  have hlt := R.whole.lt
  by_cases hin : a ≤ q ∧ q < b
  · exact hi q hin.1 hin.2 hk
  · rw [R.K hq hin] at hk
    obtain ⟨f1, f2⟩ := hf q hq hk
    have hfit := h.fit q hq hk
    have hpos := H.ln_pos q hk
    have hnx : H.nx q = q + H.ln q := rfl
    have hout : ∀ r, q ≤ r → r < q + H.ln q → ¬ (a ≤ r ∧ r < b) := fun r h1 h2 => by
      rintro ⟨j1, j2⟩
      rcases Nat.lt_or_ge q a with h3 | h3
      · have := R.ahead h h3 hk; omega
      · omega
    unfold Foot
    rw [R.ln hq hin]
    refine ⟨fun r h1 h2 => ?_, ?_⟩
    · rw [ho r (by omega) (hout r h1 (by omega))]
      exact f1 r h1 h2
    · rw [ho _ (by omega) (hout _ (by omega) (by omega))]
      exact f2
theorem apart (R : H.Recut V a b) (h : H.Spans) (ha : ∀ q, q < H.p → H.K q = 1 → H.nx q < H.p → H.K (H.nx q) ≠ 1)
    (h1 : ∀ q, q < a → H.K q = 1 → H.nx q = a → (H.re V).K a ≠ 1) (h2 : ∀ q, a ≤ q → q < b → (H.re V).K q = 1 → (H.re V).nx q < b → (H.re V).K ((H.re V).nx q) ≠ 1)
    (h3 : ∀ q, a ≤ q → q < b → (H.re V).K q = 1 → (H.re V).nx q = b → b < H.p → H.K b ≠ 1) : ∀ q, q < H.p → (H.re V).K q = 1 → (H.re V).nx q < H.p → (H.re V).K ((H.re V).nx q) ≠ 1 := fun q hq hk hn => by
  have hlt := R.whole.lt
  by_cases hi : a ≤ q ∧ q < b
  · have hfit := R.fit q hi.1 hi.2 (by omega)
    rcases Nat.eq_or_lt_of_le hfit with h4 | h4
    · rw [h4] at hn ⊢
      rw [R.K hn (by omega)]
      exact h3 q hi.1 hi.2 hk h4 hn
    · exact h2 q hi.1 hi.2 hk h4
  · rw [R.K hq hi] at hk
    rw [R.nx hq hi] at hn ⊢
    by_cases hj : a ≤ H.nx q ∧ H.nx q < b
    · rcases Nat.lt_or_ge q a with h5 | h5
      · have := R.ahead h h5 (by omega)
        have e : H.nx q = a := by omega
        rw [e]
        exact h1 q h5 hk e
      · have := (H.nx_gt (h.can hq (by omega))).1
        omega
    · rw [R.K hn hj]
      exact ha q hq hk hn
end Recut

theorem sumTo_split (f : Nat → Nat) (a : Nat) : ∀ m, sumTo f (a + m) = sumTo f a + sumTo (fun i => f (a + i)) m
  | 0 => by simp [sumTo]
  | m + 1 => by
    show sumTo f (a + m) + f (a + m) = sumTo f a + (sumTo (fun i => f (a + i)) m + f (a + m))
    rw [sumTo_split f a m]
    omega
theorem sumTo_recut {f g : Nat → Nat} {a m p : Nat} (h : a + m ≤ p) (ho : ∀ q, q < p → ¬ (a ≤ q ∧ q < a + m) → g q = f q) :
    sumTo g p + sumTo (fun i => f (a + i)) m = sumTo f p + sumTo (fun i => g (a + i)) m := by
  obtain ⟨r, rfl⟩ : ∃ r, p = a + m + r := ⟨p - (a + m), by omega⟩
  rw [sumTo_split g (a + m) r, sumTo_split f (a + m) r, sumTo_split g a m, sumTo_split f a m]
  rw [sumTo_congr (f := g) (g := f) a (fun q hq => ho q (by omega) (by omega)), sumTo_congr (f := fun i => g (a + m + i)) (g := fun i => f (a + m + i)) r (fun q hq => ho _ (by omega) (by omega))]
  omega
theorem sumTo_first {f : Nat → Nat} {m : Nat} (hm : 0 < m) (h : ∀ i, 0 < i → i < m → f i = 0) : sumTo f m = f 0 := by
  obtain ⟨r, rfl⟩ : ∃ r, m = 1 + r := ⟨m - 1, by omega⟩
  rw [sumTo_split f 1 r, sumTo_congr (f := fun i => f (1 + i)) (g := fun _ => 0) r (fun q hq => h _ (by omega) (by omega)), sumTo_zero]
  simp [sumTo]
theorem sumTo_pair {f : Nat → Nat} {k m : Nat} (hk : 0 < k) (hm : k < m) (h : ∀ i, 0 < i → i < m → i ≠ k → f i = 0) : sumTo f m = f 0 + f k := by
  obtain ⟨r, rfl⟩ : ∃ r, m = k + r := ⟨m - k, by omega⟩
  rw [sumTo_split f k r, sumTo_first hk (fun i h1 h2 => h i h1 (by omega) (by omega)), sumTo_first (f := fun i => f (k + i)) (by omega) (fun i h1 h2 => h _ (by omega) (by omega) (by omega))]
  rfl
end AuH
end
section
def inH (t p : Nat) : Int := ((30 + 4 * t + 6 * p : Nat) : Int)
structure Looked (n : Nat) (K : Nat → Option Nat) (st st' : Vst) : Prop where
  vw : VW n K st'
  val : getV n K st' = getV n K st
  wr : st'.wr = st.wr
section
variable {n : Nat} {K : Nat → Option Nat} {st st' st'' : Vst} {t P s : Nat} {nn : Int}
theorem Looked.refl (h : VW n K st) : Looked n K st st := ⟨h, rfl, rfl⟩
theorem Looked.get (h : Looked n K st st') (c : Int) : Looked n K st (getS n K st' c) := ⟨(h.vw.get c).1, (h.vw.get c).2.trans h.val, (get_len n K st' c).2.trans h.wr⟩
theorem Fit.inf (h : Fit t P s n) {p : Nat} (hp : p < P) : pageI (t : Int) (P : Int) (s : Int) (p : Int) 0 = inH t p := by
  rw [pcell_yes h.right (by omega) (by omega) (by omega) (by omega)]
  unfold inH
  push_cast
  omega
theorem look_seg (h : Fit t P s n) : ∀ (l : List Nat) (m x a a' : Nat) (st' : Vst), Looked n K st st' → l.length ≤ m → Seg P (nxH t) (pvH t) (getV n K st) a x l a' 0 →
    (lookF n K t P s nn m x st').1 = l.find? (fun p => fitB nn (getV n K st (inH t p))) ∧ Looked n K st (lookF n K t P s nn m x st').2
  | [], m, x, a, a', st', hV, hm, hs => by
    have hx : x = 0 := hs.2
    subst hx
    rw [lookF_end n K t P s nn (by omega)]
    exact ⟨rfl, hV⟩
  | p :: r, m, x, a, a', st', hV, hm, hs => by
    obtain ⟨⟨rfl, hp, _⟩, hr⟩ := hs
    obtain ⟨m', rfl⟩ : ∃ m', m = m' + 1 := ⟨m - 1, by simp at hm; omega⟩
    have ec : (((p + 1 : Nat) : Int) - 1) = (p : Int) := by omega
    have e0 : pageI (t : Int) (P : Int) (s : Int) (((p + 1 : Nat) : Int) - 1) 0 = inH t p := by rw [ec, h.inf hp]
    have e2 : pageI (t : Int) (P : Int) (s : Int) (((p + 1 : Nat) : Int) - 1) 2 = nxH t p := by rw [ec, h.nx hp]
    have hv : getV n K st' (inH t p) = getV n K st (inH t p) := by rw [hV.val]
    cases hf : fitB nn (getV n K st (inH t p)) with
    | true =>
      rw [lookF_found n K t P s nn ⟨by omega, by omega⟩ (by rw [e0, hv]; exact hf), e0]
      refine ⟨?_, hV.get _⟩
      simp [List.find?, hf]
    | false =>
      rw [lookF_step n K t P s nn ⟨by omega, by omega⟩ (by rw [e0, hv]; exact hf), e0, e2]
      have hV1 := hV.get (inH t p)
      have hV2 := hV1.get (nxH t p)
      rw [show getV n K (getS n K st' (inH t p)) (nxH t p) = getV n K st (nxH t p) by rw [hV1.val]]
      obtain ⟨i1, i2⟩ := look_seg h r m' (getV n K st (nxH t p)) (p + 1) a' _ hV2 (by simp at hm; omega) hr
      refine ⟨?_, i2⟩
      rw [i1, List.find?_cons_of_neg (by rw [hf]; simp)]
theorem next_bins (L : Nat → List Nat) (hL : ∀ k, k < 11 → HasL t P (2 + k) n K st (L k)) : ∀ (j k : Nat) (st' : Vst), Looked n K st st' → k + j ≤ 11 →
    Looked n K st (nextF n K P j k st').2 ∧ (((nextF n K P j k st').1 = none ∧ ∀ i, k ≤ i → i < k + j → L i = []) ∨ ∃ p i r, (nextF n K P j k st').1 = some p ∧ k ≤ i ∧ i < k + j ∧ L i = p :: r)
  | 0, k, st', hV, hk => ⟨hV, .inl ⟨rfl, fun i h1 h2 => by omega⟩⟩
  | j + 1, k, st', hV, hk => by
    have hk' := hL k (by omega)
    have hv : getV n K st' ((2 + k : Nat) : Int) = getV n K st ((2 + k : Nat) : Int) := by rw [hV.val]
    obtain ⟨a, hs⟩ := hk'.seg
    have hf := hs.first
    rw [← hv] at hf
    cases hl : L k with
    | nil =>
      rw [hl] at hf
      have hf : getV n K st' ((2 + k : Nat) : Int) = 0 := hf
      rw [nextF_step n K P (by rw [hf]; omega)]
      obtain ⟨i1, i2⟩ := next_bins L hL j (k + 1) _ (hV.get _) (by omega)
      refine ⟨i1, ?_⟩
      rcases i2 with ⟨i2, i3⟩ | ⟨p, i, r, i2, i3, i4, i5⟩
      · refine .inl ⟨i2, fun i h1 h2 => ?_⟩
        rcases Nat.eq_or_lt_of_le h1 with h3 | h3
        · rw [← h3]; exact hl
        · exact i3 i h3 (by omega)
      · exact .inr ⟨p, i, r, i2, by omega, by omega, i5⟩
    | cons p r =>
      have hp := hk'.lt p (by rw [hl]; simp)
      rw [hl] at hf
      have hf : getV n K st' ((2 + k : Nat) : Int) = p + 1 := hf
      rw [nextF_found n K P (by rw [hf]; omega)]
      refine ⟨hV.get _, .inr ⟨p, k, r, ?_, by omega, by omega, hl⟩⟩
      show some _ = some p
      rw [hf]
      rfl
end

section
variable {H : AuH} {n c : Nat} {K : Nat → Option Nat}
theorem free_bin {p : Nat} (hk : H.K p = 1) : ∃ k : Nat, k ≤ 10 ∧ H.tgt p = ((2 + k : Nat) : Int) ∧ 2 ^ k ≤ H.ln p ∧ H.ln p < 2 ^ (k + 1) := by
  have h1 := H.ln_pos p (by omega)
  obtain ⟨k, e, hk10, ha, hb⟩ := ofI_nat h1.1 h1.2
  refine ⟨k, hk10, ?_, ha, hb⟩
  unfold ofI at e
  rw [if_neg (by omega)] at e
  rw [AuH.tgt_free hk, e]
  push_cast
  rfl
end
end
section
theorem infoG_free {m : Nat} (h1 : 1 ≤ m) (h2 : m ≤ 1024) : infoG (infoV 1 (m : Int) 0) = (1, (m : Int), 0, true) := infoG_put (infoB_yes (by unfold infoP; omega))
namespace AuH
variable {H : AuH} {V : Nat → Nat} {L L' : Nat → List Nat} {A k e : Nat}
theorem sum_free_le (h : H.Spans) (x : Nat) (hx : x ≤ H.p) (hk : x = H.p ∨ H.K x ≠ 0) : sumTo H.freeF x ≤ x := by
  have ha := h.reach x x (Nat.le_refl _) hx hk
  induction ha with
  | zero => exact Nat.le_refl _
  | step ha hc ih =>
    rename_i q
    have hcan := (H.can_iff q).1 hc
    have h1 := ih (by omega) (.inr hcan.2.1)
    have h2 := h.tiled.sum (f := H.freeF) ha hcan.1 (fun r hr hz => by unfold freeF; rw [if_neg (by omega)])
    have h3 : H.freeF q ≤ H.ln q := by unfold freeF; split <;> omega
    have h4 : H.nx q = q + H.ln q := rfl
    omega
end AuH
end
section
namespace AuH
variable {H : AuH} {V : Nat → Nat} {L L' : Nat → List Nat} {A k e n c : Nat}
theorem catTo_split {α : Type} (f : Nat → List α) (a : Nat) : ∀ m, catTo f (a + m) = catTo f a ++ catTo (fun i => f (a + i)) m
  | 0 => by simp [catTo]
  | m + 1 => by
    show catTo f (a + m) ++ f (a + m) = catTo f a ++ (catTo (fun i => f (a + i)) m ++ f (a + m))
    rw [catTo_split f a m, List.append_assoc]
theorem catTo_congr {α : Type} {f g : Nat → List α} : ∀ m, (∀ i, i < m → f i = g i) → catTo f m = catTo g m
  | 0, _ => rfl
  | m + 1, h => by
    show catTo f m ++ f m = catTo g m ++ g m
    rw [catTo_congr m (fun i hi => h i (by omega)), h m (by omega)]
end AuH
end
end Go.Proofs.YtioolaaphbddbaaGreatDoor
