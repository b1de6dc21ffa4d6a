/-
  What span's Take, Shrink and Grow do. Written by span/gen_take.py.
-/
import Derived.Test.YtnamlhkccgnbfaaGreatJSpanRelease
import Derived.Test.YtnamlhkccgnbfaaGreatJ05
import Derived.Test.YtnamlhkccgnbfaaGreatJ12
import Derived.Test.YtnamlhkccgnbfaaGreatJ03
import Derived.Test.YtnamlhkccgnbfaaGreatJ06
namespace Go.Proofs.YtnamlhkccgnbfaaGreat
open Go.ChangeShapes Go.WideShapes Go.ChangeAt Go.RowKit Go.Maps
set_option linter.unusedVariables false
set_option linter.unusedSimpArgs false
set_option maxRecDepth 100000
section
section
variable {base b n : Nat} {wh all : Bool} {K : Nat → Option Nat} {st : Vst} {w w0 : World} {A G : Nat → Prop} {t q s : Int}

theorem spRelease_i (hn : n < 2 ^ 40) (hq : q ≤ 1024) (P M : Int) (p m : Nat) (eP : P = (p : Int)) (eM : M = (m : Int)) (hp : p ≤ 1024) (hm : m ≤ 1024) (h : (vOb base b n wh K).At w0 A G st w) :
    Calls Tryz.prog 57 #[.agg #[.pointer (some ⟨b, 0, none⟩), .int .i64 t, .int .i64 q, .int .i64 s], .agg #[.int .i64 P, .int .i64 M]] w fun e w' => e = .returned (.tuple #[]) ∧ (vOb base b n wh K).At w0 A G (releaseS n K t q s p m st) w' ∧ Stay G w w' := by
  subst eP eM
  exact spRelease_c hn hq p m hp hm h
theorem sub32_flip (a : Nat) (x y : Int) : sub32 a (x - y) = add32 a (y - x) := by
  rw [← add32_neg, show -(x - y) = y - x by omega]
theorem addS_none {p : Int} {l : Int} (h : l < 1) : addS n K t q s p l st = st := addS_no (fun hx => by omega)

theorem lookF_lt {nn : Int} {st : Vst} : ∀ (k l : Nat) (st : Vst) {p : Nat}, (lookF n K t q s nn k l st).1 = some p → (p : Int) < q
  | 0, l, st, p, h => by rw [lookF] at h; cases h
  | k + 1, l, st, p, h => by
    rw [lookF] at h
    by_cases h1 : 1 ≤ l ∧ (l : Int) ≤ q
    · rw [if_pos h1] at h
      by_cases h2 : fitB nn (getV n K st (pageI t q s ((l : Int) - 1) 0)) = true
      · rw [if_pos h2] at h
        injection h with h
        omega
      · rw [if_neg h2] at h
        exact lookF_lt (st := st) k _ _ h
    · rw [if_neg h1] at h
      cases h
theorem nextF_lt : ∀ (j k : Nat) (st : Vst) {p : Nat}, (nextF n K q j k st).1 = some p → (p : Int) < q
  | 0, k, st, p, h => by rw [nextF] at h; cases h
  | j + 1, k, st, p, h => by
    rw [nextF] at h
    by_cases h1 : 1 ≤ getV n K st ((2 + k : Nat) : Int) ∧ ((getV n K st ((2 + k : Nat) : Int) : Nat) : Int) ≤ q
    · rw [if_pos h1] at h
      injection h with h
      omega
    · rw [if_neg h1] at h
      exact nextF_lt j _ _ h
theorem findI_lt {nn : Int} {st s1 : Vst} {p : Nat} (h : findI n K t q s nn st = (some p, s1)) : (p : Int) < q ∧ 1 ≤ nn ∧ nn ≤ q := by
  by_cases h1 : 1 ≤ nn ∧ nn ≤ q
  · refine ⟨?_, h1⟩
    unfold findI at h
    rw [if_pos h1] at h
    unfold findF at h
    simp only at h
    cases hl : (lookF n K t q s nn q.toNat (getV n K st ((2 + (ofI nn).toNat : Nat) : Int)) (getS n K st ((2 + (ofI nn).toNat : Nat) : Int))).1 with
    | some x =>
      rw [hl] at h
      injection h with h _
      injection h with h
      subst h
      exact lookF_lt (st := st) _ _ _ hl
    | none =>
      rw [hl] at h
      exact nextF_lt _ _ _ (congrArg Prod.fst h)
  · rw [findI_no h1] at h
    injection h with h _
    cases h
theorem takeI_none {nn : Int} {st s1 : Vst} (h : findI n K t q s nn st = (none, s1)) : takeI n K t q s nn st = (none, s1) := by
  unfold takeI
  rw [h]
theorem takeI_some {m p : Nat} {st s1 : Vst} (h : findI n K t q s (m : Int) st = (some p, s1)) : takeI n K t q s (m : Int) st = (some p, takeS n K t q s p m s1) := by
  unfold takeI
  rw [h]
  simp
theorem lessS_eq {x : Nat} {z : Int} {st : Vst} (h : (x : Int) = z) : lessS n K x st = putS n (getS n K st 0) 0 (sub32 (getV n K st 0) z) := by
  subst h
  rfl
theorem restS_yes {p m : Nat} {l : Int} {st : Vst} (h : (m : Int) < l) : restS n K t q s p m l st = addS n K t q s ((p : Int) + (m : Int)) (l - (m : Int)) st := by unfold restS; rw [if_pos h]
theorem restS_no {p m : Nat} {l : Int} {st : Vst} (h : ¬ (m : Int) < l) : restS n K t q s p m l st = st := by unfold restS; rw [if_neg h]
theorem getV_again {a : Int} {st : Vst} (h : getV n K st a ≠ 0) : getV n K (getS n K st a) a = getV n K st a := by
  unfold getV getS at *
  by_cases ho : opn n st a
  · rw [if_pos ho] at h ⊢
    rw [if_pos ho]
    cases hp : pos st.wr a.toNat with
    | some k => simp only [hp]; rw [if_pos ho]
    | none =>
      rw [hp] at h
      simp only at h ⊢
      cases hk : K a.toNat with
      | some v =>
        simp only
        have hw : (noteS st a.toNat).wr = st.wr := by unfold noteS; split <;> rfl
        have hl : opn n (noteS st a.toNat) a = opn n st a := by unfold opn noteS; split <;> rfl
        rw [hl, if_pos ho, hw, hp]
      | none =>
        rw [hk] at h
        exact absurd rfl h
  · rw [if_neg ho] at h
    exact absurd rfl h
theorem drop_again {a : Int} {st : Vst} {l c : Int} {ok : Bool} (hp : pgB q a = true) (hi : infoOf n K t q s a st = (1, l, c, ok)) : dropV n K t q s a (getS n K st (pageI t q s a 0)) = l := by
  unfold dropV infoOf at *
  rw [if_pos hp, getV_again (fun h0 => by
    rw [h0] at hi
    have : infoG 0 = (0, 0, 0, true) := by decide
    rw [this] at hi
    cases hi), hi]
  rfl
theorem growB_end {p l : Nat} {m : Int} {st : Vst} (h : ¬ ((p : Int) + (l : Int)) < q) : growB n K t q s p l m st = false ∧ growS n K t q s p l m st = st := by
  have h2 : ¬ (((p + l : Nat) : Int) < q) := by rw [Int.natCast_add]; exact h
  refine ⟨?_, ?_⟩
  · unfold growB
    rw [decide_eq_false h2]
    rfl
  · unfold growS
    simp only
    rw [if_neg h2]
theorem growB_is {p l : Nat} {m : Int} {st : Vst} {k1 l1 c1 : Int} {o1 : Bool} (h : ((p : Int) + (l : Int)) < q) (hi : infoOf n K t q s ((p : Int) + (l : Int)) st = (k1, l1, c1, o1)) : growB n K t q s p l m st = (decide (k1 = 1) && decide (m - (l : Int) ≤ l1)) := by
  unfold growB
  rw [Int.natCast_add, hi, decide_eq_true h]
  simp
theorem growS_no {p l : Nat} {m : Int} {st : Vst} (h : ((p : Int) + (l : Int)) < q) (hb : growB n K t q s p l m st = false) : growS n K t q s p l m st = getS n K st (pageI t q s ((p : Int) + (l : Int)) 0) := by
  unfold growS
  simp only
  rw [if_pos (by rw [Int.natCast_add]; exact h), if_neg (by rw [hb]; simp), Int.natCast_add]
theorem growS_yes {p l : Nat} {m : Nat} {st : Vst} {l1 c1 : Int} {o1 : Bool} (h : ((p : Int) + (l : Int)) < q) (hlm : l ≤ m) (hi : infoOf n K t q s ((p : Int) + (l : Int)) st = (1, l1, c1, o1)) (hb : growB n K t q s p l (m : Int) st = true) :
    growS n K t q s p l (m : Int) st = putS n (getS n K (restS n K t q s p m ((l : Int) + l1) (usedS n t q s p m (putS n (putS n (dropS n K t q s ((p : Int) + (l : Int)) (getS n K st (pageI t q s ((p : Int) + (l : Int)) 0))) (pageI t q s ((p : Int) + (l : Int)) 0) 0) (pageI t q s ((p : Int) + (l : Int) - 1) 1) 0))) 0) 0
      (sub32 (getV n K (restS n K t q s p m ((l : Int) + l1) (usedS n t q s p m (putS n (putS n (dropS n K t q s ((p : Int) + (l : Int)) (getS n K st (pageI t q s ((p : Int) + (l : Int)) 0))) (pageI t q s ((p : Int) + (l : Int)) 0) 0) (pageI t q s ((p : Int) + (l : Int) - 1) 1) 0))) 0) ((m : Int) - (l : Int))) := by
  unfold growS
  simp only
  rw [if_pos (by rw [Int.natCast_add]; exact h), if_pos hb, Int.natCast_add, hi, Int.toNat_natCast]
  exact lessS_eq (by omega)

theorem WL.h3 {O : Ob} {w0 ws w : World} {A G : Nat → Prop} {L : List Blk} {x y z u : Blk} {st : Vst} (h : WL O w0 A G ws (x :: y :: z :: u :: L) st w) : Held w u.n u.t u.cs := h.held u (by simp)
theorem WL.h4 {O : Ob} {w0 ws w : World} {A G : Nat → Prop} {L : List Blk} {x y z u v : Blk} {st : Vst} (h : WL O w0 A G ws (x :: y :: z :: u :: v :: L) st w) : Held w v.n v.t v.cs := h.held v (by simp)
theorem WL.h5 {O : Ob} {w0 ws w : World} {A G : Nat → Prop} {L : List Blk} {x y z u v r : Blk} {st : Vst} (h : WL O w0 A G ws (x :: y :: z :: u :: v :: r :: L) st w) : Held w r.n r.t r.cs := h.held r (by simp)

set_option maxHeartbeats 6400000 in
theorem snTake_none (hn : n < 2 ^ 40) (hq : q ≤ 1024) (nn : Int) (s1 : Vst) (hf : findI n K t q s nn st = (none, s1)) (h : (vOb base b n wh K).At w0 A G st w) :
    Calls Tryz.prog 12 #[.pointer (some ⟨b, 0, none⟩), .agg #[.int .i64 t, .int .i64 q, .int .i64 s], .int .i64 nn] w fun e w' => e = .returned (.tuple #[.int .i64 0, .bool false]) ∧ (vOb base b n wh K).At w0 A G (s1) w' ∧ Stay G w w' := by
  have W0 := hidp ((WL.start h).new 23 #[.int .i64 t, .int .i64 q, .int .i64 s])
  have hq2 : q ≤ 2147483648 := by omega
  have HFO := hidp hf
  clear h hf
  go_enter Tryz.func12, Tryz.ntmps12
  obtain ⟨x0, x1, x2⟩ := W0.out.h0.three
  go_wp2_with fail
  refine (bnFind_c hn hq nn W0.out.at_).mono ?_; rintro e w1 ⟨rfl, h1, h2⟩; have W1 := hidp (W0.out.call h1 h2); clear h1 h2 W0; rw [HFO.out] at W1 ⊢; dsimp only [foundI, Option.isSome] at W1 ⊢
  obtain ⟨x0, x1, x2⟩ := W1.out.h0.three
  go_wp2
  go_ret2
  exact ⟨rfl, W1.out.fin⟩

set_option maxHeartbeats 6400000 in
theorem snTake_more (hn : n < 2 ^ 40) (hq : q ≤ 1024) (p m : Nat) (hp : p ≤ 1024) (hm : m ≤ 1024) (l : Int) (hl0 : 0 ≤ l) (hl1 : l ≤ 1024) (s1 : Vst) (hf : findI n K t q s (m : Int) st = (some p, s1)) (hd : dropV n K t q s (p : Int) s1 = l) (hml : (m : Int) < l) (h : (vOb base b n wh K).At w0 A G st w) :
    Calls Tryz.prog 12 #[.pointer (some ⟨b, 0, none⟩), .agg #[.int .i64 t, .int .i64 q, .int .i64 s], .int .i64 (m : Int)] w fun e w' => e = .returned (.tuple #[.int .i64 (p : Int), .bool true]) ∧ (vOb base b n wh K).At w0 A G (putS n (getS n K (addS n K t q s ((p : Int) + (m : Int)) (l - (m : Int)) (usedS n t q s p m (dropS n K t q s (p : Int) s1))) 0) 0 (sub32 (getV n K (addS n K t q s ((p : Int) + (m : Int)) (l - (m : Int)) (usedS n t q s p m (dropS n K t q s (p : Int) s1))) 0) (m : Int))) w' ∧ Stay G w w' := by
  have W0 := hidp ((WL.start h).new 23 #[.int .i64 t, .int .i64 q, .int .i64 s])
  have hq2 : q ≤ 2147483648 := by omega
  have HFO := hidp hf
  have HDV := hidp hd
  have v4 : IntKind.i64.wrap ((p : Int) + (m : Int)) = ((p : Int) + (m : Int)) := i64_same (by omega) (by omega)
  have v6 : IntKind.i64.wrap (l - (m : Int)) = (l - (m : Int)) := i64_same (by omega) (by omega)
  have v7 : IntKind.i64.wrap (-(m : Int)) = (-(m : Int)) := i64_same (by omega) (by omega)
  have HSB : Hid (sub32 (getV n K (addS n K t q s ((p : Int) + (m : Int)) (l - (m : Int)) (usedS n t q s p m (dropS n K t q s (p : Int) s1))) 0) (m : Int) = add32 (getV n K (addS n K t q s ((p : Int) + (m : Int)) (l - (m : Int)) (usedS n t q s p m (dropS n K t q s (p : Int) s1))) 0) (-(m : Int))) := hidp (add32_neg _ _).symm
  clear h hf hd
  go_enter Tryz.func12, Tryz.ntmps12
  obtain ⟨x0, x1, x2⟩ := W0.out.h0.three
  go_wp2_with fail
  refine (bnFind_c hn hq (m : Int) W0.out.at_).mono ?_; rintro e w1 ⟨rfl, h1, h2⟩; have W1 := hidp (W0.out.call h1 h2); clear h1 h2 W0; rw [HFO.out] at W1 ⊢; dsimp only [foundI, Option.isSome] at W1 ⊢
  obtain ⟨x0, x1, x2⟩ := W1.out.h0.three
  generalize hNP : w1.heap.size = NP at *
  replace W1 := hidp (W1.out.new 78 #[.pointer (some ⟨b, 0, none⟩), .int .i64 t, .int .i64 q, .int .i64 s])
  rw [hNP] at W1
  obtain ⟨g0, g1, g2, g3⟩ := W1.out.h0.four
  obtain ⟨x0, x1, x2⟩ := W1.out.h1.three
  go_wp2_with fail
  refine (bnDrop_c hn hq2 (p : Int) W1.out.at_).mono ?_; rintro e w2 ⟨rfl, h1, h2⟩; have W2 := hidp (W1.out.call h1 h2); clear h1 h2 W1; rw [HDV.out]
  obtain ⟨g0, g1, g2, g3⟩ := W2.out.h0.four
  obtain ⟨x0, x1, x2⟩ := W2.out.h1.three
  go_wp2_with fail
  refine (spCut_c (p : Int) l (m : Int) v4 v6 _).mono ?_; rintro e w3 ⟨rfl, hb⟩; have W3 := hidp (W2.out.keep hb); clear hb W2
  generalize hNA : w3.heap.size = NA at *
  replace W3 := hidp ((W3.out.new 79 #[.int .i64 (p : Int), .int .i64 (m : Int)]).new 79 #[.int .i64 ((p : Int) + (m : Int)), .int .i64 (l - (m : Int))])
  rw [World.size_alloc, hNA] at W3
  obtain ⟨c0, c1⟩ := W3.out.h0.two
  obtain ⟨a0, a1⟩ := W3.out.h1.two
  obtain ⟨g0, g1, g2, g3⟩ := W3.out.h2.four
  obtain ⟨x0, x1, x2⟩ := W3.out.h3.three
  go_wp2_with fail
  refine (spUse_c hn p m (by omega) (by omega) W3.out.at_).mono ?_; rintro e w4 ⟨rfl, h1, h2⟩; have W4 := hidp (W3.out.call h1 h2); clear h1 h2 W3
  obtain ⟨c0, c1⟩ := W4.out.h0.two
  obtain ⟨a0, a1⟩ := W4.out.h1.two
  obtain ⟨g0, g1, g2, g3⟩ := W4.out.h2.four
  obtain ⟨x0, x1, x2⟩ := W4.out.h3.three
  go_wp2_with fail
  refine (spFree_c hn hq2 ((p : Int) + (m : Int)) (l - (m : Int)) W4.out.at_).mono ?_; rintro e w5 ⟨rfl, h1, h2⟩; have W5 := hidp (W4.out.call h1 h2); clear h1 h2 W4
  obtain ⟨c0, c1⟩ := W5.out.h0.two
  obtain ⟨a0, a1⟩ := W5.out.h1.two
  obtain ⟨g0, g1, g2, g3⟩ := W5.out.h2.four
  obtain ⟨x0, x1, x2⟩ := W5.out.h3.three
  go_wp2_with fail
  refine (spCount_c hn (-(m : Int)) W5.out.at_).mono ?_; rintro e w6 ⟨rfl, h1, h2⟩; have W6 := hidp (W5.out.call h1 h2); clear h1 h2 W5
  obtain ⟨c0, c1⟩ := W6.out.h0.two
  obtain ⟨a0, a1⟩ := W6.out.h1.two
  obtain ⟨g0, g1, g2, g3⟩ := W6.out.h2.four
  obtain ⟨x0, x1, x2⟩ := W6.out.h3.three
  go_wp2
  go_ret2
  exact ⟨rfl, by rw [HSB.out]; exact W6.out.fin.1, W6.out.fin.2⟩

set_option maxHeartbeats 6400000 in
theorem snTake_all (hn : n < 2 ^ 40) (hq : q ≤ 1024) (p m : Nat) (hp : p ≤ 1024) (hm : m ≤ 1024) (l : Int) (hl0 : 0 ≤ l) (hl1 : l ≤ 1024) (s1 : Vst) (hf : findI n K t q s (m : Int) st = (some p, s1)) (hd : dropV n K t q s (p : Int) s1 = l) (hml : ¬ (m : Int) < l) (h : (vOb base b n wh K).At w0 A G st w) :
    Calls Tryz.prog 12 #[.pointer (some ⟨b, 0, none⟩), .agg #[.int .i64 t, .int .i64 q, .int .i64 s], .int .i64 (m : Int)] w fun e w' => e = .returned (.tuple #[.int .i64 (p : Int), .bool true]) ∧ (vOb base b n wh K).At w0 A G (putS n (getS n K (usedS n t q s p m (dropS n K t q s (p : Int) s1)) 0) 0 (sub32 (getV n K (usedS n t q s p m (dropS n K t q s (p : Int) s1)) 0) (m : Int))) w' ∧ Stay G w w' := by
  have W0 := hidp ((WL.start h).new 23 #[.int .i64 t, .int .i64 q, .int .i64 s])
  have hq2 : q ≤ 2147483648 := by omega
  have HFO := hidp hf
  have HDV := hidp hd
  have v4 : IntKind.i64.wrap ((p : Int) + (m : Int)) = ((p : Int) + (m : Int)) := i64_same (by omega) (by omega)
  have v6 : IntKind.i64.wrap (l - (m : Int)) = (l - (m : Int)) := i64_same (by omega) (by omega)
  have v7 : IntKind.i64.wrap (-(m : Int)) = (-(m : Int)) := i64_same (by omega) (by omega)
  have HSB : Hid (sub32 (getV n K (usedS n t q s p m (dropS n K t q s (p : Int) s1)) 0) (m : Int) = add32 (getV n K (usedS n t q s p m (dropS n K t q s (p : Int) s1)) 0) (-(m : Int))) := hidp (add32_neg _ _).symm
  have HNO : Hid (addS n K t q s ((p : Int) + (m : Int)) (l - (m : Int)) (usedS n t q s p m (dropS n K t q s (p : Int) s1)) = usedS n t q s p m (dropS n K t q s (p : Int) s1)) := hidp (addS_none (by omega))
  clear h hf hd
  go_enter Tryz.func12, Tryz.ntmps12
  obtain ⟨x0, x1, x2⟩ := W0.out.h0.three
  go_wp2_with fail
  refine (bnFind_c hn hq (m : Int) W0.out.at_).mono ?_; rintro e w1 ⟨rfl, h1, h2⟩; have W1 := hidp (W0.out.call h1 h2); clear h1 h2 W0; rw [HFO.out] at W1 ⊢; dsimp only [foundI, Option.isSome] at W1 ⊢
  obtain ⟨x0, x1, x2⟩ := W1.out.h0.three
  generalize hNP : w1.heap.size = NP at *
  replace W1 := hidp (W1.out.new 78 #[.pointer (some ⟨b, 0, none⟩), .int .i64 t, .int .i64 q, .int .i64 s])
  rw [hNP] at W1
  obtain ⟨g0, g1, g2, g3⟩ := W1.out.h0.four
  obtain ⟨x0, x1, x2⟩ := W1.out.h1.three
  go_wp2_with fail
  refine (bnDrop_c hn hq2 (p : Int) W1.out.at_).mono ?_; rintro e w2 ⟨rfl, h1, h2⟩; have W2 := hidp (W1.out.call h1 h2); clear h1 h2 W1; rw [HDV.out]
  obtain ⟨g0, g1, g2, g3⟩ := W2.out.h0.four
  obtain ⟨x0, x1, x2⟩ := W2.out.h1.three
  go_wp2_with fail
  refine (spCut_c (p : Int) l (m : Int) v4 v6 _).mono ?_; rintro e w3 ⟨rfl, hb⟩; have W3 := hidp (W2.out.keep hb); clear hb W2
  generalize hNA : w3.heap.size = NA at *
  replace W3 := hidp ((W3.out.new 79 #[.int .i64 (p : Int), .int .i64 (m : Int)]).new 79 #[.int .i64 ((p : Int) + (m : Int)), .int .i64 (l - (m : Int))])
  rw [World.size_alloc, hNA] at W3
  obtain ⟨c0, c1⟩ := W3.out.h0.two
  obtain ⟨a0, a1⟩ := W3.out.h1.two
  obtain ⟨g0, g1, g2, g3⟩ := W3.out.h2.four
  obtain ⟨x0, x1, x2⟩ := W3.out.h3.three
  go_wp2_with fail
  refine (spUse_c hn p m (by omega) (by omega) W3.out.at_).mono ?_; rintro e w4 ⟨rfl, h1, h2⟩; have W4 := hidp (W3.out.call h1 h2); clear h1 h2 W3
  obtain ⟨c0, c1⟩ := W4.out.h0.two
  obtain ⟨a0, a1⟩ := W4.out.h1.two
  obtain ⟨g0, g1, g2, g3⟩ := W4.out.h2.four
  obtain ⟨x0, x1, x2⟩ := W4.out.h3.three
  go_wp2_with fail
  refine (spFree_c hn hq2 ((p : Int) + (m : Int)) (l - (m : Int)) W4.out.at_).mono ?_; rintro e w5 ⟨rfl, h1, h2⟩; have W5 := hidp (W4.out.call h1 h2); clear h1 h2 W4; rw [HNO.out] at W5
  obtain ⟨c0, c1⟩ := W5.out.h0.two
  obtain ⟨a0, a1⟩ := W5.out.h1.two
  obtain ⟨g0, g1, g2, g3⟩ := W5.out.h2.four
  obtain ⟨x0, x1, x2⟩ := W5.out.h3.three
  go_wp2_with fail
  refine (spCount_c hn (-(m : Int)) W5.out.at_).mono ?_; rintro e w6 ⟨rfl, h1, h2⟩; have W6 := hidp (W5.out.call h1 h2); clear h1 h2 W5
  obtain ⟨c0, c1⟩ := W6.out.h0.two
  obtain ⟨a0, a1⟩ := W6.out.h1.two
  obtain ⟨g0, g1, g2, g3⟩ := W6.out.h2.four
  obtain ⟨x0, x1, x2⟩ := W6.out.h3.three
  go_wp2
  go_ret2
  exact ⟨rfl, by rw [HSB.out]; exact W6.out.fin.1, W6.out.fin.2⟩

set_option maxHeartbeats 6400000 in
theorem snShrink_c (hn : n < 2 ^ 40) (hq : q ≤ 1024) (p l m : Nat) (hp : p + l ≤ 1024) (hm : m ≤ l) (h : (vOb base b n wh K).At w0 A G st w) :
    Calls Tryz.prog 19 #[.pointer (some ⟨b, 0, none⟩), .agg #[.int .i64 t, .int .i64 q, .int .i64 s], .int .i64 (p : Int), .int .i64 (l : Int), .int .i64 (m : Int)] w fun e w' => e = .returned (.tuple #[]) ∧ (vOb base b n wh K).At w0 A G (shrinkS n K t q s p l m st) w' ∧ Stay G w w' := by
  have W0 := hidp (((WL.start h).new 23 #[.int .i64 t, .int .i64 q, .int .i64 s]).new 78 #[.pointer (some ⟨b, 0, none⟩), .int .i64 t, .int .i64 q, .int .i64 s])
  simp only [World.size_alloc] at W0
  have hq2 : q ≤ 2147483648 := by omega
  have v4 : IntKind.i64.wrap ((p : Int) + (m : Int)) = ((p : Int) + (m : Int)) := i64_same (by omega) (by omega)
  have v6 : IntKind.i64.wrap ((l : Int) - (m : Int)) = ((l : Int) - (m : Int)) := i64_same (by omega) (by omega)
  clear h 
  go_enter Tryz.func19, Tryz.ntmps19
  obtain ⟨g0, g1, g2, g3⟩ := W0.out.h0.four
  obtain ⟨x0, x1, x2⟩ := W0.out.h1.three
  go_wp2_with fail
  refine (spCut_c (p : Int) (l : Int) (m : Int) v4 v6 _).mono ?_; rintro e w1 ⟨rfl, hb⟩; have W1 := hidp (W0.out.keep hb); clear hb W0
  generalize hNA : w1.heap.size = NA at *
  replace W1 := hidp ((W1.out.new 79 #[.int .i64 (p : Int), .int .i64 (m : Int)]).new 79 #[.int .i64 ((p : Int) + (m : Int)), .int .i64 ((l : Int) - (m : Int))])
  rw [World.size_alloc, hNA] at W1
  obtain ⟨c0, c1⟩ := W1.out.h0.two
  obtain ⟨a0, a1⟩ := W1.out.h1.two
  obtain ⟨g0, g1, g2, g3⟩ := W1.out.h2.four
  obtain ⟨x0, x1, x2⟩ := W1.out.h3.three
  go_wp2_with fail
  refine (spUse_c hn p m (by omega) (by omega) W1.out.at_).mono ?_; rintro e w2 ⟨rfl, h1, h2⟩; have W2 := hidp (W1.out.call h1 h2); clear h1 h2 W1
  obtain ⟨c0, c1⟩ := W2.out.h0.two
  obtain ⟨a0, a1⟩ := W2.out.h1.two
  obtain ⟨g0, g1, g2, g3⟩ := W2.out.h2.four
  obtain ⟨x0, x1, x2⟩ := W2.out.h3.three
  go_wp2_with fail
  refine (spRelease_i hn hq ((p : Int) + (m : Int)) ((l : Int) - (m : Int)) (p + m) (l - m) (by omega) (by omega) (by omega) (by omega) W2.out.at_).mono ?_; rintro e w3 ⟨rfl, h1, h2⟩; have W3 := hidp (W2.out.call h1 h2); clear h1 h2 W2
  obtain ⟨c0, c1⟩ := W3.out.h0.two
  obtain ⟨a0, a1⟩ := W3.out.h1.two
  obtain ⟨g0, g1, g2, g3⟩ := W3.out.h2.four
  obtain ⟨x0, x1, x2⟩ := W3.out.h3.three
  go_wp2
  go_end0
  exact ⟨rfl, W3.out.fin⟩

set_option maxHeartbeats 6400000 in
theorem snGrow_end (hn : n < 2 ^ 40) (hq : q ≤ 1024) (p l : Nat) (m : Int) (hp : p + l ≤ 1024) (hm : (l : Int) < m) (hm2 : m ≤ 9223372036854775807) (hr : ¬ ((p : Int) + (l : Int)) < q) (hre : ((p : Int) + (l : Int)) ≤ q) (h : (vOb base b n wh K).At w0 A G st w) :
    Calls Tryz.prog 21 #[.pointer (some ⟨b, 0, none⟩), .agg #[.int .i64 t, .int .i64 q, .int .i64 s], .int .i64 (p : Int), .int .i64 (l : Int), .int .i64 m] w fun e w' => e = .returned (.bool false) ∧ (vOb base b n wh K).At w0 A G (st) w' ∧ Stay G w w' := by
  have W0 := hidp ((((WL.start h).new 23 #[.int .i64 t, .int .i64 q, .int .i64 s]).new 78 #[.pointer (some ⟨b, 0, none⟩), .int .i64 t, .int .i64 q, .int .i64 s]).new 79 #[.int .i64 (p : Int), .int .i64 (l : Int)])
  simp only [World.size_alloc] at W0
  have hq2 : q ≤ 2147483648 := by omega
  have v4 : IntKind.i64.wrap ((p : Int) + (l : Int)) = ((p : Int) + (l : Int)) := i64_same (by omega) (by omega)
  have t0 : (((p : Int) + (l : Int)) == q) = true := by simp; omega
  clear h hr hre
  go_enter Tryz.func21, Tryz.ntmps21
  obtain ⟨s0, s1⟩ := W0.out.h0.two
  obtain ⟨g0, g1, g2, g3⟩ := W0.out.h1.four
  obtain ⟨x0, x1, x2⟩ := W0.out.h2.three
  go_wp2_with fail
  refine (spBehind_c (p : Int) (l : Int) v4 _).mono ?_; rintro e w1 ⟨rfl, hb⟩; have W1 := hidp (W0.out.keep hb); clear hb W0
  obtain ⟨s0, s1⟩ := W1.out.h0.two
  obtain ⟨g0, g1, g2, g3⟩ := W1.out.h1.four
  obtain ⟨x0, x1, x2⟩ := W1.out.h2.three
  go_wp2
  go_ret
  exact ⟨rfl, W1.out.fin⟩

set_option maxHeartbeats 6400000 in
theorem snGrow_kind (hn : n < 2 ^ 40) (hq : q ≤ 1024) (p l : Nat) (m : Int) (hp : p + l ≤ 1024) (hm : (l : Int) < m) (hm2 : m ≤ 9223372036854775807) (hr : ((p : Int) + (l : Int)) < q) (k1 l1 c1 : Int) (o1 : Bool) (hi1 : infoOf n K t q s ((p : Int) + (l : Int)) st = (k1, l1, c1, o1)) (hk1 : k1 ≠ 1) (h : (vOb base b n wh K).At w0 A G st w) :
    Calls Tryz.prog 21 #[.pointer (some ⟨b, 0, none⟩), .agg #[.int .i64 t, .int .i64 q, .int .i64 s], .int .i64 (p : Int), .int .i64 (l : Int), .int .i64 m] w fun e w' => e = .returned (.bool false) ∧ (vOb base b n wh K).At w0 A G (getS n K st (pageI t q s ((p : Int) + (l : Int)) 0)) w' ∧ Stay G w w' := by
  have W0 := hidp ((((WL.start h).new 23 #[.int .i64 t, .int .i64 q, .int .i64 s]).new 78 #[.pointer (some ⟨b, 0, none⟩), .int .i64 t, .int .i64 q, .int .i64 s]).new 79 #[.int .i64 (p : Int), .int .i64 (l : Int)])
  simp only [World.size_alloc] at W0
  have hq2 : q ≤ 2147483648 := by omega
  have v4 : IntKind.i64.wrap ((p : Int) + (l : Int)) = ((p : Int) + (l : Int)) := i64_same (by omega) (by omega)
  have t0 : (((p : Int) + (l : Int)) == q) = false := by simp; omega
  have v5 : IntKind.i64.wrap (m - (l : Int)) = (m - (l : Int)) := i64_same (by omega) (by omega)
  have HI1 := hidp hi1
  have u0 : (k1 == 1) = false := by simpa using hk1
  have u1 : (k1 != 1) = true := by simpa using hk1
  clear h hi1
  go_enter Tryz.func21, Tryz.ntmps21
  obtain ⟨s0, s1⟩ := W0.out.h0.two
  obtain ⟨g0, g1, g2, g3⟩ := W0.out.h1.four
  obtain ⟨x0, x1, x2⟩ := W0.out.h2.three
  go_wp2_with fail
  refine (spBehind_c (p : Int) (l : Int) v4 _).mono ?_; rintro e w1 ⟨rfl, hb⟩; have W1 := hidp (W0.out.keep hb); clear hb W0
  obtain ⟨s0, s1⟩ := W1.out.h0.two
  obtain ⟨g0, g1, g2, g3⟩ := W1.out.h1.four
  obtain ⟨x0, x1, x2⟩ := W1.out.h2.three
  go_wp2_with fail
  refine (spBegins_c hn ((p : Int) + (l : Int)) k1 l1 c1 o1 HI1.out W1.out.at_).mono ?_; rintro e w2 ⟨rfl, h1, h2⟩; have W2 := hidp (W1.out.call h1 h2); clear h1 h2 W1
  generalize hNI : w2.heap.size = NI at *
  replace W2 := hidp ((W2.out.new 103 #[.int .i64 k1, .int .i64 l1, .int .i64 c1]).swap)
  rw [hNI] at W2
  obtain ⟨s0, s1⟩ := W2.out.h0.two
  obtain ⟨i0, i1, i2⟩ := W2.out.h1.three
  obtain ⟨g0, g1, g2, g3⟩ := W2.out.h2.four
  obtain ⟨x0, x1, x2⟩ := W2.out.h3.three
  go_wp2
  go_ret
  exact ⟨rfl, W2.out.fin⟩

set_option maxHeartbeats 6400000 in
theorem snGrow_short (hn : n < 2 ^ 40) (hq : q ≤ 1024) (p l : Nat) (m : Int) (hp : p + l ≤ 1024) (hm : (l : Int) < m) (hm2 : m ≤ 9223372036854775807) (hr : ((p : Int) + (l : Int)) < q) (k1 l1 c1 : Int) (o1 : Bool) (hi1 : infoOf n K t q s ((p : Int) + (l : Int)) st = (k1, l1, c1, o1)) (hk1 : k1 = 1) (hs : l1 < m - (l : Int)) (h : (vOb base b n wh K).At w0 A G st w) :
    Calls Tryz.prog 21 #[.pointer (some ⟨b, 0, none⟩), .agg #[.int .i64 t, .int .i64 q, .int .i64 s], .int .i64 (p : Int), .int .i64 (l : Int), .int .i64 m] w fun e w' => e = .returned (.bool false) ∧ (vOb base b n wh K).At w0 A G (getS n K st (pageI t q s ((p : Int) + (l : Int)) 0)) w' ∧ Stay G w w' := by
  have W0 := hidp ((((WL.start h).new 23 #[.int .i64 t, .int .i64 q, .int .i64 s]).new 78 #[.pointer (some ⟨b, 0, none⟩), .int .i64 t, .int .i64 q, .int .i64 s]).new 79 #[.int .i64 (p : Int), .int .i64 (l : Int)])
  simp only [World.size_alloc] at W0
  have hq2 : q ≤ 2147483648 := by omega
  have v4 : IntKind.i64.wrap ((p : Int) + (l : Int)) = ((p : Int) + (l : Int)) := i64_same (by omega) (by omega)
  have t0 : (((p : Int) + (l : Int)) == q) = false := by simp; omega
  have v5 : IntKind.i64.wrap (m - (l : Int)) = (m - (l : Int)) := i64_same (by omega) (by omega)
  subst hk1
  have HI1 := hidp hi1
  have t1 : decide (l1 < m - (l : Int)) = true := decide_eq_true hs
  clear h hi1
  go_enter Tryz.func21, Tryz.ntmps21
  obtain ⟨s0, s1⟩ := W0.out.h0.two
  obtain ⟨g0, g1, g2, g3⟩ := W0.out.h1.four
  obtain ⟨x0, x1, x2⟩ := W0.out.h2.three
  go_wp2_with fail
  refine (spBehind_c (p : Int) (l : Int) v4 _).mono ?_; rintro e w1 ⟨rfl, hb⟩; have W1 := hidp (W0.out.keep hb); clear hb W0
  obtain ⟨s0, s1⟩ := W1.out.h0.two
  obtain ⟨g0, g1, g2, g3⟩ := W1.out.h1.four
  obtain ⟨x0, x1, x2⟩ := W1.out.h2.three
  go_wp2_with fail
  refine (spBegins_c hn ((p : Int) + (l : Int)) 1 l1 c1 o1 HI1.out W1.out.at_).mono ?_; rintro e w2 ⟨rfl, h1, h2⟩; have W2 := hidp (W1.out.call h1 h2); clear h1 h2 W1
  generalize hNI : w2.heap.size = NI at *
  replace W2 := hidp ((W2.out.new 103 #[.int .i64 1, .int .i64 l1, .int .i64 c1]).swap)
  rw [hNI] at W2
  obtain ⟨s0, s1⟩ := W2.out.h0.two
  obtain ⟨i0, i1, i2⟩ := W2.out.h1.three
  obtain ⟨g0, g1, g2, g3⟩ := W2.out.h2.four
  obtain ⟨x0, x1, x2⟩ := W2.out.h3.three
  go_wp2
  go_ret
  exact ⟨rfl, W2.out.fin⟩

set_option maxHeartbeats 6400000 in
theorem snGrow_more (hn : n < 2 ^ 40) (hq : q ≤ 1024) (p l m : Nat) (hp : p + l ≤ 1024) (hm : l < m) (hm2 : m ≤ 2048) (hr : ((p : Int) + (l : Int)) < q) (k1 l1 c1 : Int) (o1 : Bool) (hi1 : infoOf n K t q s ((p : Int) + (l : Int)) st = (k1, l1, c1, o1)) (hk1 : k1 = 1) (hl0 : 0 ≤ l1) (hl1 : l1 ≤ 1024) (hs : ¬ l1 < ((m : Int) - (l : Int))) (hml : ((m : Int) - (l : Int)) < l1) (h : (vOb base b n wh K).At w0 A G st w) :
    Calls Tryz.prog 21 #[.pointer (some ⟨b, 0, none⟩), .agg #[.int .i64 t, .int .i64 q, .int .i64 s], .int .i64 (p : Int), .int .i64 (l : Int), .int .i64 (m : Int)] w fun e w' => e = .returned (.bool true) ∧ (vOb base b n wh K).At w0 A G (putS n (getS n K (addS n K t q s ((p : Int) + (m : Int)) (l1 - ((m : Int) - (l : Int))) (usedS n t q s p m (putS n (putS n (dropS n K t q s ((p : Int) + (l : Int)) (getS n K st (pageI t q s ((p : Int) + (l : Int)) 0))) (pageI t q s ((p : Int) + (l : Int)) 0) 0) (pageI t q s (((p : Int) + (l : Int)) - 1) 1) 0))) 0) 0 (sub32 (getV n K (addS n K t q s ((p : Int) + (m : Int)) (l1 - ((m : Int) - (l : Int))) (usedS n t q s p m (putS n (putS n (dropS n K t q s ((p : Int) + (l : Int)) (getS n K st (pageI t q s ((p : Int) + (l : Int)) 0))) (pageI t q s ((p : Int) + (l : Int)) 0) 0) (pageI t q s (((p : Int) + (l : Int)) - 1) 1) 0))) 0) ((m : Int) - (l : Int)))) w' ∧ Stay G w w' := by
  have W0 := hidp ((((WL.start h).new 23 #[.int .i64 t, .int .i64 q, .int .i64 s]).new 78 #[.pointer (some ⟨b, 0, none⟩), .int .i64 t, .int .i64 q, .int .i64 s]).new 79 #[.int .i64 (p : Int), .int .i64 (l : Int)])
  simp only [World.size_alloc] at W0
  have hq2 : q ≤ 2147483648 := by omega
  have v4 : IntKind.i64.wrap ((p : Int) + (l : Int)) = ((p : Int) + (l : Int)) := i64_same (by omega) (by omega)
  have t0 : (((p : Int) + (l : Int)) == q) = false := by simp; omega
  have v5 : IntKind.i64.wrap ((m : Int) - (l : Int)) = ((m : Int) - (l : Int)) := i64_same (by omega) (by omega)
  subst hk1
  have HI1 := hidp hi1
  have t1 : decide (l1 < ((m : Int) - (l : Int))) = false := decide_eq_false hs
  have v6 : IntKind.i64.wrap (((p : Int) + (l : Int)) - 1) = (((p : Int) + (l : Int)) - 1) := i64_same (by omega) (by omega)
  have v7 : IntKind.i64.wrap ((p : Int) + (m : Int)) = ((p : Int) + (m : Int)) := i64_same (by omega) (by omega)
  have v8 : IntKind.i64.wrap ((l : Int) + l1) = ((l : Int) + l1) := i64_same (by omega) (by omega)
  have v9 : IntKind.i64.wrap (((l : Int) + l1) - (m : Int)) = (((l : Int) + l1) - (m : Int)) := i64_same (by omega) (by omega)
  have v10 : IntKind.i64.wrap ((l : Int) - (m : Int)) = ((l : Int) - (m : Int)) := i64_same (by omega) (by omega)
  have HDV : Hid (dropV n K t q s ((p : Int) + (l : Int)) (getS n K st (pageI t q s ((p : Int) + (l : Int)) 0)) = l1) := hidp (drop_again ((pgB_iff _ _).2 ⟨by omega, hr⟩) hi1)
  rw [show l1 - ((m : Int) - (l : Int)) = ((l : Int) + l1) - (m : Int) by omega]
  have HSB : Hid (sub32 (getV n K (addS n K t q s ((p : Int) + (m : Int)) (((l : Int) + l1) - (m : Int)) (usedS n t q s p m (putS n (putS n (dropS n K t q s ((p : Int) + (l : Int)) (getS n K st (pageI t q s ((p : Int) + (l : Int)) 0))) (pageI t q s ((p : Int) + (l : Int)) 0) 0) (pageI t q s (((p : Int) + (l : Int)) - 1) 1) 0))) 0) ((m : Int) - (l : Int)) = add32 (getV n K (addS n K t q s ((p : Int) + (m : Int)) (((l : Int) + l1) - (m : Int)) (usedS n t q s p m (putS n (putS n (dropS n K t q s ((p : Int) + (l : Int)) (getS n K st (pageI t q s ((p : Int) + (l : Int)) 0))) (pageI t q s ((p : Int) + (l : Int)) 0) 0) (pageI t q s (((p : Int) + (l : Int)) - 1) 1) 0))) 0) ((l : Int) - (m : Int))) := hidp (sub32_flip _ _ _)
  clear h hi1
  go_enter Tryz.func21, Tryz.ntmps21
  obtain ⟨s0, s1⟩ := W0.out.h0.two
  obtain ⟨g0, g1, g2, g3⟩ := W0.out.h1.four
  obtain ⟨x0, x1, x2⟩ := W0.out.h2.three
  go_wp2_with fail
  refine (spBehind_c (p : Int) (l : Int) v4 _).mono ?_; rintro e w1 ⟨rfl, hb⟩; have W1 := hidp (W0.out.keep hb); clear hb W0
  obtain ⟨s0, s1⟩ := W1.out.h0.two
  obtain ⟨g0, g1, g2, g3⟩ := W1.out.h1.four
  obtain ⟨x0, x1, x2⟩ := W1.out.h2.three
  go_wp2_with fail
  refine (spBegins_c hn ((p : Int) + (l : Int)) 1 l1 c1 o1 HI1.out W1.out.at_).mono ?_; rintro e w2 ⟨rfl, h1, h2⟩; have W2 := hidp (W1.out.call h1 h2); clear h1 h2 W1
  generalize hNI : w2.heap.size = NI at *
  replace W2 := hidp ((W2.out.new 103 #[.int .i64 1, .int .i64 l1, .int .i64 c1]).swap)
  rw [hNI] at W2
  obtain ⟨s0, s1⟩ := W2.out.h0.two
  obtain ⟨i0, i1, i2⟩ := W2.out.h1.three
  obtain ⟨g0, g1, g2, g3⟩ := W2.out.h2.four
  obtain ⟨x0, x1, x2⟩ := W2.out.h3.three
  go_wp2_with fail
  refine wp_region_held_drew (S := (fun w' => w'.cell? ⟨(w.heap.size + 1), 0, none⟩ = some (.pointer (some ⟨b, 0, none⟩)) ∧ w'.cell? ⟨(w.heap.size + 1), 1, none⟩ = some (.int .i64 t) ∧ w'.cell? ⟨(w.heap.size + 1), 2, none⟩ = some (.int .i64 q) ∧ w'.cell? ⟨(w.heap.size + 1), 3, none⟩ = some (.int .i64 s))) (by kernel_rfl) ?_ (fun hHeld => ?_)
  · (try dsimp only)
    exact ⟨W2.out.drew.h2.four.1, W2.out.drew.h2.four.2.1, W2.out.drew.h2.four.2.2.1, W2.out.drew.h2.four.2.2.2⟩
  refine tkz 0 ?_
  refine tkz 2 ?_
  refine tkz 3 ?_
  refine tkz 4 ?_
  refine wpAnyH_ready (rs := [1, 5]) (by kernel_rfl) (by simp) ?_
  refine AllReadyH.cons (o := _) rfl (fun K hK => ?_) (AllReadyH.cons (o := _) rfl (fun K hK => ?_) AllReadyH.nil)
  · skip
    obtain ⟨s0, s1⟩ := W2.out.drew.h0.two
    go_simp
    refine hK.out _ _ ?_ (fun hHeld => ?_)
    · (try dsimp only)
      exact ⟨W2.out.drew.h2.four.1, W2.out.drew.h2.four.2.1, W2.out.drew.h2.four.2.2.1, W2.out.drew.h2.four.2.2.2⟩
    clear hK K
    (try simp only [Act.put, gA, gB, gC, sA, sB, sC])
    refine wpAnyH_ready (rs := [5]) (by kernel_rfl) (by simp) ?_
    refine AllReadyH.cons (o := _) rfl (fun K hK => ?_) AllReadyH.nil
    go_simp
    refine (spJoin_c hn hq2 ((p : Int) + (l : Int)) ((p : Int) + (l : Int)) v6 W2.out.drew.at_).mono ?_; rintro e w3 ⟨rfl, h1, h2⟩; have W3 := hidp (W2.out.drew.call h1 h2); clear h1 h2 W2; rw [HDV.out]
    refine hK.out _ _ ?_ (fun hHeld => ?_)
    · (try dsimp only)
      exact ⟨W3.out.h2.four.1, W3.out.h2.four.2.1, W3.out.h2.four.2.2.1, W3.out.h2.four.2.2.2⟩
    clear hK K
    (try simp only [Act.put, gA, gB, gC, sA, sB, sC])
    refine tkz 6 ?_
    refine tkz 7 ?_
    refine wpAnyH_ready (rs := [8]) (by kernel_rfl) (by simp) ?_
    refine AllReadyH.cons (o := _) rfl (fun K hK => ?_) AllReadyH.nil
    obtain ⟨z0, z1⟩ := W3.out.h0.two
    have f0 := W3.out.h0.thawed 0
    have f1 := W3.out.h0.thawed 1
    go_simp
    have W4 := hidp (W3.out.put 1 (.int .i64 ((l : Int) + l1)))
    clear W3 z0 z1 f0 f1
    refine hK.out _ _ ?_ (fun hHeld => ?_)
    · (try dsimp only)
      exact ⟨W4.out.h2.four.1, W4.out.h2.four.2.1, W4.out.h2.four.2.2.1, W4.out.h2.four.2.2.2⟩
    clear hK K
    (try simp only [Act.put, gA, gB, gC, sA, sB, sC])
    refine wpAnyH_done (by kernel_rfl) ?_ _
    obtain ⟨s0, s1⟩ := W4.out.h0.two
    obtain ⟨i0, i1, i2⟩ := W4.out.h1.three
    obtain ⟨g0, g1, g2, g3⟩ := W4.out.h2.four
    obtain ⟨x0, x1, x2⟩ := W4.out.h3.three
    go_wp2_with fail
    refine (spCut_c (p : Int) ((l : Int) + l1) (m : Int) v7 v9 _).mono ?_; rintro e w5 ⟨rfl, hb⟩; have W5 := hidp (W4.out.keep hb); clear hb W4
    generalize hNA : w5.heap.size = NA at *
    replace W5 := hidp ((W5.out.new 79 #[.int .i64 (p : Int), .int .i64 (m : Int)]).new 79 #[.int .i64 ((p : Int) + (m : Int)), .int .i64 (((l : Int) + l1) - (m : Int))])
    rw [World.size_alloc, hNA] at W5
    obtain ⟨c0, c1⟩ := W5.out.h0.two
    obtain ⟨a0, a1⟩ := W5.out.h1.two
    obtain ⟨s0, s1⟩ := W5.out.h2.two
    obtain ⟨i0, i1, i2⟩ := W5.out.h3.three
    obtain ⟨g0, g1, g2, g3⟩ := W5.out.h4.four
    obtain ⟨x0, x1, x2⟩ := W5.out.h5.three
    go_wp2_with fail
    refine (spUse_c hn p m (by omega) (by omega) W5.out.at_).mono ?_; rintro e w6 ⟨rfl, h1, h2⟩; have W6 := hidp (W5.out.call h1 h2); clear h1 h2 W5
    obtain ⟨c0, c1⟩ := W6.out.h0.two
    obtain ⟨a0, a1⟩ := W6.out.h1.two
    obtain ⟨s0, s1⟩ := W6.out.h2.two
    obtain ⟨i0, i1, i2⟩ := W6.out.h3.three
    obtain ⟨g0, g1, g2, g3⟩ := W6.out.h4.four
    obtain ⟨x0, x1, x2⟩ := W6.out.h5.three
    go_wp2_with fail
    refine (spFree_c hn hq2 ((p : Int) + (m : Int)) (((l : Int) + l1) - (m : Int)) W6.out.at_).mono ?_; rintro e w7 ⟨rfl, h1, h2⟩; have W7 := hidp (W6.out.call h1 h2); clear h1 h2 W6
    obtain ⟨c0, c1⟩ := W7.out.h0.two
    obtain ⟨a0, a1⟩ := W7.out.h1.two
    obtain ⟨s0, s1⟩ := W7.out.h2.two
    obtain ⟨i0, i1, i2⟩ := W7.out.h3.three
    obtain ⟨g0, g1, g2, g3⟩ := W7.out.h4.four
    obtain ⟨x0, x1, x2⟩ := W7.out.h5.three
    go_wp2_with fail
    refine (spCount_c hn ((l : Int) - (m : Int)) W7.out.at_).mono ?_; rintro e w8 ⟨rfl, h1, h2⟩; have W8 := hidp (W7.out.call h1 h2); clear h1 h2 W7
    obtain ⟨c0, c1⟩ := W8.out.h0.two
    obtain ⟨a0, a1⟩ := W8.out.h1.two
    obtain ⟨s0, s1⟩ := W8.out.h2.two
    obtain ⟨i0, i1, i2⟩ := W8.out.h3.three
    obtain ⟨g0, g1, g2, g3⟩ := W8.out.h4.four
    obtain ⟨x0, x1, x2⟩ := W8.out.h5.three
    go_wp2
    go_ret
    exact ⟨rfl, by rw [HSB.out]; exact W8.out.fin.1, W8.out.fin.2⟩
  · skip
    go_simp
    refine (spJoin_c hn hq2 ((p : Int) + (l : Int)) ((p : Int) + (l : Int)) v6 W2.out.drew.at_).mono ?_; rintro e w3 ⟨rfl, h1, h2⟩; have W3 := hidp (W2.out.drew.call h1 h2); clear h1 h2 W2; rw [HDV.out]
    refine hK.out _ _ ?_ (fun hHeld => ?_)
    · (try dsimp only)
      exact ⟨W3.out.h2.four.1, W3.out.h2.four.2.1, W3.out.h2.four.2.2.1, W3.out.h2.four.2.2.2⟩
    clear hK K
    (try simp only [Act.put, gA, gB, gC, sA, sB, sC])
    refine wpAnyH_ready (rs := [1]) (by kernel_rfl) (by simp) ?_
    refine AllReadyH.cons (o := _) rfl (fun K hK => ?_) AllReadyH.nil
    obtain ⟨s0, s1⟩ := W3.out.h0.two
    go_simp
    refine hK.out _ _ ?_ (fun hHeld => ?_)
    · (try dsimp only)
      exact ⟨W3.out.h2.four.1, W3.out.h2.four.2.1, W3.out.h2.four.2.2.1, W3.out.h2.four.2.2.2⟩
    clear hK K
    (try simp only [Act.put, gA, gB, gC, sA, sB, sC])
    refine tkz 6 ?_
    refine tkz 7 ?_
    refine wpAnyH_ready (rs := [8]) (by kernel_rfl) (by simp) ?_
    refine AllReadyH.cons (o := _) rfl (fun K hK => ?_) AllReadyH.nil
    obtain ⟨z0, z1⟩ := W3.out.h0.two
    have f0 := W3.out.h0.thawed 0
    have f1 := W3.out.h0.thawed 1
    go_simp
    have W4 := hidp (W3.out.put 1 (.int .i64 ((l : Int) + l1)))
    clear W3 z0 z1 f0 f1
    refine hK.out _ _ ?_ (fun hHeld => ?_)
    · (try dsimp only)
      exact ⟨W4.out.h2.four.1, W4.out.h2.four.2.1, W4.out.h2.four.2.2.1, W4.out.h2.four.2.2.2⟩
    clear hK K
    (try simp only [Act.put, gA, gB, gC, sA, sB, sC])
    refine wpAnyH_done (by kernel_rfl) ?_ _
    obtain ⟨s0, s1⟩ := W4.out.h0.two
    obtain ⟨i0, i1, i2⟩ := W4.out.h1.three
    obtain ⟨g0, g1, g2, g3⟩ := W4.out.h2.four
    obtain ⟨x0, x1, x2⟩ := W4.out.h3.three
    go_wp2_with fail
    refine (spCut_c (p : Int) ((l : Int) + l1) (m : Int) v7 v9 _).mono ?_; rintro e w5 ⟨rfl, hb⟩; have W5 := hidp (W4.out.keep hb); clear hb W4
    generalize hNA : w5.heap.size = NA at *
    replace W5 := hidp ((W5.out.new 79 #[.int .i64 (p : Int), .int .i64 (m : Int)]).new 79 #[.int .i64 ((p : Int) + (m : Int)), .int .i64 (((l : Int) + l1) - (m : Int))])
    rw [World.size_alloc, hNA] at W5
    obtain ⟨c0, c1⟩ := W5.out.h0.two
    obtain ⟨a0, a1⟩ := W5.out.h1.two
    obtain ⟨s0, s1⟩ := W5.out.h2.two
    obtain ⟨i0, i1, i2⟩ := W5.out.h3.three
    obtain ⟨g0, g1, g2, g3⟩ := W5.out.h4.four
    obtain ⟨x0, x1, x2⟩ := W5.out.h5.three
    go_wp2_with fail
    refine (spUse_c hn p m (by omega) (by omega) W5.out.at_).mono ?_; rintro e w6 ⟨rfl, h1, h2⟩; have W6 := hidp (W5.out.call h1 h2); clear h1 h2 W5
    obtain ⟨c0, c1⟩ := W6.out.h0.two
    obtain ⟨a0, a1⟩ := W6.out.h1.two
    obtain ⟨s0, s1⟩ := W6.out.h2.two
    obtain ⟨i0, i1, i2⟩ := W6.out.h3.three
    obtain ⟨g0, g1, g2, g3⟩ := W6.out.h4.four
    obtain ⟨x0, x1, x2⟩ := W6.out.h5.three
    go_wp2_with fail
    refine (spFree_c hn hq2 ((p : Int) + (m : Int)) (((l : Int) + l1) - (m : Int)) W6.out.at_).mono ?_; rintro e w7 ⟨rfl, h1, h2⟩; have W7 := hidp (W6.out.call h1 h2); clear h1 h2 W6
    obtain ⟨c0, c1⟩ := W7.out.h0.two
    obtain ⟨a0, a1⟩ := W7.out.h1.two
    obtain ⟨s0, s1⟩ := W7.out.h2.two
    obtain ⟨i0, i1, i2⟩ := W7.out.h3.three
    obtain ⟨g0, g1, g2, g3⟩ := W7.out.h4.four
    obtain ⟨x0, x1, x2⟩ := W7.out.h5.three
    go_wp2_with fail
    refine (spCount_c hn ((l : Int) - (m : Int)) W7.out.at_).mono ?_; rintro e w8 ⟨rfl, h1, h2⟩; have W8 := hidp (W7.out.call h1 h2); clear h1 h2 W7
    obtain ⟨c0, c1⟩ := W8.out.h0.two
    obtain ⟨a0, a1⟩ := W8.out.h1.two
    obtain ⟨s0, s1⟩ := W8.out.h2.two
    obtain ⟨i0, i1, i2⟩ := W8.out.h3.three
    obtain ⟨g0, g1, g2, g3⟩ := W8.out.h4.four
    obtain ⟨x0, x1, x2⟩ := W8.out.h5.three
    go_wp2
    go_ret
    exact ⟨rfl, by rw [HSB.out]; exact W8.out.fin.1, W8.out.fin.2⟩

set_option maxHeartbeats 6400000 in
theorem snGrow_all (hn : n < 2 ^ 40) (hq : q ≤ 1024) (p l m : Nat) (hp : p + l ≤ 1024) (hm : l < m) (hm2 : m ≤ 2048) (hr : ((p : Int) + (l : Int)) < q) (k1 l1 c1 : Int) (o1 : Bool) (hi1 : infoOf n K t q s ((p : Int) + (l : Int)) st = (k1, l1, c1, o1)) (hk1 : k1 = 1) (hl0 : 0 ≤ l1) (hl1 : l1 ≤ 1024) (hs : ¬ l1 < ((m : Int) - (l : Int))) (hml : ¬ ((m : Int) - (l : Int)) < l1) (h : (vOb base b n wh K).At w0 A G st w) :
    Calls Tryz.prog 21 #[.pointer (some ⟨b, 0, none⟩), .agg #[.int .i64 t, .int .i64 q, .int .i64 s], .int .i64 (p : Int), .int .i64 (l : Int), .int .i64 (m : Int)] w fun e w' => e = .returned (.bool true) ∧ (vOb base b n wh K).At w0 A G (putS n (getS n K (usedS n t q s p m (putS n (putS n (dropS n K t q s ((p : Int) + (l : Int)) (getS n K st (pageI t q s ((p : Int) + (l : Int)) 0))) (pageI t q s ((p : Int) + (l : Int)) 0) 0) (pageI t q s (((p : Int) + (l : Int)) - 1) 1) 0)) 0) 0 (sub32 (getV n K (usedS n t q s p m (putS n (putS n (dropS n K t q s ((p : Int) + (l : Int)) (getS n K st (pageI t q s ((p : Int) + (l : Int)) 0))) (pageI t q s ((p : Int) + (l : Int)) 0) 0) (pageI t q s (((p : Int) + (l : Int)) - 1) 1) 0)) 0) ((m : Int) - (l : Int)))) w' ∧ Stay G w w' := by
  have W0 := hidp ((((WL.start h).new 23 #[.int .i64 t, .int .i64 q, .int .i64 s]).new 78 #[.pointer (some ⟨b, 0, none⟩), .int .i64 t, .int .i64 q, .int .i64 s]).new 79 #[.int .i64 (p : Int), .int .i64 (l : Int)])
  simp only [World.size_alloc] at W0
  have hq2 : q ≤ 2147483648 := by omega
  have v4 : IntKind.i64.wrap ((p : Int) + (l : Int)) = ((p : Int) + (l : Int)) := i64_same (by omega) (by omega)
  have t0 : (((p : Int) + (l : Int)) == q) = false := by simp; omega
  have v5 : IntKind.i64.wrap ((m : Int) - (l : Int)) = ((m : Int) - (l : Int)) := i64_same (by omega) (by omega)
  subst hk1
  have HI1 := hidp hi1
  have t1 : decide (l1 < ((m : Int) - (l : Int))) = false := decide_eq_false hs
  have v6 : IntKind.i64.wrap (((p : Int) + (l : Int)) - 1) = (((p : Int) + (l : Int)) - 1) := i64_same (by omega) (by omega)
  have v7 : IntKind.i64.wrap ((p : Int) + (m : Int)) = ((p : Int) + (m : Int)) := i64_same (by omega) (by omega)
  have v8 : IntKind.i64.wrap ((l : Int) + l1) = ((l : Int) + l1) := i64_same (by omega) (by omega)
  have v9 : IntKind.i64.wrap (((l : Int) + l1) - (m : Int)) = (((l : Int) + l1) - (m : Int)) := i64_same (by omega) (by omega)
  have v10 : IntKind.i64.wrap ((l : Int) - (m : Int)) = ((l : Int) - (m : Int)) := i64_same (by omega) (by omega)
  have HDV : Hid (dropV n K t q s ((p : Int) + (l : Int)) (getS n K st (pageI t q s ((p : Int) + (l : Int)) 0)) = l1) := hidp (drop_again ((pgB_iff _ _).2 ⟨by omega, hr⟩) hi1)
  have HNO : Hid (addS n K t q s ((p : Int) + (m : Int)) (((l : Int) + l1) - (m : Int)) (usedS n t q s p m (putS n (putS n (dropS n K t q s ((p : Int) + (l : Int)) (getS n K st (pageI t q s ((p : Int) + (l : Int)) 0))) (pageI t q s ((p : Int) + (l : Int)) 0) 0) (pageI t q s (((p : Int) + (l : Int)) - 1) 1) 0)) = usedS n t q s p m (putS n (putS n (dropS n K t q s ((p : Int) + (l : Int)) (getS n K st (pageI t q s ((p : Int) + (l : Int)) 0))) (pageI t q s ((p : Int) + (l : Int)) 0) 0) (pageI t q s (((p : Int) + (l : Int)) - 1) 1) 0)) := hidp (addS_none (by omega))
  have HSB : Hid (sub32 (getV n K (usedS n t q s p m (putS n (putS n (dropS n K t q s ((p : Int) + (l : Int)) (getS n K st (pageI t q s ((p : Int) + (l : Int)) 0))) (pageI t q s ((p : Int) + (l : Int)) 0) 0) (pageI t q s (((p : Int) + (l : Int)) - 1) 1) 0)) 0) ((m : Int) - (l : Int)) = add32 (getV n K (usedS n t q s p m (putS n (putS n (dropS n K t q s ((p : Int) + (l : Int)) (getS n K st (pageI t q s ((p : Int) + (l : Int)) 0))) (pageI t q s ((p : Int) + (l : Int)) 0) 0) (pageI t q s (((p : Int) + (l : Int)) - 1) 1) 0)) 0) ((l : Int) - (m : Int))) := hidp (sub32_flip _ _ _)
  clear h hi1
  go_enter Tryz.func21, Tryz.ntmps21
  obtain ⟨s0, s1⟩ := W0.out.h0.two
  obtain ⟨g0, g1, g2, g3⟩ := W0.out.h1.four
  obtain ⟨x0, x1, x2⟩ := W0.out.h2.three
  go_wp2_with fail
  refine (spBehind_c (p : Int) (l : Int) v4 _).mono ?_; rintro e w1 ⟨rfl, hb⟩; have W1 := hidp (W0.out.keep hb); clear hb W0
  obtain ⟨s0, s1⟩ := W1.out.h0.two
  obtain ⟨g0, g1, g2, g3⟩ := W1.out.h1.four
  obtain ⟨x0, x1, x2⟩ := W1.out.h2.three
  go_wp2_with fail
  refine (spBegins_c hn ((p : Int) + (l : Int)) 1 l1 c1 o1 HI1.out W1.out.at_).mono ?_; rintro e w2 ⟨rfl, h1, h2⟩; have W2 := hidp (W1.out.call h1 h2); clear h1 h2 W1
  generalize hNI : w2.heap.size = NI at *
  replace W2 := hidp ((W2.out.new 103 #[.int .i64 1, .int .i64 l1, .int .i64 c1]).swap)
  rw [hNI] at W2
  obtain ⟨s0, s1⟩ := W2.out.h0.two
  obtain ⟨i0, i1, i2⟩ := W2.out.h1.three
  obtain ⟨g0, g1, g2, g3⟩ := W2.out.h2.four
  obtain ⟨x0, x1, x2⟩ := W2.out.h3.three
  go_wp2_with fail
  refine wp_region_held_drew (S := (fun w' => w'.cell? ⟨(w.heap.size + 1), 0, none⟩ = some (.pointer (some ⟨b, 0, none⟩)) ∧ w'.cell? ⟨(w.heap.size + 1), 1, none⟩ = some (.int .i64 t) ∧ w'.cell? ⟨(w.heap.size + 1), 2, none⟩ = some (.int .i64 q) ∧ w'.cell? ⟨(w.heap.size + 1), 3, none⟩ = some (.int .i64 s))) (by kernel_rfl) ?_ (fun hHeld => ?_)
  · (try dsimp only)
    exact ⟨W2.out.drew.h2.four.1, W2.out.drew.h2.four.2.1, W2.out.drew.h2.four.2.2.1, W2.out.drew.h2.four.2.2.2⟩
  refine tkz 0 ?_
  refine tkz 2 ?_
  refine tkz 3 ?_
  refine tkz 4 ?_
  refine wpAnyH_ready (rs := [1, 5]) (by kernel_rfl) (by simp) ?_
  refine AllReadyH.cons (o := _) rfl (fun K hK => ?_) (AllReadyH.cons (o := _) rfl (fun K hK => ?_) AllReadyH.nil)
  · skip
    obtain ⟨s0, s1⟩ := W2.out.drew.h0.two
    go_simp
    refine hK.out _ _ ?_ (fun hHeld => ?_)
    · (try dsimp only)
      exact ⟨W2.out.drew.h2.four.1, W2.out.drew.h2.four.2.1, W2.out.drew.h2.four.2.2.1, W2.out.drew.h2.four.2.2.2⟩
    clear hK K
    (try simp only [Act.put, gA, gB, gC, sA, sB, sC])
    refine wpAnyH_ready (rs := [5]) (by kernel_rfl) (by simp) ?_
    refine AllReadyH.cons (o := _) rfl (fun K hK => ?_) AllReadyH.nil
    go_simp
    refine (spJoin_c hn hq2 ((p : Int) + (l : Int)) ((p : Int) + (l : Int)) v6 W2.out.drew.at_).mono ?_; rintro e w3 ⟨rfl, h1, h2⟩; have W3 := hidp (W2.out.drew.call h1 h2); clear h1 h2 W2; rw [HDV.out]
    refine hK.out _ _ ?_ (fun hHeld => ?_)
    · (try dsimp only)
      exact ⟨W3.out.h2.four.1, W3.out.h2.four.2.1, W3.out.h2.four.2.2.1, W3.out.h2.four.2.2.2⟩
    clear hK K
    (try simp only [Act.put, gA, gB, gC, sA, sB, sC])
    refine tkz 6 ?_
    refine tkz 7 ?_
    refine wpAnyH_ready (rs := [8]) (by kernel_rfl) (by simp) ?_
    refine AllReadyH.cons (o := _) rfl (fun K hK => ?_) AllReadyH.nil
    obtain ⟨z0, z1⟩ := W3.out.h0.two
    have f0 := W3.out.h0.thawed 0
    have f1 := W3.out.h0.thawed 1
    go_simp
    have W4 := hidp (W3.out.put 1 (.int .i64 ((l : Int) + l1)))
    clear W3 z0 z1 f0 f1
    refine hK.out _ _ ?_ (fun hHeld => ?_)
    · (try dsimp only)
      exact ⟨W4.out.h2.four.1, W4.out.h2.four.2.1, W4.out.h2.four.2.2.1, W4.out.h2.four.2.2.2⟩
    clear hK K
    (try simp only [Act.put, gA, gB, gC, sA, sB, sC])
    refine wpAnyH_done (by kernel_rfl) ?_ _
    obtain ⟨s0, s1⟩ := W4.out.h0.two
    obtain ⟨i0, i1, i2⟩ := W4.out.h1.three
    obtain ⟨g0, g1, g2, g3⟩ := W4.out.h2.four
    obtain ⟨x0, x1, x2⟩ := W4.out.h3.three
    go_wp2_with fail
    refine (spCut_c (p : Int) ((l : Int) + l1) (m : Int) v7 v9 _).mono ?_; rintro e w5 ⟨rfl, hb⟩; have W5 := hidp (W4.out.keep hb); clear hb W4
    generalize hNA : w5.heap.size = NA at *
    replace W5 := hidp ((W5.out.new 79 #[.int .i64 (p : Int), .int .i64 (m : Int)]).new 79 #[.int .i64 ((p : Int) + (m : Int)), .int .i64 (((l : Int) + l1) - (m : Int))])
    rw [World.size_alloc, hNA] at W5
    obtain ⟨c0, c1⟩ := W5.out.h0.two
    obtain ⟨a0, a1⟩ := W5.out.h1.two
    obtain ⟨s0, s1⟩ := W5.out.h2.two
    obtain ⟨i0, i1, i2⟩ := W5.out.h3.three
    obtain ⟨g0, g1, g2, g3⟩ := W5.out.h4.four
    obtain ⟨x0, x1, x2⟩ := W5.out.h5.three
    go_wp2_with fail
    refine (spUse_c hn p m (by omega) (by omega) W5.out.at_).mono ?_; rintro e w6 ⟨rfl, h1, h2⟩; have W6 := hidp (W5.out.call h1 h2); clear h1 h2 W5
    obtain ⟨c0, c1⟩ := W6.out.h0.two
    obtain ⟨a0, a1⟩ := W6.out.h1.two
    obtain ⟨s0, s1⟩ := W6.out.h2.two
    obtain ⟨i0, i1, i2⟩ := W6.out.h3.three
    obtain ⟨g0, g1, g2, g3⟩ := W6.out.h4.four
    obtain ⟨x0, x1, x2⟩ := W6.out.h5.three
    go_wp2_with fail
    refine (spFree_c hn hq2 ((p : Int) + (m : Int)) (((l : Int) + l1) - (m : Int)) W6.out.at_).mono ?_; rintro e w7 ⟨rfl, h1, h2⟩; have W7 := hidp (W6.out.call h1 h2); clear h1 h2 W6; rw [HNO.out] at W7
    obtain ⟨c0, c1⟩ := W7.out.h0.two
    obtain ⟨a0, a1⟩ := W7.out.h1.two
    obtain ⟨s0, s1⟩ := W7.out.h2.two
    obtain ⟨i0, i1, i2⟩ := W7.out.h3.three
    obtain ⟨g0, g1, g2, g3⟩ := W7.out.h4.four
    obtain ⟨x0, x1, x2⟩ := W7.out.h5.three
    go_wp2_with fail
    refine (spCount_c hn ((l : Int) - (m : Int)) W7.out.at_).mono ?_; rintro e w8 ⟨rfl, h1, h2⟩; have W8 := hidp (W7.out.call h1 h2); clear h1 h2 W7
    obtain ⟨c0, c1⟩ := W8.out.h0.two
    obtain ⟨a0, a1⟩ := W8.out.h1.two
    obtain ⟨s0, s1⟩ := W8.out.h2.two
    obtain ⟨i0, i1, i2⟩ := W8.out.h3.three
    obtain ⟨g0, g1, g2, g3⟩ := W8.out.h4.four
    obtain ⟨x0, x1, x2⟩ := W8.out.h5.three
    go_wp2
    go_ret
    exact ⟨rfl, by rw [HSB.out]; exact W8.out.fin.1, W8.out.fin.2⟩
  · skip
    go_simp
    refine (spJoin_c hn hq2 ((p : Int) + (l : Int)) ((p : Int) + (l : Int)) v6 W2.out.drew.at_).mono ?_; rintro e w3 ⟨rfl, h1, h2⟩; have W3 := hidp (W2.out.drew.call h1 h2); clear h1 h2 W2; rw [HDV.out]
    refine hK.out _ _ ?_ (fun hHeld => ?_)
    · (try dsimp only)
      exact ⟨W3.out.h2.four.1, W3.out.h2.four.2.1, W3.out.h2.four.2.2.1, W3.out.h2.four.2.2.2⟩
    clear hK K
    (try simp only [Act.put, gA, gB, gC, sA, sB, sC])
    refine wpAnyH_ready (rs := [1]) (by kernel_rfl) (by simp) ?_
    refine AllReadyH.cons (o := _) rfl (fun K hK => ?_) AllReadyH.nil
    obtain ⟨s0, s1⟩ := W3.out.h0.two
    go_simp
    refine hK.out _ _ ?_ (fun hHeld => ?_)
    · (try dsimp only)
      exact ⟨W3.out.h2.four.1, W3.out.h2.four.2.1, W3.out.h2.four.2.2.1, W3.out.h2.four.2.2.2⟩
    clear hK K
    (try simp only [Act.put, gA, gB, gC, sA, sB, sC])
    refine tkz 6 ?_
    refine tkz 7 ?_
    refine wpAnyH_ready (rs := [8]) (by kernel_rfl) (by simp) ?_
    refine AllReadyH.cons (o := _) rfl (fun K hK => ?_) AllReadyH.nil
    obtain ⟨z0, z1⟩ := W3.out.h0.two
    have f0 := W3.out.h0.thawed 0
    have f1 := W3.out.h0.thawed 1
    go_simp
    have W4 := hidp (W3.out.put 1 (.int .i64 ((l : Int) + l1)))
    clear W3 z0 z1 f0 f1
    refine hK.out _ _ ?_ (fun hHeld => ?_)
    · (try dsimp only)
      exact ⟨W4.out.h2.four.1, W4.out.h2.four.2.1, W4.out.h2.four.2.2.1, W4.out.h2.four.2.2.2⟩
    clear hK K
    (try simp only [Act.put, gA, gB, gC, sA, sB, sC])
    refine wpAnyH_done (by kernel_rfl) ?_ _
    obtain ⟨s0, s1⟩ := W4.out.h0.two
    obtain ⟨i0, i1, i2⟩ := W4.out.h1.three
    obtain ⟨g0, g1, g2, g3⟩ := W4.out.h2.four
    obtain ⟨x0, x1, x2⟩ := W4.out.h3.three
    go_wp2_with fail
    refine (spCut_c (p : Int) ((l : Int) + l1) (m : Int) v7 v9 _).mono ?_; rintro e w5 ⟨rfl, hb⟩; have W5 := hidp (W4.out.keep hb); clear hb W4
    generalize hNA : w5.heap.size = NA at *
    replace W5 := hidp ((W5.out.new 79 #[.int .i64 (p : Int), .int .i64 (m : Int)]).new 79 #[.int .i64 ((p : Int) + (m : Int)), .int .i64 (((l : Int) + l1) - (m : Int))])
    rw [World.size_alloc, hNA] at W5
    obtain ⟨c0, c1⟩ := W5.out.h0.two
    obtain ⟨a0, a1⟩ := W5.out.h1.two
    obtain ⟨s0, s1⟩ := W5.out.h2.two
    obtain ⟨i0, i1, i2⟩ := W5.out.h3.three
    obtain ⟨g0, g1, g2, g3⟩ := W5.out.h4.four
    obtain ⟨x0, x1, x2⟩ := W5.out.h5.three
    go_wp2_with fail
    refine (spUse_c hn p m (by omega) (by omega) W5.out.at_).mono ?_; rintro e w6 ⟨rfl, h1, h2⟩; have W6 := hidp (W5.out.call h1 h2); clear h1 h2 W5
    obtain ⟨c0, c1⟩ := W6.out.h0.two
    obtain ⟨a0, a1⟩ := W6.out.h1.two
    obtain ⟨s0, s1⟩ := W6.out.h2.two
    obtain ⟨i0, i1, i2⟩ := W6.out.h3.three
    obtain ⟨g0, g1, g2, g3⟩ := W6.out.h4.four
    obtain ⟨x0, x1, x2⟩ := W6.out.h5.three
    go_wp2_with fail
    refine (spFree_c hn hq2 ((p : Int) + (m : Int)) (((l : Int) + l1) - (m : Int)) W6.out.at_).mono ?_; rintro e w7 ⟨rfl, h1, h2⟩; have W7 := hidp (W6.out.call h1 h2); clear h1 h2 W6; rw [HNO.out] at W7
    obtain ⟨c0, c1⟩ := W7.out.h0.two
    obtain ⟨a0, a1⟩ := W7.out.h1.two
    obtain ⟨s0, s1⟩ := W7.out.h2.two
    obtain ⟨i0, i1, i2⟩ := W7.out.h3.three
    obtain ⟨g0, g1, g2, g3⟩ := W7.out.h4.four
    obtain ⟨x0, x1, x2⟩ := W7.out.h5.three
    go_wp2_with fail
    refine (spCount_c hn ((l : Int) - (m : Int)) W7.out.at_).mono ?_; rintro e w8 ⟨rfl, h1, h2⟩; have W8 := hidp (W7.out.call h1 h2); clear h1 h2 W7
    obtain ⟨c0, c1⟩ := W8.out.h0.two
    obtain ⟨a0, a1⟩ := W8.out.h1.two
    obtain ⟨s0, s1⟩ := W8.out.h2.two
    obtain ⟨i0, i1, i2⟩ := W8.out.h3.three
    obtain ⟨g0, g1, g2, g3⟩ := W8.out.h4.four
    obtain ⟨x0, x1, x2⟩ := W8.out.h5.three
    go_wp2
    go_ret
    exact ⟨rfl, by rw [HSB.out]; exact W8.out.fin.1, W8.out.fin.2⟩

theorem snTake_c (hn : n < 2 ^ 40) (hq : q ≤ 1024) (nn : Int) (h : (vOb base b n wh K).At w0 A G st w) :
    Calls Tryz.prog 12 #[.pointer (some ⟨b, 0, none⟩), .agg #[.int .i64 t, .int .i64 q, .int .i64 s], .int .i64 nn] w fun e w' => e = .returned (.tuple #[.int .i64 (foundI (takeI n K t q s nn st).1), .bool (takeI n K t q s nn st).1.isSome]) ∧ (vOb base b n wh K).At w0 A G ((takeI n K t q s nn st).2) w' ∧ Stay G w w' := by
  obtain ⟨⟨o, s1⟩, hf⟩ : ∃ x, findI n K t q s nn st = x := ⟨_, rfl⟩
  cases o with
  | none =>
    rw [takeI_none hf]
    exact snTake_none hn hq nn s1 hf h
  | some p =>
    obtain ⟨h1, h2, h3⟩ := findI_lt hf
    obtain ⟨m, rfl⟩ := Int.eq_ofNat_of_zero_le (show 0 ≤ nn by omega)
    rw [takeI_some hf]
    dsimp only [foundI, Option.isSome]
    have hd := dropV_few (n := n) (K := K) (t := t) (q := q) (s := s) (p : Int) s1
    unfold takeS
    rw [lessS_eq rfl]
    by_cases hml : (m : Int) < dropV n K t q s (p : Int) s1
    · rw [restS_yes hml]
      exact snTake_more hn hq p m (by omega) (by omega) _ hd.1 hd.2 s1 hf rfl hml h
    · rw [restS_no hml]
      exact snTake_all hn hq p m (by omega) (by omega) _ hd.1 hd.2 s1 hf rfl hml h
theorem snGrow_c (hn : n < 2 ^ 40) (hq : q ≤ 1024) (p l : Nat) (m : Int) (hp : ((p : Int) + (l : Int)) ≤ q) (hm : (l : Int) < m) (hm2 : m ≤ 9223372036854775807) (h : (vOb base b n wh K).At w0 A G st w) :
    Calls Tryz.prog 21 #[.pointer (some ⟨b, 0, none⟩), .agg #[.int .i64 t, .int .i64 q, .int .i64 s], .int .i64 (p : Int), .int .i64 (l : Int), .int .i64 m] w fun e w' => e = .returned (.bool (growB n K t q s p l m st)) ∧ (vOb base b n wh K).At w0 A G (growS n K t q s p l m st) w' ∧ Stay G w w' := by
  by_cases hr : ((p : Int) + (l : Int)) < q
  · obtain ⟨⟨k1, l1, c1, o1⟩, hi1⟩ : ∃ x, infoOf n K t q s ((p : Int) + (l : Int)) st = x := ⟨_, rfl⟩
    have hb := growB_is (m := m) hr hi1
    by_cases hk : k1 = 1
    · have h3 : 0 ≤ l1 ∧ l1 ≤ 1024 := by
        have h4 := hi1
        unfold infoOf at h4
        rw [hk] at h4
        exact infoG_len h4
      by_cases hs : l1 < m - (l : Int)
      · rw [decide_eq_false (show ¬ m - (l : Int) ≤ l1 by omega), Bool.and_false] at hb
        rw [growS_no hr hb, hb]
        exact snGrow_short hn hq p l m (by omega) hm hm2 hr k1 l1 c1 o1 hi1 hk hs h
      · rw [decide_eq_true hk, decide_eq_true (show m - (l : Int) ≤ l1 by omega)] at hb
        obtain ⟨mm, rfl⟩ := Int.eq_ofNat_of_zero_le (show 0 ≤ m by omega)
        rw [growS_yes hr (by omega) (by rw [hi1, hk]) hb, hb]
        by_cases hml : (mm : Int) - (l : Int) < l1
        · rw [restS_yes (by omega), show (l : Int) + l1 - (mm : Int) = l1 - ((mm : Int) - (l : Int)) by omega]
          exact snGrow_more hn hq p l mm (by omega) (by omega) (by omega) hr k1 l1 c1 o1 hi1 hk h3.1 h3.2 hs hml h
        · rw [restS_no (by omega)]
          exact snGrow_all hn hq p l mm (by omega) (by omega) (by omega) hr k1 l1 c1 o1 hi1 hk h3.1 h3.2 hs hml h
    · rw [decide_eq_false hk, Bool.false_and] at hb
      rw [growS_no hr hb, hb]
      exact snGrow_kind hn hq p l m (by omega) hm hm2 hr k1 l1 c1 o1 hi1 hk h
  · obtain ⟨hb, hs⟩ := growB_end (n := n) (K := K) (t := t) (s := s) (m := m) (st := st) hr
    rw [hb, hs]
    exact snGrow_end hn hq p l m (by omega) hm hm2 hr (by omega) h

end
end
section
theorem ex14_len : ex14L.length = 82 := by decide
theorem ex14_32 : ∀ x ∈ ex14L, x < 2 ^ 32 := by decide
theorem ex14_cells {w : World} {g : Nat} {t : TypeId} (h : Held w g t ex14C) : ∀ j u, (valVs ex14L)[j]? = some u → w.cell? ((⟨g, 0, none⟩ : Addr).add j) = some u := by
  intro j u hu
  have e : (⟨g, 0, none⟩ : Addr).add j = ⟨g, j, none⟩ := by
    unfold Addr.add
    by_cases hz : j = 0
    · rw [if_pos hz, hz]
    · rw [if_neg hz]; simp
  rw [e, h.cell j, ← hu, ← ex14_eq]
  simp
end
section
set_option maxHeartbeats 3200000 in
theorem live15_c (w : World) : Calls Tryz.prog 9 #[] w fun e w' => e = .returned (.bool true) ∧ Below w.heap.size w w' := by
  have HTK := hidp ex15_take
  have H5 := hidp ex15_five
  have H8 := hidp ex15_eight
  have HS2 : Hid (releaseS 82 ex14K 1 8 10 0 3 (getS 82 ex14K exS1 0) = exS2) := hidp rfl
  go_enter Tryz.func9, Tryz.ntmps9
  go_wp2_with fail
  refine (Eight14_c _).mono ?_
  rintro e w1 ⟨g, rfl, hg, hb⟩
  have HG := hidp (hg.alloc (.cells #[.int .i64 1, .int .i64 8, .int .i64 10] 23))
  have HC := hidp (Held.new w1 23 #[.int .i64 1, .int .i64 8, .int .i64 10])
  have HB := hidp (Bnew hb (.cells #[.int .i64 1, .int .i64 8, .int .i64 10] 23))
  clear hg hb
  obtain ⟨x0, x1, x2⟩ := HC.out.three
  go_wp2_with fail
  generalize hNC : w1.heap.size = NC at *
  generalize hW1 : w1.alloc (.cells #[.int .i64 1, .int .i64 8, .int .i64 10] 23) = W1 at *
  clear hNC hW1
  refine (Whole_c (some ⟨g, 0, none⟩) 82 ex14L 82 ex14_len (by omega) ex14_32 _ (fun _ => ⟨_, rfl, ex14_cells HG.out⟩)).mono ?_
  rintro e w3 ⟨b, o, rfl, hI, hB⟩
  have HD := hidp (duo_made (W := w) (G := fun i => i = NC) hI HB.out.size (Bgo HB.out hB) (fun i hi => by
    have h1 := HC.out.lt
    have h3 := hB.size
    rcases hi with rfl
    exact ⟨by omega, fun x => by have := hI.ge _ x; omega⟩))
  replace HC := hidp (HC.out.keep hB)
  clear hI hB HB HG
  clear x0 x1 x2
  obtain ⟨x0, x1, x2⟩ := HC.out.three
  go_wp2_with fail
  refine (snTake_c (t := 1) (q := 8) (s := 10) (by omega) (by omega) 3 HD.out.at1).mono ?_
  rintro e w2 ⟨rfl, h1, _⟩
  obtain ⟨A4, h2, h3⟩ := HD.out.left1 h1.left
  rw [show (fun i => ex14L[i]?) = ex14K from rfl] at h2 ⊢
  rw [HTK.out] at h2 ⊢
  dsimp only [foundI, Option.isSome] at h2 ⊢
  replace HC := hidp (h3.held rfl HC.out)
  replace HD : Hid (Duo w (vOb _ b 82 true ex14K) noOb A4 (fun _ => False) (fun i => i = NC) exS1 freshS w2) := hidp h2
  clear h1 h2 h3
  clear x0 x1 x2
  obtain ⟨x0, x1, x2⟩ := HC.out.three
  go_wp2_with fail
  refine (vGetA (by omega) 0 HD.out.at1).mono ?_
  rintro e w2 ⟨rfl, h1, _⟩
  obtain ⟨A4, h2, h3⟩ := HD.out.left1 h1.left
  rw [H5.out]
  replace HC := hidp (h3.held rfl HC.out)
  replace HD : Hid (Duo w (vOb _ b 82 true ex14K) noOb A4 (fun _ => False) (fun i => i = NC) (getS 82 ex14K exS1 0) freshS w2) := hidp h2
  clear h1 h2 h3
  clear x0 x1 x2
  obtain ⟨x0, x1, x2⟩ := HC.out.three
  go_wp2_with fail
  refine (snRelease_c (t := 1) (q := 8) (s := 10) (by omega) (by omega) 0 3 (by omega) (by omega) HD.out.at1).mono ?_
  rintro e w2 ⟨rfl, h1, _⟩
  obtain ⟨A4, h2, h3⟩ := HD.out.left1 h1.left
  rw [HS2.out] at h2
  replace HC := hidp (h3.held rfl HC.out)
  replace HD : Hid (Duo w (vOb _ b 82 true ex14K) noOb A4 (fun _ => False) (fun i => i = NC) exS2 freshS w2) := hidp h2
  clear h1 h2 h3
  clear x0 x1 x2
  obtain ⟨x0, x1, x2⟩ := HC.out.three
  have HLM : Hid (exS2.wr.length < 2 ^ 40) := hidp (by decide +kernel)
  go_wp2_with fail
  replace HC := hidp (HC.out.keep (Bdrew (B0 _)))
  refine wp_region_held_drew (S := (fun w' => w'.cell? ⟨NC, 0, none⟩ = some (.int .i64 1) ∧ w'.cell? ⟨NC, 1, none⟩ = some (.int .i64 8) ∧ w'.cell? ⟨NC, 2, none⟩ = some (.int .i64 10))) (by kernel_rfl) ?_ (fun hHeld => ?_)
  · (try dsimp only)
    first | exact HC.out.three | exact hHeld
  refine tkz 0 ?_
  refine tkz 1 ?_
  refine wpAnyH_ready (rs := [2]) (by kernel_rfl) (by simp) ?_
  refine AllReadyH.cons (o := _) rfl (fun K hK => ?_) AllReadyH.nil
  go_simp
  obtain ⟨o5, hI5, _⟩ := HD.out.i1
  have HI5 := hidp hI5
  have HB5 := hidp HD.out.bel
  refine (vVals_some (by omega) HLM.out _ (HI5.out.keep (Bdrew (B0 _)))).mono ?_
  rintro e v2 ⟨g, cp, rfl, _, hrow, hb⟩
  replace HC := hidp (HC.out.keep hb)
  have HB := hidp (Bgo (Bdrew HB5.out) hb)
  have HD6 := hidp ((HD.out.keep (Bdrew (B0 _))).keep hb)
  have HV6 : Hid (IsVals v2 ⟨g, 0, none⟩ 82 exH8.V) := hidp ⟨hrow.lt, fun i hi => by
    have e : (⟨g, 0, none⟩ : Addr).add i = ⟨g, i, none⟩ := by
      unfold Addr.add
      by_cases hz : i = 0
      · rw [if_pos hz, hz]
      · rw [if_neg hz]; simp
    rw [e, hrow.cell hi]
    unfold valF
    rw [ex15_vals i hi]
    rfl⟩
  have HH6 := hidp (ex8_heap hrow.le hrow.max)
  clear hI5 HI5 HB5 HD hrow hb
  refine hK.out _ _ ?_ (fun hHeld => ?_)
  · (try dsimp only)
    first | exact HC.out.three | exact hHeld
  clear hK K
  (try simp only [Act.put, gA, gB, gC, sA, sB, sC])
  refine wpAnyH_ready (rs := [3]) (by kernel_rfl) (by simp) ?_
  refine AllReadyH.cons (o := _) rfl (fun K hK => ?_) AllReadyH.nil
  go_simp
  refine (xCheckIs_yes HH6.out ⟨g, 0, none⟩ _ HV6.out ex8_told _ (B0 _)).mono ?_
  rintro e v3 ⟨rfl, hb⟩
  replace HC := hidp (HC.out.keep hb)
  replace HB := hidp (Bgo HB.out hb)
  have HD := hidp (HD6.out.keep hb)
  clear hb HD6
  refine hK.out _ _ ?_ (fun hHeld => ?_)
  · (try dsimp only)
    first | exact HC.out.three | exact hHeld
  clear hK K
  (try simp only [Act.put, gA, gB, gC, sA, sB, sC])
  refine tkz 4 ?_
  refine tkz 5 ?_
  refine tkz 6 ?_
  refine tkz 7 ?_
  refine tkz 8 ?_
  refine wpAnyH_done (by kernel_rfl) ?_ _
  clear x0 x1 x2
  obtain ⟨x0, x1, x2⟩ := HC.out.three
  go_wp2_with fail
  refine (vGetA (by omega) 0 HD.out.at1).mono ?_
  rintro e w9 ⟨rfl, h1, _⟩
  obtain ⟨A4, h2, h3⟩ := HD.out.left1 h1.left
  rw [H8.out]
  have HB := hidp h2.bel
  clear h1 h2 h3 HD
  go_wp2
  go_ret
  exact ⟨rfl, HB.out⟩
end
end Go.Proofs.YtnamlhkccgnbfaaGreat

namespace Go.Proofs.YtnamlhkccgnbfaaGreat
open Go.ChangeShapes Go.WideShapes Go.ChangeAt Go.RowKit Go.Maps
set_option linter.unusedVariables false
set_option linter.unusedSimpArgs false
section
def upd (g : Int → Nat) (c : Int) (v : Nat) : Int → Nat := fun a => if a = c then v else g a
theorem upd_same (g : Int → Nat) (c : Int) (v : Nat) : upd g c v c = v := if_pos rfl
theorem upd_other (g : Int → Nat) {c a : Int} (v : Nat) (h : a ≠ c) : upd g c v a = g a := if_neg h

structure Geo (P : Nat) (nx pv : Nat → Int) (hd : Int) : Prop where
  nn : ∀ a b, nx a = nx b → a = b
  pp : ∀ a b, pv a = pv b → a = b
  np : ∀ a b, nx a ≠ pv b
  hn : ∀ a, hd ≠ nx a
  hp : ∀ a, hd ≠ pv a

def Seg (P : Nat) (nx pv : Nat → Int) (g : Int → Nat) : Nat → Nat → List Nat → Nat → Nat → Prop
  | a, x, [], a', x' => a = a' ∧ x = x'
  | a, x, p :: r, a', x' => (x = p + 1 ∧ p < P ∧ g (pv p) = a) ∧ Seg P nx pv g (p + 1) (g (nx p)) r a' x'

section
variable {P : Nat} {nx pv : Nat → Int} {hd : Int} {g g' : Int → Nat} {l l1 l2 : List Nat} {a x a' x' p : Nat}
theorem Seg.append : ∀ {l1 l2 : List Nat} {a x a' x' : Nat}, Seg P nx pv g a x (l1 ++ l2) a' x' ↔ ∃ b y, Seg P nx pv g a x l1 b y ∧ Seg P nx pv g b y l2 a' x'
  | [], l2, a, x, a', x' => by
    constructor
    · intro h; exact ⟨a, x, ⟨rfl, rfl⟩, h⟩
    · rintro ⟨b, y, ⟨rfl, rfl⟩, h⟩; exact h
  | p :: r, l2, a, x, a', x' => by
    constructor
    · rintro ⟨h1, h2⟩
      obtain ⟨b, y, h3, h4⟩ := Seg.append.1 h2
      exact ⟨b, y, ⟨h1, h3⟩, h4⟩
    · rintro ⟨b, y, ⟨h1, h3⟩, h4⟩
      exact ⟨h1, Seg.append.2 ⟨b, y, h3, h4⟩⟩
theorem Seg.frame : ∀ {l : List Nat} {a x a' x' : Nat}, Seg P nx pv g a x l a' x' → (∀ p ∈ l, g' (nx p) = g (nx p) ∧ g' (pv p) = g (pv p)) → Seg P nx pv g' a x l a' x'
  | [], a, x, a', x', h, _ => h
  | p :: r, a, x, a', x', ⟨⟨h1, h2, h3⟩, h4⟩, hf => by
    have hp := hf p (List.mem_cons_self ..)
    refine ⟨⟨h1, h2, by rw [hp.2]; exact h3⟩, ?_⟩
    rw [hp.1]
    exact Seg.frame h4 (fun q hq => hf q (List.mem_cons_of_mem _ hq))
theorem Seg.lt : ∀ {l : List Nat} {a x a' x' : Nat}, Seg P nx pv g a x l a' x' → ∀ p ∈ l, p < P
  | [], a, x, a', x', _, p, hp => by cases hp
  | q :: r, a, x, a', x', ⟨⟨_, h2, _⟩, h4⟩, p, hp => by
    rcases List.mem_cons.1 hp with rfl | hp
    · exact h2
    · exact h4.lt p hp
theorem Seg.last (h : Seg P nx pv g a x (l ++ [p]) a' x') : a' = p + 1 ∧ x' = g (nx p) := by
  obtain ⟨b, y, _, h2, h3⟩ := Seg.append.1 h
  exact ⟨h3.1.symm, h3.2.symm⟩
theorem Seg.head (h : Seg P nx pv g a x (p :: l) a' x') : x = p + 1 ∧ p < P ∧ g (pv p) = a := h.1

structure IsL (P : Nat) (nx pv : Nat → Int) (hd : Int) (g : Int → Nat) (l : List Nat) : Prop where
  seg : ∃ a, Seg P nx pv g 0 (g hd) l a 0
  nodup : l.Nodup

def lk1 : List Nat → Nat
  | [] => 0
  | p :: _ => p + 1
theorem Seg.first {a' : Nat} (h : Seg P nx pv g a x l a' 0) : x = lk1 l := by
  cases l with
  | nil => exact h.2
  | cons p r => exact h.1.1
theorem Seg.reprev (G : Geo P nx pv hd) {b : Nat} (hl : l.Nodup) (h : Seg P nx pv g a x l a' x') (h1 : ∀ p ∈ l, g' (nx p) = g (nx p)) (h2 : ∀ p ∈ l.drop 1, g' (pv p) = g (pv p)) (h3 : ∀ p r, l = p :: r → g' (pv p) = b) (h0 : l = [] → a' = a) :
    ∃ c, Seg P nx pv g' b x l c x' := by
  cases l with
  | nil => exact ⟨b, rfl, h.2⟩
  | cons p r =>
    refine ⟨a', ⟨h.1.1, h.1.2.1, h3 p r rfl⟩, ?_⟩
    rw [h1 p (List.mem_cons_self ..)]
    exact h.2.frame (fun q hq => ⟨h1 q (List.mem_cons_of_mem _ hq), h2 q (by simpa using hq)⟩)

def push1G (nx pv : Nat → Int) (hd : Int) (p : Nat) (g : Int → Nat) : Int → Nat := upd (upd g (nx p) (g hd)) (pv p) 0
def pushG (nx pv : Nat → Int) (hd : Int) (p : Nat) (g : Int → Nat) : Int → Nat :=
  upd (if g hd = 0 then push1G nx pv hd p g else upd (push1G nx pv hd p g) (pv (g hd - 1)) (p + 1)) hd (p + 1)
theorem IsL.push (G : Geo P nx pv hd) (h : IsL P nx pv hd g l) (hp : p < P) (hn : ¬ p ∈ l) : IsL P nx pv hd (pushG nx pv hd p g) (p :: l) := by
  obtain ⟨⟨a', hs⟩, hd'⟩ := h
  have hf := hs.first
  have e0 : pushG nx pv hd p g hd = p + 1 := upd_same _ _ _
  have e1 : ∀ c, c ≠ hd → c ≠ nx p → c ≠ pv p → (∀ u r, l = u :: r → c ≠ pv u) → pushG nx pv hd p g c = g c := by
    intro c c1 c2 c3 c4
    unfold pushG
    rw [upd_other _ _ c1]
    have b1 : push1G nx pv hd p g c = g c := by unfold push1G; rw [upd_other _ _ c3, upd_other _ _ c2]
    split
    · exact b1
    · rename_i hz
      have : c ≠ pv (g hd - 1) := by
        cases l with
        | nil => exact absurd hf hz
        | cons u r => rw [hf]; exact c4 u r rfl
      rw [upd_other _ _ this, b1]
  have e2 : pushG nx pv hd p g (nx p) = g hd := by
    unfold pushG
    rw [upd_other _ _ (G.hn p).symm]
    have b1 : push1G nx pv hd p g (nx p) = g hd := by unfold push1G; rw [upd_other _ _ (G.np p p), upd_same]
    split
    · exact b1
    · rw [upd_other _ _ (G.np _ _), b1]
  have e3 : pushG nx pv hd p g (pv p) = 0 := by
    unfold pushG
    rw [upd_other _ _ (G.hp p).symm]
    have b1 : push1G nx pv hd p g (pv p) = 0 := by unfold push1G; rw [upd_same]
    split
    · exact b1
    · rename_i hz
      have : pv p ≠ pv (g hd - 1) := fun e => by
        have e := G.pp _ _ e
        cases l with
        | nil => exact hz hf
        | cons u r => have hf : g hd = u + 1 := hf; exact hn (by rw [e, hf]; simp)
      rw [upd_other _ _ this, b1]
  have e4 : ∀ u r, l = u :: r → pushG nx pv hd p g (pv u) = p + 1 := by
    intro u r hl
    subst hl
    have hf : g hd = u + 1 := hf
    unfold pushG
    rw [upd_other _ _ (G.hp u).symm, if_neg (by omega), hf]
    exact upd_same _ _ _
  refine ⟨?_, by rw [List.nodup_cons]; exact ⟨hn, hd'⟩⟩
  have hne : ∀ u ∈ l, u ≠ p := fun u hu e => hn (e ▸ hu)
  have hd2 : ∀ u r, l = u :: r → ∀ v ∈ r, v ≠ u := fun u r hl v hv e => by
    subst hl
    rw [List.nodup_cons] at hd'
    exact hd'.1 (e ▸ hv)
  obtain ⟨c, hc⟩ := hs.reprev (g' := pushG nx pv hd p g) (b := p + 1) G hd' (fun u hu => e1 _ (G.hn u).symm (fun e => hne u hu (G.nn _ _ e)) (G.np _ _) (fun v r _ => G.np _ _))
    (fun u hu => e1 _ (G.hp u).symm (fun e => G.np _ _ e.symm) (fun e => hne u (List.mem_of_mem_drop hu) (G.pp _ _ e)) (fun v r hl e => by
      have := G.pp _ _ e
      subst hl
      exact hd2 v r rfl u (by simpa using hu) this))
    e4 (fun hl => by subst hl; exact hs.1.symm)
  refine ⟨c, ?_⟩
  rw [e0]
  exact ⟨⟨rfl, hp, e3⟩, by rw [e2]; exact hc⟩

def pull1G (nx pv : Nat → Int) (hd : Int) (p : Nat) (g : Int → Nat) : Int → Nat := if g (pv p) = 0 then upd g hd (g (nx p)) else upd g (nx (g (pv p) - 1)) (g (nx p))
def pull2G (nx pv : Nat → Int) (hd : Int) (p : Nat) (g : Int → Nat) : Int → Nat := if g (nx p) = 0 then pull1G nx pv hd p g else upd (pull1G nx pv hd p g) (pv (g (nx p) - 1)) (g (pv p))
def pullG (nx pv : Nat → Int) (hd : Int) (p : Nat) (g : Int → Nat) : Int → Nat := upd (upd (pull2G nx pv hd p g) (nx p) 0) (pv p) 0
theorem pull_far (G : Geo P nx pv hd) (hl : (l1 ++ p :: l2).Nodup) (hs : Seg P nx pv g 0 (g hd) (l1 ++ p :: l2) a' 0) {c : Int} (c1 : c ≠ hd) (c2 : ∀ u ∈ l1 ++ p :: l2, c ≠ nx u ∧ c ≠ pv u) : pullG nx pv hd p g c = g c := by
  obtain ⟨b, y, s1, ⟨s2, s3, s4⟩, s5⟩ := Seg.append.1 hs
  have cp := c2 p (by simp)
  unfold pullG
  rw [upd_other _ _ cp.2, upd_other _ _ cp.1]
  have b1 : pull1G nx pv hd p g c = g c := by
    unfold pull1G
    split
    · exact upd_other _ _ c1
    · rename_i hz
      rw [s4] at hz ⊢
      rcases List.eq_nil_or_concat l1 with rfl | ⟨m1, u, rfl⟩
      · exact absurd s1.1.symm hz
      · rw [List.concat_eq_append] at s1 c2
        have := s1.last.1
        rw [this]
        exact upd_other _ _ (c2 u (by simp)).1
  unfold pull2G
  split
  · exact b1
  · rename_i hz
    have hx := s5.first
    cases l2 with
    | nil => exact absurd hx hz
    | cons v r =>
      have hx : g (nx p) = v + 1 := hx
      rw [hx, Nat.add_sub_cancel, upd_other _ _ (c2 v (by simp)).2]
      exact b1
theorem IsL.pull (G : Geo P nx pv hd) (h : IsL P nx pv hd g (l1 ++ p :: l2)) : IsL P nx pv hd (pullG nx pv hd p g) (l1 ++ l2) := by
  obtain ⟨⟨a', hs⟩, hl⟩ := h
  obtain ⟨b, y, s1, ⟨s2, s3, s4⟩, s5⟩ := Seg.append.1 hs
  have hx := s5.first
  have hnd := hl
  rw [List.nodup_append] at hnd
  obtain ⟨n1, n2, n3⟩ := hnd
  rw [List.nodup_cons] at n2
  obtain ⟨n4, n5⟩ := n2
  have q1 : ∀ u ∈ l1, u ≠ p := fun u hu => n3 u hu p (List.mem_cons_self ..)
  have q2 : ∀ u ∈ l2, u ≠ p := fun u hu e => n4 (e ▸ hu)
  have q3 : ∀ u ∈ l1, ∀ v ∈ l2, u ≠ v := fun u hu v hv => n3 u hu v (List.mem_cons_of_mem _ hv)
  -- what the cells are, but for those of p
  have w0 : ∀ c, c ≠ nx p → c ≠ pv p → pullG nx pv hd p g c = pull2G nx pv hd p g c := fun c c1 c2 => by unfold pullG; rw [upd_other _ _ c2, upd_other _ _ c1]
  have w1 : ∀ c, (∀ v r, l2 = v :: r → c ≠ pv v) → pull2G nx pv hd p g c = pull1G nx pv hd p g c := fun c c1 => by
    unfold pull2G
    split
    · rfl
    · rename_i hz
      cases l2 with
      | nil => exact absurd hx hz
      | cons v r =>
        have hx : g (nx p) = v + 1 := hx
        rw [hx, Nat.add_sub_cancel, upd_other _ _ (c1 v r rfl)]
  have w2 : ∀ v r, l2 = v :: r → pull2G nx pv hd p g (pv v) = b := fun v r e => by
    subst e
    have hx : g (nx p) = v + 1 := hx
    unfold pull2G
    rw [if_neg (by omega), hx, Nat.add_sub_cancel, upd_same, s4]
  have hs1 : ∃ b', Seg P nx pv (pullG nx pv hd p g) 0 (pullG nx pv hd p g hd) l1 b' (lk1 l2) ∧ b' = b := by
    have hdw : pullG nx pv hd p g hd = pull1G nx pv hd p g hd := by rw [w0 _ (G.hn p) (G.hp p), w1 _ (fun v r _ => G.hp v)]
    rcases List.eq_nil_or_concat l1 with rfl | ⟨m1, u, rfl⟩
    · have hb : b = 0 := s1.1.symm
      refine ⟨0, ⟨rfl, ?_⟩, hb.symm⟩
      rw [hdw]
      unfold pull1G
      rw [if_pos (by rw [s4]; exact hb), upd_same, hx]
    · rw [List.concat_eq_append] at *
      have hbu := s1.last.1
      have hb0 : ¬ g (pv p) = 0 := by rw [s4, hbu]; omega
      have w3 : ∀ c, c ≠ nx u → pull1G nx pv hd p g c = g c := fun c c1 => by
        unfold pull1G
        rw [if_neg hb0, s4, hbu, Nat.add_sub_cancel, upd_other _ _ c1]
      have w4 : pull1G nx pv hd p g (nx u) = lk1 l2 := by
        unfold pull1G
        rw [if_neg hb0, s4, hbu, Nat.add_sub_cancel, upd_same, hx]
      obtain ⟨b0, y0, t1, ⟨t2, t3, t4⟩, t5⟩ := Seg.append.1 s1
      have hum : ∀ v ∈ m1, v ≠ u := fun v hv => by
        have n1' := n1
        rw [List.nodup_append] at n1'
        exact n1'.2.2 v hv u (by simp)
      have k1 : Seg P nx pv (pullG nx pv hd p g) 0 (pullG nx pv hd p g hd) m1 b0 y0 := by
        rw [hdw, w3 _ (G.hn u)]
        refine t1.frame (fun v hv => ⟨?_, ?_⟩)
        · rw [w0 _ (fun e => q1 v (by simp [hv]) (G.nn _ _ e)) (G.np _ _), w1 _ (fun _ _ _ => G.np _ _), w3 _ (fun e => hum v hv (G.nn _ _ e))]
        · rw [w0 _ (fun e => G.np _ _ e.symm) (fun e => q1 v (by simp [hv]) (G.pp _ _ e)), w1 _ (fun z r hz e => q3 v (by simp [hv]) z (by rw [hz]; simp) (G.pp _ _ e)), w3 _ (fun e => G.np _ _ e.symm)]
      have k2 : pullG nx pv hd p g (pv u) = b0 := by
        rw [w0 _ (fun e => G.np _ _ e.symm) (fun e => q1 u (by simp) (G.pp _ _ e)), w1 _ (fun z r hz e => q3 u (by simp) z (by rw [hz]; simp) (G.pp _ _ e)), w3 _ (fun e => G.np _ _ e.symm), t4]
      have k3 : pullG nx pv hd p g (nx u) = lk1 l2 := by
        rw [w0 _ (fun e => q1 u (by simp) (G.nn _ _ e)) (G.np _ _), w1 _ (fun _ _ _ => G.np _ _), w4]
      exact ⟨b, Seg.append.2 ⟨b0, y0, k1, ⟨t2, t3, k2⟩, hbu.symm, k3⟩, rfl⟩
  obtain ⟨b', h1, rfl⟩ := hs1
  have w5 : ∀ c, c ≠ hd → (∀ u ∈ l1, c ≠ nx u) → pull1G nx pv hd p g c = g c := fun c c1 c2 => by
    unfold pull1G
    split
    · exact upd_other _ _ c1
    · rename_i hz
      rw [s4] at hz ⊢
      rcases List.eq_nil_or_concat l1 with rfl | ⟨m1, u, rfl⟩
      · exact absurd s1.1.symm hz
      · rw [List.concat_eq_append] at s1 c2
        have := s1.last.1
        rw [this]
        exact upd_other _ _ (c2 u (by simp))
  have hd2 : ∀ u r, l2 = u :: r → ∀ v ∈ r, v ≠ u := fun u r hl v hv e => by
    subst hl
    rw [List.nodup_cons] at n5
    exact n5.1 (e ▸ hv)
  obtain ⟨c, hc⟩ := s5.reprev (g' := pullG nx pv hd p g) (b := b') G n5
    (fun u hu => by rw [w0 _ (fun e => q2 u hu (G.nn _ _ e)) (G.np _ _), w1 _ (fun _ _ _ => G.np _ _), w5 _ (G.hn u).symm (fun v hv e => q3 v hv u hu (G.nn _ _ e.symm))])
    (fun u hu => by
      have hu' := List.mem_of_mem_drop hu
      rw [w0 _ (fun e => G.np _ _ e.symm) (fun e => q2 u hu' (G.pp _ _ e)), w1 _ (fun z r hz e => by
        have := G.pp _ _ e
        subst hz
        exact hd2 z r rfl u (by simpa using hu) this), w5 _ (G.hp u).symm (fun v hv e => G.np _ _ e.symm)])
    (fun v r e => by rw [w0 _ (fun e => G.np _ _ e.symm) (fun e2 => q2 v (by rw [e]; simp) (G.pp _ _ e2)), w2 v r e])
    (fun e => by subst e; exact s5.1.symm)
  rw [hx] at hc
  refine ⟨⟨c, Seg.append.2 ⟨b', _, h1, hc⟩⟩, ?_⟩
  rw [List.nodup_append]
  exact ⟨n1, n5, fun u hu v hv => q3 u hu v hv⟩
end
end
end Go.Proofs.YtnamlhkccgnbfaaGreat
