/-
  What span's Take, Shrink and Grow do. Written by span/gen_take.py.
-/
import Derived.Test.YtjjfcaliippgpaaGreatDoorUSpanRelease
import Derived.Test.YtjjfcaliippgpaaGreatDoorU08
namespace Go.Proofs.YtjjfcaliippgpaaGreatDoor
open Go.ChangeShapes Go.WideShapes Go.ChangeAt Go.RowKit Go.Maps
set_option linter.unusedVariables false
set_option linter.unusedSimpArgs false
set_option maxRecDepth 100000
section
section
variable {base b n : Nat} {wh all : Bool} {K : Nat -> Option Nat} {st : Vst} {w w0 : World} {A G : Nat -> Prop} {t q s : Int}

theorem addS_none {p : Int} {l : Int} (h : l < 1) : addS n K t q s p l st = st := addS_no (fun hx => by omega)

theorem lookF_lt {nn : Int} {st : Vst} : ∀ (k l : Nat) (st : Vst) {p : Nat}, (lookF n K t q s nn k l st).1 = some p -> (p : Int) < q
 | 0, l, st, p, h => by rw [lookF] at h; cases h
 | k + 1, l, st, p, h => by
  rw [lookF] at h
  by_cases h1 : 1 <= l /\ (l : Int) <= q
  ·rw [if_pos h1] at h
   by_cases h2 : fitB nn (getV n K st (pageI t q s ((l : Int) - 1) 0)) = true
   ·rw [if_pos h2] at h
    injection h with h
    omega
   ·rw [if_neg h2] at h
    exact lookF_lt (st := st) k _ _ h
  ·rw [if_neg h1] at h
   cases h
theorem nextF_lt : ∀ (j k : Nat) (st : Vst) {p : Nat}, (nextF n K q j k st).1 = some p -> (p : Int) < q
 | 0, k, st, p, h => by rw [nextF] at h; cases h
 | j + 1, k, st, p, h => by
  rw [nextF] at h
  by_cases h1 : 1 <= getV n K st ((2 + k : Nat) : Int) /\ ((getV n K st ((2 + k : Nat) : Int) : Nat) : Int) <= q
  ·rw [if_pos h1] at h
   injection h with h
   omega
  ·rw [if_neg h1] at h
   exact nextF_lt j _ _ h
theorem findI_lt {nn : Int} {st s1 : Vst} {p : Nat} (h : findI n K t q s nn st = (some p, s1)) : (p : Int) < q /\ 1 <= nn /\ nn <= q := by
 by_cases h1 : 1 <= nn /\ nn <= q
 ·refine ⟨?_, h1⟩
  unfold findI at h
  rw [if_pos h1] at h
  unfold findF at h
  simp only at h
  cases hl : (lookF n K t q s nn q.toNat (getV n K st ((2 + (ofI nn).toNat : Nat) : Int)) (getS n K st ((2 + (ofI nn).toNat : Nat) : Int))).1 with
  | some x =>
   rw [hl] at h
   injection h with h _
   injection h with h
   subst h
   exact lookF_lt (st := st) _ _ _ hl
  | none =>
   rw [hl] at h
   exact nextF_lt _ _ _ (congrArg Prod.fst h)
 ·rw [findI_no h1] at h
  injection h with h _
  cases h
theorem takeI_none {nn : Int} {st s1 : Vst} (h : findI n K t q s nn st = (none, s1)) : takeI n K t q s nn st = (none, s1) := by
 unfold takeI
 rw [h]
theorem takeI_some {m p : Nat} {st s1 : Vst} (h : findI n K t q s (m : Int) st = (some p, s1)) : takeI n K t q s (m : Int) st = (some p, takeS n K t q s p m s1) := by
 unfold takeI
 rw [h]
 simp
theorem lessS_eq {x : Nat} {z : Int} {st : Vst} (h : (x : Int) = z) : lessS n K x st = putS n (getS n K st 0) 0 (sub32 (getV n K st 0) z) := by
 subst h
 rfl
theorem restS_yes {p m : Nat} {l : Int} {st : Vst} (h : (m : Int) < l) : restS n K t q s p m l st = addS n K t q s ((p : Int) + (m : Int)) (l - (m : Int)) st := by unfold restS; rw [if_pos h]
theorem restS_no {p m : Nat} {l : Int} {st : Vst} (h : ¬ (m : Int) < l) : restS n K t q s p m l st = st := by unfold restS; rw [if_neg h]
theorem WL.h3 {O : Ob} {w0 ws w : World} {A G : Nat -> Prop} {L : List Blk} {x y z u : Blk} {st : Vst} (h : WL O w0 A G ws (x :: y :: z :: u :: L) st w) : Held w u.n u.t u.cs := h.held u (by simp)
set_option maxHeartbeats 6400000 in
theorem snTake_none (hn : n < 2 ^ 40) (hq : q <= 1024) (nn : Int) (s1 : Vst) (hf : findI n K t q s nn st = (none, s1)) (h : (vOb base b n wh K).At w0 A G st w) :
  Calls Tryz.prog 154 #[.pointer (some ⟨b, 0, none⟩), .agg #[.int .i64 t, .int .i64 q, .int .i64 s], .int .i64 nn] w fun e w' => e = .returned (.tuple #[.int .i64 0, .bool false]) /\ (vOb base b n wh K).At w0 A G (s1) w' /\ Stay G w w' := by
 have W0 := hidp ((WL.start h).new 23 #[.int .i64 t, .int .i64 q, .int .i64 s])
 have hq2 : q <= 2147483648 := by omega
 have HFO := hidp hf
 clear h hf
 go_enter Tryz.func154, Tryz.ntmps154
 obtain ⟨x0, x1, x2⟩ := W0.out.h0.three
 go_wp2_with fail
 refine (bnFind_c hn hq nn W0.out.at_).mono ?_; rintro e w1 ⟨rfl, h1, h2⟩; have W1 := hidp (W0.out.call h1 h2); clear h1 h2 W0; rw [HFO.out] at W1 ⊢; dsimp only [foundI, Option.isSome] at W1 ⊢
 obtain ⟨x0, x1, x2⟩ := W1.out.h0.three
 go_wp2
 go_ret2
 exact ⟨rfl, W1.out.fin⟩

set_option maxHeartbeats 6400000 in
theorem snTake_more (hn : n < 2 ^ 40) (hq : q <= 1024) (p m : Nat) (hp : p <= 1024) (hm : m <= 1024) (l : Int) (hl0 : 0 <= l) (hl1 : l <= 1024) (s1 : Vst) (hf : findI n K t q s (m : Int) st = (some p, s1)) (hd : dropV n K t q s (p : Int) s1 = l) (hml : (m : Int) < l) (h : (vOb base b n wh K).At w0 A G st w) :
  Calls Tryz.prog 154 #[.pointer (some ⟨b, 0, none⟩), .agg #[.int .i64 t, .int .i64 q, .int .i64 s], .int .i64 (m : Int)] w fun e w' => e = .returned (.tuple #[.int .i64 (p : Int), .bool true]) /\ (vOb base b n wh K).At w0 A G (putS n (getS n K (addS n K t q s ((p : Int) + (m : Int)) (l - (m : Int)) (usedS n t q s p m (dropS n K t q s (p : Int) s1))) 0) 0 (sub32 (getV n K (addS n K t q s ((p : Int) + (m : Int)) (l - (m : Int)) (usedS n t q s p m (dropS n K t q s (p : Int) s1))) 0) (m : Int))) w' /\ Stay G w w' := by
 have W0 := hidp ((WL.start h).new 23 #[.int .i64 t, .int .i64 q, .int .i64 s])
 have hq2 : q <= 2147483648 := by omega
 have HFO := hidp hf
 have HDV := hidp hd
 have v4 : IntKind.i64.wrap ((p : Int) + (m : Int)) = ((p : Int) + (m : Int)) := i64_same (by omega) (by omega)
 have v6 : IntKind.i64.wrap (l - (m : Int)) = (l - (m : Int)) := i64_same (by omega) (by omega)
 have v7 : IntKind.i64.wrap (-(m : Int)) = (-(m : Int)) := i64_same (by omega) (by omega)
 have HSB : Hid (sub32 (getV n K (addS n K t q s ((p : Int) + (m : Int)) (l - (m : Int)) (usedS n t q s p m (dropS n K t q s (p : Int) s1))) 0) (m : Int) = add32 (getV n K (addS n K t q s ((p : Int) + (m : Int)) (l - (m : Int)) (usedS n t q s p m (dropS n K t q s (p : Int) s1))) 0) (-(m : Int))) := hidp (add32_neg _ _).symm
 clear h hf hd
 go_enter Tryz.func154, Tryz.ntmps154
 obtain ⟨x0, x1, x2⟩ := W0.out.h0.three
 go_wp2_with fail
 refine (bnFind_c hn hq (m : Int) W0.out.at_).mono ?_; rintro e w1 ⟨rfl, h1, h2⟩; have W1 := hidp (W0.out.call h1 h2); clear h1 h2 W0; rw [HFO.out] at W1 ⊢; dsimp only [foundI, Option.isSome] at W1 ⊢
 obtain ⟨x0, x1, x2⟩ := W1.out.h0.three
 generalize hNP : w1.heap.size = NP at *
 replace W1 := hidp (W1.out.new 213 #[.pointer (some ⟨b, 0, none⟩), .int .i64 t, .int .i64 q, .int .i64 s])
 rw [hNP] at W1
 obtain ⟨g0, g1, g2, g3⟩ := W1.out.h0.four
 obtain ⟨x0, x1, x2⟩ := W1.out.h1.three
 go_wp2_with fail
 refine (bnDrop_c hn hq2 (p : Int) W1.out.at_).mono ?_; rintro e w2 ⟨rfl, h1, h2⟩; have W2 := hidp (W1.out.call h1 h2); clear h1 h2 W1; rw [HDV.out]
 obtain ⟨g0, g1, g2, g3⟩ := W2.out.h0.four
 obtain ⟨x0, x1, x2⟩ := W2.out.h1.three
 go_wp2_with fail
 refine (spCut_c (p : Int) l (m : Int) v4 v6 _).mono ?_; rintro e w3 ⟨rfl, hb⟩; have W3 := hidp (W2.out.keep hb); clear hb W2
 generalize hNA : w3.heap.size = NA at *
 replace W3 := hidp ((W3.out.new 215 #[.int .i64 (p : Int), .int .i64 (m : Int)]).new 215 #[.int .i64 ((p : Int) + (m : Int)), .int .i64 (l - (m : Int))])
 rw [World.size_alloc, hNA] at W3
 obtain ⟨c0, c1⟩ := W3.out.h0.two
 obtain ⟨a0, a1⟩ := W3.out.h1.two
 obtain ⟨g0, g1, g2, g3⟩ := W3.out.h2.four
 obtain ⟨x0, x1, x2⟩ := W3.out.h3.three
 go_wp2_with fail
 refine (spUse_c hn p m (by omega) (by omega) W3.out.at_).mono ?_; rintro e w4 ⟨rfl, h1, h2⟩; have W4 := hidp (W3.out.call h1 h2); clear h1 h2 W3
 obtain ⟨c0, c1⟩ := W4.out.h0.two
 obtain ⟨a0, a1⟩ := W4.out.h1.two
 obtain ⟨g0, g1, g2, g3⟩ := W4.out.h2.four
 obtain ⟨x0, x1, x2⟩ := W4.out.h3.three
 go_wp2_with fail
 refine (spFree_c hn hq2 ((p : Int) + (m : Int)) (l - (m : Int)) W4.out.at_).mono ?_; rintro e w5 ⟨rfl, h1, h2⟩; have W5 := hidp (W4.out.call h1 h2); clear h1 h2 W4
 obtain ⟨c0, c1⟩ := W5.out.h0.two
 obtain ⟨a0, a1⟩ := W5.out.h1.two
 obtain ⟨g0, g1, g2, g3⟩ := W5.out.h2.four
 obtain ⟨x0, x1, x2⟩ := W5.out.h3.three
 go_wp2_with fail
 refine (spCount_c hn (-(m : Int)) W5.out.at_).mono ?_; rintro e w6 ⟨rfl, h1, h2⟩; have W6 := hidp (W5.out.call h1 h2); clear h1 h2 W5
 obtain ⟨c0, c1⟩ := W6.out.h0.two
 obtain ⟨a0, a1⟩ := W6.out.h1.two
 obtain ⟨g0, g1, g2, g3⟩ := W6.out.h2.four
 obtain ⟨x0, x1, x2⟩ := W6.out.h3.three
 go_wp2
 go_ret2
 exact ⟨rfl, by rw [HSB.out]; exact W6.out.fin.1, W6.out.fin.2⟩

set_option maxHeartbeats 6400000 in
theorem snTake_all (hn : n < 2 ^ 40) (hq : q <= 1024) (p m : Nat) (hp : p <= 1024) (hm : m <= 1024) (l : Int) (hl0 : 0 <= l) (hl1 : l <= 1024) (s1 : Vst) (hf : findI n K t q s (m : Int) st = (some p, s1)) (hd : dropV n K t q s (p : Int) s1 = l) (hml : ¬ (m : Int) < l) (h : (vOb base b n wh K).At w0 A G st w) :
  Calls Tryz.prog 154 #[.pointer (some ⟨b, 0, none⟩), .agg #[.int .i64 t, .int .i64 q, .int .i64 s], .int .i64 (m : Int)] w fun e w' => e = .returned (.tuple #[.int .i64 (p : Int), .bool true]) /\ (vOb base b n wh K).At w0 A G (putS n (getS n K (usedS n t q s p m (dropS n K t q s (p : Int) s1)) 0) 0 (sub32 (getV n K (usedS n t q s p m (dropS n K t q s (p : Int) s1)) 0) (m : Int))) w' /\ Stay G w w' := by
 have W0 := hidp ((WL.start h).new 23 #[.int .i64 t, .int .i64 q, .int .i64 s])
 have hq2 : q <= 2147483648 := by omega
 have HFO := hidp hf
 have HDV := hidp hd
 have v4 : IntKind.i64.wrap ((p : Int) + (m : Int)) = ((p : Int) + (m : Int)) := i64_same (by omega) (by omega)
 have v6 : IntKind.i64.wrap (l - (m : Int)) = (l - (m : Int)) := i64_same (by omega) (by omega)
 have v7 : IntKind.i64.wrap (-(m : Int)) = (-(m : Int)) := i64_same (by omega) (by omega)
 have HSB : Hid (sub32 (getV n K (usedS n t q s p m (dropS n K t q s (p : Int) s1)) 0) (m : Int) = add32 (getV n K (usedS n t q s p m (dropS n K t q s (p : Int) s1)) 0) (-(m : Int))) := hidp (add32_neg _ _).symm
 have HNO : Hid (addS n K t q s ((p : Int) + (m : Int)) (l - (m : Int)) (usedS n t q s p m (dropS n K t q s (p : Int) s1)) = usedS n t q s p m (dropS n K t q s (p : Int) s1)) := hidp (addS_none (by omega))
 clear h hf hd
 go_enter Tryz.func154, Tryz.ntmps154
 obtain ⟨x0, x1, x2⟩ := W0.out.h0.three
 go_wp2_with fail
 refine (bnFind_c hn hq (m : Int) W0.out.at_).mono ?_; rintro e w1 ⟨rfl, h1, h2⟩; have W1 := hidp (W0.out.call h1 h2); clear h1 h2 W0; rw [HFO.out] at W1 ⊢; dsimp only [foundI, Option.isSome] at W1 ⊢
 obtain ⟨x0, x1, x2⟩ := W1.out.h0.three
 generalize hNP : w1.heap.size = NP at *
 replace W1 := hidp (W1.out.new 213 #[.pointer (some ⟨b, 0, none⟩), .int .i64 t, .int .i64 q, .int .i64 s])
 rw [hNP] at W1
 obtain ⟨g0, g1, g2, g3⟩ := W1.out.h0.four
 obtain ⟨x0, x1, x2⟩ := W1.out.h1.three
 go_wp2_with fail
 refine (bnDrop_c hn hq2 (p : Int) W1.out.at_).mono ?_; rintro e w2 ⟨rfl, h1, h2⟩; have W2 := hidp (W1.out.call h1 h2); clear h1 h2 W1; rw [HDV.out]
 obtain ⟨g0, g1, g2, g3⟩ := W2.out.h0.four
 obtain ⟨x0, x1, x2⟩ := W2.out.h1.three
 go_wp2_with fail
 refine (spCut_c (p : Int) l (m : Int) v4 v6 _).mono ?_; rintro e w3 ⟨rfl, hb⟩; have W3 := hidp (W2.out.keep hb); clear hb W2
 generalize hNA : w3.heap.size = NA at *
 replace W3 := hidp ((W3.out.new 215 #[.int .i64 (p : Int), .int .i64 (m : Int)]).new 215 #[.int .i64 ((p : Int) + (m : Int)), .int .i64 (l - (m : Int))])
 rw [World.size_alloc, hNA] at W3
 obtain ⟨c0, c1⟩ := W3.out.h0.two
 obtain ⟨a0, a1⟩ := W3.out.h1.two
 obtain ⟨g0, g1, g2, g3⟩ := W3.out.h2.four
 obtain ⟨x0, x1, x2⟩ := W3.out.h3.three
 go_wp2_with fail
 refine (spUse_c hn p m (by omega) (by omega) W3.out.at_).mono ?_; rintro e w4 ⟨rfl, h1, h2⟩; have W4 := hidp (W3.out.call h1 h2); clear h1 h2 W3
 obtain ⟨c0, c1⟩ := W4.out.h0.two
 obtain ⟨a0, a1⟩ := W4.out.h1.two
 obtain ⟨g0, g1, g2, g3⟩ := W4.out.h2.four
 obtain ⟨x0, x1, x2⟩ := W4.out.h3.three
 go_wp2_with fail
 refine (spFree_c hn hq2 ((p : Int) + (m : Int)) (l - (m : Int)) W4.out.at_).mono ?_; rintro e w5 ⟨rfl, h1, h2⟩; have W5 := hidp (W4.out.call h1 h2); clear h1 h2 W4; rw [HNO.out] at W5
 obtain ⟨c0, c1⟩ := W5.out.h0.two
 obtain ⟨a0, a1⟩ := W5.out.h1.two
 obtain ⟨g0, g1, g2, g3⟩ := W5.out.h2.four
 obtain ⟨x0, x1, x2⟩ := W5.out.h3.three
 go_wp2_with fail
 refine (spCount_c hn (-(m : Int)) W5.out.at_).mono ?_; rintro e w6 ⟨rfl, h1, h2⟩; have W6 := hidp (W5.out.call h1 h2); clear h1 h2 W5
 obtain ⟨c0, c1⟩ := W6.out.h0.two
 obtain ⟨a0, a1⟩ := W6.out.h1.two
 obtain ⟨g0, g1, g2, g3⟩ := W6.out.h2.four
 obtain ⟨x0, x1, x2⟩ := W6.out.h3.three
 go_wp2
 go_ret2
 exact ⟨rfl, by rw [HSB.out]; exact W6.out.fin.1, W6.out.fin.2⟩

theorem snTake_c (hn : n < 2 ^ 40) (hq : q <= 1024) (nn : Int) (h : (vOb base b n wh K).At w0 A G st w) :
  Calls Tryz.prog 154 #[.pointer (some ⟨b, 0, none⟩), .agg #[.int .i64 t, .int .i64 q, .int .i64 s], .int .i64 nn] w fun e w' => e = .returned (.tuple #[.int .i64 (foundI (takeI n K t q s nn st).1), .bool (takeI n K t q s nn st).1.isSome]) /\ (vOb base b n wh K).At w0 A G ((takeI n K t q s nn st).2) w' /\ Stay G w w' := by
 obtain ⟨⟨o, s1⟩, hf⟩ : ∃ x, findI n K t q s nn st = x := ⟨_, rfl⟩
 cases o with
 | none =>
  rw [takeI_none hf]
  exact snTake_none hn hq nn s1 hf h
 | some p =>
  obtain ⟨h1, h2, h3⟩ := findI_lt hf
  obtain ⟨m, rfl⟩ := Int.eq_ofNat_of_zero_le (show 0 <= nn by omega)
  rw [takeI_some hf]
  dsimp only [foundI, Option.isSome]
  have hd := dropV_few (n := n) (K := K) (t := t) (q := q) (s := s) (p : Int) s1
  unfold takeS
  rw [lessS_eq rfl]
  by_cases hml : (m : Int) < dropV n K t q s (p : Int) s1
  ·rw [restS_yes hml]
   exact snTake_more hn hq p m (by omega) (by omega) _ hd.1 hd.2 s1 hf rfl hml h
  ·rw [restS_no hml]
   exact snTake_all hn hq p m (by omega) (by omega) _ hd.1 hd.2 s1 hf rfl hml h
end
end
section
theorem cell_lt16 {w : World} {g o : Nat} {v : Value} (h : w.cell? ⟨g, o, none⟩ = some v) : g < w.heap.size := by
 rcases Nat.lt_or_ge g w.heap.size with h1 | h1
 ·exact h1
 ·have h2 : w.heap[g]? = none := Array.getElem?_eq_none h1
  unfold World.cell? at h
  rw [h2] at h
  cases h
theorem SlotsLaid.at_ {O : Ob} {w0 w : World} {A G : Nat -> Prop} {st : Vst} (hT : SlotsLaid w0) (hA : ¬ A 0) (h : O.At w0 A G st w) : SlotsLaid w := by
 obtain ⟨A', h1, h2, h3, h4⟩ := h
 intro k hk
 have hc := hT k hk
 have hl : (0 : Nat) < w0.heap.size := cell_lt16 hc
 have hb := h3.block _ hl hA
 rw [<- hc]
 unfold World.cell?
 rw [hb]
section
variable {base b n : Nat} {wh all : Bool} {K : Nat -> Option Nat} {st : Vst} {w w0 : World} {A G : Nat -> Prop} {t q s k : Int}
theorem rack_at {k : Int} (k0 : 0 <= k) (k8 : k <= 8) : nthI 13 9 1 k = 13 + k := by rw [nth_on (by omega) (by omega) (by omega)]; omega

set_option maxHeartbeats 3200000 in
theorem sbTaken_c (hn : n < 2 ^ 40) (p : Int) (h : (vOb base b n wh K).At w0 A G st w) :
  Calls Tryz.prog 156 #[.agg #[.pointer (some ⟨b, 0, none⟩), .int .i64 t, .int .i64 q, .int .i64 s, .int .i64 p, .int .i64 k]] w fun e w' => e = .returned (.int .u32 ((getV n K st (pageI t q s p 5) : Nat) : Int)) /\ (vOb base b n wh K).At w0 A G (getS n K st (pageI t q s p 5)) w' /\ Stay G w w' := by
 have W0 := hidp ((WL.start h).new 155 #[.pointer (some ⟨b, 0, none⟩), .int .i64 t, .int .i64 q, .int .i64 s, .int .i64 p, .int .i64 k])
 obtain ⟨v, hv⟩ : ∃ v, getV n K st (pageI t q s p 5) = v := ⟨_, rfl⟩
 have HV := hidp hv
 rw [hv]
 clear h hv
 go_enter Tryz.func156, Tryz.ntmps156
 obtain ⟨x0, x1, x2, x3, x4, x5⟩ := W0.out.h0.six'
 go_wp2_with fail
 refine wp_region_held_drew (S := (fun w' => w'.cell? ⟨w.heap.size, 0, none⟩ = some (.pointer (some ⟨b, 0, none⟩)) /\ w'.cell? ⟨w.heap.size, 1, none⟩ = some (.int .i64 t) /\ w'.cell? ⟨w.heap.size, 2, none⟩ = some (.int .i64 q) /\ w'.cell? ⟨w.heap.size, 3, none⟩ = some (.int .i64 s) /\ w'.cell? ⟨w.heap.size, 4, none⟩ = some (.int .i64 p) /\ w'.cell? ⟨w.heap.size, 5, none⟩ = some (.int .i64 k))) (by kernel_rfl) ?_ (fun hHeld => ?_)
 ·(try dsimp only)
  exact ⟨W0.out.drew.h0.six'.1, W0.out.drew.h0.six'.2.1, W0.out.drew.h0.six'.2.2.1, W0.out.drew.h0.six'.2.2.2.1, W0.out.drew.h0.six'.2.2.2.2.1, W0.out.drew.h0.six'.2.2.2.2.2⟩
 refine tkz 0 ?_
 refine tkz 1 ?_
 refine tkz 2 ?_
 refine tkz 3 ?_
 refine tkz 4 ?_
 refine tkz 5 ?_
 refine rdz 6 fun K hK => ?_
 go_simp
 refine (plTaken_c t q s p _).mono ?_; rintro e w1 ⟨rfl, hb⟩; have W1 := hidp (W0.out.drew.keep hb); clear hb W0
 refine hK.out _ _ ?_ (fun hHeld => ?_)
 ·(try dsimp only)
  exact ⟨W1.out.h0.six'.1, W1.out.h0.six'.2.1, W1.out.h0.six'.2.2.1, W1.out.h0.six'.2.2.2.1, W1.out.h0.six'.2.2.2.2.1, W1.out.h0.six'.2.2.2.2.2⟩
 clear hK K
 (try simp only [Act.put, gA, gB, gC, sA, sB, sC])
 refine rdz 7 fun K hK => ?_
 go_simp
 refine (vGetA hn _ W1.out.at_).mono ?_; rintro e w2 ⟨rfl, h1, h2⟩; have W2 := hidp (W1.out.call h1 h2); clear h1 h2 W1; rw [HV.out]
 refine hK.out _ _ ?_ (fun hHeld => ?_)
 ·(try dsimp only)
  exact ⟨W2.out.h0.six'.1, W2.out.h0.six'.2.1, W2.out.h0.six'.2.2.1, W2.out.h0.six'.2.2.2.1, W2.out.h0.six'.2.2.2.2.1, W2.out.h0.six'.2.2.2.2.2⟩
 clear hK K
 (try simp only [Act.put, gA, gB, gC, sA, sB, sC])
 refine tkz 8 ?_
 refine dnz ?_
 obtain ⟨x0, x1, x2, x3, x4, x5⟩ := W2.out.h0.six'
 go_wp2
 go_ret
 exact ⟨rfl, W2.out.fin⟩

set_option maxHeartbeats 3200000 in
theorem sbSet_c (hn : n < 2 ^ 40) (p : Int) (u : Nat) (hu : u < 2 ^ 32) (h : (vOb base b n wh K).At w0 A G st w) :
  Calls Tryz.prog 159 #[.agg #[.pointer (some ⟨b, 0, none⟩), .int .i64 t, .int .i64 q, .int .i64 s, .int .i64 p, .int .i64 k], .int .u32 (u : Int)] w fun e w' => e = .returned (.tuple #[]) /\ (vOb base b n wh K).At w0 A G (putS n st (pageI t q s p 5) u) w' /\ Stay G w w' := by
 have W0 := hidp ((WL.start h).new 155 #[.pointer (some ⟨b, 0, none⟩), .int .i64 t, .int .i64 q, .int .i64 s, .int .i64 p, .int .i64 k])
 have HU := hidp hu
 clear h hu
 go_enter Tryz.func159, Tryz.ntmps159
 obtain ⟨x0, x1, x2, x3, x4, x5⟩ := W0.out.h0.six'
 go_wp2_with fail
 refine wp_region_held_drew (S := (fun w' => w'.cell? ⟨w.heap.size, 0, none⟩ = some (.pointer (some ⟨b, 0, none⟩)) /\ w'.cell? ⟨w.heap.size, 1, none⟩ = some (.int .i64 t) /\ w'.cell? ⟨w.heap.size, 2, none⟩ = some (.int .i64 q) /\ w'.cell? ⟨w.heap.size, 3, none⟩ = some (.int .i64 s) /\ w'.cell? ⟨w.heap.size, 4, none⟩ = some (.int .i64 p) /\ w'.cell? ⟨w.heap.size, 5, none⟩ = some (.int .i64 k))) (by kernel_rfl) ?_ (fun hHeld => ?_)
 ·(try dsimp only)
  exact ⟨W0.out.drew.h0.six'.1, W0.out.drew.h0.six'.2.1, W0.out.drew.h0.six'.2.2.1, W0.out.drew.h0.six'.2.2.2.1, W0.out.drew.h0.six'.2.2.2.2.1, W0.out.drew.h0.six'.2.2.2.2.2⟩
 refine tkz 0 ?_
 refine tkz 1 ?_
 refine tkz 2 ?_
 refine tkz 3 ?_
 refine tkz 4 ?_
 refine tkz 5 ?_
 refine tkz 7 ?_
 refine rdz 6 fun K hK => ?_
 go_simp
 refine (plTaken_c t q s p _).mono ?_; rintro e w1 ⟨rfl, hb⟩; have W1 := hidp (W0.out.drew.keep hb); clear hb W0
 refine hK.out _ _ ?_ (fun hHeld => ?_)
 ·(try dsimp only)
  exact ⟨W1.out.h0.six'.1, W1.out.h0.six'.2.1, W1.out.h0.six'.2.2.1, W1.out.h0.six'.2.2.2.1, W1.out.h0.six'.2.2.2.2.1, W1.out.h0.six'.2.2.2.2.2⟩
 clear hK K
 (try simp only [Act.put, gA, gB, gC, sA, sB, sC])
 refine rdz 8 fun K hK => ?_
 go_simp
 refine (vPutA hn _ u HU.out W1.out.at_).mono ?_; rintro e w2 ⟨rfl, h1, h2⟩; have W2 := hidp (W1.out.call h1 h2); clear h1 h2 W1
 refine hK.out _ _ ?_ (fun hHeld => ?_)
 ·(try dsimp only)
  exact ⟨W2.out.h0.six'.1, W2.out.h0.six'.2.1, W2.out.h0.six'.2.2.1, W2.out.h0.six'.2.2.2.1, W2.out.h0.six'.2.2.2.2.1, W2.out.h0.six'.2.2.2.2.2⟩
 clear hK K
 (try simp only [Act.put, gA, gB, gC, sA, sB, sC])
 refine dnz ?_
 obtain ⟨x0, x1, x2, x3, x4, x5⟩ := W2.out.h0.six'
 go_wp2
 go_end0
 exact ⟨rfl, W2.out.fin⟩

set_option maxHeartbeats 3200000 in
theorem sbPush_c (hn : n < 2 ^ 40) (hq : q <= 2 ^ 31) (p : Int) (k0 : 0 <= k) (k8 : k <= 8) (h : (vOb base b n wh K).At w0 A G st w) :
  Calls Tryz.prog 155 #[.agg #[.pointer (some ⟨b, 0, none⟩), .int .i64 t, .int .i64 q, .int .i64 s, .int .i64 p, .int .i64 k]] w fun e w' => e = .returned (.tuple #[]) /\ (vOb base b n wh K).At w0 A G (pushI n K t q s (13 + k) p st) w' /\ Stay G w w' := by
 have W0 := hidp ((WL.start h).new 155 #[.pointer (some ⟨b, 0, none⟩), .int .i64 t, .int .i64 q, .int .i64 s, .int .i64 p, .int .i64 k])
 have HRK := hidp (rack_at k0 k8)
 clear h
 go_enter Tryz.func155, Tryz.ntmps155
 obtain ⟨x0, x1, x2, x3, x4, x5⟩ := W0.out.h0.six'
 go_wp2_with fail
 refine wp_region_held_drew (S := (fun w' => w'.cell? ⟨w.heap.size, 0, none⟩ = some (.pointer (some ⟨b, 0, none⟩)) /\ w'.cell? ⟨w.heap.size, 1, none⟩ = some (.int .i64 t) /\ w'.cell? ⟨w.heap.size, 2, none⟩ = some (.int .i64 q) /\ w'.cell? ⟨w.heap.size, 3, none⟩ = some (.int .i64 s) /\ w'.cell? ⟨w.heap.size, 4, none⟩ = some (.int .i64 p) /\ w'.cell? ⟨w.heap.size, 5, none⟩ = some (.int .i64 k))) (by kernel_rfl) ?_ (fun hHeld => ?_)
 ·(try dsimp only)
  exact ⟨W0.out.drew.h0.six'.1, W0.out.drew.h0.six'.2.1, W0.out.drew.h0.six'.2.2.1, W0.out.drew.h0.six'.2.2.2.1, W0.out.drew.h0.six'.2.2.2.2.1, W0.out.drew.h0.six'.2.2.2.2.2⟩
 refine tkz 0 ?_
 refine tkz 1 ?_
 refine tkz 2 ?_
 refine tkz 3 ?_
 refine tkz 4 ?_
 refine tkz 5 ?_
 refine tkz 7 ?_
 refine tkz 8 ?_
 refine rdz 6 fun K hK => ?_
 go_simp
 refine (plRack_c k _).mono ?_; rintro e w9 ⟨rfl, rfl⟩; rw [HRK.out]
 refine hK.out _ _ ?_ (fun hHeld => ?_)
 ·(try dsimp only)
  exact ⟨W0.out.drew.h0.six'.1, W0.out.drew.h0.six'.2.1, W0.out.drew.h0.six'.2.2.1, W0.out.drew.h0.six'.2.2.2.1, W0.out.drew.h0.six'.2.2.2.2.1, W0.out.drew.h0.six'.2.2.2.2.2⟩
 clear hK K
 (try simp only [Act.put, gA, gB, gC, sA, sB, sC])
 refine rdz 9 fun K hK => ?_
 go_simp
 refine (lkPush_c hn hq p W0.out.drew.at_).mono ?_; rintro e w1 ⟨rfl, h1, h2⟩; have W1 := hidp (W0.out.drew.call h1 h2); clear h1 h2 W0
 refine hK.out _ _ ?_ (fun hHeld => ?_)
 ·(try dsimp only)
  exact ⟨W1.out.h0.six'.1, W1.out.h0.six'.2.1, W1.out.h0.six'.2.2.1, W1.out.h0.six'.2.2.2.1, W1.out.h0.six'.2.2.2.2.1, W1.out.h0.six'.2.2.2.2.2⟩
 clear hK K
 (try simp only [Act.put, gA, gB, gC, sA, sB, sC])
 refine dnz ?_
 obtain ⟨x0, x1, x2, x3, x4, x5⟩ := W1.out.h0.six'
 go_wp2
 go_end0
 exact ⟨rfl, W1.out.fin⟩

set_option maxHeartbeats 3200000 in
theorem sbPull_c (hn : n < 2 ^ 40) (hq : q <= 2 ^ 31) (p : Int) (k0 : 0 <= k) (k8 : k <= 8) (h : (vOb base b n wh K).At w0 A G st w) :
  Calls Tryz.prog 161 #[.agg #[.pointer (some ⟨b, 0, none⟩), .int .i64 t, .int .i64 q, .int .i64 s, .int .i64 p, .int .i64 k]] w fun e w' => e = .returned (.tuple #[]) /\ (vOb base b n wh K).At w0 A G (pullI n K t q s (13 + k) p st) w' /\ Stay G w w' := by
 have W0 := hidp ((WL.start h).new 155 #[.pointer (some ⟨b, 0, none⟩), .int .i64 t, .int .i64 q, .int .i64 s, .int .i64 p, .int .i64 k])
 have HRK := hidp (rack_at k0 k8)
 clear h
 go_enter Tryz.func161, Tryz.ntmps161
 obtain ⟨x0, x1, x2, x3, x4, x5⟩ := W0.out.h0.six'
 go_wp2_with fail
 refine wp_region_held_drew (S := (fun w' => w'.cell? ⟨w.heap.size, 0, none⟩ = some (.pointer (some ⟨b, 0, none⟩)) /\ w'.cell? ⟨w.heap.size, 1, none⟩ = some (.int .i64 t) /\ w'.cell? ⟨w.heap.size, 2, none⟩ = some (.int .i64 q) /\ w'.cell? ⟨w.heap.size, 3, none⟩ = some (.int .i64 s) /\ w'.cell? ⟨w.heap.size, 4, none⟩ = some (.int .i64 p) /\ w'.cell? ⟨w.heap.size, 5, none⟩ = some (.int .i64 k))) (by kernel_rfl) ?_ (fun hHeld => ?_)
 ·(try dsimp only)
  exact ⟨W0.out.drew.h0.six'.1, W0.out.drew.h0.six'.2.1, W0.out.drew.h0.six'.2.2.1, W0.out.drew.h0.six'.2.2.2.1, W0.out.drew.h0.six'.2.2.2.2.1, W0.out.drew.h0.six'.2.2.2.2.2⟩
 refine tkz 0 ?_
 refine tkz 1 ?_
 refine tkz 2 ?_
 refine tkz 3 ?_
 refine tkz 4 ?_
 refine tkz 5 ?_
 refine tkz 7 ?_
 refine tkz 8 ?_
 refine rdz 6 fun K hK => ?_
 go_simp
 refine (plRack_c k _).mono ?_; rintro e w9 ⟨rfl, rfl⟩; rw [HRK.out]
 refine hK.out _ _ ?_ (fun hHeld => ?_)
 ·(try dsimp only)
  exact ⟨W0.out.drew.h0.six'.1, W0.out.drew.h0.six'.2.1, W0.out.drew.h0.six'.2.2.1, W0.out.drew.h0.six'.2.2.2.1, W0.out.drew.h0.six'.2.2.2.2.1, W0.out.drew.h0.six'.2.2.2.2.2⟩
 clear hK K
 (try simp only [Act.put, gA, gB, gC, sA, sB, sC])
 refine rdz 9 fun K hK => ?_
 go_simp
 refine (lkPull_c hn hq p W0.out.drew.at_).mono ?_; rintro e w1 ⟨rfl, h1, h2⟩; have W1 := hidp (W0.out.drew.call h1 h2); clear h1 h2 W0
 refine hK.out _ _ ?_ (fun hHeld => ?_)
 ·(try dsimp only)
  exact ⟨W1.out.h0.six'.1, W1.out.h0.six'.2.1, W1.out.h0.six'.2.2.1, W1.out.h0.six'.2.2.2.1, W1.out.h0.six'.2.2.2.2.1, W1.out.h0.six'.2.2.2.2.2⟩
 clear hK K
 (try simp only [Act.put, gA, gB, gC, sA, sB, sC])
 refine dnz ?_
 obtain ⟨x0, x1, x2, x3, x4, x5⟩ := W1.out.h0.six'
 go_wp2
 go_end0
 exact ⟨rfl, W1.out.fin⟩

set_option maxHeartbeats 3200000 in
theorem sbFull_c (p : Int) (u : Nat) (hu : u < 2 ^ 32) (k0 : 0 <= k) (k8 : k <= 8) (w : World) (hT : SlotsLaid w) :
  Calls Tryz.prog 160 #[.agg #[.pointer (some ⟨b, 0, none⟩), .int .i64 t, .int .i64 q, .int .i64 s, .int .i64 p, .int .i64 k], .int .u32 (u : Int)] w fun e w' => e = .returned (.bool (fullB u k)) /\ Below w.heap.size w w' := by
 obtain ⟨o, ho⟩ : ∃ o, HM.onesTo u 32 = o := ⟨_, rfl⟩
 obtain ⟨m, hm⟩ : ∃ m, slotI k = m := ⟨_, rfl⟩
 have HO := hidp ho
 have HMM := hidp hm
 have hb : fullB u k = decide (o = m) := by unfold fullB; rw [ho, hm]
 rw [hb]
 have t0 : ((o : Int) == (m : Int)) = decide (o = m) := by
  rw [Bool.eq_iff_iff]; simp; omega
 have HX := hidp (Held.new w 155 #[.pointer (some ⟨b, 0, none⟩), .int .i64 t, .int .i64 q, .int .i64 s, .int .i64 p, .int .i64 k])
 have HT := hidp (hT.alloc (.cells #[.pointer (some ⟨b, 0, none⟩), .int .i64 t, .int .i64 q, .int .i64 s, .int .i64 p, .int .i64 k] 155)).drew
 have HB := hidp (Bdrew (Bnew (B0 w) (.cells #[.pointer (some ⟨b, 0, none⟩), .int .i64 t, .int .i64 q, .int .i64 s, .int .i64 p, .int .i64 k] 155)))
 clear hb ho hm hT
 go_enter Tryz.func160, Tryz.ntmps160
 obtain ⟨x0, x1, x2, x3, x4, x5⟩ := HX.out.six'
 go_wp2_with fail
 refine wp_region_held_drew (S := (fun w' => w'.cell? ⟨w.heap.size, 5, none⟩ = some (.int .i64 k))) (by kernel_rfl) ?_ (fun hHeld => ?_)
 ·(try dsimp only)
  first | exact HX.out.drw.six'.2.2.2.2.2 | exact hHeld
 refine tkz 0 ?_
 refine tkz 2 ?_
 refine tkz 3 ?_
 refine rdz 1 fun K hK => ?_
 go_simp
 refine (Ones_c u hu _).mono ?_; rintro e w9 ⟨rfl, rfl⟩; rw [HO.out]
 refine hK.out _ _ ?_ (fun hHeld => ?_)
 ·(try dsimp only)
  first | exact HX.out.drw.six'.2.2.2.2.2 | exact hHeld
 clear hK K
 (try simp only [Act.put, gA, gB, gC, sA, sB, sC])
 refine rdz 4 fun K hK => ?_
 go_simp
 refine (clSlots_c k (by omega) (by omega) _ HT.out).mono ?_; rintro e w9 ⟨rfl, rfl⟩; rw [HMM.out]
 refine hK.out _ _ ?_ (fun hHeld => ?_)
 ·(try dsimp only)
  first | exact HX.out.drw.six'.2.2.2.2.2 | exact hHeld
 clear hK K
 (try simp only [Act.put, gA, gB, gC, sA, sB, sC])
 refine tkz 5 ?_
 refine tkz 6 ?_
 refine dnz ?_
 go_wp2
 go_ret
 exact ⟨rfl, HB.out⟩
end
end
section
section
variable {O : Ob} {w0 ws w w' : World} {A G : Nat -> Prop} {N : Nat} {T : TypeId} {cs : Array Value} {base : Nat} {u : Value} {nl : Nat} {xs : List Value} {st s' : Vst}
theorem RowW.h0 (h : RowW O w0 A G ws N T cs base u nl xs st w) : Held w N T cs := h.held
theorem RowW.fin0 (h : RowW O w0 A G ws N T cs base u nl xs st w) : O.At w0 A G st w /\ Stay G ws w := ⟨h.at_.less (fun g x => .inl (.inl x)), h.stay⟩
end
theorem row_cells {w : World} {base g n c : Nat} {l : List Nat} {m : Nat} (h : w.ownsRow base 3 1 (.slice (some ⟨g, 0, none⟩) n c) n (ntVs l)) (hm : m <= n) (hl : l.length = n) : ∀ i, i < m -> w.cell? ⟨g, 0 + i, none⟩ = some (.int .i64 (((l.take m).getD i 0 : Nat) : Int)) := fun i hi => by
 have h1 := h.cellAt i (by omega)
 rw [Nat.zero_add, h1]
 unfold ntVs
 simp [List.getD, List.getElem?_eq_getElem (show i < l.length by omega), List.getElem?_take, hi]
section
variable {base b n : Nat} {wh all : Bool} {K : Nat -> Option Nat} {st : Vst} {w w0 : World} {A G : Nat -> Prop} {t q s k : Int}

set_option maxHeartbeats 6400000 in
theorem sbPick_none (hn : n < 2 ^ 40) (hq : q <= 2 ^ 31) (p wn : Nat) (hw : 1 <= wn) (hw2 : wn <= 32) (k0 : 0 <= k) (k8 : k <= 8) (hT : SlotsLaid w0) (hA : ¬ A 0) (v : Nat) (hv : getV n K st (pageI t q s p 5) = v) (f : List Nat) (hf : HM.freeTo v (slotI k) = f) (h0 : f = []) (h : (vOb base b n wh K).At w0 A G st w) :
  Calls Tryz.prog 115 #[.agg #[.pointer (some ⟨b, 0, none⟩), .int .i64 t, .int .i64 q, .int .i64 s, .int .i64 (p : Int), .int .i64 k], .int .i64 (wn : Int)] w (WalkEnd (vOb base b n wh K) w0 A G [] (getS n K st (pageI t q s p 5)) w) := by
 have hv32 : v < 2 ^ 32 := by rw [<- hv]; exact vAt_lt h _
 have W0 := hidp ((WL.start h).new 155 #[.pointer (some ⟨b, 0, none⟩), .int .i64 t, .int .i64 q, .int .i64 s, .int .i64 (p : Int), .int .i64 k])
 have HV := hidp hv
 have HTL := hidp hT
 obtain ⟨m, hm⟩ : ∃ m, slotI k = m := ⟨_, rfl⟩
 have hm32 : m <= 32 := by rw [<- hm]; exact slotI_le k
 have HMM := hidp hm
 rw [hm] at hf
 have HF := hidp hf
 obtain ⟨nf, hnf⟩ : ∃ nf, f.length = nf := ⟨_, rfl⟩
 have hnf32 : nf <= 32 := by have := HM.freeTo_le v m; rw [hf, hnf] at this; omega
 have HNF := hidp hnf
 have hz : nf = 0 := by rw [<- hnf, h0]; rfl
 subst hz
 clear h hv hf hm hT hnf h0
 go_enter Tryz.func115, Tryz.ntmps115
 obtain ⟨x0, x1, x2, x3, x4, x5⟩ := W0.out.h0.six'
 go_wp2_with fail
 refine (sbTaken_c hn p W0.out.at_).mono ?_; rintro e w1 ⟨rfl, h1, h2⟩; have W1 := hidp (W0.out.call h1 h2); clear h1 h2 W0; rw [HV.out]
 obtain ⟨x0, x1, x2, x3, x4, x5⟩ := W1.out.h0.six'
 go_wp2_with fail
 refine (clSlots_c k (by omega) (by omega) _ (HTL.out.at_ hA W1.out.at_)).mono ?_; rintro e w9 ⟨rfl, rfl⟩; rw [HMM.out]
 go_wp2_with fail
 refine (Free32_c v m hv32 hm32 _).mono ?_
 rintro e w2 ⟨u2, rfl, ho, hb⟩
 rw [HF.out, HNF.out] at ho
 obtain ⟨A2, c2, hu2⟩ := own_slice ho
 subst hu2
 have hcc := own_caps9 ho
 have hcut := cutF16 A2 0 c2 0 (by omega) hcc.1
 have W2 := hidp (W1.out.row hb ho)
 clear ho hb W1
 have mi : (if (0 : Int) < (wn : Int) then (0 : Int) else (wn : Int)) = 0 := if_pos (by omega)
 obtain ⟨x0, x1, x2, x3, x4, x5⟩ := W2.out.h0.six'
 go_wp2
 go_ret
 exact WalkEnd.nil_ W2.out.fin0.1 W2.out.fin0.2

set_option maxHeartbeats 6400000 in
theorem sbPick_want (hn : n < 2 ^ 40) (hq : q <= 2 ^ 31) (p wn : Nat) (hw : 1 <= wn) (hw2 : wn <= 32) (k0 : 0 <= k) (k8 : k <= 8) (hT : SlotsLaid w0) (hA : ¬ A 0) (v : Nat) (hv : getV n K st (pageI t q s p 5) = v) (f : List Nat) (hf : HM.freeTo v (slotI k) = f) (hle : wn <= f.length) (h0 : f ≠ []) (l : List Nat) (hl : f.take wn = l) (u : Nat) (hu : layB v l = u) (bb : Bool) (hbb : fullB u k = bb) (h : (vOb base b n wh K).At w0 A G st w) :
  Calls Tryz.prog 115 #[.agg #[.pointer (some ⟨b, 0, none⟩), .int .i64 t, .int .i64 q, .int .i64 s, .int .i64 (p : Int), .int .i64 k], .int .i64 (wn : Int)] w (WalkEnd (vOb base b n wh K) w0 A G l (bitsS n K t q s k p u bb st) w) := by
 have hv32 : v < 2 ^ 32 := by rw [<- hv]; exact vAt_lt h _
 have W0 := hidp ((WL.start h).new 155 #[.pointer (some ⟨b, 0, none⟩), .int .i64 t, .int .i64 q, .int .i64 s, .int .i64 (p : Int), .int .i64 k])
 have HV := hidp hv
 have HTL := hidp hT
 obtain ⟨m, hm⟩ : ∃ m, slotI k = m := ⟨_, rfl⟩
 have hm32 : m <= 32 := by rw [<- hm]; exact slotI_le k
 have HMM := hidp hm
 rw [hm] at hf
 have HF := hidp hf
 obtain ⟨nf, hnf⟩ : ∃ nf, f.length = nf := ⟨_, rfl⟩
 have hnf32 : nf <= 32 := by have := HM.freeTo_le v m; rw [hf, hnf] at this; omega
 have HNF := hidp hnf
 rw [hnf] at hle
 have hnf1 : 1 <= nf := by rw [<- hnf]; cases f with | nil => exact absurd rfl h0 | cons a r => simp
 have hnl : l.length = wn := by rw [<- hl, List.length_take, hnf]; omega
 have hnl2 : wn <= nf := by omega
 have hlt : f.take wn = l := by rw [<- hl]
 have HLT := hidp hlt
 have HNL := hidp hnl
 have t0 : ((wn : Int) == 0) = false := by simp; omega
 have hlm : ∀ i ∈ l, i < m /\ v.testBit i = false := fun i hi => by
  rw [<- hl] at hi
  have := List.mem_of_mem_take hi
  rw [<- hf] at this
  unfold HM.freeTo at this
  rw [List.mem_filter, List.mem_range] at this
  simpa using this
 have HLM : Hid (∀ i ∈ l, i < 32) := hidp (fun i hi => by have := (hlm i hi).1; omega)
 obtain ⟨x, hx⟩ : ∃ x, layB 0 l = x := ⟨_, rfl⟩
 have hx32 : x < 2 ^ 32 := by rw [<- hx]; exact layB_lt _ _ (by omega) HLM.out
 have HX := hidp hx
 have hu32 : u < 2 ^ 32 := by rw [<- hu]; exact layB_lt _ _ hv32 HLM.out
 have or32 : bits .or .u32 (v : Int) (x : Int) = (u : Int) := by rw [u32_or_nat v x hv32 hx32, <- hu, layB_or, hx]
 have HBB := hidp hbb
 clear h hv hf hm hT hnf h0 hl hnl hlt hlm hx hu hbb
 go_enter Tryz.func115, Tryz.ntmps115
 obtain ⟨x0, x1, x2, x3, x4, x5⟩ := W0.out.h0.six'
 go_wp2_with fail
 refine (sbTaken_c hn p W0.out.at_).mono ?_; rintro e w1 ⟨rfl, h1, h2⟩; have W1 := hidp (W0.out.call h1 h2); clear h1 h2 W0; rw [HV.out]
 obtain ⟨x0, x1, x2, x3, x4, x5⟩ := W1.out.h0.six'
 go_wp2_with fail
 refine (clSlots_c k (by omega) (by omega) _ (HTL.out.at_ hA W1.out.at_)).mono ?_; rintro e w9 ⟨rfl, rfl⟩; rw [HMM.out]
 go_wp2_with fail
 refine (Free32_c v m hv32 hm32 _).mono ?_
 rintro e w2 ⟨u2, rfl, ho, hb⟩
 rw [HF.out, HNF.out] at ho
 obtain ⟨A2, c2, hu2⟩ := own_slice ho
 subst hu2
 have hcc := own_caps9 ho
 obtain ⟨g2, c3, hg2, _⟩ := ho.form (by omega)
 injection hg2 with hg3 _ hg4
 subst hg3
 clear hg4
 have hcut := cutF16 (some ⟨g2, 0, none⟩) nf c2 wn hnl2 hcc.1
 have W2 := hidp (W1.out.row hb ho)
 clear ho hb W1
 obtain ⟨x0, x1, x2, x3, x4, x5⟩ := W2.out.h0.six'
 go_wp2_with fail
 refine (slabBits_c l g2 0 c2 wn HNL.out (by omega) HLM.out _ (by rw [<- HLT.out]; exact row_cells W2.out.own hnl2 HNF.out)).mono ?_; rintro e w9 ⟨rfl, rfl⟩; rw [HX.out]
 go_wp2_with fail
 refine (sbSet_c hn p u hu32 W2.out.at_).mono ?_; rintro e w3 ⟨rfl, h1, h2⟩; have W3 := hidp (W2.out.call h1 h2); clear h1 h2 W2
 obtain ⟨x0, x1, x2, x3, x4, x5⟩ := W3.out.h0.six'
 go_wp2_with fail
 refine (sbFull_c p u hu32 k0 k8 _ (HTL.out.at_ hA W3.out.at_)).mono ?_; rintro e w4 ⟨rfl, hb⟩; rw [HBB.out]; have W4 := hidp (W3.out.keep hb); clear hb W3
 obtain ⟨x0, x1, x2, x3, x4, x5⟩ := W4.out.h0.six'
 cases bb with
 | false =>
  go_wp2
  go_ret
  have hend := W4.out.end_ hnl2 (by rw [HLT.out]; exact HNL.out)
  rw [HLT.out] at hend
  exact hend
 | true =>
  go_wp2_with fail
  refine (sbPull_c hn hq p k0 k8 W4.out.at_).mono ?_; rintro e w5 ⟨rfl, h1, h2⟩; have W5 := hidp (W4.out.call h1 h2); clear h1 h2 W4
  obtain ⟨x0, x1, x2, x3, x4, x5⟩ := W5.out.h0.six'
  go_wp2
  go_ret
  have hend := W5.out.end_ hnl2 (by rw [HLT.out]; exact HNL.out)
  rw [HLT.out] at hend
  exact hend

set_option maxHeartbeats 6400000 in
theorem sbPick_all (hn : n < 2 ^ 40) (hq : q <= 2 ^ 31) (p wn : Nat) (hw : 1 <= wn) (hw2 : wn <= 32) (k0 : 0 <= k) (k8 : k <= 8) (hT : SlotsLaid w0) (hA : ¬ A 0) (v : Nat) (hv : getV n K st (pageI t q s p 5) = v) (f : List Nat) (hf : HM.freeTo v (slotI k) = f) (hle : f.length < wn) (h0 : f ≠ []) (l : List Nat) (hl : f.take wn = l) (u : Nat) (hu : layB v l = u) (bb : Bool) (hbb : fullB u k = bb) (h : (vOb base b n wh K).At w0 A G st w) :
  Calls Tryz.prog 115 #[.agg #[.pointer (some ⟨b, 0, none⟩), .int .i64 t, .int .i64 q, .int .i64 s, .int .i64 (p : Int), .int .i64 k], .int .i64 (wn : Int)] w (WalkEnd (vOb base b n wh K) w0 A G l (bitsS n K t q s k p u bb st) w) := by
 have hv32 : v < 2 ^ 32 := by rw [<- hv]; exact vAt_lt h _
 have W0 := hidp ((WL.start h).new 155 #[.pointer (some ⟨b, 0, none⟩), .int .i64 t, .int .i64 q, .int .i64 s, .int .i64 (p : Int), .int .i64 k])
 have HV := hidp hv
 have HTL := hidp hT
 obtain ⟨m, hm⟩ : ∃ m, slotI k = m := ⟨_, rfl⟩
 have hm32 : m <= 32 := by rw [<- hm]; exact slotI_le k
 have HMM := hidp hm
 rw [hm] at hf
 have HF := hidp hf
 obtain ⟨nf, hnf⟩ : ∃ nf, f.length = nf := ⟨_, rfl⟩
 have hnf32 : nf <= 32 := by have := HM.freeTo_le v m; rw [hf, hnf] at this; omega
 have HNF := hidp hnf
 rw [hnf] at hle
 have hnf1 : 1 <= nf := by rw [<- hnf]; cases f with | nil => exact absurd rfl h0 | cons a r => simp
 have hnl : l.length = nf := by rw [<- hl, List.length_take, hnf]; omega
 have hnl2 : nf <= nf := by omega
 have hlt : f.take nf = l := by rw [<- hl]; rw [List.take_of_length_le (by omega), List.take_of_length_le (by omega)]
 have HLT := hidp hlt
 have HNL := hidp hnl
 have t0 : ((nf : Int) == 0) = false := by simp; omega
 have hlm : ∀ i ∈ l, i < m /\ v.testBit i = false := fun i hi => by
  rw [<- hl] at hi
  have := List.mem_of_mem_take hi
  rw [<- hf] at this
  unfold HM.freeTo at this
  rw [List.mem_filter, List.mem_range] at this
  simpa using this
 have HLM : Hid (∀ i ∈ l, i < 32) := hidp (fun i hi => by have := (hlm i hi).1; omega)
 obtain ⟨x, hx⟩ : ∃ x, layB 0 l = x := ⟨_, rfl⟩
 have hx32 : x < 2 ^ 32 := by rw [<- hx]; exact layB_lt _ _ (by omega) HLM.out
 have HX := hidp hx
 have hu32 : u < 2 ^ 32 := by rw [<- hu]; exact layB_lt _ _ hv32 HLM.out
 have or32 : bits .or .u32 (v : Int) (x : Int) = (u : Int) := by rw [u32_or_nat v x hv32 hx32, <- hu, layB_or, hx]
 have HBB := hidp hbb
 clear h hv hf hm hT hnf h0 hl hnl hlt hlm hx hu hbb
 go_enter Tryz.func115, Tryz.ntmps115
 obtain ⟨x0, x1, x2, x3, x4, x5⟩ := W0.out.h0.six'
 go_wp2_with fail
 refine (sbTaken_c hn p W0.out.at_).mono ?_; rintro e w1 ⟨rfl, h1, h2⟩; have W1 := hidp (W0.out.call h1 h2); clear h1 h2 W0; rw [HV.out]
 obtain ⟨x0, x1, x2, x3, x4, x5⟩ := W1.out.h0.six'
 go_wp2_with fail
 refine (clSlots_c k (by omega) (by omega) _ (HTL.out.at_ hA W1.out.at_)).mono ?_; rintro e w9 ⟨rfl, rfl⟩; rw [HMM.out]
 go_wp2_with fail
 refine (Free32_c v m hv32 hm32 _).mono ?_
 rintro e w2 ⟨u2, rfl, ho, hb⟩
 rw [HF.out, HNF.out] at ho
 obtain ⟨A2, c2, hu2⟩ := own_slice ho
 subst hu2
 have hcc := own_caps9 ho
 obtain ⟨g2, c3, hg2, _⟩ := ho.form (by omega)
 injection hg2 with hg3 _ hg4
 subst hg3
 clear hg4
 have hcut := cutF16 (some ⟨g2, 0, none⟩) nf c2 nf hnl2 hcc.1
 have W2 := hidp (W1.out.row hb ho)
 clear ho hb W1
 obtain ⟨x0, x1, x2, x3, x4, x5⟩ := W2.out.h0.six'
 go_wp2_with fail
 refine (slabBits_c l g2 0 c2 nf HNL.out (by omega) HLM.out _ (by rw [<- HLT.out]; exact row_cells W2.out.own hnl2 HNF.out)).mono ?_; rintro e w9 ⟨rfl, rfl⟩; rw [HX.out]
 go_wp2_with fail
 refine (sbSet_c hn p u hu32 W2.out.at_).mono ?_; rintro e w3 ⟨rfl, h1, h2⟩; have W3 := hidp (W2.out.call h1 h2); clear h1 h2 W2
 obtain ⟨x0, x1, x2, x3, x4, x5⟩ := W3.out.h0.six'
 go_wp2_with fail
 refine (sbFull_c p u hu32 k0 k8 _ (HTL.out.at_ hA W3.out.at_)).mono ?_; rintro e w4 ⟨rfl, hb⟩; rw [HBB.out]; have W4 := hidp (W3.out.keep hb); clear hb W3
 obtain ⟨x0, x1, x2, x3, x4, x5⟩ := W4.out.h0.six'
 cases bb with
 | false =>
  go_wp2
  go_ret
  have hend := W4.out.end_ hnl2 (by rw [HLT.out]; exact HNL.out)
  rw [HLT.out] at hend
  exact hend
 | true =>
  go_wp2_with fail
  refine (sbPull_c hn hq p k0 k8 W4.out.at_).mono ?_; rintro e w5 ⟨rfl, h1, h2⟩; have W5 := hidp (W4.out.call h1 h2); clear h1 h2 W4
  obtain ⟨x0, x1, x2, x3, x4, x5⟩ := W5.out.h0.six'
  go_wp2
  go_ret
  have hend := W5.out.end_ hnl2 (by rw [HLT.out]; exact HNL.out)
  rw [HLT.out] at hend
  exact hend

theorem sbPick_c (hn : n < 2 ^ 40) (hq : q <= 2 ^ 31) (p wn : Nat) (hw : 1 <= wn) (hw2 : wn <= 32) (k0 : 0 <= k) (k8 : k <= 8) (hT : SlotsLaid w0) (hA : ¬ A 0) (h : (vOb base b n wh K).At w0 A G st w) :
  Calls Tryz.prog 115 #[.agg #[.pointer (some ⟨b, 0, none⟩), .int .i64 t, .int .i64 q, .int .i64 s, .int .i64 (p : Int), .int .i64 k], .int .i64 (wn : Int)] w (WalkEnd (vOb base b n wh K) w0 A G (pickL (pickAt n K t q s k p wn st).1) (pickAt n K t q s k p wn st).2 w) := by
 by_cases h0 : HM.freeTo (getV n K st (pageI t q s p 5)) (slotI k) = []
 ·rw [pickAt_none rfl (by unfold someF; rw [h0, List.take_nil])]
  exact sbPick_none hn hq p wn hw hw2 k0 k8 hT hA _ rfl _ rfl h0 h
 ·rw [pickAt_some rfl rfl (someF_ne (by
   unfold someF
   rw [List.length_take]
   have : 0 < (HM.freeTo (getV n K st (pageI t q s p 5)) (slotI k)).length := List.length_pos_iff.2 h0
   omega))]
  rcases Nat.lt_or_ge (HM.freeTo (getV n K st (pageI t q s p 5)) (slotI k)).length wn with hle | hle
  ·exact sbPick_all hn hq p wn hw hw2 k0 k8 hT hA _ rfl _ rfl hle h0 _ rfl _ rfl _ rfl h
  ·exact sbPick_want hn hq p wn hw hw2 k0 k8 hT hA _ rfl _ rfl hle h0 _ rfl _ rfl _ rfl h

end
end
section
section
variable {base b n : Nat} {wh all : Bool} {K : Nat -> Option Nat} {st : Vst} {w w0 : World} {A G : Nat -> Prop} {t q s k : Int}

set_option maxHeartbeats 6400000 in
theorem sfFirst_rack (hn : n < 2 ^ 40) (hq : q <= 1024) (k0 : 0 <= k) (k8 : k <= 8) (r : Nat) (hr : getV n K st (13 + k) = r + 1) (h : (vOb base b n wh K).At w0 A G st w) :
  Calls Tryz.prog 114 #[.pointer (some ⟨b, 0, none⟩), .agg #[.int .i64 t, .int .i64 q, .int .i64 s], .int .i64 k] w fun e w' => e = .returned (.tuple #[.agg #[.pointer (some ⟨b, 0, none⟩), .int .i64 t, .int .i64 q, .int .i64 s, .int .i64 (r : Int), .int .i64 k], .bool true]) /\ (vOb base b n wh K).At w0 A G (getS n K st (13 + k)) w' /\ Stay G w w' := by
 have W0 := hidp (((WL.start h).new 23 #[.int .i64 t, .int .i64 q, .int .i64 s]).new 155 #[.pointer none, .int .i64 0, .int .i64 0, .int .i64 0, .int .i64 0, .int .i64 0])
 simp only [World.size_alloc] at W0
 have HRK := hidp (rack_at k0 k8)
 obtain ⟨rv, hrv⟩ : ∃ rv, r + 1 = rv := ⟨_, rfl⟩
 have hrl := vAt_lt h (13 + k)
 rw [hr, hrv] at hrl
 rw [hrv] at hr
 have HRV := hidp hr
 have er : (r : Int) = (rv : Int) - 1 := by omega
 rw [er]
 have t0 : ((rv : Int) != 0) = true := by simp; omega
 clear h hr er hrv
 go_enter Tryz.func114, Tryz.ntmps114
 obtain ⟨y0, y1, y2, y3, y4, y5⟩ := W0.out.h0.six'
 obtain ⟨x0, x1, x2⟩ := W0.out.h1.three
 go_wp2_with fail
 refine (plRack_c k _).mono ?_; rintro e w9 ⟨rfl, rfl⟩; rw [HRK.out]
 go_wp2_with fail
 refine (vGetA hn _ W0.out.at_).mono ?_; rintro e w1 ⟨rfl, h1, h2⟩; have W1 := hidp (W0.out.call h1 h2); clear h1 h2 W0; rw [HRV.out]
 obtain ⟨y0, y1, y2, y3, y4, y5⟩ := W1.out.h0.six'
 obtain ⟨x0, x1, x2⟩ := W1.out.h1.three
 obtain ⟨z0, z1, z2, z3, z4, z5⟩ := W1.out.h0.six'
 have f0 := W1.out.h0.thawed 0
 have f1 := W1.out.h0.thawed 1
 have f2 := W1.out.h0.thawed 2
 have f3 := W1.out.h0.thawed 3
 have f4 := W1.out.h0.thawed 4
 have f5 := W1.out.h0.thawed 5
 have W2 := hidp ((((((W1.out.put 0 (.pointer (some ⟨b, 0, none⟩))).put 1 (.int .i64 t)).put 2 (.int .i64 q)).put 3 (.int .i64 s)).put 4 (.int .i64 ((rv : Int) - 1))).put 5 (.int .i64 k))
 obtain ⟨r0, r1, r2, r3, r4, r5⟩ := W2.out.h0.six'
 go_wp2
 refine bodyPost_ret (v := .tuple #[.agg #[.pointer (some ⟨b, 0, none⟩), .int .i64 t, .int .i64 q, .int .i64 s, .int .i64 ((rv : Int) - 1), .int .i64 k], .bool true]) (by simp [results, Tryz.results114, go_sem, r0, r1, r2, r3, r4, r5]) rfl ⟨rfl, ?_⟩
 exact W2.out.fin

set_option maxHeartbeats 6400000 in
theorem sfFirst_none (hn : n < 2 ^ 40) (hq : q <= 1024) (k0 : 0 <= k) (k8 : k <= 8) (hr : getV n K st (13 + k) = 0) (s1 : Vst) (ht : takeI n K t q s 1 (getS n K st (13 + k)) = (none, s1)) (h : (vOb base b n wh K).At w0 A G st w) :
  Calls Tryz.prog 114 #[.pointer (some ⟨b, 0, none⟩), .agg #[.int .i64 t, .int .i64 q, .int .i64 s], .int .i64 k] w fun e w' => e = .returned (.tuple #[.agg #[.pointer none, .int .i64 0, .int .i64 0, .int .i64 0, .int .i64 0, .int .i64 0], .bool false]) /\ (vOb base b n wh K).At w0 A G (s1) w' /\ Stay G w w' := by
 have W0 := hidp (((WL.start h).new 23 #[.int .i64 t, .int .i64 q, .int .i64 s]).new 155 #[.pointer none, .int .i64 0, .int .i64 0, .int .i64 0, .int .i64 0, .int .i64 0])
 simp only [World.size_alloc] at W0
 have HRK := hidp (rack_at k0 k8)
 have HRV := hidp hr
 have HTK := hidp ht
 clear h hr ht
 go_enter Tryz.func114, Tryz.ntmps114
 obtain ⟨y0, y1, y2, y3, y4, y5⟩ := W0.out.h0.six'
 obtain ⟨x0, x1, x2⟩ := W0.out.h1.three
 go_wp2_with fail
 refine (plRack_c k _).mono ?_; rintro e w9 ⟨rfl, rfl⟩; rw [HRK.out]
 go_wp2_with fail
 refine (vGetA hn _ W0.out.at_).mono ?_; rintro e w1 ⟨rfl, h1, h2⟩; have W1 := hidp (W0.out.call h1 h2); clear h1 h2 W0; rw [HRV.out]
 obtain ⟨y0, y1, y2, y3, y4, y5⟩ := W1.out.h0.six'
 obtain ⟨x0, x1, x2⟩ := W1.out.h1.three
 go_wp2_with fail
 refine (snTake_c hn hq 1 W1.out.at_).mono ?_; rintro e w2 ⟨rfl, h1, h2⟩; have W2 := hidp (W1.out.call h1 h2); clear h1 h2 W1; rw [HTK.out] at W2 ⊢; dsimp only [foundI, Option.isSome] at W2 ⊢
 obtain ⟨y0, y1, y2, y3, y4, y5⟩ := W2.out.h0.six'
 obtain ⟨x0, x1, x2⟩ := W2.out.h1.three
 obtain ⟨z0, z1, z2, z3, z4, z5⟩ := W2.out.h0.six'
 have f0 := W2.out.h0.thawed 0
 have f1 := W2.out.h0.thawed 1
 have f2 := W2.out.h0.thawed 2
 have f3 := W2.out.h0.thawed 3
 have f4 := W2.out.h0.thawed 4
 have f5 := W2.out.h0.thawed 5
 have W3 := hidp ((((((W2.out.put 0 (.pointer none)).put 1 (.int .i64 0)).put 2 (.int .i64 0)).put 3 (.int .i64 0)).put 4 (.int .i64 0)).put 5 (.int .i64 0))
 obtain ⟨r0, r1, r2, r3, r4, r5⟩ := W3.out.h0.six'
 go_wp2
 refine bodyPost_ret (v := .tuple #[.agg #[.pointer none, .int .i64 0, .int .i64 0, .int .i64 0, .int .i64 0, .int .i64 0], .bool false]) (by simp [results, Tryz.results114, go_sem, r0, r1, r2, r3, r4, r5]) rfl ⟨rfl, ?_⟩
 exact W3.out.fin

set_option maxHeartbeats 6400000 in
theorem sfFirst_some (hn : n < 2 ^ 40) (hq : q <= 1024) (k0 : 0 <= k) (k8 : k <= 8) (hr : getV n K st (13 + k) = 0) (p : Nat) (s1 : Vst) (ht : takeI n K t q s 1 (getS n K st (13 + k)) = (some p, s1)) (h : (vOb base b n wh K).At w0 A G st w) :
  Calls Tryz.prog 114 #[.pointer (some ⟨b, 0, none⟩), .agg #[.int .i64 t, .int .i64 q, .int .i64 s], .int .i64 k] w fun e w' => e = .returned (.tuple #[.agg #[.pointer (some ⟨b, 0, none⟩), .int .i64 t, .int .i64 q, .int .i64 s, .int .i64 (p : Int), .int .i64 k], .bool true]) /\ (vOb base b n wh K).At w0 A G (slabS n K t q s k p s1) w' /\ Stay G w w' := by
 have W0 := hidp (((WL.start h).new 23 #[.int .i64 t, .int .i64 q, .int .i64 s]).new 155 #[.pointer none, .int .i64 0, .int .i64 0, .int .i64 0, .int .i64 0, .int .i64 0])
 simp only [World.size_alloc] at W0
 have HRK := hidp (rack_at k0 k8)
 have HRV := hidp hr
 have HTK := hidp ht
 have HIV := hidp (infoV_lt 3 1 k)
 have hq2 : q <= 2 ^ 31 := by omega
 clear h hr ht
 go_enter Tryz.func114, Tryz.ntmps114
 obtain ⟨y0, y1, y2, y3, y4, y5⟩ := W0.out.h0.six'
 obtain ⟨x0, x1, x2⟩ := W0.out.h1.three
 go_wp2_with fail
 refine (plRack_c k _).mono ?_; rintro e w9 ⟨rfl, rfl⟩; rw [HRK.out]
 go_wp2_with fail
 refine (vGetA hn _ W0.out.at_).mono ?_; rintro e w1 ⟨rfl, h1, h2⟩; have W1 := hidp (W0.out.call h1 h2); clear h1 h2 W0; rw [HRV.out]
 obtain ⟨y0, y1, y2, y3, y4, y5⟩ := W1.out.h0.six'
 obtain ⟨x0, x1, x2⟩ := W1.out.h1.three
 go_wp2_with fail
 refine (snTake_c hn hq 1 W1.out.at_).mono ?_; rintro e w2 ⟨rfl, h1, h2⟩; have W2 := hidp (W1.out.call h1 h2); clear h1 h2 W1; rw [HTK.out] at W2 ⊢; dsimp only [foundI, Option.isSome] at W2 ⊢
 obtain ⟨y0, y1, y2, y3, y4, y5⟩ := W2.out.h0.six'
 obtain ⟨x0, x1, x2⟩ := W2.out.h1.three
 go_wp2_with fail
 generalize hNP : w2.heap.size = NP at *
 replace W2 := hidp (W2.out.new 155 #[.pointer (some ⟨b, 0, none⟩), .int .i64 t, .int .i64 q, .int .i64 s, .int .i64 (p : Int), .int .i64 k])
 rw [hNP] at W2
 obtain ⟨g0, g1, g2, g3, g4, g5⟩ := W2.out.h0.six'
 obtain ⟨y0, y1, y2, y3, y4, y5⟩ := W2.out.h1.six'
 obtain ⟨x0, x1, x2⟩ := W2.out.h2.three
 refine (inPut_c 3 1 k _).mono ?_; rintro e w3 ⟨rfl, hb⟩; have W3 := hidp (W2.out.keep hb); clear hb W2
 obtain ⟨g0, g1, g2, g3, g4, g5⟩ := W3.out.h0.six'
 obtain ⟨y0, y1, y2, y3, y4, y5⟩ := W3.out.h1.six'
 obtain ⟨x0, x1, x2⟩ := W3.out.h2.three
 go_wp2_with fail
 refine wp_region_held_drew (S := (fun w' => w'.cell? ⟨NP, 0, none⟩ = some (.pointer (some ⟨b, 0, none⟩)) /\ w'.cell? ⟨w.heap.size, 0, none⟩ = some (.int .i64 t) /\ w'.cell? ⟨w.heap.size, 1, none⟩ = some (.int .i64 q) /\ w'.cell? ⟨w.heap.size, 2, none⟩ = some (.int .i64 s))) (by kernel_rfl) ?_ (fun hHeld => ?_)
 ·(try dsimp only)
  exact ⟨W3.out.drew.h0.six'.1, W3.out.drew.h2.three.1, W3.out.drew.h2.three.2.1, W3.out.drew.h2.three.2.2⟩
 refine tkz 0 ?_
 refine tkz 1 ?_
 refine tkz 2 ?_
 refine tkz 3 ?_
 refine tkz 5 ?_
 refine rdz 4 fun K hK => ?_
 go_simp
 refine (plInfo_c t q s (p : Int) _).mono ?_; rintro e w4 ⟨rfl, hb⟩; have W4 := hidp (W3.out.drew.keep hb); clear hb W3
 refine hK.out _ _ ?_ (fun hHeld => ?_)
 ·(try dsimp only)
  exact ⟨W4.out.h0.six'.1, W4.out.h2.three.1, W4.out.h2.three.2.1, W4.out.h2.three.2.2⟩
 clear hK K
 (try simp only [Act.put, gA, gB, gC, sA, sB, sC])
 refine rdz 6 fun K hK => ?_
 go_simp
 refine (vPutA hn _ _ HIV.out W4.out.at_).mono ?_; rintro e w5 ⟨rfl, h1, h2⟩; have W5 := hidp (W4.out.call h1 h2); clear h1 h2 W4
 refine hK.out _ _ ?_ (fun hHeld => ?_)
 ·(try dsimp only)
  exact ⟨W5.out.h0.six'.1, W5.out.h2.three.1, W5.out.h2.three.2.1, W5.out.h2.three.2.2⟩
 clear hK K
 (try simp only [Act.put, gA, gB, gC, sA, sB, sC])
 refine dnz ?_
 obtain ⟨g0, g1, g2, g3, g4, g5⟩ := W5.out.h0.six'
 obtain ⟨y0, y1, y2, y3, y4, y5⟩ := W5.out.h1.six'
 obtain ⟨x0, x1, x2⟩ := W5.out.h2.three
 go_wp2_with fail
 refine (sbPush_c hn hq2 (p : Int) k0 k8 W5.out.at_).mono ?_; rintro e w6 ⟨rfl, h1, h2⟩; have W6 := hidp (W5.out.call h1 h2); clear h1 h2 W5
 obtain ⟨g0, g1, g2, g3, g4, g5⟩ := W6.out.h0.six'
 obtain ⟨y0, y1, y2, y3, y4, y5⟩ := W6.out.h1.six'
 obtain ⟨x0, x1, x2⟩ := W6.out.h2.three
 have W7 := hidp W6.out.swap
 obtain ⟨z0, z1, z2, z3, z4, z5⟩ := W7.out.h0.six'
 have f0 := W7.out.h0.thawed 0
 have f1 := W7.out.h0.thawed 1
 have f2 := W7.out.h0.thawed 2
 have f3 := W7.out.h0.thawed 3
 have f4 := W7.out.h0.thawed 4
 have f5 := W7.out.h0.thawed 5
 have W8 := hidp ((((((W7.out.put 0 (.pointer (some ⟨b, 0, none⟩))).put 1 (.int .i64 t)).put 2 (.int .i64 q)).put 3 (.int .i64 s)).put 4 (.int .i64 (p : Int))).put 5 (.int .i64 k))
 obtain ⟨r0, r1, r2, r3, r4, r5⟩ := W8.out.h0.six'
 go_wp2
 refine bodyPost_ret (v := .tuple #[.agg #[.pointer (some ⟨b, 0, none⟩), .int .i64 t, .int .i64 q, .int .i64 s, .int .i64 (p : Int), .int .i64 k], .bool true]) (by simp [results, Tryz.results114, go_sem, r0, r1, r2, r3, r4, r5]) rfl ⟨rfl, ?_⟩
 exact W8.out.fin

def PickEnd (O : Ob) (w0 : World) (A G : Nat -> Prop) (x : Option (Nat × List Nat)) (s : Vst) (w : World) (e : Ending) (w' : World) : Prop :=
 ∃ u, e = .returned (.tuple #[.int .i64 (pickP x), u, .bool x.isSome]) /\ WalkEnd O w0 A G (pickL x) s w (.returned u) w'
theorem PickEnd.no {O : Ob} {w0 w ws : World} {A G : Nat -> Prop} {st : Vst} (h : O.At w0 A G st w) (hS : Stay G ws w) : PickEnd O w0 A G none st ws (.returned (.tuple #[.int .i64 (-1), .slice none 0 0, .bool false])) w := ⟨_, rfl, WalkEnd.nil_ h hS⟩
theorem pickAt_is {p w : Nat} : (pickAt n K t q s k p w st).1 = none \/ ∃ l, l ≠ [] /\ (pickAt n K t q s k p w st).1 = some (p, l) := by
 unfold pickAt
 split
 ·exact .inl rfl
 ·exact .inr ⟨_, by assumption, rfl⟩

set_option maxHeartbeats 6400000 in
theorem slPick_bad_k (hn : n < 2 ^ 40) (hq : q <= 1024) (hk0 : -9223372036854775808 <= k) (hk1 : k <= 9223372036854775807) (hT : SlotsLaid w0) (hA : ¬ A 0) (want : Int) (hb : k < 0 \/ 8 < k) (h : (vOb base b n wh K).At w0 A G st w) :
  Calls Tryz.prog 78 #[.pointer (some ⟨b, 0, none⟩), .agg #[.int .i64 t, .int .i64 q, .int .i64 s], .int .i64 k, .int .i64 want] w (PickEnd (vOb base b n wh K) w0 A G none st w) := by
 have W0 := hidp ((WL.start h).new 23 #[.int .i64 t, .int .i64 q, .int .i64 s])
 have HTL := hidp hT
 have HMM := hidp (slotI_out (k := k) (by omega))
 have t0 : (((0 : Nat) : Int) == 0) = true := rfl
 clear h hT
 go_enter Tryz.func78, Tryz.ntmps78
 obtain ⟨x0, x1, x2⟩ := W0.out.h0.three
 go_wp2_with fail
 refine (clSlots_c k hk0 hk1 _ (HTL.out.at_ hA W0.out.at_)).mono ?_; rintro e w9 ⟨rfl, rfl⟩; rw [HMM.out]
 go_wp2
 go_ret3
 exact PickEnd.no W0.out.fin.1 W0.out.fin.2

set_option maxHeartbeats 6400000 in
theorem slPick_bad_low (hn : n < 2 ^ 40) (hq : q <= 1024) (hk0 : -9223372036854775808 <= k) (hk1 : k <= 9223372036854775807) (hT : SlotsLaid w0) (hA : ¬ A 0) (want : Int) (k0 : 0 <= k) (k8 : k <= 8) (hb : want < 1) (h : (vOb base b n wh K).At w0 A G st w) :
  Calls Tryz.prog 78 #[.pointer (some ⟨b, 0, none⟩), .agg #[.int .i64 t, .int .i64 q, .int .i64 s], .int .i64 k, .int .i64 want] w (PickEnd (vOb base b n wh K) w0 A G none st w) := by
 have W0 := hidp ((WL.start h).new 23 #[.int .i64 t, .int .i64 q, .int .i64 s])
 have HTL := hidp hT
 obtain ⟨m, hm⟩ : ∃ m, slotI k = m := ⟨_, rfl⟩
 have hm0 : m ≠ 0 := fun e => by have := slotI_zero.1 (hm.trans e); omega
 have HMM := hidp hm
 have t0 : ((m : Int) == 0) = false := by simp; omega
 have t1 : decide (want < (1 : Int)) = true := decide_eq_true hb
 clear hm
 clear h hT
 go_enter Tryz.func78, Tryz.ntmps78
 obtain ⟨x0, x1, x2⟩ := W0.out.h0.three
 go_wp2_with fail
 refine (clSlots_c k hk0 hk1 _ (HTL.out.at_ hA W0.out.at_)).mono ?_; rintro e w9 ⟨rfl, rfl⟩; rw [HMM.out]
 go_wp2
 go_ret3
 exact PickEnd.no W0.out.fin.1 W0.out.fin.2

set_option maxHeartbeats 6400000 in
theorem slPick_bad_high (hn : n < 2 ^ 40) (hq : q <= 1024) (hk0 : -9223372036854775808 <= k) (hk1 : k <= 9223372036854775807) (hT : SlotsLaid w0) (hA : ¬ A 0) (want : Int) (k0 : 0 <= k) (k8 : k <= 8) (hb : 4 < want) (h : (vOb base b n wh K).At w0 A G st w) :
  Calls Tryz.prog 78 #[.pointer (some ⟨b, 0, none⟩), .agg #[.int .i64 t, .int .i64 q, .int .i64 s], .int .i64 k, .int .i64 want] w (PickEnd (vOb base b n wh K) w0 A G none st w) := by
 have W0 := hidp ((WL.start h).new 23 #[.int .i64 t, .int .i64 q, .int .i64 s])
 have HTL := hidp hT
 obtain ⟨m, hm⟩ : ∃ m, slotI k = m := ⟨_, rfl⟩
 have hm0 : m ≠ 0 := fun e => by have := slotI_zero.1 (hm.trans e); omega
 have HMM := hidp hm
 have t0 : ((m : Int) == 0) = false := by simp; omega
 have t1 : decide (want < (1 : Int)) = false := decide_eq_false (by omega)
 have t2 : decide ((4 : Int) < want) = true := decide_eq_true hb
 clear hm
 clear h hT
 go_enter Tryz.func78, Tryz.ntmps78
 obtain ⟨x0, x1, x2⟩ := W0.out.h0.three
 go_wp2_with fail
 refine (clSlots_c k hk0 hk1 _ (HTL.out.at_ hA W0.out.at_)).mono ?_; rintro e w9 ⟨rfl, rfl⟩; rw [HMM.out]
 go_wp2
 go_ret3
 exact PickEnd.no W0.out.fin.1 W0.out.fin.2

set_option maxHeartbeats 6400000 in
theorem slPick_none (hn : n < 2 ^ 40) (hq : q <= 1024) (hk0 : -9223372036854775808 <= k) (hk1 : k <= 9223372036854775807) (hT : SlotsLaid w0) (hA : ¬ A 0) (k0 : 0 <= k) (k8 : k <= 8) (wn : Nat) (hw : 1 <= wn) (hw2 : wn <= 4) (hr : getV n K st (13 + k) = 0) (s1 : Vst) (ht : takeI n K t q s 1 (getS n K st (13 + k)) = (none, s1)) (h : (vOb base b n wh K).At w0 A G st w) :
  Calls Tryz.prog 78 #[.pointer (some ⟨b, 0, none⟩), .agg #[.int .i64 t, .int .i64 q, .int .i64 s], .int .i64 k, .int .i64 (wn : Int)] w (PickEnd (vOb base b n wh K) w0 A G none s1 w) := by
 have W0 := hidp ((WL.start h).new 23 #[.int .i64 t, .int .i64 q, .int .i64 s])
 have HTL := hidp hT
 obtain ⟨m, hm⟩ : ∃ m, slotI k = m := ⟨_, rfl⟩
 have hm0 : m ≠ 0 := fun e => by have := slotI_zero.1 (hm.trans e); omega
 have HMM := hidp hm
 have t0 : ((m : Int) == 0) = false := by simp; omega
 have t1 : decide ((wn : Int) < (1 : Int)) = false := decide_eq_false (by omega)
 have t2 : decide ((4 : Int) < (wn : Int)) = false := decide_eq_false (by omega)
 clear hm
 have HR := hidp hr
 have HTK := hidp ht
 clear h hT hr ht
 go_enter Tryz.func78, Tryz.ntmps78
 obtain ⟨x0, x1, x2⟩ := W0.out.h0.three
 go_wp2_with fail
 refine (clSlots_c k hk0 hk1 _ (HTL.out.at_ hA W0.out.at_)).mono ?_; rintro e w9 ⟨rfl, rfl⟩; rw [HMM.out]
 go_wp2_with fail
 refine (sfFirst_none hn hq k0 k8 HR.out s1 HTK.out W0.out.at_).mono ?_; rintro e w1 ⟨rfl, h1, h2⟩; have W1 := hidp (W0.out.call h1 h2); clear h1 h2 W0
 obtain ⟨x0, x1, x2⟩ := W1.out.h0.three
 replace W1 := hidp (W1.out.new 155 #[.pointer none, .int .i64 0, .int .i64 0, .int .i64 0, .int .i64 0, .int .i64 0])
 obtain ⟨g0, g1, g2, g3, g4, g5⟩ := W1.out.h0.six'
 obtain ⟨x0, x1, x2⟩ := W1.out.h1.three
 go_wp2
 go_ret3
 exact PickEnd.no W1.out.fin.1 W1.out.fin.2

set_option maxHeartbeats 6400000 in
theorem slPick_atN (hn : n < 2 ^ 40) (hq : q <= 1024) (hk0 : -9223372036854775808 <= k) (hk1 : k <= 9223372036854775807) (hT : SlotsLaid w0) (hA : ¬ A 0) (k0 : 0 <= k) (k8 : k <= 8) (wn : Nat) (hw : 1 <= wn) (hw2 : wn <= 4) (p : Nat) (s2 : Vst) (HF : Hid (∀ (G' : Nat -> Prop) (W' : World), (vOb base b n wh K).At w0 A G' st W' -> Calls Tryz.prog 114 #[.pointer (some ⟨b, 0, none⟩), .agg #[.int .i64 t, .int .i64 q, .int .i64 s], .int .i64 k] W' fun e w' => e = .returned (.tuple #[.agg #[.pointer (some ⟨b, 0, none⟩), .int .i64 t, .int .i64 q, .int .i64 s, .int .i64 (p : Int), .int .i64 k], .bool true]) /\ (vOb base b n wh K).At w0 A G' s2 w' /\ Stay G' W' w')) (s3 : Vst) (hx : pickAt n K t q s k p wn s2 = (none, s3)) (h : (vOb base b n wh K).At w0 A G st w) :
  Calls Tryz.prog 78 #[.pointer (some ⟨b, 0, none⟩), .agg #[.int .i64 t, .int .i64 q, .int .i64 s], .int .i64 k, .int .i64 (wn : Int)] w (PickEnd (vOb base b n wh K) w0 A G none s3 w) := by
 have W0 := hidp ((WL.start h).new 23 #[.int .i64 t, .int .i64 q, .int .i64 s])
 have HTL := hidp hT
 obtain ⟨m, hm⟩ : ∃ m, slotI k = m := ⟨_, rfl⟩
 have hm0 : m ≠ 0 := fun e => by have := slotI_zero.1 (hm.trans e); omega
 have HMM := hidp hm
 have t0 : ((m : Int) == 0) = false := by simp; omega
 have t1 : decide ((wn : Int) < (1 : Int)) = false := decide_eq_false (by omega)
 have t2 : decide ((4 : Int) < (wn : Int)) = false := decide_eq_false (by omega)
 clear hm
 have hq2 : q <= 2 ^ 31 := by omega
 have HX := hidp hx
 clear h hT hx
 go_enter Tryz.func78, Tryz.ntmps78
 obtain ⟨x0, x1, x2⟩ := W0.out.h0.three
 go_wp2_with fail
 refine (clSlots_c k hk0 hk1 _ (HTL.out.at_ hA W0.out.at_)).mono ?_; rintro e w9 ⟨rfl, rfl⟩; rw [HMM.out]
 go_wp2_with fail
 refine (HF.out _ _ W0.out.at_).mono ?_; rintro e w1 ⟨rfl, h1, h2⟩; have W1 := hidp (W0.out.call h1 h2); clear h1 h2 W0
 obtain ⟨x0, x1, x2⟩ := W1.out.h0.three
 generalize hNP : w1.heap.size = NP at *
 replace W1 := hidp (W1.out.new 155 #[.pointer (some ⟨b, 0, none⟩), .int .i64 t, .int .i64 q, .int .i64 s, .int .i64 (p : Int), .int .i64 k])
 rw [hNP] at W1
 obtain ⟨g0, g1, g2, g3, g4, g5⟩ := W1.out.h0.six'
 obtain ⟨x0, x1, x2⟩ := W1.out.h1.three
 go_wp2_with fail
 refine (sbPick_c hn hq2 p wn hw (by omega) k0 k8 HTL.out hA W1.out.at_).mono ?_
 rintro e w2 ⟨u, hu, ho, hA2, hS⟩
 rw [HX.out] at ho hA2
 subst hu
 dsimp only [pickL] at ho hA2
 rw [List.length_nil] at ho
 obtain ⟨A2, c2, hu2⟩ := own_slice ho
 subst hu2
 have hcc := own_caps9 ho
 have HP := hidp (hS.held (.inr ⟨_, List.mem_cons_self .., rfl⟩) W1.out.h0)
 obtain ⟨p0, p1, p2, p3, p4, p5⟩ := HP.out.six'
 have HOW := hidp ho
 have HAT := hidp hA2
 have HST := hidp (W1.out.stay.trans (hS.less fun g x => .inl x))
 have HZ0 := hidp W1.out.stay.1
 clear ho hA2 hS
 go_wp2
 go_ret3
 exact PickEnd.no (HAT.out.less fun g x => .inl (.inl x)) HST.out

set_option maxHeartbeats 6400000 in
theorem slPick_atS (hn : n < 2 ^ 40) (hq : q <= 1024) (hk0 : -9223372036854775808 <= k) (hk1 : k <= 9223372036854775807) (hT : SlotsLaid w0) (hA : ¬ A 0) (k0 : 0 <= k) (k8 : k <= 8) (wn : Nat) (hw : 1 <= wn) (hw2 : wn <= 4) (p : Nat) (s2 : Vst) (HF : Hid (∀ (G' : Nat -> Prop) (W' : World), (vOb base b n wh K).At w0 A G' st W' -> Calls Tryz.prog 114 #[.pointer (some ⟨b, 0, none⟩), .agg #[.int .i64 t, .int .i64 q, .int .i64 s], .int .i64 k] W' fun e w' => e = .returned (.tuple #[.agg #[.pointer (some ⟨b, 0, none⟩), .int .i64 t, .int .i64 q, .int .i64 s, .int .i64 (p : Int), .int .i64 k], .bool true]) /\ (vOb base b n wh K).At w0 A G' s2 w' /\ Stay G' W' w')) (s3 : Vst) (l : List Nat) (hl : l ≠ []) (hx : pickAt n K t q s k p wn s2 = (some (p, l), s3)) (h : (vOb base b n wh K).At w0 A G st w) :
  Calls Tryz.prog 78 #[.pointer (some ⟨b, 0, none⟩), .agg #[.int .i64 t, .int .i64 q, .int .i64 s], .int .i64 k, .int .i64 (wn : Int)] w (PickEnd (vOb base b n wh K) w0 A G (some (p, l)) s3 w) := by
 have W0 := hidp ((WL.start h).new 23 #[.int .i64 t, .int .i64 q, .int .i64 s])
 have HTL := hidp hT
 obtain ⟨m, hm⟩ : ∃ m, slotI k = m := ⟨_, rfl⟩
 have hm0 : m ≠ 0 := fun e => by have := slotI_zero.1 (hm.trans e); omega
 have HMM := hidp hm
 have t0 : ((m : Int) == 0) = false := by simp; omega
 have t1 : decide ((wn : Int) < (1 : Int)) = false := decide_eq_false (by omega)
 have t2 : decide ((4 : Int) < (wn : Int)) = false := decide_eq_false (by omega)
 clear hm
 have hq2 : q <= 2 ^ 31 := by omega
 have HX := hidp hx
 obtain ⟨nl, hnl⟩ : ∃ nl, l.length = nl := ⟨_, rfl⟩
 have hnl1 : 1 <= nl := by rw [<- hnl]; cases l with | nil => exact absurd rfl hl | cons a r => simp
 have HNL := hidp hnl
 have t3 : ((nl : Int) == 0) = false := by simp; omega
 clear hl hnl
 clear h hT hx
 go_enter Tryz.func78, Tryz.ntmps78
 obtain ⟨x0, x1, x2⟩ := W0.out.h0.three
 go_wp2_with fail
 refine (clSlots_c k hk0 hk1 _ (HTL.out.at_ hA W0.out.at_)).mono ?_; rintro e w9 ⟨rfl, rfl⟩; rw [HMM.out]
 go_wp2_with fail
 refine (HF.out _ _ W0.out.at_).mono ?_; rintro e w1 ⟨rfl, h1, h2⟩; have W1 := hidp (W0.out.call h1 h2); clear h1 h2 W0
 obtain ⟨x0, x1, x2⟩ := W1.out.h0.three
 generalize hNP : w1.heap.size = NP at *
 replace W1 := hidp (W1.out.new 155 #[.pointer (some ⟨b, 0, none⟩), .int .i64 t, .int .i64 q, .int .i64 s, .int .i64 (p : Int), .int .i64 k])
 rw [hNP] at W1
 obtain ⟨g0, g1, g2, g3, g4, g5⟩ := W1.out.h0.six'
 obtain ⟨x0, x1, x2⟩ := W1.out.h1.three
 go_wp2_with fail
 refine (sbPick_c hn hq2 p wn hw (by omega) k0 k8 HTL.out hA W1.out.at_).mono ?_
 rintro e w2 ⟨u, hu, ho, hA2, hS⟩
 rw [HX.out] at ho hA2
 subst hu
 dsimp only [pickL] at ho hA2
 rw [HNL.out] at ho
 obtain ⟨A2, c2, hu2⟩ := own_slice ho
 subst hu2
 have hcc := own_caps9 ho
 have HP := hidp (hS.held (.inr ⟨_, List.mem_cons_self .., rfl⟩) W1.out.h0)
 obtain ⟨p0, p1, p2, p3, p4, p5⟩ := HP.out.six'
 have HOW := hidp ho
 have HAT := hidp hA2
 have HST := hidp (W1.out.stay.trans (hS.less fun g x => .inl x))
 have HZ0 := hidp W1.out.stay.1
 clear ho hA2 hS
 go_wp2
 go_ret3
 refine ⟨_, rfl, _, rfl, ?_, HAT.out.less (fun g x => ?_), HST.out⟩
 ·dsimp only [pickL]
  rw [HNL.out]
  exact own_lower HOW.out HZ0.out
 ·rcases x with x | x
  ·exact .inl (.inl x)
  ·exact .inr x

theorem slPick_in (hn : n < 2 ^ 40) (hq : q <= 1024) (hk0 : -9223372036854775808 <= k) (hk1 : k <= 9223372036854775807) (hT : SlotsLaid w0) (hA : ¬ A 0) (k0 : 0 <= k) (k8 : k <= 8) (wn : Nat) (hw : 1 <= wn) (hw2 : wn <= 4) (h : (vOb base b n wh K).At w0 A G st w) :
  Calls Tryz.prog 78 #[.pointer (some ⟨b, 0, none⟩), .agg #[.int .i64 t, .int .i64 q, .int .i64 s], .int .i64 k, .int .i64 (wn : Int)] w (PickEnd (vOb base b n wh K) w0 A G (pickI n K t q s k wn st).1 (pickI n K t q s k wn st).2 w) := by
 have hat : ∀ (p : Nat) (s2 : Vst), (Hid (∀ (G' : Nat -> Prop) (W' : World), (vOb base b n wh K).At w0 A G' st W' -> Calls Tryz.prog 114 #[.pointer (some ⟨b, 0, none⟩), .agg #[.int .i64 t, .int .i64 q, .int .i64 s], .int .i64 k] W' fun e w' => e = .returned (.tuple #[.agg #[.pointer (some ⟨b, 0, none⟩), .int .i64 t, .int .i64 q, .int .i64 s, .int .i64 (p : Int), .int .i64 k], .bool true]) /\ (vOb base b n wh K).At w0 A G' s2 w' /\ Stay G' W' w')) ->
   Calls Tryz.prog 78 #[.pointer (some ⟨b, 0, none⟩), .agg #[.int .i64 t, .int .i64 q, .int .i64 s], .int .i64 k, .int .i64 (wn : Int)] w (PickEnd (vOb base b n wh K) w0 A G (pickAt n K t q s k p wn s2).1 (pickAt n K t q s k p wn s2).2 w) := fun p s2 HF => by
  obtain ⟨⟨x, s3⟩, hx⟩ : ∃ x, pickAt n K t q s k p wn s2 = x := ⟨_, rfl⟩
  rcases pickAt_is (n := n) (K := K) (t := t) (q := q) (s := s) (k := k) (p := p) (w := wn) (st := s2) with h1 | ⟨l, hl, h1⟩
  ·rw [hx] at h1 ⊢
   dsimp only at h1
   subst h1
   exact slPick_atN hn hq hk0 hk1 hT hA k0 k8 wn hw hw2 p s2 HF s3 hx h
  ·rw [hx] at h1 ⊢
   dsimp only at h1
   subst h1
   exact slPick_atS hn hq hk0 hk1 hT hA k0 k8 wn hw hw2 p s2 HF s3 l hl hx h
 cases hr : getV n K st (13 + k) with
 | succ r =>
  rw [pickI_rack hr]
  exact hat r _ (hidp fun G' W' h' => sfFirst_rack hn hq k0 k8 r hr h')
 | zero =>
  obtain ⟨⟨o, s1⟩, ht⟩ : ∃ x, takeI n K t q s 1 (getS n K st (13 + k)) = x := ⟨_, rfl⟩
  cases o with
  | none =>
   rw [pickI_none hr ht]
   exact slPick_none hn hq hk0 hk1 hT hA k0 k8 wn hw hw2 hr s1 ht h
  | some p =>
   rw [pickI_fresh hr ht]
   exact hat p _ (hidp fun G' W' h' => sfFirst_some hn hq k0 k8 hr p s1 ht h')

def pickZ (n : Nat) (K : Nat -> Option Nat) (t q s k want : Int) (st : Vst) : Option (Nat × List Nat) × Vst := if (0 <= k /\ k <= 8) /\ 1 <= want /\ want <= 4 then pickI n K t q s k want.toNat st else (none, st)
theorem pickZ_no {want : Int} (h : ¬ ((0 <= k /\ k <= 8) /\ 1 <= want /\ want <= 4)) : pickZ n K t q s k want st = (none, st) := by unfold pickZ; rw [if_neg h]
theorem pickZ_yes {wn : Nat} (k0 : 0 <= k) (k8 : k <= 8) (hw : 1 <= wn) (hw2 : wn <= 4) : pickZ n K t q s k (wn : Int) st = pickI n K t q s k wn st := by unfold pickZ; rw [if_pos ⟨⟨k0, k8⟩, by omega, by omega⟩, Int.toNat_natCast]
theorem slPick_c (hn : n < 2 ^ 40) (hq : q <= 1024) (hk0 : -9223372036854775808 <= k) (hk1 : k <= 9223372036854775807) (hT : SlotsLaid w0) (hA : ¬ A 0) (want : Int) (h : (vOb base b n wh K).At w0 A G st w) :
  Calls Tryz.prog 78 #[.pointer (some ⟨b, 0, none⟩), .agg #[.int .i64 t, .int .i64 q, .int .i64 s], .int .i64 k, .int .i64 want] w (PickEnd (vOb base b n wh K) w0 A G (pickZ n K t q s k want st).1 (pickZ n K t q s k want st).2 w) := by
 by_cases hb : (0 <= k /\ k <= 8) /\ 1 <= want /\ want <= 4
 ·obtain ⟨wn, rfl⟩ := Int.eq_ofNat_of_zero_le (show 0 <= want by omega)
  have e : pickZ n K t q s k (wn : Int) st = pickI n K t q s k wn st := pickZ_yes hb.1.1 hb.1.2 (by omega) (by omega)
  rw [e]
  exact slPick_in hn hq hk0 hk1 hT hA hb.1.1 hb.1.2 wn (by omega) (by omega) h
 ·rw [pickZ_no hb]
  by_cases b1 : k < 0 \/ 8 < k
  ·exact slPick_bad_k hn hq hk0 hk1 hT hA want b1 h
  ·by_cases b2 : want < 1
   ·exact slPick_bad_low hn hq hk0 hk1 hT hA want (by omega) (by omega) b2 h
   ·exact slPick_bad_high hn hq hk0 hk1 hT hA want (by omega) (by omega) (by omega) h

end
end
end Go.Proofs.YtjjfcaliippgpaaGreatDoor
