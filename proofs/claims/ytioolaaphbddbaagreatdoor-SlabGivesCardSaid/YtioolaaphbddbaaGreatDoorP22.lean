/-
  What the document's Give does. Written by slab/gen_ref.py.
-/
import Derived.Test.YtioolaaphbddbaaGreatDoorP20
import Derived.Test.YtioolaaphbddbaaGreatDoorP18
import Derived.Test.YtioolaaphbddbaaGreatDoorP07
namespace Go.Proofs.YtioolaaphbddbaaGreatDoor
open Go.ChangeShapes Go.WideShapes Go.ChangeAt Go.RowKit Go.Maps
set_option linter.unusedVariables false
set_option linter.unusedSimpArgs false
set_option maxRecDepth 100000
section
section
variable {base b n : Nat} {wh all : Bool} {K : Nat → Option Nat} {st : Vst} {w w0 : World} {A G : Nat → Prop} {t q s k : Int}

theorem getV_lt' {a c : Int} (h : (rOb base b n all K).At w0 A G st w) : getV n K (getS n K st c) a < 2 ^ 32 := by
  obtain ⟨B, ⟨o, h1, _⟩, _⟩ := h
  exact getV_lt h1.ok.get h1.k32

set_option maxHeartbeats 6400000 in
theorem r16Give_true_some (hn : n < 2 ^ 40) (hq : q ≤ 1024) (p i : Nat) (hp : p ≤ 1024) (hi : i < 32) (kk l : Int) (ok : Bool) (hI : infoOf n K t q s p st = (kk, l, k, ok)) (k0 : 0 ≤ k) (k8 : k ≤ 8) (v : Nat) (hv : getV n K (getS n K st (pageI t q s (p : Int) 0)) (pageI t q s p 5) = v) (u : Nat) (hu : offB v i = u) (bb : Bool) (hbb : fullB v k = bb) (hbit : v.testBit i = true) (hu0 : u ≠ 0) (h : (rOb base b n all K).At w0 A G st w) :
    Calls Tryz.prog 21 #[.pointer (some ⟨b, 0, none⟩), .agg #[.int .i64 t, .int .i64 q, .int .i64 s], .int .i64 (p : Int), .int .i64 (i : Int)] w fun e w' => e = .returned (.tuple #[]) ∧ (rOb base b n all K).At w0 A G (backS n K t q s k p u bb (getS n K (getS n K st (pageI t q s (p : Int) 0)) (pageI t q s (p : Int) 5))) w' ∧ Stay G w w' := by
  have W0 := hidp ((WL.start h).new 23 #[.int .i64 t, .int .i64 q, .int .i64 s])
  have hq2 : q ≤ 2 ^ 31 := by omega
  have HI := hidp hI
  have HV := hidp hv
  have HBB := hidp hbb
  have HRK := hidp (rack_at k0 k8)
  have t0 : decide ((i : Int) < (0 : Int)) = false := decide_eq_false (by omega)
  have t1 : decide ((31 : Int) < (i : Int)) = false := decide_eq_false (by omega)
  have hfd : ∀ w : World, (Instr.field 60 (.agg #[.int .i64 kk, .int .i64 l, .int .i64 k]) 2).run Tryz.prog w = .ok (.int .i64 k) w := fun _ => by kernel_rfl
  have HBT := hidp ((congrArg v.testBit (Int.toNat_natCast i)).trans hbit)
  have hv32 : v < 2 ^ 32 := by rw [← hv]; exact getV_lt' h
  obtain ⟨z, hz⟩ : ∃ z, 2 ^ i = z := ⟨_, rfl⟩
  have HBI : Hid (∀ W, Calls Tryz.prog 48 #[.int .i64 (i : Int)] W fun e w' => e = .returned (.int .u32 (z : Int)) ∧ W = w') := hidp (fun W => by rw [← hz]; exact r16Bit_c i hi W)
  have hzv : u + z = v := by have hu2 := hu; unfold offB at hu2; rw [if_pos hbit, hz] at hu2; have := Nat.ge_two_pow_of_testBit hbit; omega
  have e1 : (v : Int) - (z : Int) = (u : Int) := by omega
  have e2 : IntKind.u32.wrap ((v : Int) - (z : Int)) = (u : Int) := by rw [e1]; exact wrap32_small (by omega) (by omega)
  have t2 : ((u : Int) == 0) = false := by simp; omega
  have hu32 : u < 2 ^ 32 := by omega
  clear h hI hv hbb hbit hu hz hzv
  go_enter Tryz.func21, Tryz.ntmps21
  obtain ⟨x0, x1, x2⟩ := W0.out.h0.three
  go_wp2_with fail
  refine (r14Info_c hn (p : Int) kk l k ok HI.out W0.out.at_).mono ?_; rintro e w1 ⟨rfl, h1, h2⟩; have W1 := hidp (W0.out.call h1 h2); clear h1 h2 W0
  obtain ⟨x0, x1, x2⟩ := W1.out.h0.three
  go_wp2_with fail
  refine (r7Taken_c t q s (p : Int) _).mono ?_; rintro e w2 ⟨rfl, hb⟩; have W2 := hidp (W1.out.keep hb); clear hb W1
  obtain ⟨x0, x1, x2⟩ := W2.out.h0.three
  go_wp2_with fail
  refine (rGetA hn _ W2.out.at_).mono ?_; rintro e w3 ⟨rfl, h1, h2⟩; have W3 := hidp (W2.out.call h1 h2); clear h1 h2 W2; rw [HV.out]
  obtain ⟨x0, x1, x2⟩ := W3.out.h0.three
  go_wp2_with fail
  refine (Bit_c v i _ hv32 (by omega) (by omega) HBT.out _).mono ?_; rintro e w9 ⟨rfl, rfl⟩
  go_wp2_with fail
  refine (HBI.out _).mono ?_; rintro e w9 ⟨rfl, rfl⟩
  go_wp2_with fail
  refine (r7Taken_c t q s (p : Int) _).mono ?_; rintro e w4 ⟨rfl, hb⟩; have W4 := hidp (W3.out.keep hb); clear hb W3
  obtain ⟨x0, x1, x2⟩ := W4.out.h0.three
  go_wp2_with fail
  refine (rPutA hn _ u hu32 W4.out.at_).mono ?_; rintro e w5 ⟨rfl, h1, h2⟩; have W5 := hidp (W4.out.call h1 h2); clear h1 h2 W4
  obtain ⟨x0, x1, x2⟩ := W5.out.h0.three
  go_wp2_with fail
  refine (r16Full_c v k k0 k8 hv32 _).mono ?_; rintro e w9 ⟨rfl, rfl⟩; rw [HBB.out]
  clear hfd HBT HBI e1 e2
  cases bb with
  | false =>
    go_wp2
    go_end0
    exact ⟨rfl, W5.out.fin⟩
  | true =>
    go_wp2_with fail
    refine wp_region_held_drew (S := (fun w' => w'.cell? ⟨w.heap.size, 0, none⟩ = some (.int .i64 t) ∧ w'.cell? ⟨w.heap.size, 1, none⟩ = some (.int .i64 q) ∧ w'.cell? ⟨w.heap.size, 2, none⟩ = some (.int .i64 s))) (by kernel_rfl) ?_ (fun hHeld => ?_)
    · (try dsimp only)
      exact ⟨W5.out.drew.h0.three.1, W5.out.drew.h0.three.2.1, W5.out.drew.h0.three.2.2⟩
    refine tkz 0 ?_
    refine tkz 1 ?_
    refine tkz 2 ?_
    refine tkz 4 ?_
    refine wpAnyH_ready (rs := [3]) (by kernel_rfl) (by simp) ?_
    refine AllReadyH.cons (o := _) rfl (fun K hK => ?_) AllReadyH.nil
    go_simp
    refine (r7Rack_c k _).mono ?_; rintro e w9 ⟨rfl, rfl⟩; rw [HRK.out]
    refine hK.out _ _ ?_ (fun hHeld => ?_)
    · (try dsimp only)
      exact ⟨W5.out.drew.h0.three.1, W5.out.drew.h0.three.2.1, W5.out.drew.h0.three.2.2⟩
    clear hK K
    (try simp only [Act.put, gA, gB, gC, sA, sB, sC])
    refine wpAnyH_ready (rs := [5]) (by kernel_rfl) (by simp) ?_
    refine AllReadyH.cons (o := _) rfl (fun K hK => ?_) AllReadyH.nil
    go_simp
    refine (rkPush_c hn hq2 (p : Int) W5.out.drew.at_).mono ?_; rintro e w6 ⟨rfl, h1, h2⟩; have W6 := hidp (W5.out.drew.call h1 h2); clear h1 h2 W5
    refine hK.out _ _ ?_ (fun hHeld => ?_)
    · (try dsimp only)
      exact ⟨W6.out.h0.three.1, W6.out.h0.three.2.1, W6.out.h0.three.2.2⟩
    clear hK K
    (try simp only [Act.put, gA, gB, gC, sA, sB, sC])
    refine wpAnyH_done (by kernel_rfl) ?_ _
    obtain ⟨x0, x1, x2⟩ := W6.out.h0.three
    go_wp2
    go_end0
    exact ⟨rfl, W6.out.fin⟩

set_option maxHeartbeats 6400000 in
theorem r16Give_true_none (hn : n < 2 ^ 40) (hq : q ≤ 1024) (p i : Nat) (hp : p ≤ 1024) (hi : i < 32) (kk l : Int) (ok : Bool) (hI : infoOf n K t q s p st = (kk, l, k, ok)) (k0 : 0 ≤ k) (k8 : k ≤ 8) (v : Nat) (hv : getV n K (getS n K st (pageI t q s (p : Int) 0)) (pageI t q s p 5) = v) (u : Nat) (hu : offB v i = u) (bb : Bool) (hbb : fullB v k = bb) (hbit : v.testBit i = true) (hu0 : u = 0) (h : (rOb base b n all K).At w0 A G st w) :
    Calls Tryz.prog 21 #[.pointer (some ⟨b, 0, none⟩), .agg #[.int .i64 t, .int .i64 q, .int .i64 s], .int .i64 (p : Int), .int .i64 (i : Int)] w fun e w' => e = .returned (.tuple #[]) ∧ (rOb base b n all K).At w0 A G (emptyS n K t q s k p bb (getS n K (getS n K st (pageI t q s (p : Int) 0)) (pageI t q s (p : Int) 5))) w' ∧ Stay G w w' := by
  have W0 := hidp ((WL.start h).new 23 #[.int .i64 t, .int .i64 q, .int .i64 s])
  have hq2 : q ≤ 2 ^ 31 := by omega
  have HI := hidp hI
  have HV := hidp hv
  have HBB := hidp hbb
  have HRK := hidp (rack_at k0 k8)
  have t0 : decide ((i : Int) < (0 : Int)) = false := decide_eq_false (by omega)
  have t1 : decide ((31 : Int) < (i : Int)) = false := decide_eq_false (by omega)
  have hfd : ∀ w : World, (Instr.field 60 (.agg #[.int .i64 kk, .int .i64 l, .int .i64 k]) 2).run Tryz.prog w = .ok (.int .i64 k) w := fun _ => by kernel_rfl
  have HBT := hidp ((congrArg v.testBit (Int.toNat_natCast i)).trans hbit)
  have hv32 : v < 2 ^ 32 := by rw [← hv]; exact getV_lt' h
  subst hu0
  obtain ⟨z, hz⟩ : ∃ z, 2 ^ i = z := ⟨_, rfl⟩
  have HBI : Hid (∀ W, Calls Tryz.prog 48 #[.int .i64 (i : Int)] W fun e w' => e = .returned (.int .u32 (z : Int)) ∧ W = w') := hidp (fun W => by rw [← hz]; exact r16Bit_c i hi W)
  have hzv : z = v := by have hu2 := hu; unfold offB at hu2; rw [if_pos hbit, hz] at hu2; have := Nat.ge_two_pow_of_testBit hbit; omega
  have e1 : (v : Int) - (z : Int) = 0 := by omega
  have e2 : IntKind.u32.wrap ((v : Int) - (z : Int)) = 0 := by rw [e1]; exact wrap32_small (by omega) (by omega)
  clear h hI hv hbb hbit hu hz hzv
  go_enter Tryz.func21, Tryz.ntmps21
  obtain ⟨x0, x1, x2⟩ := W0.out.h0.three
  go_wp2_with fail
  refine (r14Info_c hn (p : Int) kk l k ok HI.out W0.out.at_).mono ?_; rintro e w1 ⟨rfl, h1, h2⟩; have W1 := hidp (W0.out.call h1 h2); clear h1 h2 W0
  obtain ⟨x0, x1, x2⟩ := W1.out.h0.three
  go_wp2_with fail
  refine (r7Taken_c t q s (p : Int) _).mono ?_; rintro e w2 ⟨rfl, hb⟩; have W2 := hidp (W1.out.keep hb); clear hb W1
  obtain ⟨x0, x1, x2⟩ := W2.out.h0.three
  go_wp2_with fail
  refine (rGetA hn _ W2.out.at_).mono ?_; rintro e w3 ⟨rfl, h1, h2⟩; have W3 := hidp (W2.out.call h1 h2); clear h1 h2 W2; rw [HV.out]
  obtain ⟨x0, x1, x2⟩ := W3.out.h0.three
  go_wp2_with fail
  refine (Bit_c v i _ hv32 (by omega) (by omega) HBT.out _).mono ?_; rintro e w9 ⟨rfl, rfl⟩
  go_wp2_with fail
  refine (HBI.out _).mono ?_; rintro e w9 ⟨rfl, rfl⟩
  go_wp2_with fail
  refine (r16Full_c v k k0 k8 hv32 _).mono ?_; rintro e w9 ⟨rfl, rfl⟩; rw [HBB.out]
  clear hfd HBT HBI e1 e2
  cases bb with
  | false =>
    go_wp2_with fail
    refine wp_region_held_drew (S := (fun w' => w'.cell? ⟨w.heap.size, 0, none⟩ = some (.int .i64 t) ∧ w'.cell? ⟨w.heap.size, 1, none⟩ = some (.int .i64 q) ∧ w'.cell? ⟨w.heap.size, 2, none⟩ = some (.int .i64 s))) (by kernel_rfl) ?_ (fun hHeld => ?_)
    · (try dsimp only)
      exact ⟨W3.out.drew.h0.three.1, W3.out.drew.h0.three.2.1, W3.out.drew.h0.three.2.2⟩
    refine tkz 0 ?_
    refine tkz 1 ?_
    refine tkz 2 ?_
    refine tkz 4 ?_
    refine wpAnyH_ready (rs := [3]) (by kernel_rfl) (by simp) ?_
    refine AllReadyH.cons (o := _) rfl (fun K hK => ?_) AllReadyH.nil
    go_simp
    refine (r7Rack_c k _).mono ?_; rintro e w9 ⟨rfl, rfl⟩; rw [HRK.out]
    refine hK.out _ _ ?_ (fun hHeld => ?_)
    · (try dsimp only)
      exact ⟨W3.out.drew.h0.three.1, W3.out.drew.h0.three.2.1, W3.out.drew.h0.three.2.2⟩
    clear hK K
    (try simp only [Act.put, gA, gB, gC, sA, sB, sC])
    refine wpAnyH_ready (rs := [5]) (by kernel_rfl) (by simp) ?_
    refine AllReadyH.cons (o := _) rfl (fun K hK => ?_) AllReadyH.nil
    go_simp
    refine (rkPull_c hn hq2 (p : Int) W3.out.drew.at_).mono ?_; rintro e w4 ⟨rfl, h1, h2⟩; have W4 := hidp (W3.out.drew.call h1 h2); clear h1 h2 W3
    refine hK.out _ _ ?_ (fun hHeld => ?_)
    · (try dsimp only)
      exact ⟨W4.out.h0.three.1, W4.out.h0.three.2.1, W4.out.h0.three.2.2⟩
    clear hK K
    (try simp only [Act.put, gA, gB, gC, sA, sB, sC])
    refine wpAnyH_done (by kernel_rfl) ?_ _
    obtain ⟨x0, x1, x2⟩ := W4.out.h0.three
    go_wp2_with fail
    refine (r7Taken_c t q s (p : Int) _).mono ?_; rintro e w5 ⟨rfl, hb⟩; have W5 := hidp (W4.out.keep hb); clear hb W4
    obtain ⟨x0, x1, x2⟩ := W5.out.h0.three
    go_wp2_with fail
    refine (rPutA hn _ 0 (by omega) W5.out.at_).mono ?_; rintro e w6 ⟨rfl, h1, h2⟩; have W6 := hidp (W5.out.call h1 h2); clear h1 h2 W5
    obtain ⟨x0, x1, x2⟩ := W6.out.h0.three
    go_wp2_with fail
    refine (r15Release_c hn hq p 1 hp (by omega) W6.out.at_).mono ?_; rintro e w7 ⟨rfl, h1, h2⟩; have W7 := hidp (W6.out.call h1 h2); clear h1 h2 W6
    obtain ⟨x0, x1, x2⟩ := W7.out.h0.three
    go_wp2
    refine bodyPost_ret (results_none rfl _ _ _) rfl ?_
    exact ⟨rfl, W7.out.fin⟩
  | true =>
    go_wp2_with fail
    refine (r7Taken_c t q s (p : Int) _).mono ?_; rintro e w4 ⟨rfl, hb⟩; have W4 := hidp (W3.out.keep hb); clear hb W3
    obtain ⟨x0, x1, x2⟩ := W4.out.h0.three
    go_wp2_with fail
    refine (rPutA hn _ 0 (by omega) W4.out.at_).mono ?_; rintro e w5 ⟨rfl, h1, h2⟩; have W5 := hidp (W4.out.call h1 h2); clear h1 h2 W4
    obtain ⟨x0, x1, x2⟩ := W5.out.h0.three
    go_wp2_with fail
    refine (r15Release_c hn hq p 1 hp (by omega) W5.out.at_).mono ?_; rintro e w6 ⟨rfl, h1, h2⟩; have W6 := hidp (W5.out.call h1 h2); clear h1 h2 W5
    obtain ⟨x0, x1, x2⟩ := W6.out.h0.three
    go_wp2
    refine bodyPost_ret (results_none rfl _ _ _) rfl ?_
    exact ⟨rfl, W6.out.fin⟩

set_option maxHeartbeats 6400000 in
theorem r16Give_false_some (hn : n < 2 ^ 40) (hq : q ≤ 1024) (p i : Nat) (hp : p ≤ 1024) (hi : i < 32) (kk l : Int) (ok : Bool) (hI : infoOf n K t q s p st = (kk, l, k, ok)) (k0 : 0 ≤ k) (k8 : k ≤ 8) (v : Nat) (hv : getV n K (getS n K st (pageI t q s (p : Int) 0)) (pageI t q s p 5) = v) (u : Nat) (hu : offB v i = u) (bb : Bool) (hbb : fullB v k = bb) (hbit : v.testBit i = false) (hu0 : u ≠ 0) (h : (rOb base b n all K).At w0 A G st w) :
    Calls Tryz.prog 21 #[.pointer (some ⟨b, 0, none⟩), .agg #[.int .i64 t, .int .i64 q, .int .i64 s], .int .i64 (p : Int), .int .i64 (i : Int)] w fun e w' => e = .returned (.tuple #[]) ∧ (rOb base b n all K).At w0 A G (backS n K t q s k p u bb (getS n K (getS n K st (pageI t q s (p : Int) 0)) (pageI t q s (p : Int) 5))) w' ∧ Stay G w w' := by
  have W0 := hidp ((WL.start h).new 23 #[.int .i64 t, .int .i64 q, .int .i64 s])
  have hq2 : q ≤ 2 ^ 31 := by omega
  have HI := hidp hI
  have HV := hidp hv
  have HBB := hidp hbb
  have HRK := hidp (rack_at k0 k8)
  have t0 : decide ((i : Int) < (0 : Int)) = false := decide_eq_false (by omega)
  have t1 : decide ((31 : Int) < (i : Int)) = false := decide_eq_false (by omega)
  have hfd : ∀ w : World, (Instr.field 60 (.agg #[.int .i64 kk, .int .i64 l, .int .i64 k]) 2).run Tryz.prog w = .ok (.int .i64 k) w := fun _ => by kernel_rfl
  have HBT := hidp ((congrArg v.testBit (Int.toNat_natCast i)).trans hbit)
  have hv32 : v < 2 ^ 32 := by rw [← hv]; exact getV_lt' h
  have huv : v = u := by have hu2 := hu; unfold offB at hu2; rw [if_neg (by rw [hbit]; simp)] at hu2; exact hu2
  have t2 : ((v : Int) == 0) = false := by simp; omega
  have HUV := hidp huv
  clear h hI hv hbb hbit hu huv
  go_enter Tryz.func21, Tryz.ntmps21
  obtain ⟨x0, x1, x2⟩ := W0.out.h0.three
  go_wp2_with fail
  refine (r14Info_c hn (p : Int) kk l k ok HI.out W0.out.at_).mono ?_; rintro e w1 ⟨rfl, h1, h2⟩; have W1 := hidp (W0.out.call h1 h2); clear h1 h2 W0
  obtain ⟨x0, x1, x2⟩ := W1.out.h0.three
  go_wp2_with fail
  refine (r7Taken_c t q s (p : Int) _).mono ?_; rintro e w2 ⟨rfl, hb⟩; have W2 := hidp (W1.out.keep hb); clear hb W1
  obtain ⟨x0, x1, x2⟩ := W2.out.h0.three
  go_wp2_with fail
  refine (rGetA hn _ W2.out.at_).mono ?_; rintro e w3 ⟨rfl, h1, h2⟩; have W3 := hidp (W2.out.call h1 h2); clear h1 h2 W2; rw [HV.out]
  obtain ⟨x0, x1, x2⟩ := W3.out.h0.three
  go_wp2_with fail
  refine (Bit_c v i _ hv32 (by omega) (by omega) HBT.out _).mono ?_; rintro e w9 ⟨rfl, rfl⟩
  go_wp2_with fail
  refine (r7Taken_c t q s (p : Int) _).mono ?_; rintro e w4 ⟨rfl, hb⟩; have W4 := hidp (W3.out.keep hb); clear hb W3
  obtain ⟨x0, x1, x2⟩ := W4.out.h0.three
  go_wp2_with fail
  refine (rPutA hn _ v hv32 W4.out.at_).mono ?_; rintro e w5 ⟨rfl, h1, h2⟩; have W5 := hidp (W4.out.call h1 h2); clear h1 h2 W4; rw [HUV.out] at W5
  obtain ⟨x0, x1, x2⟩ := W5.out.h0.three
  go_wp2_with fail
  refine (r16Full_c v k k0 k8 hv32 _).mono ?_; rintro e w9 ⟨rfl, rfl⟩; rw [HBB.out]
  clear hfd HBT
  cases bb with
  | false =>
    go_wp2
    go_end0
    exact ⟨rfl, W5.out.fin⟩
  | true =>
    go_wp2_with fail
    refine wp_region_held_drew (S := (fun w' => w'.cell? ⟨w.heap.size, 0, none⟩ = some (.int .i64 t) ∧ w'.cell? ⟨w.heap.size, 1, none⟩ = some (.int .i64 q) ∧ w'.cell? ⟨w.heap.size, 2, none⟩ = some (.int .i64 s))) (by kernel_rfl) ?_ (fun hHeld => ?_)
    · (try dsimp only)
      exact ⟨W5.out.drew.h0.three.1, W5.out.drew.h0.three.2.1, W5.out.drew.h0.three.2.2⟩
    refine tkz 0 ?_
    refine tkz 1 ?_
    refine tkz 2 ?_
    refine tkz 4 ?_
    refine wpAnyH_ready (rs := [3]) (by kernel_rfl) (by simp) ?_
    refine AllReadyH.cons (o := _) rfl (fun K hK => ?_) AllReadyH.nil
    go_simp
    refine (r7Rack_c k _).mono ?_; rintro e w9 ⟨rfl, rfl⟩; rw [HRK.out]
    refine hK.out _ _ ?_ (fun hHeld => ?_)
    · (try dsimp only)
      exact ⟨W5.out.drew.h0.three.1, W5.out.drew.h0.three.2.1, W5.out.drew.h0.three.2.2⟩
    clear hK K
    (try simp only [Act.put, gA, gB, gC, sA, sB, sC])
    refine wpAnyH_ready (rs := [5]) (by kernel_rfl) (by simp) ?_
    refine AllReadyH.cons (o := _) rfl (fun K hK => ?_) AllReadyH.nil
    go_simp
    refine (rkPush_c hn hq2 (p : Int) W5.out.drew.at_).mono ?_; rintro e w6 ⟨rfl, h1, h2⟩; have W6 := hidp (W5.out.drew.call h1 h2); clear h1 h2 W5
    refine hK.out _ _ ?_ (fun hHeld => ?_)
    · (try dsimp only)
      exact ⟨W6.out.h0.three.1, W6.out.h0.three.2.1, W6.out.h0.three.2.2⟩
    clear hK K
    (try simp only [Act.put, gA, gB, gC, sA, sB, sC])
    refine wpAnyH_done (by kernel_rfl) ?_ _
    obtain ⟨x0, x1, x2⟩ := W6.out.h0.three
    go_wp2
    go_end0
    exact ⟨rfl, W6.out.fin⟩

set_option maxHeartbeats 6400000 in
theorem r16Give_false_none (hn : n < 2 ^ 40) (hq : q ≤ 1024) (p i : Nat) (hp : p ≤ 1024) (hi : i < 32) (kk l : Int) (ok : Bool) (hI : infoOf n K t q s p st = (kk, l, k, ok)) (k0 : 0 ≤ k) (k8 : k ≤ 8) (v : Nat) (hv : getV n K (getS n K st (pageI t q s (p : Int) 0)) (pageI t q s p 5) = v) (u : Nat) (hu : offB v i = u) (bb : Bool) (hbb : fullB v k = bb) (hbit : v.testBit i = false) (hu0 : u = 0) (h : (rOb base b n all K).At w0 A G st w) :
    Calls Tryz.prog 21 #[.pointer (some ⟨b, 0, none⟩), .agg #[.int .i64 t, .int .i64 q, .int .i64 s], .int .i64 (p : Int), .int .i64 (i : Int)] w fun e w' => e = .returned (.tuple #[]) ∧ (rOb base b n all K).At w0 A G (emptyS n K t q s k p bb (getS n K (getS n K st (pageI t q s (p : Int) 0)) (pageI t q s (p : Int) 5))) w' ∧ Stay G w w' := by
  have W0 := hidp ((WL.start h).new 23 #[.int .i64 t, .int .i64 q, .int .i64 s])
  have hq2 : q ≤ 2 ^ 31 := by omega
  have HI := hidp hI
  have HV := hidp hv
  have HBB := hidp hbb
  have HRK := hidp (rack_at k0 k8)
  have t0 : decide ((i : Int) < (0 : Int)) = false := decide_eq_false (by omega)
  have t1 : decide ((31 : Int) < (i : Int)) = false := decide_eq_false (by omega)
  have hfd : ∀ w : World, (Instr.field 60 (.agg #[.int .i64 kk, .int .i64 l, .int .i64 k]) 2).run Tryz.prog w = .ok (.int .i64 k) w := fun _ => by kernel_rfl
  have HBT := hidp ((congrArg v.testBit (Int.toNat_natCast i)).trans hbit)
  have hv32 : v < 2 ^ 32 := by rw [← hv]; exact getV_lt' h
  subst hu0
  have huv : v = 0 := by have hu2 := hu; unfold offB at hu2; rw [if_neg (by rw [hbit]; simp)] at hu2; exact hu2
  have t2 : ((v : Int) == 0) = true := by simp; omega
  clear h hI hv hbb hbit hu huv
  go_enter Tryz.func21, Tryz.ntmps21
  obtain ⟨x0, x1, x2⟩ := W0.out.h0.three
  go_wp2_with fail
  refine (r14Info_c hn (p : Int) kk l k ok HI.out W0.out.at_).mono ?_; rintro e w1 ⟨rfl, h1, h2⟩; have W1 := hidp (W0.out.call h1 h2); clear h1 h2 W0
  obtain ⟨x0, x1, x2⟩ := W1.out.h0.three
  go_wp2_with fail
  refine (r7Taken_c t q s (p : Int) _).mono ?_; rintro e w2 ⟨rfl, hb⟩; have W2 := hidp (W1.out.keep hb); clear hb W1
  obtain ⟨x0, x1, x2⟩ := W2.out.h0.three
  go_wp2_with fail
  refine (rGetA hn _ W2.out.at_).mono ?_; rintro e w3 ⟨rfl, h1, h2⟩; have W3 := hidp (W2.out.call h1 h2); clear h1 h2 W2; rw [HV.out]
  obtain ⟨x0, x1, x2⟩ := W3.out.h0.three
  go_wp2_with fail
  refine (Bit_c v i _ hv32 (by omega) (by omega) HBT.out _).mono ?_; rintro e w9 ⟨rfl, rfl⟩
  go_wp2_with fail
  refine (r16Full_c v k k0 k8 hv32 _).mono ?_; rintro e w9 ⟨rfl, rfl⟩; rw [HBB.out]
  clear hfd HBT
  cases bb with
  | false =>
    go_wp2_with fail
    refine wp_region_held_drew (S := (fun w' => w'.cell? ⟨w.heap.size, 0, none⟩ = some (.int .i64 t) ∧ w'.cell? ⟨w.heap.size, 1, none⟩ = some (.int .i64 q) ∧ w'.cell? ⟨w.heap.size, 2, none⟩ = some (.int .i64 s))) (by kernel_rfl) ?_ (fun hHeld => ?_)
    · (try dsimp only)
      exact ⟨W3.out.drew.h0.three.1, W3.out.drew.h0.three.2.1, W3.out.drew.h0.three.2.2⟩
    refine tkz 0 ?_
    refine tkz 1 ?_
    refine tkz 2 ?_
    refine tkz 4 ?_
    refine wpAnyH_ready (rs := [3]) (by kernel_rfl) (by simp) ?_
    refine AllReadyH.cons (o := _) rfl (fun K hK => ?_) AllReadyH.nil
    go_simp
    refine (r7Rack_c k _).mono ?_; rintro e w9 ⟨rfl, rfl⟩; rw [HRK.out]
    refine hK.out _ _ ?_ (fun hHeld => ?_)
    · (try dsimp only)
      exact ⟨W3.out.drew.h0.three.1, W3.out.drew.h0.three.2.1, W3.out.drew.h0.three.2.2⟩
    clear hK K
    (try simp only [Act.put, gA, gB, gC, sA, sB, sC])
    refine wpAnyH_ready (rs := [5]) (by kernel_rfl) (by simp) ?_
    refine AllReadyH.cons (o := _) rfl (fun K hK => ?_) AllReadyH.nil
    go_simp
    refine (rkPull_c hn hq2 (p : Int) W3.out.drew.at_).mono ?_; rintro e w4 ⟨rfl, h1, h2⟩; have W4 := hidp (W3.out.drew.call h1 h2); clear h1 h2 W3
    refine hK.out _ _ ?_ (fun hHeld => ?_)
    · (try dsimp only)
      exact ⟨W4.out.h0.three.1, W4.out.h0.three.2.1, W4.out.h0.three.2.2⟩
    clear hK K
    (try simp only [Act.put, gA, gB, gC, sA, sB, sC])
    refine wpAnyH_done (by kernel_rfl) ?_ _
    obtain ⟨x0, x1, x2⟩ := W4.out.h0.three
    go_wp2_with fail
    refine (r7Taken_c t q s (p : Int) _).mono ?_; rintro e w5 ⟨rfl, hb⟩; have W5 := hidp (W4.out.keep hb); clear hb W4
    obtain ⟨x0, x1, x2⟩ := W5.out.h0.three
    go_wp2_with fail
    refine (rPutA hn _ 0 (by omega) W5.out.at_).mono ?_; rintro e w6 ⟨rfl, h1, h2⟩; have W6 := hidp (W5.out.call h1 h2); clear h1 h2 W5
    obtain ⟨x0, x1, x2⟩ := W6.out.h0.three
    go_wp2_with fail
    refine (r15Release_c hn hq p 1 hp (by omega) W6.out.at_).mono ?_; rintro e w7 ⟨rfl, h1, h2⟩; have W7 := hidp (W6.out.call h1 h2); clear h1 h2 W6
    obtain ⟨x0, x1, x2⟩ := W7.out.h0.three
    go_wp2
    refine bodyPost_ret (results_none rfl _ _ _) rfl ?_
    exact ⟨rfl, W7.out.fin⟩
  | true =>
    go_wp2_with fail
    refine (r7Taken_c t q s (p : Int) _).mono ?_; rintro e w4 ⟨rfl, hb⟩; have W4 := hidp (W3.out.keep hb); clear hb W3
    obtain ⟨x0, x1, x2⟩ := W4.out.h0.three
    go_wp2_with fail
    refine (rPutA hn _ 0 (by omega) W4.out.at_).mono ?_; rintro e w5 ⟨rfl, h1, h2⟩; have W5 := hidp (W4.out.call h1 h2); clear h1 h2 W4
    obtain ⟨x0, x1, x2⟩ := W5.out.h0.three
    go_wp2_with fail
    refine (r15Release_c hn hq p 1 hp (by omega) W5.out.at_).mono ?_; rintro e w6 ⟨rfl, h1, h2⟩; have W6 := hidp (W5.out.call h1 h2); clear h1 h2 W5
    obtain ⟨x0, x1, x2⟩ := W6.out.h0.three
    go_wp2
    refine bodyPost_ret (results_none rfl _ _ _) rfl ?_
    exact ⟨rfl, W6.out.fin⟩

theorem r16Give_c (hn : n < 2 ^ 40) (hq : q ≤ 1024) (p i : Nat) (hp : p ≤ 1024) (hi : i < 32) (k0 : 0 ≤ (infoOf n K t q s p st).2.2.1) (k8 : (infoOf n K t q s p st).2.2.1 ≤ 8) (h : (rOb base b n all K).At w0 A G st w) :
    Calls Tryz.prog 21 #[.pointer (some ⟨b, 0, none⟩), .agg #[.int .i64 t, .int .i64 q, .int .i64 s], .int .i64 (p : Int), .int .i64 (i : Int)] w fun e w' => e = .returned (.tuple #[]) ∧ (rOb base b n all K).At w0 A G (giveS n K t q s p i st) w' ∧ Stay G w w' := by
  unfold giveS giveAt
  obtain ⟨⟨kk, l, c, ok⟩, hI⟩ : ∃ x, infoOf n K t q s p st = x := ⟨_, rfl⟩
  rw [hI] at k0 k8 ⊢
  dsimp only at k0 k8 ⊢
  by_cases h0 : offB (getV n K (getS n K st (pageI t q s (p : Int) 0)) (pageI t q s p 5)) i = 0
  · rw [if_pos h0]
    cases hb : (getV n K (getS n K st (pageI t q s (p : Int) 0)) (pageI t q s p 5)).testBit i
    · exact r16Give_false_none hn hq p i hp hi kk l ok hI k0 k8 _ rfl _ rfl _ rfl hb h0 h
    · exact r16Give_true_none hn hq p i hp hi kk l ok hI k0 k8 _ rfl _ rfl _ rfl hb h0 h
  · rw [if_neg h0]
    cases hb : (getV n K (getS n K st (pageI t q s (p : Int) 0)) (pageI t q s p 5)).testBit i
    · exact r16Give_false_some hn hq p i hp hi kk l ok hI k0 k8 _ rfl _ rfl _ rfl hb h0 h
    · exact r16Give_true_some hn hq p i hp hi kk l ok hI k0 k8 _ rfl _ rfl _ rfl hb h0 h
end
end
section
theorem info_fresh {H : AuH} {n c : Nat} {K : Nat → Option Nat} (HV : HeapV H n c) (hK : ∀ i, i < n → K i = some (H.V i)) {p : Nat} (hp : p < H.p) : infoOf n K H.t H.p H.s p freshS = infoG (H.cel p 0) := by
  have hV : VW n K freshS := ⟨fun i hi => ⟨_, hK i hi⟩, rfl⟩
  have hin : 30 + 4 * H.t + 6 * p < n := by have := HV.len; omega
  unfold infoOf
  rw [HV.fit.inf hp]
  unfold inH
  rw [hV.at_ hin]
  show infoG ((K (30 + 4 * H.t + 6 * p)).getD 0) = _
  rw [hK _ hin]
  rfl

theorem SlabGives_few (t q s x0 x1 : Int) (A : Option Addr) (n c m : Nat) (hq : 64 < q) (W : World) (hT : SlotsLaid W)  : Calls Tryz.prog 4 #[.agg #[.int .i64 t, .int .i64 q, .int .i64 s], .slice A n c, .agg #[.int .i64 x0, .int .i64 x1]] W (Keeps W) := by
  have t2 : decide (q ≤ (64 : Int)) = false := decide_eq_false (by omega)
  have HC := hidp ((Held.new W 23 #[.int .i64 t, .int .i64 q, .int .i64 s]).alloc (.cells #[.int .i64 x0, .int .i64 x1] 25))
  have HX := hidp (Held.new2 W (.cells #[.int .i64 t, .int .i64 q, .int .i64 s] 23) 25 #[.int .i64 x0, .int .i64 x1])
  have HB := hidp (Bnew (Bnew (B0 W) (.cells #[.int .i64 t, .int .i64 q, .int .i64 s] 23)) (.cells #[.int .i64 x0, .int .i64 x1] 25))
  have HTL := hidp hT
  clear hT
  obtain ⟨x0', x1', x2'⟩ := HC.out.three
  obtain ⟨y0', y1'⟩ := HX.out.two
  go_enter Tryz.func4, Tryz.ntmps4
  go_wp2_with fail
  refine (few14_c t q s _).mono ?_
  rintro e w1 ⟨rfl, hb⟩
  rw [t2]
  replace HC := hidp (HC.out.keep hb)
  replace HX := hidp (HX.out.keep hb)
  replace HB := hidp (Bgo HB.out hb)
  clear hb
  clear x0' x1' x2' y0' y1'
  obtain ⟨x0', x1', x2'⟩ := HC.out.three
  obtain ⟨y0', y1'⟩ := HX.out.two

  
  go_wp2_with fail
  refine (live16_c _ (HTL.out.below HB.out)).mono ?_
  rintro e w19 ⟨rfl, hb⟩
  have HBL := hidp (Bgo HB.out hb)
  clear hb
  go_wp2
  go_ret
  exact ⟨rfl, HBL.out⟩

theorem SlabGives_no (t q s x0 x1 : Int) (A : Option Addr) (n c m : Nat) (hq : q ≤ 64) (W : World) (hT : SlotsLaid W) (hX : Hid (XCheckIs W t q s A n c m false)) : Calls Tryz.prog 4 #[.agg #[.int .i64 t, .int .i64 q, .int .i64 s], .slice A n c, .agg #[.int .i64 x0, .int .i64 x1]] W (Keeps W) := by
  have t2 : decide (q ≤ (64 : Int)) = true := decide_eq_true (by omega)
  have HC := hidp ((Held.new W 23 #[.int .i64 t, .int .i64 q, .int .i64 s]).alloc (.cells #[.int .i64 x0, .int .i64 x1] 25))
  have HX := hidp (Held.new2 W (.cells #[.int .i64 t, .int .i64 q, .int .i64 s] 23) 25 #[.int .i64 x0, .int .i64 x1])
  have HB := hidp (Bnew (Bnew (B0 W) (.cells #[.int .i64 t, .int .i64 q, .int .i64 s] 23)) (.cells #[.int .i64 x0, .int .i64 x1] 25))
  have HTL := hidp hT
  clear hT
  obtain ⟨x0', x1', x2'⟩ := HC.out.three
  obtain ⟨y0', y1'⟩ := HX.out.two
  go_enter Tryz.func4, Tryz.ntmps4
  go_wp2_with fail
  refine (few14_c t q s _).mono ?_
  rintro e w1 ⟨rfl, hb⟩
  rw [t2]
  replace HC := hidp (HC.out.keep hb)
  replace HX := hidp (HX.out.keep hb)
  replace HB := hidp (Bgo HB.out hb)
  clear hb
  clear x0' x1' x2' y0' y1'
  obtain ⟨x0', x1', x2'⟩ := HC.out.three
  obtain ⟨y0', y1'⟩ := HX.out.two
  go_wp2_with fail
  refine (xSound_c t q s A n c m false _ (hX.out.grown HB.out)).mono ?_
  rintro e w2 ⟨rfl, hb⟩
  replace HC := hidp (HC.out.keep hb)
  replace HX := hidp (HX.out.keep hb)
  replace HB := hidp (Bgo HB.out hb)
  clear hb
  clear x0' x1' x2' y0' y1'
  obtain ⟨x0', x1', x2'⟩ := HC.out.three
  obtain ⟨y0', y1'⟩ := HX.out.two
  
  go_wp2_with fail
  refine (live16_c _ (HTL.out.below HB.out)).mono ?_
  rintro e w19 ⟨rfl, hb⟩
  have HBL := hidp (Bgo HB.out hb)
  clear hb
  go_wp2
  go_ret
  exact ⟨rfl, HBL.out⟩

theorem SlabGives_off (t q s x0 x1 : Int) (A : Option Addr) (n c m : Nat) (hq : q ≤ 64) (hx0 : x0 < 0 ∨ q ≤ x0 ∨ x1 < 0 ∨ 31 < x1) (W : World) (hT : SlotsLaid W) (hX : Hid (XCheckIs W t q s A n c m true)) : Calls Tryz.prog 4 #[.agg #[.int .i64 t, .int .i64 q, .int .i64 s], .slice A n c, .agg #[.int .i64 x0, .int .i64 x1]] W (Keeps W) := by
  have t2 : decide (q ≤ (64 : Int)) = true := decide_eq_true (by omega)
  have HC := hidp ((Held.new W 23 #[.int .i64 t, .int .i64 q, .int .i64 s]).alloc (.cells #[.int .i64 x0, .int .i64 x1] 25))
  have HX := hidp (Held.new2 W (.cells #[.int .i64 t, .int .i64 q, .int .i64 s] 23) 25 #[.int .i64 x0, .int .i64 x1])
  have HB := hidp (Bnew (Bnew (B0 W) (.cells #[.int .i64 t, .int .i64 q, .int .i64 s] 23)) (.cells #[.int .i64 x0, .int .i64 x1] 25))
  have HTL := hidp hT
  clear hT
  obtain ⟨x0', x1', x2'⟩ := HC.out.three
  obtain ⟨y0', y1'⟩ := HX.out.two
  go_enter Tryz.func4, Tryz.ntmps4
  go_wp2_with fail
  refine (few14_c t q s _).mono ?_
  rintro e w1 ⟨rfl, hb⟩
  rw [t2]
  replace HC := hidp (HC.out.keep hb)
  replace HX := hidp (HX.out.keep hb)
  replace HB := hidp (Bgo HB.out hb)
  clear hb
  clear x0' x1' x2' y0' y1'
  obtain ⟨x0', x1', x2'⟩ := HC.out.three
  obtain ⟨y0', y1'⟩ := HX.out.two
  go_wp2_with fail
  refine (xSound_c t q s A n c m true _ (hX.out.grown HB.out)).mono ?_
  rintro e w2 ⟨rfl, hb⟩
  replace HC := hidp (HC.out.keep hb)
  replace HX := hidp (HX.out.keep hb)
  replace HB := hidp (Bgo HB.out hb)
  clear hb
  clear x0' x1' x2' y0' y1'
  obtain ⟨x0', x1', x2'⟩ := HC.out.three
  obtain ⟨y0', y1'⟩ := HX.out.two
  go_wp2_with fail
  refine (idle16_no t q s x0 x1 A n c hx0 _).mono ?_
  rintro e w3 ⟨rfl, hb⟩
  replace HC := hidp (HC.out.keep hb)
  replace HX := hidp (HX.out.keep hb)
  replace HB := hidp (Bgo HB.out hb)
  clear hb
  clear x0' x1' x2' y0' y1'
  obtain ⟨x0', x1', x2'⟩ := HC.out.three
  obtain ⟨y0', y1'⟩ := HX.out.two
  go_wp2_with fail
  refine (live16_c _ (HTL.out.below HB.out)).mono ?_
  rintro e w19 ⟨rfl, hb⟩
  have HBL := hidp (Bgo HB.out hb)
  clear hb
  go_wp2
  go_ret
  exact ⟨rfl, HBL.out⟩

theorem SlabGives_kind {H : AuH} (ad : Addr) (n c m p i : Nat) (HV : HeapV H n c) (hq : H.p ≤ 64) (hp : p < H.p) (hi : i < 32) (hk : H.idleAt p i = false) (W : World) (hT : SlotsLaid W) (hv : Hid (IsVals W ad n H.V)) (hX : Hid (XCheckIs W H.t H.p H.s (some ad) n c m true)) : Calls Tryz.prog 4 #[.agg #[.int .i64 (H.t : Int), .int .i64 (H.p : Int), .int .i64 (H.s : Int)], .slice (some ad) n c, .agg #[.int .i64 (p : Int), .int .i64 (i : Int)]] W (Keeps W) := by
  have t2 : decide ((H.p : Int) ≤ (64 : Int)) = true := decide_eq_true (by omega)
  have HK := hidp hk
  clear hk
  have HC := hidp ((Held.new W 23 #[.int .i64 (H.t : Int), .int .i64 (H.p : Int), .int .i64 (H.s : Int)]).alloc (.cells #[.int .i64 (p : Int), .int .i64 (i : Int)] 25))
  have HX := hidp (Held.new2 W (.cells #[.int .i64 (H.t : Int), .int .i64 (H.p : Int), .int .i64 (H.s : Int)] 23) 25 #[.int .i64 (p : Int), .int .i64 (i : Int)])
  have HB := hidp (Bnew (Bnew (B0 W) (.cells #[.int .i64 (H.t : Int), .int .i64 (H.p : Int), .int .i64 (H.s : Int)] 23)) (.cells #[.int .i64 (p : Int), .int .i64 (i : Int)] 25))
  have HTL := hidp hT
  clear hT
  obtain ⟨x0', x1', x2'⟩ := HC.out.three
  obtain ⟨y0', y1'⟩ := HX.out.two
  go_enter Tryz.func4, Tryz.ntmps4
  go_wp2_with fail
  refine (few14_c H.t H.p H.s _).mono ?_
  rintro e w1 ⟨rfl, hb⟩
  rw [t2]
  replace HC := hidp (HC.out.keep hb)
  replace HX := hidp (HX.out.keep hb)
  replace HB := hidp (Bgo HB.out hb)
  clear hb
  clear x0' x1' x2' y0' y1'
  obtain ⟨x0', x1', x2'⟩ := HC.out.three
  obtain ⟨y0', y1'⟩ := HX.out.two
  go_wp2_with fail
  refine (xSound_c H.t H.p H.s (some ad) n c m true _ (hX.out.grown HB.out)).mono ?_
  rintro e w2 ⟨rfl, hb⟩
  replace HC := hidp (HC.out.keep hb)
  replace HX := hidp (HX.out.keep hb)
  replace HB := hidp (Bgo HB.out hb)
  clear hb
  clear x0' x1' x2' y0' y1'
  obtain ⟨x0', x1', x2'⟩ := HC.out.three
  obtain ⟨y0', y1'⟩ := HX.out.two
  go_wp2_with fail
  refine (idle16_c HV ad hp hi _ (hv.out.below HB.out)).mono ?_
  rintro e w3 ⟨rfl, hb⟩
  rw [HK.out]
  replace HC := hidp (HC.out.keep hb)
  replace HX := hidp (HX.out.keep hb)
  replace HB := hidp (Bgo HB.out hb)
  clear hb
  clear x0' x1' x2' y0' y1'
  obtain ⟨x0', x1', x2'⟩ := HC.out.three
  obtain ⟨y0', y1'⟩ := HX.out.two
  go_wp2_with fail
  refine (live16_c _ (HTL.out.below HB.out)).mono ?_
  rintro e w19 ⟨rfl, hb⟩
  have HBL := hidp (Bgo HB.out hb)
  clear hb
  go_wp2
  go_ret
  exact ⟨rfl, HBL.out⟩

set_option maxHeartbeats 12800000 in
theorem SlabGives_main {H : AuH} (ad : Addr) (n c m : Nat) (HV : HeapV H n c) (vals : List Nat) (HNN : Hid (vals.length = n)) (H32 : Hid (∀ x ∈ vals, x < 2 ^ 32)) (hq : H.p ≤ 64) (hnc : n ≤ c) (p i : Nat) (hp : p < H.p) (hi : i < 32) (hk : H.idleAt p i = true) (hVK : ∀ i, H.V i = vals.getD i 0)
    (W : World) (hT : SlotsLaid W) (HR : Hid (Reads W W.heap.size 1 (some ad) n (valVs vals))) (hv : Hid (IsVals W ad n H.V)) (hX : Hid (XCheckIs W H.t H.p H.s (some ad) n c m true)) :
    Calls Tryz.prog 4 #[.agg #[.int .i64 (H.t : Int), .int .i64 (H.p : Int), .int .i64 (H.s : Int)], .slice (some ad) n c, .agg #[.int .i64 (p : Int), .int .i64 (i : Int)]] W (Keeps W) := by
  have t2 : decide ((H.p : Int) ≤ (64 : Int)) = true := decide_eq_true (by omega)
  have hn : n ≤ 6238 := by have := HV.nums; omega
  have hcm : c ≤ maxLen := HV.max
  have hcm2 : c ≤ 9223372036854775807 := hcm
  have hn40 : n < 2 ^ 40 := by omega
  have hq10 : (H.p : Int) ≤ 1024 := by omega
  have HK := hidp hk
  have hK : ∀ i, i < n → wholeV15 vals i = some (H.V i) := fun i hi => by
    unfold wholeV15
    rw [hVK i, List.getElem?_eq_getElem (by rw [HNN.out]; exact hi)]
    simp [List.getD, List.getElem?_eq_getElem (show i < vals.length by rw [HNN.out]; exact hi)]
  have hcl : (infoOf n (wholeV15 vals) H.t H.p H.s p freshS).2.2.1 = H.Cl p := by rw [info_fresh HV hK hp]; rfl
  have HCB : Hid (0 ≤ (infoOf n (wholeV15 vals) H.t H.p H.s p freshS).2.2.1 ∧ (infoOf n (wholeV15 vals) H.t H.p H.s p freshS).2.2.1 ≤ 8) := hidp (by
    rw [hcl]
    unfold AuH.idleAt at hk
    simp only [Bool.and_eq_true, decide_eq_true_eq] at hk
    exact slab_class hk.1.1)
  obtain ⟨sx, hsx⟩ : ∃ sx, giveS n (wholeV15 vals) H.t H.p H.s p i freshS = sx := ⟨_, rfl⟩
  have HSX := hidp hsx
  clear hsx hcl hK hVK hk
  have HC := hidp ((Held.new W 23 #[.int .i64 (H.t : Int), .int .i64 (H.p : Int), .int .i64 (H.s : Int)]).alloc (.cells #[.int .i64 (p : Int), .int .i64 (i : Int)] 25))
  have HX := hidp (Held.new2 W (.cells #[.int .i64 (H.t : Int), .int .i64 (H.p : Int), .int .i64 (H.s : Int)] 23) 25 #[.int .i64 (p : Int), .int .i64 (i : Int)])
  have HB := hidp (Bnew (Bnew (B0 W) (.cells #[.int .i64 (H.t : Int), .int .i64 (H.p : Int), .int .i64 (H.s : Int)] 23)) (.cells #[.int .i64 (p : Int), .int .i64 (i : Int)] 25))
  have HTL := hidp hT
  clear hT
  obtain ⟨x0', x1', x2'⟩ := HC.out.three
  obtain ⟨y0', y1'⟩ := HX.out.two
  go_enter Tryz.func4, Tryz.ntmps4
  go_wp2_with fail
  refine (few14_c H.t H.p H.s _).mono ?_
  rintro e w1 ⟨rfl, hb⟩
  rw [t2]
  replace HC := hidp (HC.out.keep hb)
  replace HX := hidp (HX.out.keep hb)
  replace HB := hidp (Bgo HB.out hb)
  clear hb
  clear x0' x1' x2' y0' y1'
  obtain ⟨x0', x1', x2'⟩ := HC.out.three
  obtain ⟨y0', y1'⟩ := HX.out.two
  go_wp2_with fail
  refine (xSound_c H.t H.p H.s (some ad) n c m true _ (hX.out.grown HB.out)).mono ?_
  rintro e w2 ⟨rfl, hb⟩
  replace HC := hidp (HC.out.keep hb)
  replace HX := hidp (HX.out.keep hb)
  replace HB := hidp (Bgo HB.out hb)
  clear hb
  clear x0' x1' x2' y0' y1'
  obtain ⟨x0', x1', x2'⟩ := HC.out.three
  obtain ⟨y0', y1'⟩ := HX.out.two
  go_wp2_with fail
  refine (idle16_c HV ad hp hi _ (hv.out.below HB.out)).mono ?_
  rintro e w2 ⟨rfl, hb⟩
  rw [HK.out]
  replace HC := hidp (HC.out.keep hb)
  replace HX := hidp (HX.out.keep hb)
  replace HB := hidp (Bgo HB.out hb)
  clear hb
  clear x0' x1' x2' y0' y1'
  obtain ⟨x0', x1', x2'⟩ := HC.out.three
  obtain ⟨y0', y1'⟩ := HX.out.two
  have HL0 : Hid (W.heap.size < w2.heap.size) := hidp HC.out.lt
  have HL1 : Hid (W.heap.size + 1 < w2.heap.size) := hidp HX.out.lt
  have HWS : Hid (W.heap.size ≤ w2.heap.size) := hidp HB.out.size
  have HR1 : Hid (Reads w2 w2.heap.size 1 (some ad) n (valVs vals)) := hidp ((HR.out.below HB.out).more HB.out.size)
  go_wp2_with fail
  refine (Whole_c (some ad) c vals n HNN.out (by omega) H32.out _ (by
    intro h0
    obtain ⟨ad', e, _, hc⟩ := HR1.out.2 h0
    exact ⟨ad', e, hc⟩)).mono ?_
  rintro e w3 ⟨b1, o1, rfl, hI, hB⟩
  have HV2 : Hid (IsView w3 w2.heap.size b1 n true o1 (wholeV15 vals) freshS) := hidp hI
  replace HB := hidp (Bgo HB.out hB)
  have HR2 : Hid (Reads w3 w3.heap.size 1 (some ad) n (valVs vals)) := hidp ((HR1.out.below hB).more hB.size)
  replace HC := hidp (HC.out.keep hB)
  replace HX := hidp (HX.out.keep hB)
  have HLT : Hid ((W.heap.size) < w2.heap.size ∧ ((W.heap.size + 1)) < w2.heap.size) := hidp ⟨HL0.out, HL1.out⟩
  have HWZ : Hid (W.heap.size ≤ w2.heap.size) := hidp HWS.out
  clear hI hB HR1
  clear x0' x1' x2' y0' y1'
  obtain ⟨x0', x1', x2'⟩ := HC.out.three
  obtain ⟨y0', y1'⟩ := HX.out.two
  go_wp2_with fail
  refine (RWhole_c (some ad) c vals n HNN.out (by omega) hnc hcm H32.out _ HR2.out).mono ?_
  rintro e w4 ⟨b2, v2, rfl, hI, hB⟩
  have HV3 := hidp (HV2.out.keep hB)
  have HA3 : Hid (IsRefV w4 w3.heap.size b2 n true v2 (wholeV15 vals) freshS) := hidp hI
  replace HB := hidp (Bgo HB.out hB)
  replace HC := hidp (HC.out.keep hB)
  replace HX := hidp (HX.out.keep hB)
  have HL2 : Hid (∀ i, o1.A b1 i → i < w3.heap.size) := hidp HV2.out.lt
  have HL9 : Hid (w2.heap.size ≤ w3.heap.size) := hidp (by have h1 := HV2.out.head.lt; have h2 := HV2.out.ge b1 (.inl (.inl (.inl rfl))); omega)
  clear hI hB HV2 HR2
  generalize hz1 : w2.heap.size = z1 at *
  generalize hz2 : w3.heap.size = z2 at *
  have HD : Hid (Duo W (vOb z1 b1 n true (wholeV15 vals)) (rOb z2 b2 n true (wholeV15 vals)) (o1.A b1) (OwnF b2 6 v2) (fun g => g = W.heap.size ∨ g = (W.heap.size + 1)) freshS freshS w4) := hidp ⟨⟨o1, HV3.out, rfl⟩, ⟨v2, HA3.out, rfl⟩, fun i hi hj => by have := HL2.out i hi; have := HA3.out.parts.ge i hj; omega, fun g hg => by
      have hl := HLT.out
      have hl1 := HL9.out
      have hlt := HV3.out.head.lt
      rcases hg with hg | hg
      · subst hg; exact ⟨HC.out.lt, fun x => by have := HV3.out.ge _ x; omega, fun x => by have := HA3.out.parts.ge _ x; omega⟩
      · subst hg; exact ⟨HX.out.lt, fun x => by have := HV3.out.ge _ x; omega, fun x => by have := HA3.out.parts.ge _ x; omega⟩, fun i hi => by
      have := HWZ.out
      rcases hi with hi | hi
      · have := HV3.out.ge _ hi; omega
      · have := HA3.out.parts.ge _ hi; have := HL9.out; omega, HB.out⟩
  clear HV3 HA3 HL2 HL9 HLT HWZ hz1 hz2
  clear x0' x1' x2' y0' y1'
  obtain ⟨x0', x1', x2'⟩ := HC.out.three
  obtain ⟨y0', y1'⟩ := HX.out.two
  go_wp2_with fail
  refine (slGive_c hn40 hq10 p i (by omega) hi (HD.out.slots HTL.out).1 (HD.out.slots HTL.out).2.1 HCB.out.1 HCB.out.2 HD.out.at1).mono ?_
  rintro e w5 ⟨rfl, h1, _⟩
  obtain ⟨A4, h2, h3⟩ := HD.out.left1 h1.left
  rw [HSX.out] at h2
  replace HC := hidp (h3.held (.inl rfl) HC.out)
  replace HX := hidp (h3.held (.inr rfl) HX.out)
  replace HD := hidp h2
  clear h1 h2 h3
  clear x0' x1' x2' y0' y1'
  obtain ⟨x0', x1', x2'⟩ := HC.out.three
  obtain ⟨y0', y1'⟩ := HX.out.two
  go_wp2_with fail
  refine (r16Give_c hn40 hq10 p i (by omega) hi HCB.out.1 HCB.out.2 HD.out.at2).mono ?_
  rintro e w6 ⟨rfl, h1, _⟩
  obtain ⟨A4, h2, h3⟩ := HD.out.left2 h1.left
  rw [HSX.out] at h2
  replace HC := hidp (h3.held (.inl rfl) HC.out)
  replace HX := hidp (h3.held (.inr rfl) HX.out)
  replace HD := hidp h2
  clear h1 h2 h3
  clear x0' x1' x2' y0' y1'
  obtain ⟨x0', x1', x2'⟩ := HC.out.three
  obtain ⟨y0', y1'⟩ := HX.out.two
  clear HSX HCB
  obtain ⟨o, hI, _⟩ := HD.out.i1
  obtain ⟨v, hR, _⟩ := HD.out.i2
  have HV := hidp hI
  have HAA := hidp hR
  have HB := hidp HD.out.bel
  have HL : Hid (sx.rd.length < 2 ^ 40 ∧ sx.wr.length < 2 ^ 40) := hidp (by have := hI.ok.few; omega)
  clear hI hR HD
  go_wp2_with fail
  refine (vReads_c HL.out.1 _ HV.out).mono ?_
  rintro e w90 ⟨r6, rfl, ho, hb⟩
  have HV := hidp (HV.out.keep hb)
  have HAA := hidp (HAA.out.keep hb)
  have HB := hidp (Bgo HB.out hb)
  have HR6 := hidp (rowV_nat6 ho)
  clear hb ho
  go_wp2_with fail
  refine (vWrites_c HL.out.2 _ HV.out).mono ?_
  rintro e w91 ⟨r7, rfl, ho, hb⟩
  have HV := hidp (HV.out.keep hb)
  have HAA := hidp (HAA.out.keep hb)
  have HB := hidp (Bgo HB.out hb)
  have HP7 := hidp (RowP.of_own ho)
  have HR7 := hidp (HR6.out.below hb)
  clear hb ho HR6
  go_wp2_with fail
  refine (vMissing_c _ HV.out).mono ?_
  rintro e w92 ⟨rfl, hw⟩
  subst hw
  go_wp2_with fail
  refine (Same_c HL.out.1 HL.out.2 r6 r7 _ HAA.out HR7.out HP7.out).mono ?_
  rintro e w93 ⟨rfl, hb⟩
  have HB := hidp (Bgo HB.out hb)
  clear hb HV HAA HR7 HP7
  go_wp2_with fail
  refine (live16_c _ (HTL.out.below HB.out)).mono ?_
  rintro e w19 ⟨rfl, hb⟩
  have HBL := hidp (Bgo HB.out hb)
  clear hb
  go_wp2
  go_ret
  exact ⟨rfl, HBL.out⟩
theorem SlabGives_calls (t q s x0 x1 : Int) (hx0 : -9223372036854775808 ≤ x0 ∧ x0 ≤ 9223372036854775807) (hx1 : -9223372036854775808 ≤ x1 ∧ x1 ≤ 9223372036854775807) (A : Option Addr) (c : Nat) (vals : List Nat) (hnc : vals.length ≤ c) (hcm : c ≤ maxLen) (h32 : ∀ x ∈ vals, x < 2 ^ 32) (W : World) (hT : SlotsLaid W) (HR : Hid (Reads W W.heap.size 1 A vals.length (valVs vals))) :
    Calls Tryz.prog 4 #[.agg #[.int .i64 t, .int .i64 q, .int .i64 s], .slice A vals.length c, .agg #[.int .i64 x0, .int .i64 x1]] W (Keeps W) := by
  by_cases hq : q ≤ 64
  · rcases heap13_or W t q s A c vals hnc hcm h32 HR.out with ⟨m, hX⟩ | ⟨H, ad, m, rfl, rfl, rfl, rfl, hV, HV, hv, hto, hX⟩
    · exact SlabGives_no t q s x0 x1 A _ c m hq W hT (hidp hX)
    · by_cases h0 : x0 < 0 ∨ (H.p : Int) ≤ x0 ∨ x1 < 0 ∨ 31 < x1
      · exact SlabGives_off _ _ _ x0 x1 _ _ c m hq h0 W hT (hidp hX)
      · obtain ⟨p, rfl⟩ := Int.eq_ofNat_of_zero_le (show 0 ≤ x0 by omega)
        obtain ⟨i, rfl⟩ := Int.eq_ofNat_of_zero_le (show 0 ≤ x1 by omega)
        cases hk : H.idleAt p i
        · exact SlabGives_kind ad _ c m p i HV (by omega) (by omega) (by omega) hk W hT (hidp hv) (hidp hX)
        · exact SlabGives_main ad _ c m HV vals (hidp rfl) (hidp h32) (by omega) hnc p i (by omega) (by omega) hk hV W hT HR (hidp hv) (hidp hX)
  · exact SlabGives_few t q s x0 x1 A _ c 0 (by omega) W hT
end
end Go.Proofs.YtioolaaphbddbaaGreatDoor
