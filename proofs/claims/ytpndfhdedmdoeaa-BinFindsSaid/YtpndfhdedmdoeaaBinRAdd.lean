/-
  What the document's Add, and Drop, of free spans do. Written by bin/gen_add.py.
-/
import Derived.Test.YtpndfhdedmdoeaaBin
namespace Go.Proofs.Ytpndfhdedmdoeaa
open Go.ChangeShapes Go.WideShapes Go.ChangeAt Go.RowKit Go.Maps
set_option linter.unusedVariables false
set_option linter.unusedSimpArgs false
set_option maxRecDepth 100000

section
variable {base b n : Nat} {wh all : Bool} {K : Nat → Option Nat} {st : Vst} {w w0 : World} {A G : Nat → Prop} {t q s : Int}

theorem r14Add_off (p nn : Int) (hp : pgB q p = false) (h : (rOb base b n all K).At w0 A G st w) :
    Calls Try.prog 13 #[.pointer (some ⟨b, 0, none⟩), .agg #[.int .i64 t, .int .i64 q, .int .i64 s], .int .i64 p, .int .i64 nn] w fun e w' => e = .returned (.tuple #[]) ∧ (rOb base b n all K).At w0 A G (st) w' ∧ Stay G w w' := by
  have W0 := hidp ((WL.start h).new 23 #[.int .i64 t, .int .i64 q, .int .i64 s])
  obtain ⟨x0, x1, x2⟩ := W0.out.h0.three
  have hp := pgB_no hp
  clear h
  go_enter Try.func13, Try.ntmps13
  by_cases h0 : p < 0
  · have t0 : decide (p < (0 : Int)) = true := decide_eq_true h0
    go_wp2
    (try simp only [Exit.inBlock, Exit.then])
    refine bodyPost_ret (results_none rfl _ _ _) rfl ?_
    exact ⟨rfl, W0.out.fin⟩
  · have t0 : decide (p < (0 : Int)) = false := decide_eq_false h0
    have t1 : decide (q ≤ p) = true := decide_eq_true (by omega)
    go_wp2
    (try simp only [Exit.inBlock, Exit.then])
    refine bodyPost_ret (results_none rfl _ _ _) rfl ?_
    exact ⟨rfl, W0.out.fin⟩

theorem r14Add_low (k : Nat) (nn : Int) (hq : q ≤ 2147483648) (hk : pgB q (k : Int) = true) (h1 : nn < 1) (h : (rOb base b n all K).At w0 A G st w) :
    Calls Try.prog 13 #[.pointer (some ⟨b, 0, none⟩), .agg #[.int .i64 t, .int .i64 q, .int .i64 s], .int .i64 (k : Int), .int .i64 nn] w fun e w' => e = .returned (.tuple #[]) ∧ (rOb base b n all K).At w0 A G (st) w' ∧ Stay G w w' := by
  have W0 := hidp ((WL.start h).new 23 #[.int .i64 t, .int .i64 q, .int .i64 s])
  obtain ⟨x0, x1, x2⟩ := W0.out.h0.three
  have hk2 := (pgB_iff _ _).1 hk
  have hk31 : k < 2147483648 := by omega
  have sq : IntKind.i64.wrap (q - (k : Int)) = q - (k : Int) := i64_same (by omega) (by omega)
  have t8 : decide ((k : Int) < 0) = false := decide_eq_false (by omega)
  have t9 : decide (q ≤ (k : Int)) = false := decide_eq_false (by omega)
  clear hk
  have t0 : decide (nn < (1 : Int)) = true := decide_eq_true (by omega)
  clear h
  go_enter Try.func13, Try.ntmps13
  go_wp2
  (try simp only [Exit.inBlock, Exit.then])
  refine bodyPost_ret (results_none rfl _ _ _) rfl ?_
  exact ⟨rfl, W0.out.fin⟩

theorem r14Add_high (k : Nat) (nn : Int) (hq : q ≤ 2147483648) (hk : pgB q (k : Int) = true) (h1 : 1 ≤ nn) (h2 : q - (k : Int) < nn) (h : (rOb base b n all K).At w0 A G st w) :
    Calls Try.prog 13 #[.pointer (some ⟨b, 0, none⟩), .agg #[.int .i64 t, .int .i64 q, .int .i64 s], .int .i64 (k : Int), .int .i64 nn] w fun e w' => e = .returned (.tuple #[]) ∧ (rOb base b n all K).At w0 A G (st) w' ∧ Stay G w w' := by
  have W0 := hidp ((WL.start h).new 23 #[.int .i64 t, .int .i64 q, .int .i64 s])
  obtain ⟨x0, x1, x2⟩ := W0.out.h0.three
  have hk2 := (pgB_iff _ _).1 hk
  have hk31 : k < 2147483648 := by omega
  have sq : IntKind.i64.wrap (q - (k : Int)) = q - (k : Int) := i64_same (by omega) (by omega)
  have t8 : decide ((k : Int) < 0) = false := decide_eq_false (by omega)
  have t9 : decide (q ≤ (k : Int)) = false := decide_eq_false (by omega)
  clear hk
  have t0 : decide (nn < (1 : Int)) = false := decide_eq_false (by omega)
  have t1 : decide (q - (k : Int) < nn) = true := decide_eq_true (by omega)
  clear h
  go_enter Try.func13, Try.ntmps13
  go_wp2
  (try simp only [Exit.inBlock, Exit.then])
  refine bodyPost_ret (results_none rfl _ _ _) rfl ?_
  exact ⟨rfl, W0.out.fin⟩

set_option maxHeartbeats 3200000 in
theorem r14Add_yes (hn : n < 2 ^ 40) (k m : Nat) (hq : q ≤ 2147483648) (hk : pgB q (k : Int) = true) (h1 : 1 ≤ (m : Int)) (h2 : (m : Int) ≤ q - (k : Int)) (h : (rOb base b n all K).At w0 A G st w) :
    Calls Try.prog 13 #[.pointer (some ⟨b, 0, none⟩), .agg #[.int .i64 t, .int .i64 q, .int .i64 s], .int .i64 (k : Int), .int .i64 (m : Int)] w fun e w' => e = .returned (.tuple #[]) ∧ (rOb base b n all K).At w0 A G (addS n K t q s (k : Int) (m : Int) st) w' ∧ Stay G w w' := by
  have W0 := hidp ((WL.start h).new 23 #[.int .i64 t, .int .i64 q, .int .i64 s])
  obtain ⟨x0, x1, x2⟩ := W0.out.h0.three
  have t0 : decide ((m : Int) < (1 : Int)) = false := decide_eq_false (by omega)
  have t1 : decide (q - (k : Int) < (m : Int)) = false := decide_eq_false (by omega)
  have hm31 : m ≤ 2147483648 := by omega
  have sk : IntKind.u32.wrap ((k : Int) + 1) = ((k + 1 : Nat) : Int) := by have := wrap_nat32 (k + 1) (by omega); simpa using this
  have HIV := hidp (infoV_lt 1 (m : Int) 0)
  have HE : Hid (addS n K t q s (k : Int) (m : Int) st = pushI n K t q s (nthI 2 11 1 (ofI (m : Int))) (k : Int) (putS n (putS n st (pageI t q s (k : Int) 0) (infoV 1 (m : Int) 0)) (pageI t q s ((k : Int) + (m : Int) - 1) 1) (k + 1))) := hidp (addS_yes ⟨hk, h1, h2⟩)
  have hk2 := (pgB_iff _ _).1 hk
  have hk31 : k < 2147483648 := by omega
  have sq : IntKind.i64.wrap (q - (k : Int)) = q - (k : Int) := i64_same (by omega) (by omega)
  have t8 : decide ((k : Int) < 0) = false := decide_eq_false (by omega)
  have t9 : decide (q ≤ (k : Int)) = false := decide_eq_false (by omega)
  clear hk
  clear h
  go_enter Try.func13, Try.ntmps13
  go_wp2_with fail
  refine (r7Info_c t q s (k : Int) _).mono ?_; rintro e w1 ⟨rfl, hb⟩; have W1 := hidp (W0.out.keep hb); clear hb W0
  obtain ⟨x0, x1, x2⟩ := W1.out.h0.three
  go_wp2_with fail
  refine (r9Value_c 1 (m : Int) 0 _).mono ?_; rintro e w2 ⟨rfl, hb⟩; have W2 := hidp (W1.out.keep hb); clear hb W1
  obtain ⟨x0, x1, x2⟩ := W2.out.h0.three
  go_wp2_with fail
  refine (rPutA hn _ _ HIV.out W2.out.at_).mono ?_; rintro e w3 ⟨rfl, h1, h2⟩; have W3 := hidp (W2.out.call h1 h2); clear h1 h2 W2
  obtain ⟨x0, x1, x2⟩ := W3.out.h0.three
  go_wp2_with fail
  refine (r7Foot_c t q s ((k : Int) + (m : Int) - 1) _).mono ?_; rintro e w4 ⟨rfl, hb⟩; have W4 := hidp (W3.out.keep hb); clear hb W3
  obtain ⟨x0, x1, x2⟩ := W4.out.h0.three
  go_wp2_with fail
  refine (rPutA hn _ (k + 1) (by omega) W4.out.at_).mono ?_; rintro e w5 ⟨rfl, h1, h2⟩; have W5 := hidp (W4.out.call h1 h2); clear h1 h2 W4
  obtain ⟨x0, x1, x2⟩ := W5.out.h0.three
  go_wp2_with fail
  refine wp_region_held_drew (S := (fun w' => w'.cell? ⟨w.heap.size, 0, none⟩ = some (.int .i64 t) ∧ w'.cell? ⟨w.heap.size, 1, none⟩ = some (.int .i64 q) ∧ w'.cell? ⟨w.heap.size, 2, none⟩ = some (.int .i64 s))) (by kernel_rfl) ?_ (fun hHeld => ?_)
  · (try dsimp only)
    first | exact W5.out.drew.h0.three | exact W5.out.h0.three | exact W6.out.h0.three | exact hHeld
  refine tkO (i := 0) (v := ?_) rfl (by kernel_rfl) (fun _ _ _ h => h) (by rfl) ?_ (by assumption) ?_
  rotate_left
  · intro w hSw; (try dsimp only at hSw); go_simp; (try with_reducible rfl)
  (try simp only [Act.put, gA, gB, gC, sA, sB, sC])
  refine tkO (i := 1) (v := ?_) rfl (by kernel_rfl) (fun _ _ _ h => h) (by rfl) ?_ (by assumption) ?_
  rotate_left
  · intro w hSw; (try dsimp only at hSw); go_simp; (try with_reducible rfl)
  (try simp only [Act.put, gA, gB, gC, sA, sB, sC])
  refine tkO (i := 2) (v := ?_) rfl (by kernel_rfl) (fun _ _ _ h => h) (by rfl) ?_ (by assumption) ?_
  rotate_left
  · intro w hSw; (try dsimp only at hSw); go_simp; (try with_reducible rfl)
  (try simp only [Act.put, gA, gB, gC, sA, sB, sC])
  refine tkO (i := 5) (v := ?_) rfl (by kernel_rfl) (fun _ _ _ h => h) (by rfl) ?_ (by assumption) ?_
  rotate_left
  · intro w hSw; (try dsimp only at hSw); go_simp; (try with_reducible rfl)
  (try simp only [Act.put, gA, gB, gC, sA, sB, sC])
  refine wpAnyH_ready (rs := [3]) (by kernel_rfl) (by simp) ?_
  refine AllReadyH.cons (o := _) rfl (fun K hK => ?_) AllReadyH.nil
  go_simp
  refine (r14Of_c (m : Int) (by omega) (by omega) _).mono ?_; rintro e w9 ⟨rfl, rfl⟩
  refine hK.out _ _ ?_ (fun hHeld => ?_)
  · (try dsimp only)
    first | exact W5.out.drew.h0.three | exact W5.out.h0.three | exact W6.out.h0.three | exact hHeld
  clear hK K
  (try simp only [Act.put, gA, gB, gC, sA, sB, sC])
  refine wpAnyH_ready (rs := [4]) (by kernel_rfl) (by simp) ?_
  refine AllReadyH.cons (o := _) rfl (fun K hK => ?_) AllReadyH.nil
  go_simp
  refine (r7Bin_c (ofI (m : Int)) _).mono ?_; rintro e w9 ⟨rfl, rfl⟩
  refine hK.out _ _ ?_ (fun hHeld => ?_)
  · (try dsimp only)
    first | exact W5.out.drew.h0.three | exact W5.out.h0.three | exact W6.out.h0.three | exact hHeld
  clear hK K
  (try simp only [Act.put, gA, gB, gC, sA, sB, sC])
  refine wpAnyH_ready (rs := [6]) (by kernel_rfl) (by simp) ?_
  refine AllReadyH.cons (o := _) rfl (fun K hK => ?_) AllReadyH.nil
  go_simp
  refine (rkPush_c hn (by omega) (k : Int) W5.out.drew.at_).mono ?_; rintro e w6 ⟨rfl, h1, h2⟩; have W6 := hidp (W5.out.drew.call h1 h2); clear h1 h2 W5
  refine hK.out _ _ ?_ (fun hHeld => ?_)
  · (try dsimp only)
    first | exact W5.out.drew.h0.three | exact W5.out.h0.three | exact W6.out.h0.three | exact hHeld
  clear hK K
  (try simp only [Act.put, gA, gB, gC, sA, sB, sC])
  refine wpAnyH_done (by kernel_rfl) ?_ _
  obtain ⟨x0, x1, x2⟩ := W6.out.h0.three
  go_wp2
  go_end0
  exact ⟨rfl, by rw [HE.out]; exact W6.out.fin⟩

theorem r14Add_c (hn : n < 2 ^ 40) (hq : q ≤ 2147483648) (p nn : Int) (h : (rOb base b n all K).At w0 A G st w) :
    Calls Try.prog 13 #[.pointer (some ⟨b, 0, none⟩), .agg #[.int .i64 t, .int .i64 q, .int .i64 s], .int .i64 p, .int .i64 nn] w fun e w' => e = .returned (.tuple #[]) ∧ (rOb base b n all K).At w0 A G (addS n K t q s p nn st) w' ∧ Stay G w w' := by
  cases hp : pgB q p with
  | false => rw [addS_no (by rw [hp]; simp)]; exact r14Add_off p nn hp h
  | true =>
    have h1 := (pgB_iff _ _).1 hp
    obtain ⟨k, rfl⟩ := Int.eq_ofNat_of_zero_le h1.1
    by_cases h2 : nn < 1
    · rw [addS_no (by omega)]; exact r14Add_low k nn hq hp h2 h
    · by_cases h3 : q - (k : Int) < nn
      · rw [addS_no (by omega)]; exact r14Add_high k nn hq hp (by omega) h3 h
      · obtain ⟨m, rfl⟩ := Int.eq_ofNat_of_zero_le (show 0 ≤ nn by omega)
        exact r14Add_yes hn k m hq hp (by omega) (by omega) h

theorem r14Drop_off (p : Int) (hp : pgB q p = false) (h : (rOb base b n all K).At w0 A G st w) :
    Calls Try.prog 11 #[.pointer (some ⟨b, 0, none⟩), .agg #[.int .i64 t, .int .i64 q, .int .i64 s], .int .i64 p] w fun e w' => e = .returned (.int .i64 0) ∧ (rOb base b n all K).At w0 A G (st) w' ∧ Stay G w w' := by
  have W0 := hidp ((WL.start h).new 23 #[.int .i64 t, .int .i64 q, .int .i64 s])
  obtain ⟨x0, x1, x2⟩ := W0.out.h0.three
  have hp := pgB_no hp
  clear h
  go_enter Try.func11, Try.ntmps11
  by_cases h0 : p < 0
  · have t0 : decide (p < (0 : Int)) = true := decide_eq_true h0
    go_wp2
    go_ret
    exact ⟨rfl, W0.out.fin⟩
  · have t0 : decide (p < (0 : Int)) = false := decide_eq_false h0
    have t1 : decide (q ≤ p) = true := decide_eq_true (by omega)
    go_wp2
    go_ret
    exact ⟨rfl, W0.out.fin⟩

theorem r14Drop_none (hn : n < 2 ^ 40) (k : Nat) (hq : q ≤ 2147483648) (hk : pgB q (k : Int) = true) (kk l c : Int) (ok : Bool) (hI : infoOf n K t q s (k : Int) st = (kk, l, c, ok)) (h1 : kk ≠ 1) (h : (rOb base b n all K).At w0 A G st w) :
    Calls Try.prog 11 #[.pointer (some ⟨b, 0, none⟩), .agg #[.int .i64 t, .int .i64 q, .int .i64 s], .int .i64 (k : Int)] w fun e w' => e = .returned (.int .i64 0) ∧ (rOb base b n all K).At w0 A G (getS n K st (pageI t q s (k : Int) 0)) w' ∧ Stay G w w' := by
  have W0 := hidp ((WL.start h).new 23 #[.int .i64 t, .int .i64 q, .int .i64 s])
  obtain ⟨x0, x1, x2⟩ := W0.out.h0.three
  have hk2 := (pgB_iff _ _).1 hk
  have hk31 : k < 2147483648 := by omega
  have sq : IntKind.i64.wrap (q - (k : Int)) = q - (k : Int) := i64_same (by omega) (by omega)
  have t8 : decide ((k : Int) < 0) = false := decide_eq_false (by omega)
  have t9 : decide (q ≤ (k : Int)) = false := decide_eq_false (by omega)
  clear hk
  have t0 : (kk == 1) = false := by simpa using h1
  have t1 : (kk != 1) = true := by simpa using h1
  have HI := hidp hI
  clear hI
  clear h
  go_enter Try.func11, Try.ntmps11
  go_wp2_with fail
  refine (r14Info_c hn (k : Int) kk l c ok HI.out W0.out.at_).mono ?_; rintro e w1 ⟨rfl, h1, h2⟩; have W1 := hidp (W0.out.call h1 h2); clear h1 h2 W0
  replace W1 := hidp (W1.out.new 55 #[.int .i64 kk, .int .i64 l, .int .i64 c])
  obtain ⟨x0, x1, x2⟩ := W1.out.h1.three
  obtain ⟨y0, y1, y2⟩ := W1.out.h0.three
  go_wp2
  go_ret
  exact ⟨rfl, W1.out.fin⟩

set_option maxHeartbeats 3200000 in
theorem r14Drop_yes (hn : n < 2 ^ 40) (k : Nat) (hq : q ≤ 2147483648) (hk : pgB q (k : Int) = true) (kk l c : Int) (ok : Bool) (hI : infoOf n K t q s (k : Int) st = (kk, l, c, ok)) (h1 : kk = 1) (hl0 : 0 ≤ l) (hl1 : l ≤ 1024) (h : (rOb base b n all K).At w0 A G st w) :
    Calls Try.prog 11 #[.pointer (some ⟨b, 0, none⟩), .agg #[.int .i64 t, .int .i64 q, .int .i64 s], .int .i64 (k : Int)] w fun e w' => e = .returned (.int .i64 l) ∧ (rOb base b n all K).At w0 A G (pullI n K t q s (nthI 2 11 1 (ofI l)) (k : Int) (getS n K st (pageI t q s (k : Int) 0))) w' ∧ Stay G w w' := by
  have W0 := hidp ((WL.start h).new 23 #[.int .i64 t, .int .i64 q, .int .i64 s])
  obtain ⟨x0, x1, x2⟩ := W0.out.h0.three
  have hk2 := (pgB_iff _ _).1 hk
  have hk31 : k < 2147483648 := by omega
  have sq : IntKind.i64.wrap (q - (k : Int)) = q - (k : Int) := i64_same (by omega) (by omega)
  have t8 : decide ((k : Int) < 0) = false := decide_eq_false (by omega)
  have t9 : decide (q ≤ (k : Int)) = false := decide_eq_false (by omega)
  clear hk
  subst h1
  have HI := hidp hI
  clear hI
  clear h
  go_enter Try.func11, Try.ntmps11
  go_wp2_with fail
  refine (r14Info_c hn (k : Int) 1 l c ok HI.out W0.out.at_).mono ?_; rintro e w1 ⟨rfl, h1, h2⟩; have W1 := hidp (W0.out.call h1 h2); clear h1 h2 W0
  generalize hNI : w1.heap.size = NI at *
  replace W1 := hidp (W1.out.new 55 #[.int .i64 1, .int .i64 l, .int .i64 c])
  rw [hNI] at W1
  obtain ⟨x0, x1, x2⟩ := W1.out.h1.three
  obtain ⟨y0, y1, y2⟩ := W1.out.h0.three
  go_wp2_with fail
  refine wp_region_held_drew (S := (fun w' => w'.cell? ⟨w.heap.size, 0, none⟩ = some (.int .i64 t) ∧ w'.cell? ⟨w.heap.size, 1, none⟩ = some (.int .i64 q) ∧ w'.cell? ⟨w.heap.size, 2, none⟩ = some (.int .i64 s) ∧ w'.cell? ⟨NI, 1, none⟩ = some (.int .i64 l))) (by kernel_rfl) ?_ (fun hHeld => ?_)
  · (try dsimp only)
    first | exact ⟨W1.out.drew.h1.three.1, W1.out.drew.h1.three.2.1, W1.out.drew.h1.three.2.2, W1.out.drew.h0.three.2.1⟩ | exact ⟨W1.out.h1.three.1, W1.out.h1.three.2.1, W1.out.h1.three.2.2, W1.out.h0.three.2.1⟩ | exact ⟨W2.out.h1.three.1, W2.out.h1.three.2.1, W2.out.h1.three.2.2, W2.out.h0.three.2.1⟩ | exact hHeld
  refine tkO (i := 0) (v := ?_) rfl (by kernel_rfl) (fun _ _ _ h => h) (by rfl) ?_ (by assumption) ?_
  rotate_left
  · intro w hSw; (try dsimp only at hSw); go_simp; (try with_reducible rfl)
  (try simp only [Act.put, gA, gB, gC, sA, sB, sC])
  refine tkO (i := 1) (v := ?_) rfl (by kernel_rfl) (fun _ _ _ h => h) (by rfl) ?_ (by assumption) ?_
  rotate_left
  · intro w hSw; (try dsimp only at hSw); go_simp; (try with_reducible rfl)
  (try simp only [Act.put, gA, gB, gC, sA, sB, sC])
  refine tkO (i := 2) (v := ?_) rfl (by kernel_rfl) (fun _ _ _ h => h) (by rfl) ?_ (by assumption) ?_
  rotate_left
  · intro w hSw; (try dsimp only at hSw); go_simp; (try with_reducible rfl)
  (try simp only [Act.put, gA, gB, gC, sA, sB, sC])
  refine tkO (i := 3) (v := ?_) rfl (by kernel_rfl) (fun _ _ _ h => h) (by rfl) ?_ (by assumption) ?_
  rotate_left
  · intro w hSw; (try dsimp only at hSw); go_simp; (try with_reducible rfl)
  (try simp only [Act.put, gA, gB, gC, sA, sB, sC])
  refine tkO (i := 6) (v := ?_) rfl (by kernel_rfl) (fun _ _ _ h => h) (by rfl) ?_ (by assumption) ?_
  rotate_left
  · intro w hSw; (try dsimp only at hSw); go_simp; (try with_reducible rfl)
  (try simp only [Act.put, gA, gB, gC, sA, sB, sC])
  refine wpAnyH_ready (rs := [4]) (by kernel_rfl) (by simp) ?_
  refine AllReadyH.cons (o := _) rfl (fun K hK => ?_) AllReadyH.nil
  go_simp
  refine (r14Of_c l (by omega) (by omega) _).mono ?_; rintro e w9 ⟨rfl, rfl⟩
  refine hK.out _ _ ?_ (fun hHeld => ?_)
  · (try dsimp only)
    first | exact ⟨W1.out.drew.h1.three.1, W1.out.drew.h1.three.2.1, W1.out.drew.h1.three.2.2, W1.out.drew.h0.three.2.1⟩ | exact ⟨W1.out.h1.three.1, W1.out.h1.three.2.1, W1.out.h1.three.2.2, W1.out.h0.three.2.1⟩ | exact ⟨W2.out.h1.three.1, W2.out.h1.three.2.1, W2.out.h1.three.2.2, W2.out.h0.three.2.1⟩ | exact hHeld
  clear hK K
  (try simp only [Act.put, gA, gB, gC, sA, sB, sC])
  refine wpAnyH_ready (rs := [5]) (by kernel_rfl) (by simp) ?_
  refine AllReadyH.cons (o := _) rfl (fun K hK => ?_) AllReadyH.nil
  go_simp
  refine (r7Bin_c (ofI l) _).mono ?_; rintro e w9 ⟨rfl, rfl⟩
  refine hK.out _ _ ?_ (fun hHeld => ?_)
  · (try dsimp only)
    first | exact ⟨W1.out.drew.h1.three.1, W1.out.drew.h1.three.2.1, W1.out.drew.h1.three.2.2, W1.out.drew.h0.three.2.1⟩ | exact ⟨W1.out.h1.three.1, W1.out.h1.three.2.1, W1.out.h1.three.2.2, W1.out.h0.three.2.1⟩ | exact ⟨W2.out.h1.three.1, W2.out.h1.three.2.1, W2.out.h1.three.2.2, W2.out.h0.three.2.1⟩ | exact hHeld
  clear hK K
  (try simp only [Act.put, gA, gB, gC, sA, sB, sC])
  refine wpAnyH_ready (rs := [7]) (by kernel_rfl) (by simp) ?_
  refine AllReadyH.cons (o := _) rfl (fun K hK => ?_) AllReadyH.nil
  go_simp
  refine (rkPull_c hn (by omega) (k : Int) W1.out.drew.at_).mono ?_; rintro e w2 ⟨rfl, h1, h2⟩; have W2 := hidp (W1.out.drew.call h1 h2); clear h1 h2 W1
  refine hK.out _ _ ?_ (fun hHeld => ?_)
  · (try dsimp only)
    first | exact ⟨W1.out.drew.h1.three.1, W1.out.drew.h1.three.2.1, W1.out.drew.h1.three.2.2, W1.out.drew.h0.three.2.1⟩ | exact ⟨W1.out.h1.three.1, W1.out.h1.three.2.1, W1.out.h1.three.2.2, W1.out.h0.three.2.1⟩ | exact ⟨W2.out.h1.three.1, W2.out.h1.three.2.1, W2.out.h1.three.2.2, W2.out.h0.three.2.1⟩ | exact hHeld
  clear hK K
  (try simp only [Act.put, gA, gB, gC, sA, sB, sC])
  refine wpAnyH_done (by kernel_rfl) ?_ _
  obtain ⟨x0, x1, x2⟩ := W2.out.h1.three
  obtain ⟨y0, y1, y2⟩ := W2.out.h0.three
  go_wp2
  go_ret
  exact ⟨rfl, W2.out.fin⟩

theorem r14Drop_c (hn : n < 2 ^ 40) (hq : q ≤ 2147483648) (p : Int) (h : (rOb base b n all K).At w0 A G st w) :
    Calls Try.prog 11 #[.pointer (some ⟨b, 0, none⟩), .agg #[.int .i64 t, .int .i64 q, .int .i64 s], .int .i64 p] w fun e w' => e = .returned (.int .i64 (dropV n K t q s p st)) ∧ (rOb base b n all K).At w0 A G (dropS n K t q s p st) w' ∧ Stay G w w' := by
  unfold dropS dropV
  cases hp : pgB q p with
  | false => exact r14Drop_off p hp h
  | true =>
    have h1 := (pgB_iff _ _).1 hp
    obtain ⟨k, rfl⟩ := Int.eq_ofNat_of_zero_le h1.1
    obtain ⟨⟨kk, l, c, ok⟩, hI⟩ : ∃ x, infoOf n K t q s (k : Int) st = x := ⟨_, rfl⟩
    rw [hI]
    simp only [if_true]
    by_cases h2 : kk = 1
    · rw [if_pos h2, if_pos h2]
      have h3 : 0 ≤ l ∧ l ≤ 1024 := by
        unfold infoOf at hI
        rw [h2] at hI
        exact infoG_len hI
      exact r14Drop_yes hn k hq hp kk l c ok hI h2 h3.1 h3.2 h
    · rw [if_neg h2, if_neg h2]
      exact r14Drop_none hn k hq hp kk l c ok hI h2 h
end
end Go.Proofs.Ytpndfhdedmdoeaa
