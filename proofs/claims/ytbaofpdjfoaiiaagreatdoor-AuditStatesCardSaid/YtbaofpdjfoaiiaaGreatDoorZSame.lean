/-
  slices.Equal of blocks; audit.Same. Written by audit/gen_same.py.
-/
import Derived.Test.YtbaofpdjfoaiiaaGreatDoorZState
import Derived.Test.YtbaofpdjfoaiiaaGreatDoorZDocCheck
namespace Go.Proofs.YtbaofpdjfoaiiaaGreatDoor
open Go.ChangeShapes Go.WideShapes Go.ChangeAt Go.RowKit Go.Shelf
set_option linter.unusedVariables false
set_option linter.unusedSimpArgs false

set_option maxHeartbeats 3200000 in
set_option maxRecDepth 100000 in
theorem slEq_len (l1 l2 : List (Int × Int)) (A1 A2 : Option Addr) (nl c1 c2 b1 b2 : Nat) (WL : World) (h1 : l1.length = nl) (h2 : l2.length = nl) (hn1 : nl ≤ 100000)
    (hO1 : WL.ownsRow b1 58 2 (.slice A1 nl c1) nl (bkVs l1)) (hO2 : WL.ownsRow b2 58 2 (.slice A2 nl c2) nl (bkVs l2)) (b : Bool) (hb : b = true ↔ l1 = l2) :
    Calls Tryz.prog 36 #[.slice A1 nl c1, .slice A2 nl c2] WL fun e w' => e = .returned (.bool b) ∧ ∃ d, w' = WL.drewN d := by
  have HO1 := hidp hO1
  have HO2 := hidp hO2
  have HBC := hidp hb
  have HL1 := hidp h1
  have HL2 := hidp h2
  obtain ⟨h11, h12⟩ := own_caps3 hO1
  obtain ⟨h21, h22⟩ := own_caps3 hO2
  have h12 : c1 ≤ 9223372036854775807 := h12
  have h22 : c2 ≤ 9223372036854775807 := h22
  have q0 : ((nl : Int) != (nl : Int)) = false := by simp
  clear hO1 hO2 h1 h2 hb
  go_enter Tryz.func36, Tryz.ntmps36
  go_wp2_with fail
  go_loopw [13] (fun u13 wr => ∃ (i d : Nat), i ≤ nl ∧ u13 = .int .i64 (i : Int) ∧ Hid (l1.take i = l2.take i) ∧ wr = WL.drewN d) (fun u13 _ => nl - (intOf u13).toNat)
  case atStart => exact ⟨0, 0, by omega, rfl, hidp rfl, rfl⟩
  case round =>
    obtain ⟨i, d, hi, rfl, HTE, rfl⟩ := hrel
    by_cases hlt : i < nl
    · obtain ⟨x, hx⟩ : ∃ x, l1[i]? = some x := ⟨_, List.getElem?_eq_getElem (by have := HL1.out; omega)⟩
      obtain ⟨y, hy⟩ : ∃ y, l2[i]? = some y := ⟨_, List.getElem?_eq_getElem (by have := HL2.out; omega)⟩
      obtain ⟨g1, cv1, hv1, _, _⟩ := HO1.out.form (by omega)
      injection hv1 with hv1 _ hc1
      subst hv1
      subst hc1
      obtain ⟨g2, cv2, hv2, _, _⟩ := HO2.out.form (by omega)
      injection hv2 with hv2 _ hc2
      subst hv2
      subst hc2
      obtain ⟨p0, p1⟩ := own_block0 HO1.out HL1.out hx
      obtain ⟨q0, q1⟩ := own_block0 HO2.out HL2.out hy
      have HNE : Hid (x ≠ y → ¬ l1 = l2) := hidp (fun h e => h (by rw [e, hy] at hx; exact (Option.some.inj hx).symm))
      have HSU : Hid (x = y → l1.take (i + 1) = l2.take (i + 1)) := hidp (fun h => by rw [List.take_add_one, List.take_add_one, HTE.out, hx, hy, h])
      obtain ⟨a1, z1⟩ := x
      obtain ⟨a2, z2⟩ := y
      have t0 : decide ((i : Int) < nl) = true := decide_eq_true (by omega)
      have t0n : decide (i < nl) = true := decide_eq_true hlt
      simp only at p0 p1 q0 q1
      clear hx hy
      by_cases ha : a1 = a2
      · subst ha
        by_cases hz : z1 = z2
        · subst hz
          have HT1 := hidp (HSU.out rfl)
          go_wp2_with fail
          refine wp_region_held_drew (S := (fun w' => w'.cell? ⟨g1, i * 2, none⟩ = some (.int .i64 a1) ∧ w'.cell? ⟨g1, i * 2 + 1, none⟩ = some (.int .i64 z1) ∧ w'.cell? ⟨g2, i * 2, none⟩ = some (.int .i64 a1) ∧ w'.cell? ⟨g2, i * 2 + 1, none⟩ = some (.int .i64 z1))) (by kernel_rfl) ?_ (fun hHeld => ?_)
          · (try dsimp only)
            first | exact ⟨p0, p1, q0, q1⟩ | exact hHeld
          refine tkO (i := 0) (v := ?_) rfl (by kernel_rfl) (fun _ _ _ h => h) (by rfl) ?_ (by assumption) ?_
          rotate_left
          · intro w hSw; (try dsimp only at hSw); go_simp; (try with_reducible rfl)
          (try simp only [Act.put, gA, gB, gC, sA, sB, sC])
          refine tkO (i := 1) (v := ?_) rfl (by kernel_rfl) (fun _ _ _ h => h) (by rfl) ?_ (by assumption) ?_
          rotate_left
          · intro w hSw; (try dsimp only at hSw); go_simp; (try with_reducible rfl)
          (try simp only [Act.put, gA, gB, gC, sA, sB, sC])
          refine tkO (i := 2) (v := ?_) rfl (by kernel_rfl) (fun _ _ _ h => h) (by rfl) ?_ (by assumption) ?_
          rotate_left
          · intro w hSw; (try dsimp only at hSw); go_simp; (try with_reducible rfl)
          (try simp only [Act.put, gA, gB, gC, sA, sB, sC])
          refine tkO (i := 3) (v := ?_) rfl (by kernel_rfl) (fun _ _ _ h => h) (by rfl) ?_ (by assumption) ?_
          rotate_left
          · intro w hSw; (try dsimp only at hSw); go_simp; (try with_reducible rfl)
          (try simp only [Act.put, gA, gB, gC, sA, sB, sC])
          refine tkO (i := 4) (v := ?_) rfl (by kernel_rfl) (fun _ _ _ h => h) (by rfl) ?_ (by assumption) ?_
          rotate_left
          · intro w hSw; (try dsimp only at hSw); go_simp; (try with_reducible rfl)
          (try simp only [Act.put, gA, gB, gC, sA, sB, sC])
          refine tkO (i := 5) (v := ?_) rfl (by kernel_rfl) (fun _ _ _ h => h) (by rfl) ?_ (by assumption) ?_
          rotate_left
          · intro w hSw; (try dsimp only at hSw); go_simp; (try with_reducible rfl)
          (try simp only [Act.put, gA, gB, gC, sA, sB, sC])
          refine tkO (i := 6) (v := ?_) rfl (by kernel_rfl) (fun _ _ _ h => h) (by rfl) ?_ (by assumption) ?_
          rotate_left
          · intro w hSw; (try dsimp only at hSw); go_simp; (try with_reducible rfl)
          (try simp only [Act.put, gA, gB, gC, sA, sB, sC])
          refine tkO (i := 7) (v := ?_) rfl (by kernel_rfl) (fun _ _ _ h => h) (by rfl) ?_ (by assumption) ?_
          rotate_left
          · intro w hSw; (try dsimp only at hSw); go_simp; (try with_reducible rfl)
          (try simp only [Act.put, gA, gB, gC, sA, sB, sC])
          refine tkO (i := 8) (v := ?_) rfl (by kernel_rfl) (fun _ _ _ h => h) (by rfl) ?_ (by assumption) ?_
          rotate_left
          · intro w hSw; (try dsimp only at hSw); go_simp; (try with_reducible rfl)
          (try simp only [Act.put, gA, gB, gC, sA, sB, sC])
          refine wpAnyH_done (by kernel_rfl) ?_ _
          go_wp2_with fail
          go_roundw
          case rel => exact ⟨i + 1, d + 1, by omega, by go_num, HT1, rfl⟩
          case measure => simp [intOf]; omega
        · have qz : (z1 == z2) = false := by simpa using hz
          have HBF : Hid (b = false) := hidp (bool_no HBC.out (HNE.out (fun e => hz (Prod.mk.inj e).2)))
          go_wp2_with fail
          refine wp_region_held_drew (S := (fun w' => w'.cell? ⟨g1, i * 2, none⟩ = some (.int .i64 a1) ∧ w'.cell? ⟨g1, i * 2 + 1, none⟩ = some (.int .i64 z1) ∧ w'.cell? ⟨g2, i * 2, none⟩ = some (.int .i64 a1) ∧ w'.cell? ⟨g2, i * 2 + 1, none⟩ = some (.int .i64 z2))) (by kernel_rfl) ?_ (fun hHeld => ?_)
          · (try dsimp only)
            first | exact ⟨p0, p1, q0, q1⟩ | exact hHeld
          refine tkO (i := 0) (v := ?_) rfl (by kernel_rfl) (fun _ _ _ h => h) (by rfl) ?_ (by assumption) ?_
          rotate_left
          · intro w hSw; (try dsimp only at hSw); go_simp; (try with_reducible rfl)
          (try simp only [Act.put, gA, gB, gC, sA, sB, sC])
          refine tkO (i := 1) (v := ?_) rfl (by kernel_rfl) (fun _ _ _ h => h) (by rfl) ?_ (by assumption) ?_
          rotate_left
          · intro w hSw; (try dsimp only at hSw); go_simp; (try with_reducible rfl)
          (try simp only [Act.put, gA, gB, gC, sA, sB, sC])
          refine tkO (i := 2) (v := ?_) rfl (by kernel_rfl) (fun _ _ _ h => h) (by rfl) ?_ (by assumption) ?_
          rotate_left
          · intro w hSw; (try dsimp only at hSw); go_simp; (try with_reducible rfl)
          (try simp only [Act.put, gA, gB, gC, sA, sB, sC])
          refine tkO (i := 3) (v := ?_) rfl (by kernel_rfl) (fun _ _ _ h => h) (by rfl) ?_ (by assumption) ?_
          rotate_left
          · intro w hSw; (try dsimp only at hSw); go_simp; (try with_reducible rfl)
          (try simp only [Act.put, gA, gB, gC, sA, sB, sC])
          refine tkO (i := 4) (v := ?_) rfl (by kernel_rfl) (fun _ _ _ h => h) (by rfl) ?_ (by assumption) ?_
          rotate_left
          · intro w hSw; (try dsimp only at hSw); go_simp; (try with_reducible rfl)
          (try simp only [Act.put, gA, gB, gC, sA, sB, sC])
          refine tkO (i := 5) (v := ?_) rfl (by kernel_rfl) (fun _ _ _ h => h) (by rfl) ?_ (by assumption) ?_
          rotate_left
          · intro w hSw; (try dsimp only at hSw); go_simp; (try with_reducible rfl)
          (try simp only [Act.put, gA, gB, gC, sA, sB, sC])
          refine tkO (i := 6) (v := ?_) rfl (by kernel_rfl) (fun _ _ _ h => h) (by rfl) ?_ (by assumption) ?_
          rotate_left
          · intro w hSw; (try dsimp only at hSw); go_simp; (try with_reducible rfl)
          (try simp only [Act.put, gA, gB, gC, sA, sB, sC])
          refine tkO (i := 7) (v := ?_) rfl (by kernel_rfl) (fun _ _ _ h => h) (by rfl) ?_ (by assumption) ?_
          rotate_left
          · intro w hSw; (try dsimp only at hSw); go_simp; (try with_reducible rfl)
          (try simp only [Act.put, gA, gB, gC, sA, sB, sC])
          refine tkO (i := 8) (v := ?_) rfl (by kernel_rfl) (fun _ _ _ h => h) (by rfl) ?_ (by assumption) ?_
          rotate_left
          · intro w hSw; (try dsimp only at hSw); go_simp; (try with_reducible rfl)
          (try simp only [Act.put, gA, gB, gC, sA, sB, sC])
          refine wpAnyH_done (by kernel_rfl) ?_ _
          go_wp2_with fail
          go_ret
          exact ⟨by rw [HBF.out]; rfl, d + 1, rfl⟩
      · have qa : (a1 == a2) = false := by simpa using ha
        have HBF : Hid (b = false) := hidp (bool_no HBC.out (HNE.out (fun e => ha (Prod.mk.inj e).1)))
        go_wp2_with fail
        refine wp_region_held_drew (S := (fun w' => w'.cell? ⟨g1, i * 2, none⟩ = some (.int .i64 a1) ∧ w'.cell? ⟨g1, i * 2 + 1, none⟩ = some (.int .i64 z1) ∧ w'.cell? ⟨g2, i * 2, none⟩ = some (.int .i64 a2) ∧ w'.cell? ⟨g2, i * 2 + 1, none⟩ = some (.int .i64 z2))) (by kernel_rfl) ?_ (fun hHeld => ?_)
        · (try dsimp only)
          first | exact ⟨p0, p1, q0, q1⟩ | exact hHeld
        refine tkO (i := 0) (v := ?_) rfl (by kernel_rfl) (fun _ _ _ h => h) (by rfl) ?_ (by assumption) ?_
        rotate_left
        · intro w hSw; (try dsimp only at hSw); go_simp; (try with_reducible rfl)
        (try simp only [Act.put, gA, gB, gC, sA, sB, sC])
        refine tkO (i := 1) (v := ?_) rfl (by kernel_rfl) (fun _ _ _ h => h) (by rfl) ?_ (by assumption) ?_
        rotate_left
        · intro w hSw; (try dsimp only at hSw); go_simp; (try with_reducible rfl)
        (try simp only [Act.put, gA, gB, gC, sA, sB, sC])
        refine tkO (i := 2) (v := ?_) rfl (by kernel_rfl) (fun _ _ _ h => h) (by rfl) ?_ (by assumption) ?_
        rotate_left
        · intro w hSw; (try dsimp only at hSw); go_simp; (try with_reducible rfl)
        (try simp only [Act.put, gA, gB, gC, sA, sB, sC])
        refine tkO (i := 3) (v := ?_) rfl (by kernel_rfl) (fun _ _ _ h => h) (by rfl) ?_ (by assumption) ?_
        rotate_left
        · intro w hSw; (try dsimp only at hSw); go_simp; (try with_reducible rfl)
        (try simp only [Act.put, gA, gB, gC, sA, sB, sC])
        refine tkO (i := 4) (v := ?_) rfl (by kernel_rfl) (fun _ _ _ h => h) (by rfl) ?_ (by assumption) ?_
        rotate_left
        · intro w hSw; (try dsimp only at hSw); go_simp; (try with_reducible rfl)
        (try simp only [Act.put, gA, gB, gC, sA, sB, sC])
        refine tkO (i := 5) (v := ?_) rfl (by kernel_rfl) (fun _ _ _ h => h) (by rfl) ?_ (by assumption) ?_
        rotate_left
        · intro w hSw; (try dsimp only at hSw); go_simp; (try with_reducible rfl)
        (try simp only [Act.put, gA, gB, gC, sA, sB, sC])
        refine tkO (i := 6) (v := ?_) rfl (by kernel_rfl) (fun _ _ _ h => h) (by rfl) ?_ (by assumption) ?_
        rotate_left
        · intro w hSw; (try dsimp only at hSw); go_simp; (try with_reducible rfl)
        (try simp only [Act.put, gA, gB, gC, sA, sB, sC])
        refine tkO (i := 7) (v := ?_) rfl (by kernel_rfl) (fun _ _ _ h => h) (by rfl) ?_ (by assumption) ?_
        rotate_left
        · intro w hSw; (try dsimp only at hSw); go_simp; (try with_reducible rfl)
        (try simp only [Act.put, gA, gB, gC, sA, sB, sC])
        refine tkO (i := 8) (v := ?_) rfl (by kernel_rfl) (fun _ _ _ h => h) (by rfl) ?_ (by assumption) ?_
        rotate_left
        · intro w hSw; (try dsimp only at hSw); go_simp; (try with_reducible rfl)
        (try simp only [Act.put, gA, gB, gC, sA, sB, sC])
        refine wpAnyH_done (by kernel_rfl) ?_ _
        go_wp2_with fail
        go_ret
        exact ⟨by rw [HBF.out]; rfl, d + 1, rfl⟩
    · have t0 : decide ((i : Int) < nl) = false := decide_eq_false (by omega)
      have t0n : decide (i < nl) = false := decide_eq_false hlt
      have HBT : Hid (b = true) := hidp (HBC.out.2 (by
        have h := HTE.out
        rwa [List.take_of_length_le (by have := HL1.out; omega), List.take_of_length_le (by have := HL2.out; omega)] at h))
      go_wp2_with fail
      go_ret
      exact ⟨by rw [HBT.out]; rfl, d, rfl⟩
set_option maxHeartbeats 1600000 in
theorem slEq_c (l1 l2 : List (Int × Int)) (A1 A2 : Option Addr) (n1 n2 c1 c2 b1 b2 : Nat) (w : World) (h1 : l1.length = n1) (h2 : l2.length = n2) (hn1 : n1 ≤ 100000) (hn2 : n2 ≤ 100000)
    (hO1 : w.ownsRow b1 58 2 (.slice A1 n1 c1) n1 (bkVs l1)) (hO2 : w.ownsRow b2 58 2 (.slice A2 n2 c2) n2 (bkVs l2)) (b : Bool) (hb : b = true ↔ l1 = l2) :
    Calls Tryz.prog 36 #[.slice A1 n1 c1, .slice A2 n2 c2] w fun e w' => e = .returned (.bool b) ∧ ∃ d, w' = w.drewN d := by
  by_cases hne : n1 = n2
  · subst hne
    exact slEq_len l1 l2 A1 A2 n1 c1 c2 b1 b2 w h1 h2 hn1 hO1 hO2 b hb
  · have q0 : ((n1 : Int) != (n2 : Int)) = true := by simp; omega
    have q0n : (n1 != n2) = true := by simpa using hne
    have HBF : Hid (b = false) := hidp (bool_no hb (fun e => hne (by rw [← h1, ← h2, e])))
    clear hO1 hO2 h1 h2 hb hne
    go_enter Tryz.func36, Tryz.ntmps36
    go_wp2_with fail
    go_ret
    exact ⟨by rw [HBF.out]; rfl, 0, rfl⟩

theorem eqStep (d : Nat) (xs ys : Array Value) (i : Nat) (a b : Int) (is : List Nat) (w : World) (hx : xs[i]? = some (.int .i64 a)) (hy : ys[i]? = some (.int .i64 b)) :
    (Op.eqItems (d + 1) 2 1 xs ys (i :: is)).run Tryz.prog w = if (a == b) = true then (Op.eqItems (d + 1) 2 1 xs ys is).run Tryz.prog w else .ok false w := by
  have p1 := run_part_plain (P := Tryz.prog) w (e := 2) (by kernel_rfl) (off := i * 1) (by rw [Nat.mul_one]; exact hx)
  have p2 := run_part_plain (P := Tryz.prog) w (e := 2) (by kernel_rfl) (off := i * 1) (by rw [Nat.mul_one]; exact hy)
  have p3 := run_equalIn_int (P := Tryz.prog) w d 2 .i64 .i64 a b Tryz.underlying2
  simp only [Op.eqItems, Sem.run_bind, p1, p2, p3, Result.andThen_ok]
  cases a == b <;> simp
theorem eq8_run (r0 r1 r2 r3 r4 r5 r6 r7 p0 p1 p2 p3 p4 p5 p6 p7 : Int) (w : World) :
    (Op.equalIn 10000 31 (.agg #[.int .i64 r0, .int .i64 r1, .int .i64 r2, .int .i64 r3, .int .i64 r4, .int .i64 r5, .int .i64 r6, .int .i64 r7]) (.agg #[.int .i64 p0, .int .i64 p1, .int .i64 p2, .int .i64 p3, .int .i64 p4, .int .i64 p5, .int .i64 p6, .int .i64 p7])).run Tryz.prog w = .ok (r0 == p0 && (r1 == p1 && (r2 == p2 && (r3 == p3 && (r4 == p4 && (r5 == p5 && (r6 == p6 && (r7 == p7)))))))) w := by
  obtain ⟨i, hi⟩ : ∃ i, Tryz.prog.info? 2 = some i := Option.isSome_iff_exists.1 (by kernel_rfl)
  have hc : Tryz.prog.cellsOf 2 = 1 := by kernel_rfl
  show (Op.equalIn (9999 + 1) _ _ _).run _ _ = _
  rw [run_equalIn_array w 9999 _ _ Tryz.underlying31 hi, hc]
  show (Op.eqItems (9998 + 1) 2 1 _ _ [0, 1, 2, 3, 4, 5, 6, 7]).run _ _ = _
  rw [eqStep 9998 _ _ 0 r0 p0 _ w rfl rfl]
  rw [eqStep 9998 _ _ 1 r1 p1 _ w rfl rfl]
  rw [eqStep 9998 _ _ 2 r2 p2 _ w rfl rfl]
  rw [eqStep 9998 _ _ 3 r3 p3 _ w rfl rfl]
  rw [eqStep 9998 _ _ 4 r4 p4 _ w rfl rfl]
  rw [eqStep 9998 _ _ 5 r5 p5 _ w rfl rfl]
  rw [eqStep 9998 _ _ 6 r6 p6 _ w rfl rfl]
  rw [eqStep 9998 _ _ 7 r7 p7 _ w rfl rfl]
  have hn : ∀ xs ys : Array Value, (Op.eqItems (9998 + 1) 2 1 xs ys []).run Tryz.prog w = .ok true w := fun xs ys => by simp [Op.eqItems]
  rw [hn]
  generalize (r0 == p0) = e0
  generalize (r1 == p1) = e1
  generalize (r2 == p2) = e2
  generalize (r3 == p3) = e3
  generalize (r4 == p4) = e4
  generalize (r5 == p5) = e5
  generalize (r6 == p6) = e6
  generalize (r7 == p7) = e7
  cases e0
  · rfl
  cases e1
  · rfl
  cases e2
  · rfl
  cases e3
  · rfl
  cases e4
  · rfl
  cases e5
  · rfl
  cases e6
  · rfl
  cases e7
  · rfl
  · rfl

theorem eq8_iff (r0 r1 r2 r3 r4 r5 r6 r7 p0 p1 p2 p3 p4 p5 p6 p7 : Int) : (r0 == p0 && (r1 == p1 && (r2 == p2 && (r3 == p3 && (r4 == p4 && (r5 == p5 && (r6 == p6 && (r7 == p7)))))))) = true ↔ [r0, r1, r2, r3, r4, r5, r6, r7] = [p0, p1, p2, p3, p4, p5, p6, p7] := by simp

set_option maxHeartbeats 3200000 in
set_option maxRecDepth 100000 in
theorem auSame_c (l1 l2 : List (Int × Int)) (A1 A2 : Option Addr) (n1 n2 c1 c2 b1 b2 : Nat) (r0 r1 r2 r3 r4 r5 r6 r7 p0 p1 p2 p3 p4 p5 p6 p7 : Int) (w : World) (h1 : l1.length = n1) (h2 : l2.length = n2) (hn1 : n1 ≤ 100000) (hn2 : n2 ≤ 100000)
    (hO1 : w.ownsRow b1 58 2 (.slice A1 n1 c1) n1 (bkVs l1)) (hO2 : w.ownsRow b2 58 2 (.slice A2 n2 c2) n2 (bkVs l2)) (b : Bool) (hb : b = true ↔ [r0, r1, r2, r3, r4, r5, r6, r7] = [p0, p1, p2, p3, p4, p5, p6, p7] ∧ l1 = l2) :
    Calls Tryz.prog 14 #[.agg #[.slice A1 n1 c1, .int .i64 r0, .int .i64 r1, .int .i64 r2, .int .i64 r3, .int .i64 r4, .int .i64 r5, .int .i64 r6, .int .i64 r7], .agg #[.slice A2 n2 c2, .int .i64 p0, .int .i64 p1, .int .i64 p2, .int .i64 p3, .int .i64 p4, .int .i64 p5, .int .i64 p6, .int .i64 p7]] w fun e w' => e = .returned (.bool b) ∧ Below w.heap.size w w' := by
  have HX1 := hidp ((Held.new w 33 #[.slice A1 n1 c1, .int .i64 r0, .int .i64 r1, .int .i64 r2, .int .i64 r3, .int .i64 r4, .int .i64 r5, .int .i64 r6, .int .i64 r7]).alloc (.cells #[.slice A2 n2 c2, .int .i64 p0, .int .i64 p1, .int .i64 p2, .int .i64 p3, .int .i64 p4, .int .i64 p5, .int .i64 p6, .int .i64 p7] 33))
  have HX2 := hidp (Held.new2 w (.cells #[.slice A1 n1 c1, .int .i64 r0, .int .i64 r1, .int .i64 r2, .int .i64 r3, .int .i64 r4, .int .i64 r5, .int .i64 r6, .int .i64 r7] 33) 33 #[.slice A2 n2 c2, .int .i64 p0, .int .i64 p1, .int .i64 p2, .int .i64 p3, .int .i64 p4, .int .i64 p5, .int .i64 p6, .int .i64 p7])
  obtain ⟨x0, x1, x2, x3, x4, x5, x6, x7, x8⟩ := HX1.out.nine
  obtain ⟨y0, y1, y2, y3, y4, y5, y6, y7, y8⟩ := HX2.out.nine
  have HBW := hidp (Bnew (Bnew (B0 w) (.cells #[.slice A1 n1 c1, .int .i64 r0, .int .i64 r1, .int .i64 r2, .int .i64 r3, .int .i64 r4, .int .i64 r5, .int .i64 r6, .int .i64 r7] 33)) (.cells #[.slice A2 n2 c2, .int .i64 p0, .int .i64 p1, .int .i64 p2, .int .i64 p3, .int .i64 p4, .int .i64 p5, .int .i64 p6, .int .i64 p7] 33))
  have HO1 := hidp ((hO1.alloc (.cells #[.slice A1 n1 c1, .int .i64 r0, .int .i64 r1, .int .i64 r2, .int .i64 r3, .int .i64 r4, .int .i64 r5, .int .i64 r6, .int .i64 r7] 33)).alloc (.cells #[.slice A2 n2 c2, .int .i64 p0, .int .i64 p1, .int .i64 p2, .int .i64 p3, .int .i64 p4, .int .i64 p5, .int .i64 p6, .int .i64 p7] 33))
  have HO2 := hidp ((hO2.alloc (.cells #[.slice A1 n1 c1, .int .i64 r0, .int .i64 r1, .int .i64 r2, .int .i64 r3, .int .i64 r4, .int .i64 r5, .int .i64 r6, .int .i64 r7] 33)).alloc (.cells #[.slice A2 n2 c2, .int .i64 p0, .int .i64 p1, .int .i64 p2, .int .i64 p3, .int .i64 p4, .int .i64 p5, .int .i64 p6, .int .i64 p7] 33))
  have HL1 := hidp h1
  have HL2 := hidp h2
  obtain ⟨h11, h12⟩ := own_caps3 hO1
  obtain ⟨h21, h22⟩ := own_caps3 hO2
  have h12 : c1 ≤ 9223372036854775807 := h12
  have h22 : c2 ≤ 9223372036854775807 := h22
  have hei := eq8_iff r0 r1 r2 r3 r4 r5 r6 r7 p0 p1 p2 p3 p4 p5 p6 p7
  have he := fun W => eq8_run r0 r1 r2 r3 r4 r5 r6 r7 p0 p1 p2 p3 p4 p5 p6 p7 W
  obtain ⟨eb, heb⟩ : ∃ eb, (r0 == p0 && (r1 == p1 && (r2 == p2 && (r3 == p3 && (r4 == p4 && (r5 == p5 && (r6 == p6 && (r7 == p7)))))))) = eb := ⟨_, rfl⟩
  rw [heb] at hei
  simp only [heb] at he
  cases eb
  · have HBF : Hid (b = false) := hidp (bool_no hb (fun h => by have := hei.2 h.1; cases this))
    clear hei heb hb h1 h2 hO1 hO2
    go_enter Tryz.func14, Tryz.ntmps14
    go_wp2_with fail
    go_ret
    exact ⟨by rw [HBF.out]; rfl, HBW.out⟩
  · have HEQ : Hid (∀ W : World, W.ownsRow b1 58 2 (.slice A1 n1 c1) n1 (bkVs l1) → W.ownsRow b2 58 2 (.slice A2 n2 c2) n2 (bkVs l2) → Calls Tryz.prog 36 #[.slice A1 n1 c1, .slice A2 n2 c2] W fun e w' => e = .returned (.bool b) ∧ ∃ d, w' = W.drewN d) := hidp (fun W g1 g2 => slEq_c l1 l2 A1 A2 n1 n2 c1 c2 b1 b2 W h1 h2 hn1 hn2 g1 g2 b (hb.trans ⟨fun h => h.2, fun h => ⟨hei.1 rfl, h⟩⟩))
    clear hei heb hb h1 h2 hO1 hO2
    go_enter Tryz.func14, Tryz.ntmps14
    go_wp2_with (first
      | (go_at_call 36; refine (HEQ.out _ HO1.out HO2.out).mono ?_; rintro e w2 ⟨rfl, d, rfl⟩)
      | fail)
    go_ret
    exact ⟨rfl, Bdraw HBW.out d⟩
end Go.Proofs.YtbaofpdjfoaiiaaGreatDoor

/-
  The document's Same. Written by audit/gen_same.py.
-/
namespace Go.Proofs.YtbaofpdjfoaiiaaGreatDoor
open Go.ChangeShapes Go.WideShapes Go.ChangeAt Go.RowKit Go.Shelf
set_option linter.unusedVariables false
set_option linter.unusedSimpArgs false

set_option maxHeartbeats 6400000 in
set_option maxRecDepth 100000 in
theorem xSame_len (l1 l2 : List (Int × Int)) (A1 A2 : Option Addr) (nl c1 c2 b1 b2 : Nat) (r0 r1 r2 r3 r4 r5 r6 r7 p0 p1 p2 p3 p4 p5 p6 p7 : Int) (w : World) (h1 : l1.length = nl) (h2 : l2.length = nl) (hnl : nl ≤ 100000) (hnl : nl ≤ 100000)
    (hO1 : w.ownsRow b1 58 2 (.slice A1 nl c1) nl (bkVs l1)) (hO2 : w.ownsRow b2 58 2 (.slice A2 nl c2) nl (bkVs l2)) (b : Bool) (hb : b = true ↔ [r0, r1, r2, r3, r4, r5, r6, r7] = [p0, p1, p2, p3, p4, p5, p6, p7] ∧ l1 = l2) :
    Calls Tryz.prog 13 #[.agg #[.slice A1 nl c1, .int .i64 r0, .int .i64 r1, .int .i64 r2, .int .i64 r3, .int .i64 r4, .int .i64 r5, .int .i64 r6, .int .i64 r7], .agg #[.slice A2 nl c2, .int .i64 p0, .int .i64 p1, .int .i64 p2, .int .i64 p3, .int .i64 p4, .int .i64 p5, .int .i64 p6, .int .i64 p7]] w fun e w' => e = .returned (.bool b) ∧ Below w.heap.size w w' := by
  have HX1 := hidp ((Held.new w 33 #[.slice A1 nl c1, .int .i64 r0, .int .i64 r1, .int .i64 r2, .int .i64 r3, .int .i64 r4, .int .i64 r5, .int .i64 r6, .int .i64 r7]).alloc (.cells #[.slice A2 nl c2, .int .i64 p0, .int .i64 p1, .int .i64 p2, .int .i64 p3, .int .i64 p4, .int .i64 p5, .int .i64 p6, .int .i64 p7] 33))
  have HX2 := hidp (Held.new2 w (.cells #[.slice A1 nl c1, .int .i64 r0, .int .i64 r1, .int .i64 r2, .int .i64 r3, .int .i64 r4, .int .i64 r5, .int .i64 r6, .int .i64 r7] 33) 33 #[.slice A2 nl c2, .int .i64 p0, .int .i64 p1, .int .i64 p2, .int .i64 p3, .int .i64 p4, .int .i64 p5, .int .i64 p6, .int .i64 p7])
  obtain ⟨x0, x1, x2, x3, x4, x5, x6, x7, x8⟩ := HX1.out.nine
  obtain ⟨y0, y1, y2, y3, y4, y5, y6, y7, y8⟩ := HX2.out.nine
  have HBW := hidp (Bnew (Bnew (B0 w) (.cells #[.slice A1 nl c1, .int .i64 r0, .int .i64 r1, .int .i64 r2, .int .i64 r3, .int .i64 r4, .int .i64 r5, .int .i64 r6, .int .i64 r7] 33)) (.cells #[.slice A2 nl c2, .int .i64 p0, .int .i64 p1, .int .i64 p2, .int .i64 p3, .int .i64 p4, .int .i64 p5, .int .i64 p6, .int .i64 p7] 33))
  have HO1 := hidp ((hO1.alloc (.cells #[.slice A1 nl c1, .int .i64 r0, .int .i64 r1, .int .i64 r2, .int .i64 r3, .int .i64 r4, .int .i64 r5, .int .i64 r6, .int .i64 r7] 33)).alloc (.cells #[.slice A2 nl c2, .int .i64 p0, .int .i64 p1, .int .i64 p2, .int .i64 p3, .int .i64 p4, .int .i64 p5, .int .i64 p6, .int .i64 p7] 33))
  have HO2 := hidp ((hO2.alloc (.cells #[.slice A1 nl c1, .int .i64 r0, .int .i64 r1, .int .i64 r2, .int .i64 r3, .int .i64 r4, .int .i64 r5, .int .i64 r6, .int .i64 r7] 33)).alloc (.cells #[.slice A2 nl c2, .int .i64 p0, .int .i64 p1, .int .i64 p2, .int .i64 p3, .int .i64 p4, .int .i64 p5, .int .i64 p6, .int .i64 p7] 33))
  have HL1 := hidp h1
  have HL2 := hidp h2
  obtain ⟨h11, h12⟩ := own_caps3 hO1
  obtain ⟨h21, h22⟩ := own_caps3 hO2
  have h12 : c1 ≤ 9223372036854775807 := h12
  have h22 : c2 ≤ 9223372036854775807 := h22
  have hei := eq8_iff r0 r1 r2 r3 r4 r5 r6 r7 p0 p1 p2 p3 p4 p5 p6 p7
  have he := fun W => eq8_run r0 r1 r2 r3 r4 r5 r6 r7 p0 p1 p2 p3 p4 p5 p6 p7 W
  obtain ⟨eb, heb⟩ : ∃ eb, (r0 == p0 && (r1 == p1 && (r2 == p2 && (r3 == p3 && (r4 == p4 && (r5 == p5 && (r6 == p6 && (r7 == p7)))))))) = eb := ⟨_, rfl⟩
  rw [heb] at hei
  simp only [heb] at he
  have q0 : ((nl : Int) != (nl : Int)) = false := by simp
  cases eb
  · have HBF : Hid (b = false) := hidp (bool_no hb (fun h => by have := hei.2 h.1; cases this))
    clear hei heb hb h1 h2 hO1 hO2
    go_enter Tryz.func13, Tryz.ntmps13
    go_wp2_with fail
    go_ret
    exact ⟨by rw [HBF.out]; rfl, HBW.out⟩
  · have HBC : Hid (b = true ↔ l1 = l2) := hidp (hb.trans ⟨fun h => h.2, fun h => ⟨hei.1 rfl, h⟩⟩)
    clear hei heb hb h1 h2 hO1 hO2
    go_enter Tryz.func13, Tryz.ntmps13
    go_wp2_with fail
    generalize (w.alloc (.cells #[.slice A1 nl c1, .int .i64 r0, .int .i64 r1, .int .i64 r2, .int .i64 r3, .int .i64 r4, .int .i64 r5, .int .i64 r6, .int .i64 r7] 33)).alloc (.cells #[.slice A2 nl c2, .int .i64 p0, .int .i64 p1, .int .i64 p2, .int .i64 p3, .int .i64 p4, .int .i64 p5, .int .i64 p6, .int .i64 p7] 33) = WL at *
    clear he x1 x2 x3 x4 x5 x6 x7 x8 y1 y2 y3 y4 y5 y6 y7 y8 q0
    go_loopw [5] (fun u5 wr => ∃ (i d : Nat), i ≤ nl ∧ u5 = .int .i64 (i : Int) ∧ Hid (l1.take i = l2.take i) ∧ wr = WL.drewN d) (fun u5 _ => nl - (intOf u5).toNat)
    case atStart => exact ⟨0, 0, by omega, rfl, hidp rfl, rfl⟩
    case round =>
      obtain ⟨i, d, hi, rfl, HTE, rfl⟩ := hrel
      by_cases hlt : i < nl
      · obtain ⟨x, hx⟩ : ∃ x, l1[i]? = some x := ⟨_, List.getElem?_eq_getElem (by have := HL1.out; omega)⟩
        obtain ⟨y, hy⟩ : ∃ y, l2[i]? = some y := ⟨_, List.getElem?_eq_getElem (by have := HL2.out; omega)⟩
        obtain ⟨g1, cv1, hv1, _, _⟩ := HO1.out.form (by omega)
        injection hv1 with hv1 _ hc1
        subst hv1
        subst hc1
        obtain ⟨g2, cv2, hv2, _, _⟩ := HO2.out.form (by omega)
        injection hv2 with hv2 _ hc2
        subst hv2
        subst hc2
        obtain ⟨p0, p1⟩ := own_block0 HO1.out HL1.out hx
        obtain ⟨q0, q1⟩ := own_block0 HO2.out HL2.out hy
        have HNE : Hid (x ≠ y → ¬ l1 = l2) := hidp (fun h e => h (by rw [e, hy] at hx; exact (Option.some.inj hx).symm))
        have HSU : Hid (x = y → l1.take (i + 1) = l2.take (i + 1)) := hidp (fun h => by rw [List.take_add_one, List.take_add_one, HTE.out, hx, hy, h])
        obtain ⟨a1, z1⟩ := x
        obtain ⟨a2, z2⟩ := y
        have t0 : decide ((i : Int) < nl) = true := decide_eq_true (by omega)
        have t0n : decide (i < nl) = true := decide_eq_true hlt
        simp only at p0 p1 q0 q1
        clear hx hy
        by_cases ha : a1 = a2
        · subst ha
          by_cases hz : z1 = z2
          · subst hz
            have HT1 := hidp (HSU.out rfl)
            go_wp2_with fail
            refine wp_region_held_drew (S := (fun w' => w'.cell? ⟨g1, i * 2, none⟩ = some (.int .i64 a1) ∧ w'.cell? ⟨g1, i * 2 + 1, none⟩ = some (.int .i64 z1) ∧ w'.cell? ⟨g2, i * 2, none⟩ = some (.int .i64 a1) ∧ w'.cell? ⟨g2, i * 2 + 1, none⟩ = some (.int .i64 z1) ∧ w'.cell? ⟨w.heap.size, 0, none⟩ = some (.slice (some ⟨g1, 0, none⟩) nl c1) ∧ w'.cell? ⟨w.heap.size + 1, 0, none⟩ = some (.slice (some ⟨g2, 0, none⟩) nl c2))) (by kernel_rfl) ?_ (fun hHeld => ?_)
            · (try dsimp only)
              first | exact ⟨p0, p1, q0, q1, x0, y0⟩ | exact hHeld
            refine tkO (i := 0) (v := ?_) rfl (by kernel_rfl) (fun _ _ _ h => h) (by rfl) ?_ (by assumption) ?_
            rotate_left
            · intro w hSw; (try dsimp only at hSw); go_simp; (try with_reducible rfl)
            (try simp only [Act.put, gA, gB, gC, sA, sB, sC])
            refine tkO (i := 1) (v := ?_) rfl (by kernel_rfl) (fun _ _ _ h => h) (by rfl) ?_ (by assumption) ?_
            rotate_left
            · intro w hSw; (try dsimp only at hSw); go_simp; (try with_reducible rfl)
            (try simp only [Act.put, gA, gB, gC, sA, sB, sC])
            refine tkO (i := 2) (v := ?_) rfl (by kernel_rfl) (fun _ _ _ h => h) (by rfl) ?_ (by assumption) ?_
            rotate_left
            · intro w hSw; (try dsimp only at hSw); go_simp; (try with_reducible rfl)
            (try simp only [Act.put, gA, gB, gC, sA, sB, sC])
            refine tkO (i := 3) (v := ?_) rfl (by kernel_rfl) (fun _ _ _ h => h) (by rfl) ?_ (by assumption) ?_
            rotate_left
            · intro w hSw; (try dsimp only at hSw); go_simp; (try with_reducible rfl)
            (try simp only [Act.put, gA, gB, gC, sA, sB, sC])
            refine tkO (i := 4) (v := ?_) rfl (by kernel_rfl) (fun _ _ _ h => h) (by rfl) ?_ (by assumption) ?_
            rotate_left
            · intro w hSw; (try dsimp only at hSw); go_simp; (try with_reducible rfl)
            (try simp only [Act.put, gA, gB, gC, sA, sB, sC])
            refine tkO (i := 5) (v := ?_) rfl (by kernel_rfl) (fun _ _ _ h => h) (by rfl) ?_ (by assumption) ?_
            rotate_left
            · intro w hSw; (try dsimp only at hSw); go_simp; (try with_reducible rfl)
            (try simp only [Act.put, gA, gB, gC, sA, sB, sC])
            refine tkO (i := 6) (v := ?_) rfl (by kernel_rfl) (fun _ _ _ h => h) (by rfl) ?_ (by assumption) ?_
            rotate_left
            · intro w hSw; (try dsimp only at hSw); go_simp; (try with_reducible rfl)
            (try simp only [Act.put, gA, gB, gC, sA, sB, sC])
            refine tkO (i := 7) (v := ?_) rfl (by kernel_rfl) (fun _ _ _ h => h) (by rfl) ?_ (by assumption) ?_
            rotate_left
            · intro w hSw; (try dsimp only at hSw); go_simp; (try with_reducible rfl)
            (try simp only [Act.put, gA, gB, gC, sA, sB, sC])
            refine tkO (i := 8) (v := ?_) rfl (by kernel_rfl) (fun _ _ _ h => h) (by rfl) ?_ (by assumption) ?_
            rotate_left
            · intro w hSw; (try dsimp only at hSw); go_simp; (try with_reducible rfl)
            (try simp only [Act.put, gA, gB, gC, sA, sB, sC])
            refine tkO (i := 9) (v := ?_) rfl (by kernel_rfl) (fun _ _ _ h => h) (by rfl) ?_ (by assumption) ?_
            rotate_left
            · intro w hSw; (try dsimp only at hSw); go_simp; (try with_reducible rfl)
            (try simp only [Act.put, gA, gB, gC, sA, sB, sC])
            refine tkO (i := 10) (v := ?_) rfl (by kernel_rfl) (fun _ _ _ h => h) (by rfl) ?_ (by assumption) ?_
            rotate_left
            · intro w hSw; (try dsimp only at hSw); go_simp; (try with_reducible rfl)
            (try simp only [Act.put, gA, gB, gC, sA, sB, sC])
            refine wpAnyH_done (by kernel_rfl) ?_ _
            go_wp2_with fail
            go_roundw
            case rel => exact ⟨i + 1, d + 1, by omega, by go_num, HT1, rfl⟩
            case measure => simp [intOf]; omega
          · have qz : (z1 == z2) = false := by simpa using hz
            have HBF : Hid (b = false) := hidp (bool_no HBC.out (HNE.out (fun e => hz (Prod.mk.inj e).2)))
            go_wp2_with fail
            refine wp_region_held_drew (S := (fun w' => w'.cell? ⟨g1, i * 2, none⟩ = some (.int .i64 a1) ∧ w'.cell? ⟨g1, i * 2 + 1, none⟩ = some (.int .i64 z1) ∧ w'.cell? ⟨g2, i * 2, none⟩ = some (.int .i64 a1) ∧ w'.cell? ⟨g2, i * 2 + 1, none⟩ = some (.int .i64 z2) ∧ w'.cell? ⟨w.heap.size, 0, none⟩ = some (.slice (some ⟨g1, 0, none⟩) nl c1) ∧ w'.cell? ⟨w.heap.size + 1, 0, none⟩ = some (.slice (some ⟨g2, 0, none⟩) nl c2))) (by kernel_rfl) ?_ (fun hHeld => ?_)
            · (try dsimp only)
              first | exact ⟨p0, p1, q0, q1, x0, y0⟩ | exact hHeld
            refine tkO (i := 0) (v := ?_) rfl (by kernel_rfl) (fun _ _ _ h => h) (by rfl) ?_ (by assumption) ?_
            rotate_left
            · intro w hSw; (try dsimp only at hSw); go_simp; (try with_reducible rfl)
            (try simp only [Act.put, gA, gB, gC, sA, sB, sC])
            refine tkO (i := 1) (v := ?_) rfl (by kernel_rfl) (fun _ _ _ h => h) (by rfl) ?_ (by assumption) ?_
            rotate_left
            · intro w hSw; (try dsimp only at hSw); go_simp; (try with_reducible rfl)
            (try simp only [Act.put, gA, gB, gC, sA, sB, sC])
            refine tkO (i := 2) (v := ?_) rfl (by kernel_rfl) (fun _ _ _ h => h) (by rfl) ?_ (by assumption) ?_
            rotate_left
            · intro w hSw; (try dsimp only at hSw); go_simp; (try with_reducible rfl)
            (try simp only [Act.put, gA, gB, gC, sA, sB, sC])
            refine tkO (i := 3) (v := ?_) rfl (by kernel_rfl) (fun _ _ _ h => h) (by rfl) ?_ (by assumption) ?_
            rotate_left
            · intro w hSw; (try dsimp only at hSw); go_simp; (try with_reducible rfl)
            (try simp only [Act.put, gA, gB, gC, sA, sB, sC])
            refine tkO (i := 4) (v := ?_) rfl (by kernel_rfl) (fun _ _ _ h => h) (by rfl) ?_ (by assumption) ?_
            rotate_left
            · intro w hSw; (try dsimp only at hSw); go_simp; (try with_reducible rfl)
            (try simp only [Act.put, gA, gB, gC, sA, sB, sC])
            refine tkO (i := 5) (v := ?_) rfl (by kernel_rfl) (fun _ _ _ h => h) (by rfl) ?_ (by assumption) ?_
            rotate_left
            · intro w hSw; (try dsimp only at hSw); go_simp; (try with_reducible rfl)
            (try simp only [Act.put, gA, gB, gC, sA, sB, sC])
            refine tkO (i := 6) (v := ?_) rfl (by kernel_rfl) (fun _ _ _ h => h) (by rfl) ?_ (by assumption) ?_
            rotate_left
            · intro w hSw; (try dsimp only at hSw); go_simp; (try with_reducible rfl)
            (try simp only [Act.put, gA, gB, gC, sA, sB, sC])
            refine tkO (i := 7) (v := ?_) rfl (by kernel_rfl) (fun _ _ _ h => h) (by rfl) ?_ (by assumption) ?_
            rotate_left
            · intro w hSw; (try dsimp only at hSw); go_simp; (try with_reducible rfl)
            (try simp only [Act.put, gA, gB, gC, sA, sB, sC])
            refine tkO (i := 8) (v := ?_) rfl (by kernel_rfl) (fun _ _ _ h => h) (by rfl) ?_ (by assumption) ?_
            rotate_left
            · intro w hSw; (try dsimp only at hSw); go_simp; (try with_reducible rfl)
            (try simp only [Act.put, gA, gB, gC, sA, sB, sC])
            refine tkO (i := 9) (v := ?_) rfl (by kernel_rfl) (fun _ _ _ h => h) (by rfl) ?_ (by assumption) ?_
            rotate_left
            · intro w hSw; (try dsimp only at hSw); go_simp; (try with_reducible rfl)
            (try simp only [Act.put, gA, gB, gC, sA, sB, sC])
            refine tkO (i := 10) (v := ?_) rfl (by kernel_rfl) (fun _ _ _ h => h) (by rfl) ?_ (by assumption) ?_
            rotate_left
            · intro w hSw; (try dsimp only at hSw); go_simp; (try with_reducible rfl)
            (try simp only [Act.put, gA, gB, gC, sA, sB, sC])
            refine wpAnyH_done (by kernel_rfl) ?_ _
            go_wp2_with fail
            go_ret
            exact ⟨by rw [HBF.out]; rfl, Bdraw HBW.out (d + 1)⟩
        · have qa : (a1 == a2) = false := by simpa using ha
          have HBF : Hid (b = false) := hidp (bool_no HBC.out (HNE.out (fun e => ha (Prod.mk.inj e).1)))
          go_wp2_with fail
          refine wp_region_held_drew (S := (fun w' => w'.cell? ⟨g1, i * 2, none⟩ = some (.int .i64 a1) ∧ w'.cell? ⟨g1, i * 2 + 1, none⟩ = some (.int .i64 z1) ∧ w'.cell? ⟨g2, i * 2, none⟩ = some (.int .i64 a2) ∧ w'.cell? ⟨g2, i * 2 + 1, none⟩ = some (.int .i64 z2) ∧ w'.cell? ⟨w.heap.size, 0, none⟩ = some (.slice (some ⟨g1, 0, none⟩) nl c1) ∧ w'.cell? ⟨w.heap.size + 1, 0, none⟩ = some (.slice (some ⟨g2, 0, none⟩) nl c2))) (by kernel_rfl) ?_ (fun hHeld => ?_)
          · (try dsimp only)
            first | exact ⟨p0, p1, q0, q1, x0, y0⟩ | exact hHeld
          refine tkO (i := 0) (v := ?_) rfl (by kernel_rfl) (fun _ _ _ h => h) (by rfl) ?_ (by assumption) ?_
          rotate_left
          · intro w hSw; (try dsimp only at hSw); go_simp; (try with_reducible rfl)
          (try simp only [Act.put, gA, gB, gC, sA, sB, sC])
          refine tkO (i := 1) (v := ?_) rfl (by kernel_rfl) (fun _ _ _ h => h) (by rfl) ?_ (by assumption) ?_
          rotate_left
          · intro w hSw; (try dsimp only at hSw); go_simp; (try with_reducible rfl)
          (try simp only [Act.put, gA, gB, gC, sA, sB, sC])
          refine tkO (i := 2) (v := ?_) rfl (by kernel_rfl) (fun _ _ _ h => h) (by rfl) ?_ (by assumption) ?_
          rotate_left
          · intro w hSw; (try dsimp only at hSw); go_simp; (try with_reducible rfl)
          (try simp only [Act.put, gA, gB, gC, sA, sB, sC])
          refine tkO (i := 3) (v := ?_) rfl (by kernel_rfl) (fun _ _ _ h => h) (by rfl) ?_ (by assumption) ?_
          rotate_left
          · intro w hSw; (try dsimp only at hSw); go_simp; (try with_reducible rfl)
          (try simp only [Act.put, gA, gB, gC, sA, sB, sC])
          refine tkO (i := 4) (v := ?_) rfl (by kernel_rfl) (fun _ _ _ h => h) (by rfl) ?_ (by assumption) ?_
          rotate_left
          · intro w hSw; (try dsimp only at hSw); go_simp; (try with_reducible rfl)
          (try simp only [Act.put, gA, gB, gC, sA, sB, sC])
          refine tkO (i := 5) (v := ?_) rfl (by kernel_rfl) (fun _ _ _ h => h) (by rfl) ?_ (by assumption) ?_
          rotate_left
          · intro w hSw; (try dsimp only at hSw); go_simp; (try with_reducible rfl)
          (try simp only [Act.put, gA, gB, gC, sA, sB, sC])
          refine tkO (i := 6) (v := ?_) rfl (by kernel_rfl) (fun _ _ _ h => h) (by rfl) ?_ (by assumption) ?_
          rotate_left
          · intro w hSw; (try dsimp only at hSw); go_simp; (try with_reducible rfl)
          (try simp only [Act.put, gA, gB, gC, sA, sB, sC])
          refine tkO (i := 7) (v := ?_) rfl (by kernel_rfl) (fun _ _ _ h => h) (by rfl) ?_ (by assumption) ?_
          rotate_left
          · intro w hSw; (try dsimp only at hSw); go_simp; (try with_reducible rfl)
          (try simp only [Act.put, gA, gB, gC, sA, sB, sC])
          refine tkO (i := 8) (v := ?_) rfl (by kernel_rfl) (fun _ _ _ h => h) (by rfl) ?_ (by assumption) ?_
          rotate_left
          · intro w hSw; (try dsimp only at hSw); go_simp; (try with_reducible rfl)
          (try simp only [Act.put, gA, gB, gC, sA, sB, sC])
          refine tkO (i := 9) (v := ?_) rfl (by kernel_rfl) (fun _ _ _ h => h) (by rfl) ?_ (by assumption) ?_
          rotate_left
          · intro w hSw; (try dsimp only at hSw); go_simp; (try with_reducible rfl)
          (try simp only [Act.put, gA, gB, gC, sA, sB, sC])
          refine tkO (i := 10) (v := ?_) rfl (by kernel_rfl) (fun _ _ _ h => h) (by rfl) ?_ (by assumption) ?_
          rotate_left
          · intro w hSw; (try dsimp only at hSw); go_simp; (try with_reducible rfl)
          (try simp only [Act.put, gA, gB, gC, sA, sB, sC])
          refine wpAnyH_done (by kernel_rfl) ?_ _
          go_wp2_with fail
          go_ret
          exact ⟨by rw [HBF.out]; rfl, Bdraw HBW.out (d + 1)⟩
      · have t0 : decide ((i : Int) < nl) = false := decide_eq_false (by omega)
        have t0n : decide (i < nl) = false := decide_eq_false hlt
        have HBT : Hid (b = true) := hidp (HBC.out.2 (by
          have h := HTE.out
          rwa [List.take_of_length_le (by have := HL1.out; omega), List.take_of_length_le (by have := HL2.out; omega)] at h))
        go_wp2_with fail
        go_ret
        exact ⟨by rw [HBT.out]; rfl, Bdraw HBW.out d⟩
set_option maxHeartbeats 1600000 in
theorem xSame_c (l1 l2 : List (Int × Int)) (A1 A2 : Option Addr) (n1 n2 c1 c2 b1 b2 : Nat) (r0 r1 r2 r3 r4 r5 r6 r7 p0 p1 p2 p3 p4 p5 p6 p7 : Int) (w : World) (h1 : l1.length = n1) (h2 : l2.length = n2) (hn1 : n1 ≤ 100000) (hn2 : n2 ≤ 100000)
    (hO1 : w.ownsRow b1 58 2 (.slice A1 n1 c1) n1 (bkVs l1)) (hO2 : w.ownsRow b2 58 2 (.slice A2 n2 c2) n2 (bkVs l2)) (b : Bool) (hb : b = true ↔ [r0, r1, r2, r3, r4, r5, r6, r7] = [p0, p1, p2, p3, p4, p5, p6, p7] ∧ l1 = l2) :
    Calls Tryz.prog 13 #[.agg #[.slice A1 n1 c1, .int .i64 r0, .int .i64 r1, .int .i64 r2, .int .i64 r3, .int .i64 r4, .int .i64 r5, .int .i64 r6, .int .i64 r7], .agg #[.slice A2 n2 c2, .int .i64 p0, .int .i64 p1, .int .i64 p2, .int .i64 p3, .int .i64 p4, .int .i64 p5, .int .i64 p6, .int .i64 p7]] w fun e w' => e = .returned (.bool b) ∧ Below w.heap.size w w' := by
  by_cases hne : n1 = n2
  · subst hne
    exact xSame_len l1 l2 A1 A2 n1 c1 c2 b1 b2 r0 r1 r2 r3 r4 r5 r6 r7 p0 p1 p2 p3 p4 p5 p6 p7 w h1 h2 hn1 hn2 hO1 hO2 b hb
  · have q0 : ((n1 : Int) != (n2 : Int)) = true := by simp; omega
    have q0n : (n1 != n2) = true := by simpa using hne
    have HBF : Hid (b = false) := hidp (bool_no hb (fun e => hne (by rw [← h1, ← h2, e.2])))
    have HX1 := hidp ((Held.new w 33 #[.slice A1 n1 c1, .int .i64 r0, .int .i64 r1, .int .i64 r2, .int .i64 r3, .int .i64 r4, .int .i64 r5, .int .i64 r6, .int .i64 r7]).alloc (.cells #[.slice A2 n2 c2, .int .i64 p0, .int .i64 p1, .int .i64 p2, .int .i64 p3, .int .i64 p4, .int .i64 p5, .int .i64 p6, .int .i64 p7] 33))
    have HX2 := hidp (Held.new2 w (.cells #[.slice A1 n1 c1, .int .i64 r0, .int .i64 r1, .int .i64 r2, .int .i64 r3, .int .i64 r4, .int .i64 r5, .int .i64 r6, .int .i64 r7] 33) 33 #[.slice A2 n2 c2, .int .i64 p0, .int .i64 p1, .int .i64 p2, .int .i64 p3, .int .i64 p4, .int .i64 p5, .int .i64 p6, .int .i64 p7])
    obtain ⟨x0, x1, x2, x3, x4, x5, x6, x7, x8⟩ := HX1.out.nine
    obtain ⟨y0, y1, y2, y3, y4, y5, y6, y7, y8⟩ := HX2.out.nine
    have HBW := hidp (Bnew (Bnew (B0 w) (.cells #[.slice A1 n1 c1, .int .i64 r0, .int .i64 r1, .int .i64 r2, .int .i64 r3, .int .i64 r4, .int .i64 r5, .int .i64 r6, .int .i64 r7] 33)) (.cells #[.slice A2 n2 c2, .int .i64 p0, .int .i64 p1, .int .i64 p2, .int .i64 p3, .int .i64 p4, .int .i64 p5, .int .i64 p6, .int .i64 p7] 33))
    have HO1 := hidp ((hO1.alloc (.cells #[.slice A1 n1 c1, .int .i64 r0, .int .i64 r1, .int .i64 r2, .int .i64 r3, .int .i64 r4, .int .i64 r5, .int .i64 r6, .int .i64 r7] 33)).alloc (.cells #[.slice A2 n2 c2, .int .i64 p0, .int .i64 p1, .int .i64 p2, .int .i64 p3, .int .i64 p4, .int .i64 p5, .int .i64 p6, .int .i64 p7] 33))
    have HO2 := hidp ((hO2.alloc (.cells #[.slice A1 n1 c1, .int .i64 r0, .int .i64 r1, .int .i64 r2, .int .i64 r3, .int .i64 r4, .int .i64 r5, .int .i64 r6, .int .i64 r7] 33)).alloc (.cells #[.slice A2 n2 c2, .int .i64 p0, .int .i64 p1, .int .i64 p2, .int .i64 p3, .int .i64 p4, .int .i64 p5, .int .i64 p6, .int .i64 p7] 33))
    have HL1 := hidp h1
    have HL2 := hidp h2
    obtain ⟨h11, h12⟩ := own_caps3 hO1
    obtain ⟨h21, h22⟩ := own_caps3 hO2
    have h12 : c1 ≤ 9223372036854775807 := h12
    have h22 : c2 ≤ 9223372036854775807 := h22
    have hei := eq8_iff r0 r1 r2 r3 r4 r5 r6 r7 p0 p1 p2 p3 p4 p5 p6 p7
    have he := fun W => eq8_run r0 r1 r2 r3 r4 r5 r6 r7 p0 p1 p2 p3 p4 p5 p6 p7 W
    obtain ⟨eb, heb⟩ : ∃ eb, (r0 == p0 && (r1 == p1 && (r2 == p2 && (r3 == p3 && (r4 == p4 && (r5 == p5 && (r6 == p6 && (r7 == p7)))))))) = eb := ⟨_, rfl⟩
    rw [heb] at hei
    simp only [heb] at he
    clear hei heb hb h1 h2 hO1 hO2 hne he
    go_enter Tryz.func13, Tryz.ntmps13
    go_wp2_with fail
    go_ret
    exact ⟨by rw [HBF.out]; rfl, HBW.out⟩
end Go.Proofs.YtbaofpdjfoaiiaaGreatDoor
