/-
  Values of cells as they lie in memory; a page's cell is read. Written by audit/gen_at.py.
-/
import Derived.Test.YtbaofpdjfoaiiaaGreatDoorZMath
import Derived.Test.YtbaofpdjfoaiiaaGreatDoorZPlace
import Derived.Test.YtbaofpdjfoaiiaaGreatDoorZAddr
import Derived.Test.YtbaofpdjfoaiiaaGreatDoorZRow
import Derived.Deep.RegionHeld3
import Derived.Laws.BitsAllLaws
namespace Go.Proofs.YtbaofpdjfoaiiaaGreatDoor
open Go.ChangeShapes Go.WideShapes Go.ChangeAt Go.RowKit
set_option linter.unusedVariables false
set_option linter.unusedSimpArgs false

theorem Held.drew {w : World} {g : Nat} {t : TypeId} {cs : Array Value} (h : Held w g t cs) : Held w.drew g t cs := h
/-- a right configuration, and as many cells as it has -/
structure HeapV (H : AuH) (n c : Nat) : Prop where
  right : rightB H.t H.p H.s = true
  len : n = 30 + 4 * H.t + 6 * H.p
  cap : n ≤ c
  max : c ≤ maxLen
  lt : ∀ i, i < n → H.V i < 2 ^ 32
/-- n values of cells from ad on -/
def IsVals (w : World) (ad : Addr) (n : Nat) (V : Nat → Nat) : Prop := ad.block < w.heap.size ∧ ∀ i, i < n → w.cell? (ad.add i) = some (.int .u32 (V i : Nat))
theorem IsVals.below {w w' : World} {ad : Addr} {n : Nat} {V : Nat → Nat} (h : IsVals w ad n V) (hb : Below w.heap.size w w') : IsVals w' ad n V :=
  ⟨Nat.lt_of_lt_of_le h.1 hb.size, fun i hi => by
    have e : (ad.add i).block < w.heap.size := by rw [block_of_add]; exact h.1
    exact (hb.cell e).trans (h.2 i hi)⟩
theorem IsVals.drew {w : World} {ad : Addr} {n : Nat} {V : Nat → Nat} (h : IsVals w ad n V) : IsVals w.drew ad n V := h
theorem HeapV.nums {H : AuH} {n c : Nat} (h : HeapV H n c) : 1 ≤ H.t ∧ H.t ≤ 16 ∧ 4 ≤ H.p ∧ H.p ≤ 1024 ∧ 10 ≤ H.s ∧ H.s ≤ 20 ∧ n ≤ 6238 ∧ n ≤ c ∧ c ≤ maxLen := by
  have h1 := (rightB_iff _ _ _).1 h.right
  have h2 := h.len
  have h3 := h.cap
  have h4 := h.max
  omega
theorem HeapV.cel_lt {H : AuH} {n c : Nat} (h : HeapV H n c) {q b : Nat} (hq : q < H.p) (hb : b < 6) : H.cel q b < 2 ^ 32 := h.lt _ (by have := h.len; omega)
theorem HeapV.page {H : AuH} {n c : Nat} (h : HeapV H n c) {q b : Nat} (hq : q < H.p) (hb : b < 6) : pageI H.t H.p H.s q b = ((30 + 4 * H.t + 6 * q + b : Nat) : Int) := by
  rw [pcell_yes h.right (by omega) (by omega) (by omega) (by omega)]
  push_cast
  omega
def hpV (H : AuH) (ad : Addr) (n c : Nat) : Value := .agg #[.int .i64 (H.t : Int), .int .i64 (H.p : Int), .int .i64 (H.s : Int), .slice (some ad) n c]

set_option maxHeartbeats 1600000 in
theorem auAt_Info_c {H : AuH} {n c : Nat} (HV : HeapV H n c) (ad : Addr) {q : Nat} (hq : q < H.p) (w : World) (hv : IsVals w ad n H.V) :
    Calls Tryz.prog 77 #[hpV H ad n c, .func (.func 78) #[] #[], .int .i64 (q : Int)] w fun e w' => e = .returned (.int .u32 (H.cel q 0 : Nat)) ∧ Below w.heap.size w w' := by
  obtain ⟨i, hi⟩ : ∃ i, 30 + 4 * H.t + 6 * q + 0 = i := ⟨_, rfl⟩
  have hin : i < n := by have := HV.len; omega
  have HI : Hid (pageI H.t H.p H.s q 0 = (i : Int)) := hidp (by have h := HV.page (b := 0) hq (by omega); rw [hi] at h; exact h)
  have hn := HV.nums
  have hc0 := hv.2 i hin
  have hcel : H.cel q 0 = H.V i := by unfold AuH.cel; rw [hi]
  rw [hcel]
  obtain ⟨v, hvv⟩ : ∃ v, H.V i = v := ⟨_, rfl⟩
  rw [hvv] at hc0 ⊢
  have hbl : (ad.add i).block < w.heap.size := by rw [block_of_add]; exact hv.1
  have hc := Held.new w 47 #[.int .i64 (H.t : Int), .int .i64 (H.p : Int), .int .i64 (H.s : Int), .slice (some ad) n c]
  have HS : Hid (∀ w', Below w.heap.size w w' → Held w' w.heap.size 47 #[.int .i64 (H.t : Int), .int .i64 (H.p : Int), .int .i64 (H.s : Int), .slice (some ad) n c] → (fun w' => w'.cell? ⟨w.heap.size, 0, none⟩ = some (.int .i64 (H.t : Int)) ∧ w'.cell? ⟨w.heap.size, 1, none⟩ = some (.int .i64 (H.p : Int)) ∧ w'.cell? ⟨w.heap.size, 2, none⟩ = some (.int .i64 (H.s : Int)) ∧ w'.cell? ⟨w.heap.size, 3, none⟩ = some (.slice (some ad) n c) ∧ w'.cell? (ad.add i) = some (.int .u32 (v : Int))) w') := hidp (fun w' hb hh => ⟨hh.four.1, hh.four.2.1, hh.four.2.2.1, hh.four.2.2.2, (hb.cell hbl).trans hc0⟩)
  have hcx : c ≤ 9223372036854775807 := hn.2.2.2.2.2.2.2.2
  have hni : n ≤ 6238 := hn.2.2.2.2.2.2.1
  have hnc := HV.cap
  clear hv hc0 hbl hcel hvv hi hn hq
  unfold hpV
  go_enter Tryz.func77, Tryz.ntmps77
  go_wp2_with fail
  refine wp_region_held_drew (S := (fun w' => w'.cell? ⟨w.heap.size, 0, none⟩ = some (.int .i64 (H.t : Int)) ∧ w'.cell? ⟨w.heap.size, 1, none⟩ = some (.int .i64 (H.p : Int)) ∧ w'.cell? ⟨w.heap.size, 2, none⟩ = some (.int .i64 (H.s : Int)) ∧ w'.cell? ⟨w.heap.size, 3, none⟩ = some (.slice (some ad) n c) ∧ w'.cell? (ad.add i) = some (.int .u32 (v : Int)))) (by kernel_rfl) ?_ (fun hHeld => ?_)
  · (try dsimp only)
    first | exact HS.out _ (Bdrew (Bnew (B0 w) _)) hc | exact HS.out _ HB1.out HC1.out | exact hHeld
  refine tkO (i := 0) (v := ?_) rfl (by kernel_rfl) (fun _ _ _ h => h) (by rfl) ?_ (by assumption) ?_
  rotate_left
  · intro w hSw; (try dsimp only at hSw); go_simp; (try with_reducible rfl)
  (try simp only [Act.put, gA, gB, gC, sA, sB, sC])
  refine tkO (i := 1) (v := ?_) rfl (by kernel_rfl) (fun _ _ _ h => h) (by rfl) ?_ (by assumption) ?_
  rotate_left
  · intro w hSw; (try dsimp only at hSw); go_simp; (try with_reducible rfl)
  (try simp only [Act.put, gA, gB, gC, sA, sB, sC])
  refine tkO (i := 2) (v := ?_) rfl (by kernel_rfl) (fun _ _ _ h => h) (by rfl) ?_ (by assumption) ?_
  rotate_left
  · intro w hSw; (try dsimp only at hSw); go_simp; (try with_reducible rfl)
  (try simp only [Act.put, gA, gB, gC, sA, sB, sC])
  refine tkO (i := 3) (v := ?_) rfl (by kernel_rfl) (fun _ _ _ h => h) (by rfl) ?_ (by assumption) ?_
  rotate_left
  · intro w hSw; (try dsimp only at hSw); go_simp; (try with_reducible rfl)
  (try simp only [Act.put, gA, gB, gC, sA, sB, sC])
  refine tkO (i := 4) (v := ?_) rfl (by kernel_rfl) (fun _ _ _ h => h) (by rfl) ?_ (by assumption) ?_
  rotate_left
  · intro w hSw; (try dsimp only at hSw); go_simp; (try with_reducible rfl)
  (try simp only [Act.put, gA, gB, gC, sA, sB, sC])
  refine tkO (i := 5) (v := ?_) rfl (by kernel_rfl) (fun _ _ _ h => h) (by rfl) ?_ (by assumption) ?_
  rotate_left
  · intro w hSw; (try dsimp only at hSw); go_simp; (try with_reducible rfl)
  (try simp only [Act.put, gA, gB, gC, sA, sB, sC])
  refine wpAnyH_ready (rs := [6]) (by kernel_rfl) (by simp) ?_
  refine AllReadyH.cons (o := _) rfl (fun K hK => ?_) AllReadyH.nil
  go_simp
  (go_at_call 78; refine (plInfo_c _ _ _ _ _).mono ?_; rintro e w1 ⟨rfl, hb1⟩; rw [HI.out]; have HB1 := hidp (Bgo (Bdrew (Bnew (B0 w) _)) hb1); have HC1 := hidp (hc.drew.keep hb1); clear hb1)
  refine hK.out _ _ ?_ (fun hHeld => ?_)
  · (try dsimp only)
    first | exact HS.out _ (Bdrew (Bnew (B0 w) _)) hc | exact HS.out _ HB1.out HC1.out | exact hHeld
  clear hK K
  (try simp only [Act.put, gA, gB, gC, sA, sB, sC])
  refine tkO (i := 7) (v := ?_) rfl (by kernel_rfl) (fun _ _ _ h => h) (by rfl) ?_ (by assumption) ?_
  rotate_left
  · intro w hSw; (try dsimp only at hSw); go_simp; (try with_reducible rfl)
  (try simp only [Act.put, gA, gB, gC, sA, sB, sC])
  refine tkO (i := 8) (v := ?_) rfl (by kernel_rfl) (fun _ _ _ h => h) (by rfl) ?_ (by assumption) ?_
  rotate_left
  · intro w hSw; (try dsimp only at hSw); go_simp; (try with_reducible rfl)
  (try simp only [Act.put, gA, gB, gC, sA, sB, sC])
  refine tkO (i := 9) (v := ?_) rfl (by kernel_rfl) (fun _ _ _ h => h) (by rfl) ?_ (by assumption) ?_
  rotate_left
  · intro w hSw; (try dsimp only at hSw); go_simp; (try with_reducible rfl)
  (try simp only [Act.put, gA, gB, gC, sA, sB, sC])
  refine wpAnyH_done (by kernel_rfl) ?_ _
  go_wp2
  go_ret
  exact ⟨rfl, HB1.out⟩

set_option maxHeartbeats 1600000 in
theorem auAt_Foot_c {H : AuH} {n c : Nat} (HV : HeapV H n c) (ad : Addr) {q : Nat} (hq : q < H.p) (w : World) (hv : IsVals w ad n H.V) :
    Calls Tryz.prog 77 #[hpV H ad n c, .func (.func 79) #[] #[], .int .i64 (q : Int)] w fun e w' => e = .returned (.int .u32 (H.cel q 1 : Nat)) ∧ Below w.heap.size w w' := by
  obtain ⟨i, hi⟩ : ∃ i, 30 + 4 * H.t + 6 * q + 1 = i := ⟨_, rfl⟩
  have hin : i < n := by have := HV.len; omega
  have HI : Hid (pageI H.t H.p H.s q 1 = (i : Int)) := hidp (by have h := HV.page (b := 1) hq (by omega); rw [hi] at h; exact h)
  have hn := HV.nums
  have hc0 := hv.2 i hin
  have hcel : H.cel q 1 = H.V i := by unfold AuH.cel; rw [hi]
  rw [hcel]
  obtain ⟨v, hvv⟩ : ∃ v, H.V i = v := ⟨_, rfl⟩
  rw [hvv] at hc0 ⊢
  have hbl : (ad.add i).block < w.heap.size := by rw [block_of_add]; exact hv.1
  have hc := Held.new w 47 #[.int .i64 (H.t : Int), .int .i64 (H.p : Int), .int .i64 (H.s : Int), .slice (some ad) n c]
  have HS : Hid (∀ w', Below w.heap.size w w' → Held w' w.heap.size 47 #[.int .i64 (H.t : Int), .int .i64 (H.p : Int), .int .i64 (H.s : Int), .slice (some ad) n c] → (fun w' => w'.cell? ⟨w.heap.size, 0, none⟩ = some (.int .i64 (H.t : Int)) ∧ w'.cell? ⟨w.heap.size, 1, none⟩ = some (.int .i64 (H.p : Int)) ∧ w'.cell? ⟨w.heap.size, 2, none⟩ = some (.int .i64 (H.s : Int)) ∧ w'.cell? ⟨w.heap.size, 3, none⟩ = some (.slice (some ad) n c) ∧ w'.cell? (ad.add i) = some (.int .u32 (v : Int))) w') := hidp (fun w' hb hh => ⟨hh.four.1, hh.four.2.1, hh.four.2.2.1, hh.four.2.2.2, (hb.cell hbl).trans hc0⟩)
  have hcx : c ≤ 9223372036854775807 := hn.2.2.2.2.2.2.2.2
  have hni : n ≤ 6238 := hn.2.2.2.2.2.2.1
  have hnc := HV.cap
  clear hv hc0 hbl hcel hvv hi hn hq
  unfold hpV
  go_enter Tryz.func77, Tryz.ntmps77
  go_wp2_with fail
  refine wp_region_held_drew (S := (fun w' => w'.cell? ⟨w.heap.size, 0, none⟩ = some (.int .i64 (H.t : Int)) ∧ w'.cell? ⟨w.heap.size, 1, none⟩ = some (.int .i64 (H.p : Int)) ∧ w'.cell? ⟨w.heap.size, 2, none⟩ = some (.int .i64 (H.s : Int)) ∧ w'.cell? ⟨w.heap.size, 3, none⟩ = some (.slice (some ad) n c) ∧ w'.cell? (ad.add i) = some (.int .u32 (v : Int)))) (by kernel_rfl) ?_ (fun hHeld => ?_)
  · (try dsimp only)
    first | exact HS.out _ (Bdrew (Bnew (B0 w) _)) hc | exact HS.out _ HB1.out HC1.out | exact hHeld
  refine tkO (i := 0) (v := ?_) rfl (by kernel_rfl) (fun _ _ _ h => h) (by rfl) ?_ (by assumption) ?_
  rotate_left
  · intro w hSw; (try dsimp only at hSw); go_simp; (try with_reducible rfl)
  (try simp only [Act.put, gA, gB, gC, sA, sB, sC])
  refine tkO (i := 1) (v := ?_) rfl (by kernel_rfl) (fun _ _ _ h => h) (by rfl) ?_ (by assumption) ?_
  rotate_left
  · intro w hSw; (try dsimp only at hSw); go_simp; (try with_reducible rfl)
  (try simp only [Act.put, gA, gB, gC, sA, sB, sC])
  refine tkO (i := 2) (v := ?_) rfl (by kernel_rfl) (fun _ _ _ h => h) (by rfl) ?_ (by assumption) ?_
  rotate_left
  · intro w hSw; (try dsimp only at hSw); go_simp; (try with_reducible rfl)
  (try simp only [Act.put, gA, gB, gC, sA, sB, sC])
  refine tkO (i := 3) (v := ?_) rfl (by kernel_rfl) (fun _ _ _ h => h) (by rfl) ?_ (by assumption) ?_
  rotate_left
  · intro w hSw; (try dsimp only at hSw); go_simp; (try with_reducible rfl)
  (try simp only [Act.put, gA, gB, gC, sA, sB, sC])
  refine tkO (i := 4) (v := ?_) rfl (by kernel_rfl) (fun _ _ _ h => h) (by rfl) ?_ (by assumption) ?_
  rotate_left
  · intro w hSw; (try dsimp only at hSw); go_simp; (try with_reducible rfl)
  (try simp only [Act.put, gA, gB, gC, sA, sB, sC])
  refine tkO (i := 5) (v := ?_) rfl (by kernel_rfl) (fun _ _ _ h => h) (by rfl) ?_ (by assumption) ?_
  rotate_left
  · intro w hSw; (try dsimp only at hSw); go_simp; (try with_reducible rfl)
  (try simp only [Act.put, gA, gB, gC, sA, sB, sC])
  refine wpAnyH_ready (rs := [6]) (by kernel_rfl) (by simp) ?_
  refine AllReadyH.cons (o := _) rfl (fun K hK => ?_) AllReadyH.nil
  go_simp
  (go_at_call 79; refine (plFoot_c _ _ _ _ _).mono ?_; rintro e w1 ⟨rfl, hb1⟩; rw [HI.out]; have HB1 := hidp (Bgo (Bdrew (Bnew (B0 w) _)) hb1); have HC1 := hidp (hc.drew.keep hb1); clear hb1)
  refine hK.out _ _ ?_ (fun hHeld => ?_)
  · (try dsimp only)
    first | exact HS.out _ (Bdrew (Bnew (B0 w) _)) hc | exact HS.out _ HB1.out HC1.out | exact hHeld
  clear hK K
  (try simp only [Act.put, gA, gB, gC, sA, sB, sC])
  refine tkO (i := 7) (v := ?_) rfl (by kernel_rfl) (fun _ _ _ h => h) (by rfl) ?_ (by assumption) ?_
  rotate_left
  · intro w hSw; (try dsimp only at hSw); go_simp; (try with_reducible rfl)
  (try simp only [Act.put, gA, gB, gC, sA, sB, sC])
  refine tkO (i := 8) (v := ?_) rfl (by kernel_rfl) (fun _ _ _ h => h) (by rfl) ?_ (by assumption) ?_
  rotate_left
  · intro w hSw; (try dsimp only at hSw); go_simp; (try with_reducible rfl)
  (try simp only [Act.put, gA, gB, gC, sA, sB, sC])
  refine tkO (i := 9) (v := ?_) rfl (by kernel_rfl) (fun _ _ _ h => h) (by rfl) ?_ (by assumption) ?_
  rotate_left
  · intro w hSw; (try dsimp only at hSw); go_simp; (try with_reducible rfl)
  (try simp only [Act.put, gA, gB, gC, sA, sB, sC])
  refine wpAnyH_done (by kernel_rfl) ?_ _
  go_wp2
  go_ret
  exact ⟨rfl, HB1.out⟩

set_option maxHeartbeats 1600000 in
theorem auAt_Next_c {H : AuH} {n c : Nat} (HV : HeapV H n c) (ad : Addr) {q : Nat} (hq : q < H.p) (w : World) (hv : IsVals w ad n H.V) :
    Calls Tryz.prog 77 #[hpV H ad n c, .func (.func 88) #[] #[], .int .i64 (q : Int)] w fun e w' => e = .returned (.int .u32 (H.cel q 2 : Nat)) ∧ Below w.heap.size w w' := by
  obtain ⟨i, hi⟩ : ∃ i, 30 + 4 * H.t + 6 * q + 2 = i := ⟨_, rfl⟩
  have hin : i < n := by have := HV.len; omega
  have HI : Hid (pageI H.t H.p H.s q 2 = (i : Int)) := hidp (by have h := HV.page (b := 2) hq (by omega); rw [hi] at h; exact h)
  have hn := HV.nums
  have hc0 := hv.2 i hin
  have hcel : H.cel q 2 = H.V i := by unfold AuH.cel; rw [hi]
  rw [hcel]
  obtain ⟨v, hvv⟩ : ∃ v, H.V i = v := ⟨_, rfl⟩
  rw [hvv] at hc0 ⊢
  have hbl : (ad.add i).block < w.heap.size := by rw [block_of_add]; exact hv.1
  have hc := Held.new w 47 #[.int .i64 (H.t : Int), .int .i64 (H.p : Int), .int .i64 (H.s : Int), .slice (some ad) n c]
  have HS : Hid (∀ w', Below w.heap.size w w' → Held w' w.heap.size 47 #[.int .i64 (H.t : Int), .int .i64 (H.p : Int), .int .i64 (H.s : Int), .slice (some ad) n c] → (fun w' => w'.cell? ⟨w.heap.size, 0, none⟩ = some (.int .i64 (H.t : Int)) ∧ w'.cell? ⟨w.heap.size, 1, none⟩ = some (.int .i64 (H.p : Int)) ∧ w'.cell? ⟨w.heap.size, 2, none⟩ = some (.int .i64 (H.s : Int)) ∧ w'.cell? ⟨w.heap.size, 3, none⟩ = some (.slice (some ad) n c) ∧ w'.cell? (ad.add i) = some (.int .u32 (v : Int))) w') := hidp (fun w' hb hh => ⟨hh.four.1, hh.four.2.1, hh.four.2.2.1, hh.four.2.2.2, (hb.cell hbl).trans hc0⟩)
  have hcx : c ≤ 9223372036854775807 := hn.2.2.2.2.2.2.2.2
  have hni : n ≤ 6238 := hn.2.2.2.2.2.2.1
  have hnc := HV.cap
  clear hv hc0 hbl hcel hvv hi hn hq
  unfold hpV
  go_enter Tryz.func77, Tryz.ntmps77
  go_wp2_with fail
  refine wp_region_held_drew (S := (fun w' => w'.cell? ⟨w.heap.size, 0, none⟩ = some (.int .i64 (H.t : Int)) ∧ w'.cell? ⟨w.heap.size, 1, none⟩ = some (.int .i64 (H.p : Int)) ∧ w'.cell? ⟨w.heap.size, 2, none⟩ = some (.int .i64 (H.s : Int)) ∧ w'.cell? ⟨w.heap.size, 3, none⟩ = some (.slice (some ad) n c) ∧ w'.cell? (ad.add i) = some (.int .u32 (v : Int)))) (by kernel_rfl) ?_ (fun hHeld => ?_)
  · (try dsimp only)
    first | exact HS.out _ (Bdrew (Bnew (B0 w) _)) hc | exact HS.out _ HB1.out HC1.out | exact hHeld
  refine tkO (i := 0) (v := ?_) rfl (by kernel_rfl) (fun _ _ _ h => h) (by rfl) ?_ (by assumption) ?_
  rotate_left
  · intro w hSw; (try dsimp only at hSw); go_simp; (try with_reducible rfl)
  (try simp only [Act.put, gA, gB, gC, sA, sB, sC])
  refine tkO (i := 1) (v := ?_) rfl (by kernel_rfl) (fun _ _ _ h => h) (by rfl) ?_ (by assumption) ?_
  rotate_left
  · intro w hSw; (try dsimp only at hSw); go_simp; (try with_reducible rfl)
  (try simp only [Act.put, gA, gB, gC, sA, sB, sC])
  refine tkO (i := 2) (v := ?_) rfl (by kernel_rfl) (fun _ _ _ h => h) (by rfl) ?_ (by assumption) ?_
  rotate_left
  · intro w hSw; (try dsimp only at hSw); go_simp; (try with_reducible rfl)
  (try simp only [Act.put, gA, gB, gC, sA, sB, sC])
  refine tkO (i := 3) (v := ?_) rfl (by kernel_rfl) (fun _ _ _ h => h) (by rfl) ?_ (by assumption) ?_
  rotate_left
  · intro w hSw; (try dsimp only at hSw); go_simp; (try with_reducible rfl)
  (try simp only [Act.put, gA, gB, gC, sA, sB, sC])
  refine tkO (i := 4) (v := ?_) rfl (by kernel_rfl) (fun _ _ _ h => h) (by rfl) ?_ (by assumption) ?_
  rotate_left
  · intro w hSw; (try dsimp only at hSw); go_simp; (try with_reducible rfl)
  (try simp only [Act.put, gA, gB, gC, sA, sB, sC])
  refine tkO (i := 5) (v := ?_) rfl (by kernel_rfl) (fun _ _ _ h => h) (by rfl) ?_ (by assumption) ?_
  rotate_left
  · intro w hSw; (try dsimp only at hSw); go_simp; (try with_reducible rfl)
  (try simp only [Act.put, gA, gB, gC, sA, sB, sC])
  refine wpAnyH_ready (rs := [6]) (by kernel_rfl) (by simp) ?_
  refine AllReadyH.cons (o := _) rfl (fun K hK => ?_) AllReadyH.nil
  go_simp
  (go_at_call 88; refine (plNext_c _ _ _ _ _).mono ?_; rintro e w1 ⟨rfl, hb1⟩; rw [HI.out]; have HB1 := hidp (Bgo (Bdrew (Bnew (B0 w) _)) hb1); have HC1 := hidp (hc.drew.keep hb1); clear hb1)
  refine hK.out _ _ ?_ (fun hHeld => ?_)
  · (try dsimp only)
    first | exact HS.out _ (Bdrew (Bnew (B0 w) _)) hc | exact HS.out _ HB1.out HC1.out | exact hHeld
  clear hK K
  (try simp only [Act.put, gA, gB, gC, sA, sB, sC])
  refine tkO (i := 7) (v := ?_) rfl (by kernel_rfl) (fun _ _ _ h => h) (by rfl) ?_ (by assumption) ?_
  rotate_left
  · intro w hSw; (try dsimp only at hSw); go_simp; (try with_reducible rfl)
  (try simp only [Act.put, gA, gB, gC, sA, sB, sC])
  refine tkO (i := 8) (v := ?_) rfl (by kernel_rfl) (fun _ _ _ h => h) (by rfl) ?_ (by assumption) ?_
  rotate_left
  · intro w hSw; (try dsimp only at hSw); go_simp; (try with_reducible rfl)
  (try simp only [Act.put, gA, gB, gC, sA, sB, sC])
  refine tkO (i := 9) (v := ?_) rfl (by kernel_rfl) (fun _ _ _ h => h) (by rfl) ?_ (by assumption) ?_
  rotate_left
  · intro w hSw; (try dsimp only at hSw); go_simp; (try with_reducible rfl)
  (try simp only [Act.put, gA, gB, gC, sA, sB, sC])
  refine wpAnyH_done (by kernel_rfl) ?_ _
  go_wp2
  go_ret
  exact ⟨rfl, HB1.out⟩

set_option maxHeartbeats 1600000 in
theorem auAt_Prev_c {H : AuH} {n c : Nat} (HV : HeapV H n c) (ad : Addr) {q : Nat} (hq : q < H.p) (w : World) (hv : IsVals w ad n H.V) :
    Calls Tryz.prog 77 #[hpV H ad n c, .func (.func 89) #[] #[], .int .i64 (q : Int)] w fun e w' => e = .returned (.int .u32 (H.cel q 3 : Nat)) ∧ Below w.heap.size w w' := by
  obtain ⟨i, hi⟩ : ∃ i, 30 + 4 * H.t + 6 * q + 3 = i := ⟨_, rfl⟩
  have hin : i < n := by have := HV.len; omega
  have HI : Hid (pageI H.t H.p H.s q 3 = (i : Int)) := hidp (by have h := HV.page (b := 3) hq (by omega); rw [hi] at h; exact h)
  have hn := HV.nums
  have hc0 := hv.2 i hin
  have hcel : H.cel q 3 = H.V i := by unfold AuH.cel; rw [hi]
  rw [hcel]
  obtain ⟨v, hvv⟩ : ∃ v, H.V i = v := ⟨_, rfl⟩
  rw [hvv] at hc0 ⊢
  have hbl : (ad.add i).block < w.heap.size := by rw [block_of_add]; exact hv.1
  have hc := Held.new w 47 #[.int .i64 (H.t : Int), .int .i64 (H.p : Int), .int .i64 (H.s : Int), .slice (some ad) n c]
  have HS : Hid (∀ w', Below w.heap.size w w' → Held w' w.heap.size 47 #[.int .i64 (H.t : Int), .int .i64 (H.p : Int), .int .i64 (H.s : Int), .slice (some ad) n c] → (fun w' => w'.cell? ⟨w.heap.size, 0, none⟩ = some (.int .i64 (H.t : Int)) ∧ w'.cell? ⟨w.heap.size, 1, none⟩ = some (.int .i64 (H.p : Int)) ∧ w'.cell? ⟨w.heap.size, 2, none⟩ = some (.int .i64 (H.s : Int)) ∧ w'.cell? ⟨w.heap.size, 3, none⟩ = some (.slice (some ad) n c) ∧ w'.cell? (ad.add i) = some (.int .u32 (v : Int))) w') := hidp (fun w' hb hh => ⟨hh.four.1, hh.four.2.1, hh.four.2.2.1, hh.four.2.2.2, (hb.cell hbl).trans hc0⟩)
  have hcx : c ≤ 9223372036854775807 := hn.2.2.2.2.2.2.2.2
  have hni : n ≤ 6238 := hn.2.2.2.2.2.2.1
  have hnc := HV.cap
  clear hv hc0 hbl hcel hvv hi hn hq
  unfold hpV
  go_enter Tryz.func77, Tryz.ntmps77
  go_wp2_with fail
  refine wp_region_held_drew (S := (fun w' => w'.cell? ⟨w.heap.size, 0, none⟩ = some (.int .i64 (H.t : Int)) ∧ w'.cell? ⟨w.heap.size, 1, none⟩ = some (.int .i64 (H.p : Int)) ∧ w'.cell? ⟨w.heap.size, 2, none⟩ = some (.int .i64 (H.s : Int)) ∧ w'.cell? ⟨w.heap.size, 3, none⟩ = some (.slice (some ad) n c) ∧ w'.cell? (ad.add i) = some (.int .u32 (v : Int)))) (by kernel_rfl) ?_ (fun hHeld => ?_)
  · (try dsimp only)
    first | exact HS.out _ (Bdrew (Bnew (B0 w) _)) hc | exact HS.out _ HB1.out HC1.out | exact hHeld
  refine tkO (i := 0) (v := ?_) rfl (by kernel_rfl) (fun _ _ _ h => h) (by rfl) ?_ (by assumption) ?_
  rotate_left
  · intro w hSw; (try dsimp only at hSw); go_simp; (try with_reducible rfl)
  (try simp only [Act.put, gA, gB, gC, sA, sB, sC])
  refine tkO (i := 1) (v := ?_) rfl (by kernel_rfl) (fun _ _ _ h => h) (by rfl) ?_ (by assumption) ?_
  rotate_left
  · intro w hSw; (try dsimp only at hSw); go_simp; (try with_reducible rfl)
  (try simp only [Act.put, gA, gB, gC, sA, sB, sC])
  refine tkO (i := 2) (v := ?_) rfl (by kernel_rfl) (fun _ _ _ h => h) (by rfl) ?_ (by assumption) ?_
  rotate_left
  · intro w hSw; (try dsimp only at hSw); go_simp; (try with_reducible rfl)
  (try simp only [Act.put, gA, gB, gC, sA, sB, sC])
  refine tkO (i := 3) (v := ?_) rfl (by kernel_rfl) (fun _ _ _ h => h) (by rfl) ?_ (by assumption) ?_
  rotate_left
  · intro w hSw; (try dsimp only at hSw); go_simp; (try with_reducible rfl)
  (try simp only [Act.put, gA, gB, gC, sA, sB, sC])
  refine tkO (i := 4) (v := ?_) rfl (by kernel_rfl) (fun _ _ _ h => h) (by rfl) ?_ (by assumption) ?_
  rotate_left
  · intro w hSw; (try dsimp only at hSw); go_simp; (try with_reducible rfl)
  (try simp only [Act.put, gA, gB, gC, sA, sB, sC])
  refine tkO (i := 5) (v := ?_) rfl (by kernel_rfl) (fun _ _ _ h => h) (by rfl) ?_ (by assumption) ?_
  rotate_left
  · intro w hSw; (try dsimp only at hSw); go_simp; (try with_reducible rfl)
  (try simp only [Act.put, gA, gB, gC, sA, sB, sC])
  refine wpAnyH_ready (rs := [6]) (by kernel_rfl) (by simp) ?_
  refine AllReadyH.cons (o := _) rfl (fun K hK => ?_) AllReadyH.nil
  go_simp
  (go_at_call 89; refine (plPrev_c _ _ _ _ _).mono ?_; rintro e w1 ⟨rfl, hb1⟩; rw [HI.out]; have HB1 := hidp (Bgo (Bdrew (Bnew (B0 w) _)) hb1); have HC1 := hidp (hc.drew.keep hb1); clear hb1)
  refine hK.out _ _ ?_ (fun hHeld => ?_)
  · (try dsimp only)
    first | exact HS.out _ (Bdrew (Bnew (B0 w) _)) hc | exact HS.out _ HB1.out HC1.out | exact hHeld
  clear hK K
  (try simp only [Act.put, gA, gB, gC, sA, sB, sC])
  refine tkO (i := 7) (v := ?_) rfl (by kernel_rfl) (fun _ _ _ h => h) (by rfl) ?_ (by assumption) ?_
  rotate_left
  · intro w hSw; (try dsimp only at hSw); go_simp; (try with_reducible rfl)
  (try simp only [Act.put, gA, gB, gC, sA, sB, sC])
  refine tkO (i := 8) (v := ?_) rfl (by kernel_rfl) (fun _ _ _ h => h) (by rfl) ?_ (by assumption) ?_
  rotate_left
  · intro w hSw; (try dsimp only at hSw); go_simp; (try with_reducible rfl)
  (try simp only [Act.put, gA, gB, gC, sA, sB, sC])
  refine tkO (i := 9) (v := ?_) rfl (by kernel_rfl) (fun _ _ _ h => h) (by rfl) ?_ (by assumption) ?_
  rotate_left
  · intro w hSw; (try dsimp only at hSw); go_simp; (try with_reducible rfl)
  (try simp only [Act.put, gA, gB, gC, sA, sB, sC])
  refine wpAnyH_done (by kernel_rfl) ?_ _
  go_wp2
  go_ret
  exact ⟨rfl, HB1.out⟩

set_option maxHeartbeats 1600000 in
theorem auAt_Slots_c {H : AuH} {n c : Nat} (HV : HeapV H n c) (ad : Addr) {q : Nat} (hq : q < H.p) (w : World) (hv : IsVals w ad n H.V) :
    Calls Tryz.prog 77 #[hpV H ad n c, .func (.func 83) #[] #[], .int .i64 (q : Int)] w fun e w' => e = .returned (.int .u32 (H.cel q 4 : Nat)) ∧ Below w.heap.size w w' := by
  obtain ⟨i, hi⟩ : ∃ i, 30 + 4 * H.t + 6 * q + 4 = i := ⟨_, rfl⟩
  have hin : i < n := by have := HV.len; omega
  have HI : Hid (pageI H.t H.p H.s q 4 = (i : Int)) := hidp (by have h := HV.page (b := 4) hq (by omega); rw [hi] at h; exact h)
  have hn := HV.nums
  have hc0 := hv.2 i hin
  have hcel : H.cel q 4 = H.V i := by unfold AuH.cel; rw [hi]
  rw [hcel]
  obtain ⟨v, hvv⟩ : ∃ v, H.V i = v := ⟨_, rfl⟩
  rw [hvv] at hc0 ⊢
  have hbl : (ad.add i).block < w.heap.size := by rw [block_of_add]; exact hv.1
  have hc := Held.new w 47 #[.int .i64 (H.t : Int), .int .i64 (H.p : Int), .int .i64 (H.s : Int), .slice (some ad) n c]
  have HS : Hid (∀ w', Below w.heap.size w w' → Held w' w.heap.size 47 #[.int .i64 (H.t : Int), .int .i64 (H.p : Int), .int .i64 (H.s : Int), .slice (some ad) n c] → (fun w' => w'.cell? ⟨w.heap.size, 0, none⟩ = some (.int .i64 (H.t : Int)) ∧ w'.cell? ⟨w.heap.size, 1, none⟩ = some (.int .i64 (H.p : Int)) ∧ w'.cell? ⟨w.heap.size, 2, none⟩ = some (.int .i64 (H.s : Int)) ∧ w'.cell? ⟨w.heap.size, 3, none⟩ = some (.slice (some ad) n c) ∧ w'.cell? (ad.add i) = some (.int .u32 (v : Int))) w') := hidp (fun w' hb hh => ⟨hh.four.1, hh.four.2.1, hh.four.2.2.1, hh.four.2.2.2, (hb.cell hbl).trans hc0⟩)
  have hcx : c ≤ 9223372036854775807 := hn.2.2.2.2.2.2.2.2
  have hni : n ≤ 6238 := hn.2.2.2.2.2.2.1
  have hnc := HV.cap
  clear hv hc0 hbl hcel hvv hi hn hq
  unfold hpV
  go_enter Tryz.func77, Tryz.ntmps77
  go_wp2_with fail
  refine wp_region_held_drew (S := (fun w' => w'.cell? ⟨w.heap.size, 0, none⟩ = some (.int .i64 (H.t : Int)) ∧ w'.cell? ⟨w.heap.size, 1, none⟩ = some (.int .i64 (H.p : Int)) ∧ w'.cell? ⟨w.heap.size, 2, none⟩ = some (.int .i64 (H.s : Int)) ∧ w'.cell? ⟨w.heap.size, 3, none⟩ = some (.slice (some ad) n c) ∧ w'.cell? (ad.add i) = some (.int .u32 (v : Int)))) (by kernel_rfl) ?_ (fun hHeld => ?_)
  · (try dsimp only)
    first | exact HS.out _ (Bdrew (Bnew (B0 w) _)) hc | exact HS.out _ HB1.out HC1.out | exact hHeld
  refine tkO (i := 0) (v := ?_) rfl (by kernel_rfl) (fun _ _ _ h => h) (by rfl) ?_ (by assumption) ?_
  rotate_left
  · intro w hSw; (try dsimp only at hSw); go_simp; (try with_reducible rfl)
  (try simp only [Act.put, gA, gB, gC, sA, sB, sC])
  refine tkO (i := 1) (v := ?_) rfl (by kernel_rfl) (fun _ _ _ h => h) (by rfl) ?_ (by assumption) ?_
  rotate_left
  · intro w hSw; (try dsimp only at hSw); go_simp; (try with_reducible rfl)
  (try simp only [Act.put, gA, gB, gC, sA, sB, sC])
  refine tkO (i := 2) (v := ?_) rfl (by kernel_rfl) (fun _ _ _ h => h) (by rfl) ?_ (by assumption) ?_
  rotate_left
  · intro w hSw; (try dsimp only at hSw); go_simp; (try with_reducible rfl)
  (try simp only [Act.put, gA, gB, gC, sA, sB, sC])
  refine tkO (i := 3) (v := ?_) rfl (by kernel_rfl) (fun _ _ _ h => h) (by rfl) ?_ (by assumption) ?_
  rotate_left
  · intro w hSw; (try dsimp only at hSw); go_simp; (try with_reducible rfl)
  (try simp only [Act.put, gA, gB, gC, sA, sB, sC])
  refine tkO (i := 4) (v := ?_) rfl (by kernel_rfl) (fun _ _ _ h => h) (by rfl) ?_ (by assumption) ?_
  rotate_left
  · intro w hSw; (try dsimp only at hSw); go_simp; (try with_reducible rfl)
  (try simp only [Act.put, gA, gB, gC, sA, sB, sC])
  refine tkO (i := 5) (v := ?_) rfl (by kernel_rfl) (fun _ _ _ h => h) (by rfl) ?_ (by assumption) ?_
  rotate_left
  · intro w hSw; (try dsimp only at hSw); go_simp; (try with_reducible rfl)
  (try simp only [Act.put, gA, gB, gC, sA, sB, sC])
  refine wpAnyH_ready (rs := [6]) (by kernel_rfl) (by simp) ?_
  refine AllReadyH.cons (o := _) rfl (fun K hK => ?_) AllReadyH.nil
  go_simp
  (go_at_call 83; refine (plSlots_c _ _ _ _ _).mono ?_; rintro e w1 ⟨rfl, hb1⟩; rw [HI.out]; have HB1 := hidp (Bgo (Bdrew (Bnew (B0 w) _)) hb1); have HC1 := hidp (hc.drew.keep hb1); clear hb1)
  refine hK.out _ _ ?_ (fun hHeld => ?_)
  · (try dsimp only)
    first | exact HS.out _ (Bdrew (Bnew (B0 w) _)) hc | exact HS.out _ HB1.out HC1.out | exact hHeld
  clear hK K
  (try simp only [Act.put, gA, gB, gC, sA, sB, sC])
  refine tkO (i := 7) (v := ?_) rfl (by kernel_rfl) (fun _ _ _ h => h) (by rfl) ?_ (by assumption) ?_
  rotate_left
  · intro w hSw; (try dsimp only at hSw); go_simp; (try with_reducible rfl)
  (try simp only [Act.put, gA, gB, gC, sA, sB, sC])
  refine tkO (i := 8) (v := ?_) rfl (by kernel_rfl) (fun _ _ _ h => h) (by rfl) ?_ (by assumption) ?_
  rotate_left
  · intro w hSw; (try dsimp only at hSw); go_simp; (try with_reducible rfl)
  (try simp only [Act.put, gA, gB, gC, sA, sB, sC])
  refine tkO (i := 9) (v := ?_) rfl (by kernel_rfl) (fun _ _ _ h => h) (by rfl) ?_ (by assumption) ?_
  rotate_left
  · intro w hSw; (try dsimp only at hSw); go_simp; (try with_reducible rfl)
  (try simp only [Act.put, gA, gB, gC, sA, sB, sC])
  refine wpAnyH_done (by kernel_rfl) ?_ _
  go_wp2
  go_ret
  exact ⟨rfl, HB1.out⟩

set_option maxHeartbeats 1600000 in
theorem auAt_Taken_c {H : AuH} {n c : Nat} (HV : HeapV H n c) (ad : Addr) {q : Nat} (hq : q < H.p) (w : World) (hv : IsVals w ad n H.V) :
    Calls Tryz.prog 77 #[hpV H ad n c, .func (.func 82) #[] #[], .int .i64 (q : Int)] w fun e w' => e = .returned (.int .u32 (H.cel q 5 : Nat)) ∧ Below w.heap.size w w' := by
  obtain ⟨i, hi⟩ : ∃ i, 30 + 4 * H.t + 6 * q + 5 = i := ⟨_, rfl⟩
  have hin : i < n := by have := HV.len; omega
  have HI : Hid (pageI H.t H.p H.s q 5 = (i : Int)) := hidp (by have h := HV.page (b := 5) hq (by omega); rw [hi] at h; exact h)
  have hn := HV.nums
  have hc0 := hv.2 i hin
  have hcel : H.cel q 5 = H.V i := by unfold AuH.cel; rw [hi]
  rw [hcel]
  obtain ⟨v, hvv⟩ : ∃ v, H.V i = v := ⟨_, rfl⟩
  rw [hvv] at hc0 ⊢
  have hbl : (ad.add i).block < w.heap.size := by rw [block_of_add]; exact hv.1
  have hc := Held.new w 47 #[.int .i64 (H.t : Int), .int .i64 (H.p : Int), .int .i64 (H.s : Int), .slice (some ad) n c]
  have HS : Hid (∀ w', Below w.heap.size w w' → Held w' w.heap.size 47 #[.int .i64 (H.t : Int), .int .i64 (H.p : Int), .int .i64 (H.s : Int), .slice (some ad) n c] → (fun w' => w'.cell? ⟨w.heap.size, 0, none⟩ = some (.int .i64 (H.t : Int)) ∧ w'.cell? ⟨w.heap.size, 1, none⟩ = some (.int .i64 (H.p : Int)) ∧ w'.cell? ⟨w.heap.size, 2, none⟩ = some (.int .i64 (H.s : Int)) ∧ w'.cell? ⟨w.heap.size, 3, none⟩ = some (.slice (some ad) n c) ∧ w'.cell? (ad.add i) = some (.int .u32 (v : Int))) w') := hidp (fun w' hb hh => ⟨hh.four.1, hh.four.2.1, hh.four.2.2.1, hh.four.2.2.2, (hb.cell hbl).trans hc0⟩)
  have hcx : c ≤ 9223372036854775807 := hn.2.2.2.2.2.2.2.2
  have hni : n ≤ 6238 := hn.2.2.2.2.2.2.1
  have hnc := HV.cap
  clear hv hc0 hbl hcel hvv hi hn hq
  unfold hpV
  go_enter Tryz.func77, Tryz.ntmps77
  go_wp2_with fail
  refine wp_region_held_drew (S := (fun w' => w'.cell? ⟨w.heap.size, 0, none⟩ = some (.int .i64 (H.t : Int)) ∧ w'.cell? ⟨w.heap.size, 1, none⟩ = some (.int .i64 (H.p : Int)) ∧ w'.cell? ⟨w.heap.size, 2, none⟩ = some (.int .i64 (H.s : Int)) ∧ w'.cell? ⟨w.heap.size, 3, none⟩ = some (.slice (some ad) n c) ∧ w'.cell? (ad.add i) = some (.int .u32 (v : Int)))) (by kernel_rfl) ?_ (fun hHeld => ?_)
  · (try dsimp only)
    first | exact HS.out _ (Bdrew (Bnew (B0 w) _)) hc | exact HS.out _ HB1.out HC1.out | exact hHeld
  refine tkO (i := 0) (v := ?_) rfl (by kernel_rfl) (fun _ _ _ h => h) (by rfl) ?_ (by assumption) ?_
  rotate_left
  · intro w hSw; (try dsimp only at hSw); go_simp; (try with_reducible rfl)
  (try simp only [Act.put, gA, gB, gC, sA, sB, sC])
  refine tkO (i := 1) (v := ?_) rfl (by kernel_rfl) (fun _ _ _ h => h) (by rfl) ?_ (by assumption) ?_
  rotate_left
  · intro w hSw; (try dsimp only at hSw); go_simp; (try with_reducible rfl)
  (try simp only [Act.put, gA, gB, gC, sA, sB, sC])
  refine tkO (i := 2) (v := ?_) rfl (by kernel_rfl) (fun _ _ _ h => h) (by rfl) ?_ (by assumption) ?_
  rotate_left
  · intro w hSw; (try dsimp only at hSw); go_simp; (try with_reducible rfl)
  (try simp only [Act.put, gA, gB, gC, sA, sB, sC])
  refine tkO (i := 3) (v := ?_) rfl (by kernel_rfl) (fun _ _ _ h => h) (by rfl) ?_ (by assumption) ?_
  rotate_left
  · intro w hSw; (try dsimp only at hSw); go_simp; (try with_reducible rfl)
  (try simp only [Act.put, gA, gB, gC, sA, sB, sC])
  refine tkO (i := 4) (v := ?_) rfl (by kernel_rfl) (fun _ _ _ h => h) (by rfl) ?_ (by assumption) ?_
  rotate_left
  · intro w hSw; (try dsimp only at hSw); go_simp; (try with_reducible rfl)
  (try simp only [Act.put, gA, gB, gC, sA, sB, sC])
  refine tkO (i := 5) (v := ?_) rfl (by kernel_rfl) (fun _ _ _ h => h) (by rfl) ?_ (by assumption) ?_
  rotate_left
  · intro w hSw; (try dsimp only at hSw); go_simp; (try with_reducible rfl)
  (try simp only [Act.put, gA, gB, gC, sA, sB, sC])
  refine wpAnyH_ready (rs := [6]) (by kernel_rfl) (by simp) ?_
  refine AllReadyH.cons (o := _) rfl (fun K hK => ?_) AllReadyH.nil
  go_simp
  (go_at_call 82; refine (plTaken_c _ _ _ _ _).mono ?_; rintro e w1 ⟨rfl, hb1⟩; rw [HI.out]; have HB1 := hidp (Bgo (Bdrew (Bnew (B0 w) _)) hb1); have HC1 := hidp (hc.drew.keep hb1); clear hb1)
  refine hK.out _ _ ?_ (fun hHeld => ?_)
  · (try dsimp only)
    first | exact HS.out _ (Bdrew (Bnew (B0 w) _)) hc | exact HS.out _ HB1.out HC1.out | exact hHeld
  clear hK K
  (try simp only [Act.put, gA, gB, gC, sA, sB, sC])
  refine tkO (i := 7) (v := ?_) rfl (by kernel_rfl) (fun _ _ _ h => h) (by rfl) ?_ (by assumption) ?_
  rotate_left
  · intro w hSw; (try dsimp only at hSw); go_simp; (try with_reducible rfl)
  (try simp only [Act.put, gA, gB, gC, sA, sB, sC])
  refine tkO (i := 8) (v := ?_) rfl (by kernel_rfl) (fun _ _ _ h => h) (by rfl) ?_ (by assumption) ?_
  rotate_left
  · intro w hSw; (try dsimp only at hSw); go_simp; (try with_reducible rfl)
  (try simp only [Act.put, gA, gB, gC, sA, sB, sC])
  refine tkO (i := 9) (v := ?_) rfl (by kernel_rfl) (fun _ _ _ h => h) (by rfl) ?_ (by assumption) ?_
  rotate_left
  · intro w hSw; (try dsimp only at hSw); go_simp; (try with_reducible rfl)
  (try simp only [Act.put, gA, gB, gC, sA, sB, sC])
  refine wpAnyH_done (by kernel_rfl) ?_ _
  go_wp2
  go_ret
  exact ⟨rfl, HB1.out⟩

end Go.Proofs.YtbaofpdjfoaiiaaGreatDoor

/-
  Package audit's small functions: links, bits of slots, kinds of parts.
-/
namespace Go.Proofs.YtbaofpdjfoaiiaaGreatDoor
open Go.ChangeShapes Go.WideShapes Go.ChangeAt Go.RowKit
set_option linter.unusedVariables false
set_option linter.unusedSimpArgs false

theorem auLink_c (p : Nat) (hp : p < 2000000000) (w : World) :
    Calls Tryz.prog 80 #[.int .i64 (p : Int)] w fun e w' => e = .returned (.int .u32 ((p + 1 : Nat) : Int)) ∧ w = w' := by
  have h1 : IntKind.u32.wrap (p : Int) = (p : Int) := wrap_nat32 p (by omega)
  have h2 : IntKind.u32.wrap ((p : Int) + 1) = (p : Int) + 1 := by have := wrap_nat32 (p + 1) (by omega); push_cast at this; exact this
  go_enter Tryz.func80, Tryz.ntmps80
  go_wp2
  go_ret
  exact ⟨ret_int (by push_cast; rfl), rfl⟩

theorem mask_wrap (n : Nat) (hn : n ≤ 32) : IntKind.u32.wrap (IntKind.u32.wrap (2 ^ n) - 1) = ((2 ^ n - 1 : Nat) : Int) := by
  rcases Nat.lt_or_ge n 32 with h | h
  · have h1 : (2 : Nat) ^ n < 2 ^ 32 := Nat.pow_lt_pow_right (by omega) h
    have h2 : 1 ≤ (2 : Nat) ^ n := Nat.one_le_two_pow
    have e : ((2 : Int) ^ n) = ((2 ^ n : Nat) : Int) := by push_cast; rfl
    rw [e, wrap_nat32 _ h1, show ((2 ^ n : Nat) : Int) - 1 = ((2 ^ n - 1 : Nat) : Int) by omega, wrap_nat32 _ (by omega)]
  · have : n = 32 := by omega
    subst this
    decide
theorem auSlotBits_c (k : Int) (h0 : -9223372036854775808 ≤ k) (h1 : k ≤ 9223372036854775807) (w : World) (hT : SlotsLaid w) :
    Calls Tryz.prog 81 #[.int .i64 k] w fun e w' => e = .returned (.int .u32 ((2 ^ slotI k - 1 : Nat) : Int)) ∧ w = w' := by
  have hs := slotI_le k
  have HM := hidp (mask_wrap (slotI k) hs)
  have HC : Hid (Calls Tryz.prog 101 #[.int .i64 k] w fun e w' => e = .returned (.int .i64 ((slotI k : Nat) : Int)) ∧ w = w') := hidp (clSlots_c k h0 h1 w hT)
  generalize slotI k = n at *
  have q0 : decide ((n : Int) < 0) = false := decide_eq_false (by omega)
  go_enter Tryz.func81, Tryz.ntmps81
  go_wp2_with (first
    | (go_at_call 101; refine HC.out.mono ?_; rintro e w1 ⟨rfl, rfl⟩)
    | fail)
  go_ret
  exact ⟨ret_int (by first | exact HM.out | simpa using HM.out), rfl⟩

theorem auHasSlot_c (v s : Nat) (b : Bool) (hv : v < 2 ^ 32) (hs : s < 32) (hb : v.testBit s = b) (w : World) :
    Calls Tryz.prog 113 #[.int .u32 (v : Int), .int .i64 (s : Int)] w fun e w' => e = .returned (.bool b) ∧ w = w' := by
  have e1 : IntKind.u32.wrap ((v : Int) / 2 ^ s) = ((v / 2 ^ s : Nat) : Int) := by rw [shr_cast]; exact wrap_nat32 _ (Nat.lt_of_le_of_lt (Nat.div_le_self _ _) hv)
  have e2 := shr_cast v s
  have hB := HM.bit_eq v s
  rw [hb] at hB
  have HB : Hid (v / 2 ^ s % 2 = b.toNat) := hidp hB
  have hlt : v / 2 ^ s < 2 ^ 32 := Nat.lt_of_le_of_lt (Nat.div_le_self _ _) hv
  generalize v / 2 ^ s = y at *
  have hA : bits .and .u32 (y : Int) 1 = ((b.toNat : Nat) : Int) := by
    have := u32_and_nat y 1 hlt (by omega)
    rw [Nat.and_one_is_mod, HB.out] at this
    exact this
  have q0 : decide ((s : Int) < 0) = false := decide_eq_false (by omega)
  go_enter Tryz.func113, Tryz.ntmps113
  go_wp2
  go_ret
  refine ⟨ret_bool ?_, rfl⟩
  cases b <;> rfl

/-- the kind of the part that a slot is -/
def slotKd (taken live s : Nat) : Nat := if live.testBit s then 2 else if taken.testBit s then 4 else 3
theorem auSlotKind_c (taken live s : Nat) (ht : taken < 2 ^ 32) (hl : live < 2 ^ 32) (hs : s < 32) (w : World) :
    Calls Tryz.prog 102 #[.int .u32 (taken : Int), .int .u32 (live : Int), .int .i64 (s : Int)] w fun e w' => e = .returned (.int .i64 ((slotKd taken live s : Nat) : Int)) ∧ w = w' := by
  unfold slotKd
  obtain ⟨a, ha⟩ : ∃ a, live.testBit s = a := ⟨_, rfl⟩
  obtain ⟨b, hb⟩ : ∃ b, taken.testBit s = b := ⟨_, rfl⟩
  rw [ha, hb]
  have H1 : Hid (∀ W : World, Calls Tryz.prog 113 #[.int .u32 (live : Int), .int .i64 (s : Int)] W fun e w' => e = .returned (.bool a) ∧ W = w') := hidp (auHasSlot_c live s a hl hs ha)
  have H2 : Hid (∀ W : World, Calls Tryz.prog 113 #[.int .u32 (taken : Int), .int .i64 (s : Int)] W fun e w' => e = .returned (.bool b) ∧ W = w') := hidp (auHasSlot_c taken s b ht hs hb)
  clear ha hb
  cases a <;> cases b
  all_goals
    go_enter Tryz.func102, Tryz.ntmps102
    go_wp2_with (first
      | (go_at_call 113; refine (H1.out _).mono ?_; clear H1; rintro e w1 ⟨rfl, rfl⟩)
      | (go_at_call 113; refine (H2.out _).mono ?_; rintro e w1 ⟨rfl, rfl⟩)
      | fail)
    go_ret
    exact ⟨rfl, rfl⟩

/-- the page that a link leads to -/
theorem auLinked_no {H : AuH} {n c : Nat} (HV : HeapV H n c) (ad : Addr) (v : Nat) (hv : v < 2 ^ 32) (h : v = 0 ∨ H.p < v) (w : World) :
    Calls Tryz.prog 125 #[hpV H ad n c, .int .u32 (v : Int)] w fun e w' => e = .returned (.tuple #[.int .i64 0, .bool false]) ∧ Below w.heap.size w w' := by
  have hp := HV.nums.2.2.2.1
  unfold hpV
  rcases h with rfl | h
  · go_enter Tryz.func125, Tryz.ntmps125
    go_wp2
    go_ret2
    exact ⟨rfl, Bnew (B0 _) _⟩
  · have q0 : ((v : Int) == 0) = false := by simp; omega
    have q1 : decide ((H.p : Int) < v) = true := decide_eq_true (by omega)
    have w1 : IntKind.u64.wrap (H.p : Int) = (H.p : Int) := wrap_nat64 _ (by omega)
    have w2 : IntKind.u64.wrap (v : Int) = (v : Int) := wrap_nat64 _ (by omega)
    go_enter Tryz.func125, Tryz.ntmps125
    go_wp2
    go_ret2
    exact ⟨rfl, Bnew (B0 _) _⟩
theorem auLinked_yes {H : AuH} {n c : Nat} (HV : HeapV H n c) (ad : Addr) (q : Nat) (h : q < H.p) (w : World) :
    Calls Tryz.prog 125 #[hpV H ad n c, .int .u32 ((q + 1 : Nat) : Int)] w fun e w' => e = .returned (.tuple #[.int .i64 (q : Int), .bool true]) ∧ Below w.heap.size w w' := by
  have hp := HV.nums.2.2.2.1
  obtain ⟨v, hv⟩ : ∃ v, q + 1 = v := ⟨_, rfl⟩
  rw [hv]
  unfold hpV
  have q0 : ((v : Int) == 0) = false := by simp; omega
  have q1 : decide ((H.p : Int) < v) = false := decide_eq_false (by omega)
  have w1 : IntKind.u64.wrap (H.p : Int) = (H.p : Int) := wrap_nat64 _ (by omega)
  have w2 : IntKind.u64.wrap (v : Int) = (v : Int) := wrap_nat64 _ (by omega)
  have w3 : IntKind.u32.wrap ((v : Int) - 1) = (q : Int) := by rw [show (v : Int) - 1 = (q : Int) by omega]; exact wrap_nat32 _ (by omega)
  go_enter Tryz.func125, Tryz.ntmps125
  go_wp2
  go_ret2
  refine ⟨?_, Bnew (B0 _) _⟩
  simp [w3]
end Go.Proofs.YtbaofpdjfoaiiaaGreatDoor
