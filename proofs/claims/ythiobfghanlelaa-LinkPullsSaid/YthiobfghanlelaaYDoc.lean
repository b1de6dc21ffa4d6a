/-
  The document's heap (nacreref12.X): what begins at a page, its slots. Written by doc12/gen_docat.py.
-/
import Derived.Test.YthiobfghanlelaaYCheck
import Derived.Test.YthiobfghanlelaaYPlace
import Derived.Deep.RegionWith
import Derived.Deep.CutRange
import Derived.Test.YthiobfghanlelaaYMore
namespace Go.Proofs.Ythiobfghanlelaa
open Go.ChangeShapes Go.WideShapes Go.ChangeAt Go.RowKit Go.Shelf
set_option linter.unusedVariables false
set_option linter.unusedSimpArgs false


set_option maxHeartbeats 1600000 in
theorem xSlots_c {H : AuH} {n c : Nat} (HV : HeapV H n c) (ad : Addr) {q : Nat} (hq : q < H.p) (w : World) (hv : IsVals w ad n H.V) :
    Calls Try.prog 70 #[hpV H ad n c, .int .i64 (q : Int)] w fun e w' => e = .returned (.int .u32 (H.cel q 4 : Nat)) ∧ Below w.heap.size w w' := by
  obtain ⟨i, hii⟩ : ∃ i, 30 + 4 * H.t + 6 * q + 4 = i := ⟨_, rfl⟩
  have hini : i < n := by have := HV.len; omega
  have HI : Hid (pageI H.t H.p H.s q 4 = (i : Int)) := hidp (by have h := HV.page (b := 4) hq (by omega); rw [hii] at h; exact h)
  have h32i := HV.cel_lt hq (show 4 < 6 by omega)
  have hceli : H.cel q 4 = H.V i := by unfold AuH.cel; rw [hii]
  obtain ⟨v, hvvv⟩ : ∃ v, H.cel q 4 = v := ⟨_, rfl⟩
  have HCv := hidp hvvv
  rw [hvvv] at h32i
  have hci := (hv).2 i hini
  rw [← hceli, hvvv] at hci
  have hbli : (ad.add i).block < w.heap.size := by rw [block_of_add]; exact (hv).1
  have hn := HV.nums
  have hcx : c ≤ 9223372036854775807 := hn.2.2.2.2.2.2.2.2
  have hni : n ≤ 6238 := hn.2.2.2.2.2.2.1
  have hnc := HV.cap
  rw [hvvv]
  have hc := Held.new w 51 #[.int .i64 (H.t : Int), .int .i64 (H.p : Int), .int .i64 (H.s : Int), .slice (some ad) n c]
  have HS : Hid (∀ w', Below w.heap.size w w' → Held w' w.heap.size 51 #[.int .i64 (H.t : Int), .int .i64 (H.p : Int), .int .i64 (H.s : Int), .slice (some ad) n c] → (fun w' => w'.cell? ⟨w.heap.size, 0, none⟩ = some (.int .i64 (H.t : Int)) ∧ w'.cell? ⟨w.heap.size, 1, none⟩ = some (.int .i64 (H.p : Int)) ∧ w'.cell? ⟨w.heap.size, 2, none⟩ = some (.int .i64 (H.s : Int)) ∧ w'.cell? ⟨w.heap.size, 3, none⟩ = some (.slice (some ad) n c) ∧ w'.cell? (ad.add i) = some (.int .u32 (v : Int))) w') := hidp (fun w' hb hh => ⟨hh.four.1, hh.four.2.1, hh.four.2.2.1, hh.four.2.2.2, (hb.cell hbli).trans hci⟩)
  clear hv hci hbli hceli hvvv hii hn hq HCv h32i
  unfold hpV
  go_enter Try.func70, Try.ntmps70
  go_wp2_with fail
  refine wp_region_held_drew (S := (fun w' => w'.cell? ⟨w.heap.size, 0, none⟩ = some (.int .i64 (H.t : Int)) ∧ w'.cell? ⟨w.heap.size, 1, none⟩ = some (.int .i64 (H.p : Int)) ∧ w'.cell? ⟨w.heap.size, 2, none⟩ = some (.int .i64 (H.s : Int)) ∧ w'.cell? ⟨w.heap.size, 3, none⟩ = some (.slice (some ad) n c) ∧ w'.cell? (ad.add i) = some (.int .u32 (v : Int)))) (by kernel_rfl) ?_ (fun hHeld => ?_)
  · (try dsimp only)
    first | exact HS.out _ (Bdrew (Bnew (B0 w) _)) hc | exact HS.out _ HB1.out HC1.out | exact hHeld
  refine tkO (i := 0) (v := ?_) rfl (by kernel_rfl) (fun _ _ _ h => h) (by rfl) ?_ (by assumption) ?_
  rotate_left
  · intro w hSw; (try dsimp only at hSw); go_simp; (try with_reducible rfl)
  (try simp only [Act.put, gA, gB, gC, sA, sB, sC])
  refine tkO (i := 1) (v := ?_) rfl (by kernel_rfl) (fun _ _ _ h => h) (by rfl) ?_ (by assumption) ?_
  rotate_left
  · intro w hSw; (try dsimp only at hSw); go_simp; (try with_reducible rfl)
  (try simp only [Act.put, gA, gB, gC, sA, sB, sC])
  refine tkO (i := 2) (v := ?_) rfl (by kernel_rfl) (fun _ _ _ h => h) (by rfl) ?_ (by assumption) ?_
  rotate_left
  · intro w hSw; (try dsimp only at hSw); go_simp; (try with_reducible rfl)
  (try simp only [Act.put, gA, gB, gC, sA, sB, sC])
  refine tkO (i := 3) (v := ?_) rfl (by kernel_rfl) (fun _ _ _ h => h) (by rfl) ?_ (by assumption) ?_
  rotate_left
  · intro w hSw; (try dsimp only at hSw); go_simp; (try with_reducible rfl)
  (try simp only [Act.put, gA, gB, gC, sA, sB, sC])
  refine tkO (i := 4) (v := ?_) rfl (by kernel_rfl) (fun _ _ _ h => h) (by rfl) ?_ (by assumption) ?_
  rotate_left
  · intro w hSw; (try dsimp only at hSw); go_simp; (try with_reducible rfl)
  (try simp only [Act.put, gA, gB, gC, sA, sB, sC])
  refine wpAnyH_ready (rs := [5]) (by kernel_rfl) (by simp) ?_
  refine AllReadyH.cons (o := _) rfl (fun K hK => ?_) AllReadyH.nil
  go_simp
  (go_at_call 86; refine (r7Slots_c _ _ _ _ _).mono ?_; rintro e w1 ⟨rfl, hb1⟩; rw [HI.out]; have HB1 := hidp (Bgo (Bdrew (Bnew (B0 w) _)) hb1); have HC1 := hidp (hc.drew.keep hb1); clear hb1)
  refine hK.out _ _ ?_ (fun hHeld => ?_)
  · (try dsimp only)
    first | exact HS.out _ (Bdrew (Bnew (B0 w) _)) hc | exact HS.out _ HB1.out HC1.out | exact hHeld
  clear hK K
  (try simp only [Act.put, gA, gB, gC, sA, sB, sC])
  refine tkO (i := 6) (v := ?_) rfl (by kernel_rfl) (fun _ _ _ h => h) (by rfl) ?_ (by assumption) ?_
  rotate_left
  · intro w hSw; (try dsimp only at hSw); go_simp; (try with_reducible rfl)
  (try simp only [Act.put, gA, gB, gC, sA, sB, sC])
  refine tkO (i := 7) (v := ?_) rfl (by kernel_rfl) (fun _ _ _ h => h) (by rfl) ?_ (by assumption) ?_
  rotate_left
  · intro w hSw; (try dsimp only at hSw); go_simp; (try with_reducible rfl)
  (try simp only [Act.put, gA, gB, gC, sA, sB, sC])
  refine tkO (i := 8) (v := ?_) rfl (by kernel_rfl) (fun _ _ _ h => h) (by rfl) ?_ (by assumption) ?_
  rotate_left
  · intro w hSw; (try dsimp only at hSw); go_simp; (try with_reducible rfl)
  (try simp only [Act.put, gA, gB, gC, sA, sB, sC])
  refine wpAnyH_done (by kernel_rfl) ?_ _
  go_wp2
  go_ret
  exact ⟨rfl, HB1.out⟩

set_option maxHeartbeats 1600000 in
theorem xTaken_c {H : AuH} {n c : Nat} (HV : HeapV H n c) (ad : Addr) {q : Nat} (hq : q < H.p) (w : World) (hv : IsVals w ad n H.V) :
    Calls Try.prog 71 #[hpV H ad n c, .int .i64 (q : Int)] w fun e w' => e = .returned (.int .u32 (H.cel q 5 : Nat)) ∧ Below w.heap.size w w' := by
  obtain ⟨i, hii⟩ : ∃ i, 30 + 4 * H.t + 6 * q + 5 = i := ⟨_, rfl⟩
  have hini : i < n := by have := HV.len; omega
  have HI : Hid (pageI H.t H.p H.s q 5 = (i : Int)) := hidp (by have h := HV.page (b := 5) hq (by omega); rw [hii] at h; exact h)
  have h32i := HV.cel_lt hq (show 5 < 6 by omega)
  have hceli : H.cel q 5 = H.V i := by unfold AuH.cel; rw [hii]
  obtain ⟨v, hvvv⟩ : ∃ v, H.cel q 5 = v := ⟨_, rfl⟩
  have HCv := hidp hvvv
  rw [hvvv] at h32i
  have hci := (hv).2 i hini
  rw [← hceli, hvvv] at hci
  have hbli : (ad.add i).block < w.heap.size := by rw [block_of_add]; exact (hv).1
  have hn := HV.nums
  have hcx : c ≤ 9223372036854775807 := hn.2.2.2.2.2.2.2.2
  have hni : n ≤ 6238 := hn.2.2.2.2.2.2.1
  have hnc := HV.cap
  rw [hvvv]
  have hc := Held.new w 51 #[.int .i64 (H.t : Int), .int .i64 (H.p : Int), .int .i64 (H.s : Int), .slice (some ad) n c]
  have HS : Hid (∀ w', Below w.heap.size w w' → Held w' w.heap.size 51 #[.int .i64 (H.t : Int), .int .i64 (H.p : Int), .int .i64 (H.s : Int), .slice (some ad) n c] → (fun w' => w'.cell? ⟨w.heap.size, 0, none⟩ = some (.int .i64 (H.t : Int)) ∧ w'.cell? ⟨w.heap.size, 1, none⟩ = some (.int .i64 (H.p : Int)) ∧ w'.cell? ⟨w.heap.size, 2, none⟩ = some (.int .i64 (H.s : Int)) ∧ w'.cell? ⟨w.heap.size, 3, none⟩ = some (.slice (some ad) n c) ∧ w'.cell? (ad.add i) = some (.int .u32 (v : Int))) w') := hidp (fun w' hb hh => ⟨hh.four.1, hh.four.2.1, hh.four.2.2.1, hh.four.2.2.2, (hb.cell hbli).trans hci⟩)
  clear hv hci hbli hceli hvvv hii hn hq HCv h32i
  unfold hpV
  go_enter Try.func71, Try.ntmps71
  go_wp2_with fail
  refine wp_region_held_drew (S := (fun w' => w'.cell? ⟨w.heap.size, 0, none⟩ = some (.int .i64 (H.t : Int)) ∧ w'.cell? ⟨w.heap.size, 1, none⟩ = some (.int .i64 (H.p : Int)) ∧ w'.cell? ⟨w.heap.size, 2, none⟩ = some (.int .i64 (H.s : Int)) ∧ w'.cell? ⟨w.heap.size, 3, none⟩ = some (.slice (some ad) n c) ∧ w'.cell? (ad.add i) = some (.int .u32 (v : Int)))) (by kernel_rfl) ?_ (fun hHeld => ?_)
  · (try dsimp only)
    first | exact HS.out _ (Bdrew (Bnew (B0 w) _)) hc | exact HS.out _ HB1.out HC1.out | exact hHeld
  refine tkO (i := 0) (v := ?_) rfl (by kernel_rfl) (fun _ _ _ h => h) (by rfl) ?_ (by assumption) ?_
  rotate_left
  · intro w hSw; (try dsimp only at hSw); go_simp; (try with_reducible rfl)
  (try simp only [Act.put, gA, gB, gC, sA, sB, sC])
  refine tkO (i := 1) (v := ?_) rfl (by kernel_rfl) (fun _ _ _ h => h) (by rfl) ?_ (by assumption) ?_
  rotate_left
  · intro w hSw; (try dsimp only at hSw); go_simp; (try with_reducible rfl)
  (try simp only [Act.put, gA, gB, gC, sA, sB, sC])
  refine tkO (i := 2) (v := ?_) rfl (by kernel_rfl) (fun _ _ _ h => h) (by rfl) ?_ (by assumption) ?_
  rotate_left
  · intro w hSw; (try dsimp only at hSw); go_simp; (try with_reducible rfl)
  (try simp only [Act.put, gA, gB, gC, sA, sB, sC])
  refine tkO (i := 3) (v := ?_) rfl (by kernel_rfl) (fun _ _ _ h => h) (by rfl) ?_ (by assumption) ?_
  rotate_left
  · intro w hSw; (try dsimp only at hSw); go_simp; (try with_reducible rfl)
  (try simp only [Act.put, gA, gB, gC, sA, sB, sC])
  refine tkO (i := 4) (v := ?_) rfl (by kernel_rfl) (fun _ _ _ h => h) (by rfl) ?_ (by assumption) ?_
  rotate_left
  · intro w hSw; (try dsimp only at hSw); go_simp; (try with_reducible rfl)
  (try simp only [Act.put, gA, gB, gC, sA, sB, sC])
  refine wpAnyH_ready (rs := [5]) (by kernel_rfl) (by simp) ?_
  refine AllReadyH.cons (o := _) rfl (fun K hK => ?_) AllReadyH.nil
  go_simp
  (go_at_call 87; refine (r7Taken_c _ _ _ _ _).mono ?_; rintro e w1 ⟨rfl, hb1⟩; rw [HI.out]; have HB1 := hidp (Bgo (Bdrew (Bnew (B0 w) _)) hb1); have HC1 := hidp (hc.drew.keep hb1); clear hb1)
  refine hK.out _ _ ?_ (fun hHeld => ?_)
  · (try dsimp only)
    first | exact HS.out _ (Bdrew (Bnew (B0 w) _)) hc | exact HS.out _ HB1.out HC1.out | exact hHeld
  clear hK K
  (try simp only [Act.put, gA, gB, gC, sA, sB, sC])
  refine tkO (i := 6) (v := ?_) rfl (by kernel_rfl) (fun _ _ _ h => h) (by rfl) ?_ (by assumption) ?_
  rotate_left
  · intro w hSw; (try dsimp only at hSw); go_simp; (try with_reducible rfl)
  (try simp only [Act.put, gA, gB, gC, sA, sB, sC])
  refine tkO (i := 7) (v := ?_) rfl (by kernel_rfl) (fun _ _ _ h => h) (by rfl) ?_ (by assumption) ?_
  rotate_left
  · intro w hSw; (try dsimp only at hSw); go_simp; (try with_reducible rfl)
  (try simp only [Act.put, gA, gB, gC, sA, sB, sC])
  refine tkO (i := 8) (v := ?_) rfl (by kernel_rfl) (fun _ _ _ h => h) (by rfl) ?_ (by assumption) ?_
  rotate_left
  · intro w hSw; (try dsimp only at hSw); go_simp; (try with_reducible rfl)
  (try simp only [Act.put, gA, gB, gC, sA, sB, sC])
  refine wpAnyH_done (by kernel_rfl) ?_ _
  go_wp2
  go_ret
  exact ⟨rfl, HB1.out⟩

set_option maxHeartbeats 3200000 in
set_option maxRecDepth 100000 in
theorem xInfo_c {H : AuH} {n c : Nat} (HV : HeapV H n c) (ad : Addr) {q : Nat} (hq : q < H.p) (w : World) (hv : IsVals w ad n H.V) :
    Calls Try.prog 67 #[hpV H ad n c, .int .i64 (q : Int)] w fun e w' => e = .returned (.agg #[.int .i64 (H.K q), .int .i64 (H.ln q : Int), .int .i64 (H.Cl q)]) ∧ Below w.heap.size w w' := by
  obtain ⟨i, hii⟩ : ∃ i, 30 + 4 * H.t + 6 * q + 0 = i := ⟨_, rfl⟩
  have hini : i < n := by have := HV.len; omega
  have HI : Hid (pageI H.t H.p H.s q 0 = (i : Int)) := hidp (by have h := HV.page (b := 0) hq (by omega); rw [hii] at h; exact h)
  have h32i := HV.cel_lt hq (show 0 < 6 by omega)
  have hceli : H.cel q 0 = H.V i := by unfold AuH.cel; rw [hii]
  obtain ⟨v, hvvv⟩ : ∃ v, H.cel q 0 = v := ⟨_, rfl⟩
  have HCv := hidp hvvv
  rw [hvvv] at h32i
  have hci := (hv).2 i hini
  rw [← hceli, hvvv] at hci
  have hbli : (ad.add i).block < w.heap.size := by rw [block_of_add]; exact (hv).1
  have hn := HV.nums
  have hcx : c ≤ 9223372036854775807 := hn.2.2.2.2.2.2.2.2
  have hni : n ≤ 6238 := hn.2.2.2.2.2.2.1
  have hnc := HV.cap
  have hie := H.info_eq q
  rw [H.L_ln, hvvv] at hie
  generalize H.K q = k at *
  generalize H.ln q = m at *
  generalize H.Cl q = cl at *
  generalize H.ok q = okb at *
  have HG := hidp hie
  have hc := (Held.new w 51 #[.int .i64 (H.t : Int), .int .i64 (H.p : Int), .int .i64 (H.s : Int), .slice (some ad) n c]).alloc (.cells #[.int .i64 0, .int .i64 0, .int .i64 0] 96)
  have HR := hidp (Held.new2 w (.cells #[.int .i64 (H.t : Int), .int .i64 (H.p : Int), .int .i64 (H.s : Int), .slice (some ad) n c] 51) 96 #[.int .i64 0, .int .i64 0, .int .i64 0])
  have HBW := hidp (Bnew (Bnew (B0 w) (.cells #[.int .i64 (H.t : Int), .int .i64 (H.p : Int), .int .i64 (H.s : Int), .slice (some ad) n c] 51)) (.cells #[.int .i64 0, .int .i64 0, .int .i64 0] 96))
  have HS : Hid (∀ w', Below ((w.alloc (.cells #[.int .i64 (H.t : Int), .int .i64 (H.p : Int), .int .i64 (H.s : Int), .slice (some ad) n c] 51)).alloc (.cells #[.int .i64 0, .int .i64 0, .int .i64 0] 96)).heap.size ((w.alloc (.cells #[.int .i64 (H.t : Int), .int .i64 (H.p : Int), .int .i64 (H.s : Int), .slice (some ad) n c] 51)).alloc (.cells #[.int .i64 0, .int .i64 0, .int .i64 0] 96)) w' → (fun w' => w'.cell? ⟨w.heap.size, 0, none⟩ = some (.int .i64 (H.t : Int)) ∧ w'.cell? ⟨w.heap.size, 1, none⟩ = some (.int .i64 (H.p : Int)) ∧ w'.cell? ⟨w.heap.size, 2, none⟩ = some (.int .i64 (H.s : Int)) ∧ w'.cell? ⟨w.heap.size, 3, none⟩ = some (.slice (some ad) n c) ∧ w'.cell? (ad.add i) = some (.int .u32 (v : Int))) w') := hidp (fun w' hb => by have hh := hc.keep hb; exact ⟨hh.four.1, hh.four.2.1, hh.four.2.2.1, hh.four.2.2.2, ((Bgo HBW.out hb).cell hbli).trans hci⟩)
  clear hv hci hbli hceli hvvv hii hn hq HCv hie hc
  unfold hpV
  go_enter Try.func67, Try.ntmps67
  go_upto_region 1 with fail
  go_cut [5, 6] from 7 to 18 (fun u5 u6 wx => ∃ g : Nat, u5 = .pointer (some ⟨g, 0, none⟩) ∧ Held wx g 96 #[(.int .i64 k), (.int .i64 (m : Int)), (.int .i64 cl)] ∧ Below ((w.alloc (.cells #[.int .i64 (H.t : Int), .int .i64 (H.p : Int), .int .i64 (H.s : Int), .slice (some ad) n c] 51)).alloc (.cells #[.int .i64 0, .int .i64 0, .int .i64 0] 96)).heap.size ((w.alloc (.cells #[.int .i64 (H.t : Int), .int .i64 (H.p : Int), .int .i64 (H.s : Int), .slice (some ad) n c] 51)).alloc (.cells #[.int .i64 0, .int .i64 0, .int .i64 0] 96)) wx ∧ ((w.alloc (.cells #[.int .i64 (H.t : Int), .int .i64 (H.p : Int), .int .i64 (H.s : Int), .slice (some ad) n c] 51)).alloc (.cells #[.int .i64 0, .int .i64 0, .int .i64 0] 96)).heap.size ≤ g)
  case first =>
    have HB := hidp (Bdrew (B0 (((w.alloc (.cells #[.int .i64 (H.t : Int), .int .i64 (H.p : Int), .int .i64 (H.s : Int), .slice (some ad) n c] 51)).alloc (.cells #[.int .i64 0, .int .i64 0, .int .i64 0] 96)))))
    refine wp_region_held_drew (S := (fun w' => w'.cell? ⟨w.heap.size, 0, none⟩ = some (.int .i64 (H.t : Int)) ∧ w'.cell? ⟨w.heap.size, 1, none⟩ = some (.int .i64 (H.p : Int)) ∧ w'.cell? ⟨w.heap.size, 2, none⟩ = some (.int .i64 (H.s : Int)) ∧ w'.cell? ⟨w.heap.size, 3, none⟩ = some (.slice (some ad) n c) ∧ w'.cell? (ad.add i) = some (.int .u32 (v : Int)))) (by kernel_rfl) ?_ (fun hHeld => ?_)
    · (try dsimp only)
      exact HS.out _ HB.out
    generalize hq0 : (((w.alloc (.cells #[.int .i64 (H.t : Int), .int .i64 (H.p : Int), .int .i64 (H.s : Int), .slice (some ad) n c] 51)).alloc (.cells #[.int .i64 0, .int .i64 0, .int .i64 0] 96))).drew = q0 at HB hHeld ⊢
    clear hq0
    refine tkO (i := 0) (v := ?_) rfl (by kernel_rfl) (fun _ _ _ h => h) (by rfl) ?_ (by assumption) ?_
    rotate_left
    · intro w hSw; (try dsimp only at hSw); go_simp; (try with_reducible rfl)
    (try simp only [Act.put, gA, gB, gC, sA, sB, sC])
    refine tkO (i := 1) (v := ?_) rfl (by kernel_rfl) (fun _ _ _ h => h) (by rfl) ?_ (by assumption) ?_
    rotate_left
    · intro w hSw; (try dsimp only at hSw); go_simp; (try with_reducible rfl)
    (try simp only [Act.put, gA, gB, gC, sA, sB, sC])
    refine tkO (i := 2) (v := ?_) rfl (by kernel_rfl) (fun _ _ _ h => h) (by rfl) ?_ (by assumption) ?_
    rotate_left
    · intro w hSw; (try dsimp only at hSw); go_simp; (try with_reducible rfl)
    (try simp only [Act.put, gA, gB, gC, sA, sB, sC])
    refine tkO (i := 3) (v := ?_) rfl (by kernel_rfl) (fun _ _ _ h => h) (by rfl) ?_ (by assumption) ?_
    rotate_left
    · intro w hSw; (try dsimp only at hSw); go_simp; (try with_reducible rfl)
    (try simp only [Act.put, gA, gB, gC, sA, sB, sC])
    refine tkO (i := 4) (v := ?_) rfl (by kernel_rfl) (fun _ _ _ h => h) (by rfl) ?_ (by assumption) ?_
    rotate_left
    · intro w hSw; (try dsimp only at hSw); go_simp; (try with_reducible rfl)
    (try simp only [Act.put, gA, gB, gC, sA, sB, sC])
    refine wpAnyH_ready (rs := [5, 12]) (by kernel_rfl) (by simp) ?_
    refine AllReadyH.cons (o := _) rfl (fun K hK => ?_) (AllReadyH.cons (o := _) rfl (fun K hK => ?_) AllReadyH.nil)
    · skip
      go_simp
      (go_at_call 66; refine (r7Info_c _ _ _ _ _).mono ?_; rintro e q1 ⟨rfl, hb1⟩; rw [HI.out]; have HB := hidp (Bgo HB.out hb1); skip; clear hb1)
      refine hK.out _ _ ?_ (fun hHeld => ?_)
      · (try dsimp only)
        exact HS.out _ HB.out
      clear hK K
      (try simp only [Act.put, gA, gB, gC, sA, sB, sC])
      refine tkO (i := 6) (v := ?_) rfl (by kernel_rfl) (fun _ _ _ h => h) (by rfl) ?_ (by assumption) ?_
      rotate_left
      · intro w hSw; (try dsimp only at hSw); go_simp; (try with_reducible rfl)
      (try simp only [Act.put, gA, gB, gC, sA, sB, sC])
      refine tkO (i := 7) (v := ?_) rfl (by kernel_rfl) (fun _ _ _ h => h) (by rfl) ?_ (by assumption) ?_
      rotate_left
      · intro w hSw; (try dsimp only at hSw); go_simp; (try with_reducible rfl)
      (try simp only [Act.put, gA, gB, gC, sA, sB, sC])
      refine wpAnyH_ready (rs := [8, 12]) (by kernel_rfl) (by simp) ?_
      refine AllReadyH.cons (o := _) rfl (fun K hK => ?_) (AllReadyH.cons (o := _) rfl (fun K hK => ?_) AllReadyH.nil)
      · skip
        go_simp
        (go_at_call 85; refine (r9Get_c _ _ _ _ _ h32i HG.out _).mono ?_; rintro e q2 ⟨rfl, hb1⟩; have HB := hidp (Bgo HB.out hb1); skip; clear hb1)
        refine hK.out _ _ ?_ (fun hHeld => ?_)
        · (try dsimp only)
          exact HS.out _ HB.out
        clear hK K
        (try simp only [Act.put, gA, gB, gC, sA, sB, sC])
        refine tkO (i := 9) (v := ?_) rfl (by kernel_rfl) (fun _ _ _ h => h) (by rfl) ?_ (by assumption) ?_
        rotate_left
        · intro w hSw; (try dsimp only at hSw); go_simp; (try with_reducible rfl)
        (try simp only [Act.put, gA, gB, gC, sA, sB, sC])
        refine tkO (i := 10) (v := ?_) rfl (by kernel_rfl) (fun _ _ _ h => h) (by rfl) ?_ (by assumption) ?_
        rotate_left
        · intro w hSw; (try dsimp only at hSw); go_simp; (try with_reducible rfl)
        (try simp only [Act.put, gA, gB, gC, sA, sB, sC])
        refine tkO (i := 11) (v := ?_) rfl (by kernel_rfl) (fun _ _ _ h => h) (by rfl) ?_ (by assumption) ?_
        rotate_left
        · intro w hSw; (try dsimp only at hSw); go_simp; (try with_reducible rfl)
        (try simp only [Act.put, gA, gB, gC, sA, sB, sC])
        refine wpAnyH_ready (rs := [12]) (by kernel_rfl) (by simp) ?_
        refine AllReadyH.cons (o := _) rfl (fun K hK => ?_) AllReadyH.nil
        · skip
          go_simp
          have HLE := hidp HB.out.size
          have HB := hidp (Bnew HB.out (.cells #[.int .i64 0, .int .i64 0, .int .i64 0] 96))
          have HN := hidp (Held.new q2 96 #[.int .i64 0, .int .i64 0, .int .i64 0])
          try simp only [World.heap_drew] at HLE HN
          generalize hq3 : q2.alloc (.cells #[.int .i64 0, .int .i64 0, .int .i64 0] 96) = q3 at HB HN ⊢
          clear hq3
          refine hK.out _ _ ?_ (fun hHeld => ?_)
          · (try dsimp only)
            exact HS.out _ HB.out
          clear hK K
          (try simp only [Act.put, gA, gB, gC, sA, sB, sC])
          refine wpAnyH_ready (rs := [13]) (by kernel_rfl) (by simp) ?_
          refine AllReadyH.cons (o := _) rfl (fun K hK => ?_) AllReadyH.nil
          obtain ⟨z0, z1, z2⟩ := HN.out.three
          have f0 := HN.out.thawed 0
          have f1 := HN.out.thawed 1
          have f2 := HN.out.thawed 2
          go_simp
          have HN := hidp (HN.out.put 0 (.int .i64 k))
          have HN := hidp (HN.out.put 1 (.int .i64 (m : Int)))
          have HN := hidp (HN.out.put 2 (.int .i64 cl))
          have HB := hidp (Bput (p := ⟨_, 2, none⟩) (Bput (p := ⟨_, 1, none⟩) (Bput (p := ⟨_, 0, none⟩) HB.out HLE.out (.int .i64 k)) HLE.out (.int .i64 (m : Int))) HLE.out (.int .i64 cl))
          clear z0 z1 z2 f0 f1 f2
          refine hK.out _ _ ?_ (fun hHeld => ?_)
          · (try dsimp only)
            exact HS.out _ HB.out
          clear hK K
          (try simp only [Act.put, gA, gB, gC, sA, sB, sC])
          refine tkO (i := 14) (v := ?_) rfl (by kernel_rfl) (fun _ _ _ h => h) (by rfl) ?_ (by assumption) ?_
          rotate_left
          · intro w hSw; (try dsimp only at hSw); go_simp; (try with_reducible rfl)
          (try simp only [Act.put, gA, gB, gC, sA, sB, sC])
          refine wpAnyH_done (by kernel_rfl) ?_ _
          go_wp2_with fail
          go_meet
          case rel => exact ⟨_, rfl, HN.out, HB.out, HLE.out⟩
      · skip
        go_simp
        have HLE := hidp HB.out.size
        have HB := hidp (Bnew HB.out (.cells #[.int .i64 0, .int .i64 0, .int .i64 0] 96))
        have HN := hidp (Held.new q1 96 #[.int .i64 0, .int .i64 0, .int .i64 0])
        try simp only [World.heap_drew] at HLE HN
        generalize hq4 : q1.alloc (.cells #[.int .i64 0, .int .i64 0, .int .i64 0] 96) = q4 at HB HN ⊢
        clear hq4
        refine hK.out _ _ ?_ (fun hHeld => ?_)
        · (try dsimp only)
          exact HS.out _ HB.out
        clear hK K
        (try simp only [Act.put, gA, gB, gC, sA, sB, sC])
        refine wpAnyH_ready (rs := [8]) (by kernel_rfl) (by simp) ?_
        refine AllReadyH.cons (o := _) rfl (fun K hK => ?_) AllReadyH.nil
        · skip
          go_simp
          (go_at_call 85; refine (r9Get_c _ _ _ _ _ h32i HG.out _).mono ?_; rintro e q5 ⟨rfl, hb1⟩; have HB := hidp (Bgo HB.out hb1); have HN := hidp (HN.out.keep hb1); clear hb1)
          refine hK.out _ _ ?_ (fun hHeld => ?_)
          · (try dsimp only)
            exact HS.out _ HB.out
          clear hK K
          (try simp only [Act.put, gA, gB, gC, sA, sB, sC])
          refine tkO (i := 9) (v := ?_) rfl (by kernel_rfl) (fun _ _ _ h => h) (by rfl) ?_ (by assumption) ?_
          rotate_left
          · intro w hSw; (try dsimp only at hSw); go_simp; (try with_reducible rfl)
          (try simp only [Act.put, gA, gB, gC, sA, sB, sC])
          refine tkO (i := 10) (v := ?_) rfl (by kernel_rfl) (fun _ _ _ h => h) (by rfl) ?_ (by assumption) ?_
          rotate_left
          · intro w hSw; (try dsimp only at hSw); go_simp; (try with_reducible rfl)
          (try simp only [Act.put, gA, gB, gC, sA, sB, sC])
          refine tkO (i := 11) (v := ?_) rfl (by kernel_rfl) (fun _ _ _ h => h) (by rfl) ?_ (by assumption) ?_
          rotate_left
          · intro w hSw; (try dsimp only at hSw); go_simp; (try with_reducible rfl)
          (try simp only [Act.put, gA, gB, gC, sA, sB, sC])
          refine wpAnyH_ready (rs := [13]) (by kernel_rfl) (by simp) ?_
          refine AllReadyH.cons (o := _) rfl (fun K hK => ?_) AllReadyH.nil
          obtain ⟨z0, z1, z2⟩ := HN.out.three
          have f0 := HN.out.thawed 0
          have f1 := HN.out.thawed 1
          have f2 := HN.out.thawed 2
          go_simp
          have HN := hidp (HN.out.put 0 (.int .i64 k))
          have HN := hidp (HN.out.put 1 (.int .i64 (m : Int)))
          have HN := hidp (HN.out.put 2 (.int .i64 cl))
          have HB := hidp (Bput (p := ⟨_, 2, none⟩) (Bput (p := ⟨_, 1, none⟩) (Bput (p := ⟨_, 0, none⟩) HB.out HLE.out (.int .i64 k)) HLE.out (.int .i64 (m : Int))) HLE.out (.int .i64 cl))
          clear z0 z1 z2 f0 f1 f2
          refine hK.out _ _ ?_ (fun hHeld => ?_)
          · (try dsimp only)
            exact HS.out _ HB.out
          clear hK K
          (try simp only [Act.put, gA, gB, gC, sA, sB, sC])
          refine tkO (i := 14) (v := ?_) rfl (by kernel_rfl) (fun _ _ _ h => h) (by rfl) ?_ (by assumption) ?_
          rotate_left
          · intro w hSw; (try dsimp only at hSw); go_simp; (try with_reducible rfl)
          (try simp only [Act.put, gA, gB, gC, sA, sB, sC])
          refine wpAnyH_done (by kernel_rfl) ?_ _
          go_wp2_with fail
          go_meet
          case rel => exact ⟨_, rfl, HN.out, HB.out, HLE.out⟩
    · skip
      go_simp
      have HLE := hidp HB.out.size
      have HB := hidp (Bnew HB.out (.cells #[.int .i64 0, .int .i64 0, .int .i64 0] 96))
      have HN := hidp (Held.new q0 96 #[.int .i64 0, .int .i64 0, .int .i64 0])
      try simp only [World.heap_drew] at HLE HN
      generalize hq6 : q0.alloc (.cells #[.int .i64 0, .int .i64 0, .int .i64 0] 96) = q6 at HB HN ⊢
      clear hq6
      refine hK.out _ _ ?_ (fun hHeld => ?_)
      · (try dsimp only)
        exact HS.out _ HB.out
      clear hK K
      (try simp only [Act.put, gA, gB, gC, sA, sB, sC])
      refine wpAnyH_ready (rs := [5]) (by kernel_rfl) (by simp) ?_
      refine AllReadyH.cons (o := _) rfl (fun K hK => ?_) AllReadyH.nil
      · skip
        go_simp
        (go_at_call 66; refine (r7Info_c _ _ _ _ _).mono ?_; rintro e q7 ⟨rfl, hb1⟩; rw [HI.out]; have HB := hidp (Bgo HB.out hb1); have HN := hidp (HN.out.keep hb1); clear hb1)
        refine hK.out _ _ ?_ (fun hHeld => ?_)
        · (try dsimp only)
          exact HS.out _ HB.out
        clear hK K
        (try simp only [Act.put, gA, gB, gC, sA, sB, sC])
        refine tkO (i := 6) (v := ?_) rfl (by kernel_rfl) (fun _ _ _ h => h) (by rfl) ?_ (by assumption) ?_
        rotate_left
        · intro w hSw; (try dsimp only at hSw); go_simp; (try with_reducible rfl)
        (try simp only [Act.put, gA, gB, gC, sA, sB, sC])
        refine tkO (i := 7) (v := ?_) rfl (by kernel_rfl) (fun _ _ _ h => h) (by rfl) ?_ (by assumption) ?_
        rotate_left
        · intro w hSw; (try dsimp only at hSw); go_simp; (try with_reducible rfl)
        (try simp only [Act.put, gA, gB, gC, sA, sB, sC])
        refine wpAnyH_ready (rs := [8]) (by kernel_rfl) (by simp) ?_
        refine AllReadyH.cons (o := _) rfl (fun K hK => ?_) AllReadyH.nil
        · skip
          go_simp
          (go_at_call 85; refine (r9Get_c _ _ _ _ _ h32i HG.out _).mono ?_; rintro e q8 ⟨rfl, hb1⟩; have HB := hidp (Bgo HB.out hb1); have HN := hidp (HN.out.keep hb1); clear hb1)
          refine hK.out _ _ ?_ (fun hHeld => ?_)
          · (try dsimp only)
            exact HS.out _ HB.out
          clear hK K
          (try simp only [Act.put, gA, gB, gC, sA, sB, sC])
          refine tkO (i := 9) (v := ?_) rfl (by kernel_rfl) (fun _ _ _ h => h) (by rfl) ?_ (by assumption) ?_
          rotate_left
          · intro w hSw; (try dsimp only at hSw); go_simp; (try with_reducible rfl)
          (try simp only [Act.put, gA, gB, gC, sA, sB, sC])
          refine tkO (i := 10) (v := ?_) rfl (by kernel_rfl) (fun _ _ _ h => h) (by rfl) ?_ (by assumption) ?_
          rotate_left
          · intro w hSw; (try dsimp only at hSw); go_simp; (try with_reducible rfl)
          (try simp only [Act.put, gA, gB, gC, sA, sB, sC])
          refine tkO (i := 11) (v := ?_) rfl (by kernel_rfl) (fun _ _ _ h => h) (by rfl) ?_ (by assumption) ?_
          rotate_left
          · intro w hSw; (try dsimp only at hSw); go_simp; (try with_reducible rfl)
          (try simp only [Act.put, gA, gB, gC, sA, sB, sC])
          refine wpAnyH_ready (rs := [13]) (by kernel_rfl) (by simp) ?_
          refine AllReadyH.cons (o := _) rfl (fun K hK => ?_) AllReadyH.nil
          obtain ⟨z0, z1, z2⟩ := HN.out.three
          have f0 := HN.out.thawed 0
          have f1 := HN.out.thawed 1
          have f2 := HN.out.thawed 2
          go_simp
          have HN := hidp (HN.out.put 0 (.int .i64 k))
          have HN := hidp (HN.out.put 1 (.int .i64 (m : Int)))
          have HN := hidp (HN.out.put 2 (.int .i64 cl))
          have HB := hidp (Bput (p := ⟨_, 2, none⟩) (Bput (p := ⟨_, 1, none⟩) (Bput (p := ⟨_, 0, none⟩) HB.out HLE.out (.int .i64 k)) HLE.out (.int .i64 (m : Int))) HLE.out (.int .i64 cl))
          clear z0 z1 z2 f0 f1 f2
          refine hK.out _ _ ?_ (fun hHeld => ?_)
          · (try dsimp only)
            exact HS.out _ HB.out
          clear hK K
          (try simp only [Act.put, gA, gB, gC, sA, sB, sC])
          refine tkO (i := 14) (v := ?_) rfl (by kernel_rfl) (fun _ _ _ h => h) (by rfl) ?_ (by assumption) ?_
          rotate_left
          · intro w hSw; (try dsimp only at hSw); go_simp; (try with_reducible rfl)
          (try simp only [Act.put, gA, gB, gC, sA, sB, sC])
          refine wpAnyH_done (by kernel_rfl) ?_ _
          go_wp2_with fail
          go_meet
          case rel => exact ⟨_, rfl, HN.out, HB.out, HLE.out⟩
  case rest =>
    obtain ⟨g, rfl, h1, h2, h3⟩ := hcut
    obtain ⟨x0, x1, x2⟩ := h1.three
    have z := HR.out.keep h2
    obtain ⟨y0, y1, y2⟩ := z.three
    obtain ⟨v0, v1, v2⟩ := (((z.put 0 (.int .i64 k)).put 1 (.int .i64 (m : Int))).put 2 (.int .i64 cl)).three
    have f0 := z.thawed 0
    have f1 := z.thawed 1
    have f2 := z.thawed 2
    go_wp2_with fail
    refine bodyPost_ret (v := .agg #[(.int .i64 k), (.int .i64 (m : Int)), (.int .i64 cl)]) (by simp [results, Try.results67, go_sem, v0, v1, v2]) rfl ⟨rfl, ?_⟩
    exact Bput (Bput (Bput (Bgo HBW.out h2) (by simp) _) (by simp) _) (by simp) _

end Go.Proofs.Ythiobfghanlelaa

/-
  The rules as the document tells them: the starts of spans as a list, a list of pages as it is walked. No program is named here.
-/
namespace Go.Proofs.Ythiobfghanlelaa
open Go.ChangeShapes Go.WideShapes Go.ChangeAt Go.RowKit Go.Shelf
set_option linter.unusedVariables false
set_option linter.unusedSimpArgs false

namespace AuH
/-- the starts of spans, one behind the other, up to x -/
inductive Starts (H : AuH) : List Nat → Nat → Prop where
  | nil : Starts H [] 0
  | snoc {l : List Nat} {q : Nat} : Starts H l q → H.can q = true → Starts H (l ++ [q]) (H.nx q)
variable {H : AuH} {l : List Nat} {x : Nat}
theorem Starts.at_ (h : H.Starts l x) : H.At x := by
  induction h with
  | nil => exact .zero
  | snoc h hc ih => exact .step ih hc
theorem Starts.len (h : H.Starts l x) : l.length ≤ x := by
  induction h with
  | nil => simp
  | snoc h hc ih =>
    have := (H.nx_gt hc).1
    rw [List.length_append]
    simp
    omega
theorem Starts.next (h : H.Starts l x) : ∀ {i a : Nat}, l[i]? = some a → (H.At a ∧ H.can a = true ∧ a < x) ∧ (l[i + 1]? = some (H.nx a) ∨ (i + 1 = l.length ∧ H.nx a = x)) := by
  induction h with
  | nil => intro i a h; simp at h
  | snoc h hc ih =>
    rename_i l q
    intro i a hi
    have hgt := (H.nx_gt hc).1
    rcases Nat.lt_or_ge i l.length with hl | hl
    · rw [List.getElem?_append_left hl] at hi
      obtain ⟨⟨h1, h2, h3⟩, h4⟩ := ih hi
      refine ⟨⟨h1, h2, by omega⟩, .inl ?_⟩
      rcases h4 with h4 | ⟨h4, h5⟩
      · have : i + 1 < l.length := by
          rcases Nat.lt_or_ge (i + 1) l.length with h | h
          · exact h
          · rw [List.getElem?_eq_none h] at h4; cases h4
        rw [List.getElem?_append_left this]
        exact h4
      · rw [List.getElem?_append_right (by omega), h4, Nat.sub_self, h5]
        rfl
    · have hil : i = l.length := by
        rcases Nat.lt_or_ge l.length i with h | h
        · rw [List.getElem?_append_right hl, List.getElem?_eq_none (by simp; omega)] at hi; cases hi
        · omega
      subst hil
      rw [List.getElem?_append_right (Nat.le_refl _), Nat.sub_self] at hi
      have hqa : q = a := by simpa using hi
      subst hqa
      exact ⟨⟨h.at_, hc, hgt⟩, .inr ⟨by simp, rfl⟩⟩
theorem Starts.head (h : H.Starts l x) : (l = [] ∧ x = 0) ∨ l[0]? = some 0 := by
  induction h with
  | nil => exact .inl ⟨rfl, rfl⟩
  | snoc h hc ih =>
    right
    rcases ih with ⟨rfl, rfl⟩ | ih
    · rfl
    · rename_i l q
      have : 0 < l.length := by
        rcases Nat.lt_or_ge 0 l.length with h | h
        · exact h
        · rw [List.getElem?_eq_none h] at ih; cases ih
      rw [List.getElem?_append_left this]
      exact ih
theorem Starts.find (h : H.Starts l x) : ∀ {q : Nat}, H.At q → q < x → ∃ i : Nat, l[i]? = some q := by
  induction h with
  | nil => intro q _ h; omega
  | snoc h hc ih =>
    rename_i l q0
    intro q hq hl
    rcases Nat.lt_trichotomy q q0 with h1 | h1 | h1
    · obtain ⟨i, hi⟩ := ih hq h1
      refine ⟨i, ?_⟩
      have : i < l.length := by
        rcases Nat.lt_or_ge i l.length with h | h
        · exact h
        · rw [List.getElem?_eq_none h] at hi; cases hi
      rw [List.getElem?_append_left this]
      exact hi
    · subst h1
      exact ⟨l.length, by rw [List.getElem?_append_right (Nat.le_refl _), Nat.sub_self]; rfl⟩
    · have := (At.next h.at_ hq h1).2
      omega

/-- the next start that has not been passed -/
def Front (H : AuH) (l : List Nat) (n p : Nat) : Prop := ∃ f, (l[n]? = some f ∨ (n = l.length ∧ f = H.p)) ∧ p ≤ f ∧ ∀ q, H.At q → p ≤ q → f ≤ q
theorem Front.zero (h : H.Starts l H.p) : H.Front l 0 0 := by
  rcases h.head with ⟨rfl, h1⟩ | h1
  · exact ⟨H.p, .inr ⟨rfl, rfl⟩, Nat.zero_le _, fun q _ _ => by omega⟩
  · exact ⟨0, .inl h1, Nat.le_refl _, fun q _ _ => Nat.zero_le _⟩
/-- a start is come to -/
theorem Front.yes {n p : Nat} (h : H.Starts l H.p) (hf : H.Front l n p) (hn : l[n]? = some p) : H.At p ∧ H.Front l (n + 1) (p + 1) := by
  obtain ⟨⟨h1, h2, h3⟩, h4⟩ := h.next hn
  have hg := (H.nx_gt h2).1
  refine ⟨h1, H.nx p, ?_, hg, fun q hq hp => (At.next h1 hq (by omega)).2⟩
  rcases h4 with h4 | ⟨h4, h5⟩
  · exact .inl h4
  · exact .inr ⟨h4, h5⟩
theorem Front.no {n p : Nat} (h : H.Starts l H.p) (hf : H.Front l n p) (hp : p < H.p) (hn : l[n]? ≠ some p) : ¬ H.At p ∧ H.Front l n (p + 1) := by
  obtain ⟨f, h1, h2, h3⟩ := hf
  have hne : f ≠ p := by
    rintro rfl
    rcases h1 with h1 | ⟨_, h1⟩
    · exact hn h1
    · omega
  exact ⟨fun ha => by have := h3 p ha (Nat.le_refl _); omega, f, h1, by omega, fun q hq hl => h3 q hq (by omega)⟩

theorem tiled_iff (ha : H.At H.p) : H.Tiled ↔ ∀ q, q < H.p → ¬ H.At q → H.cel q 0 = 0 := by
  constructor
  · rintro ⟨_, hb⟩ q hq hn
    obtain ⟨a, h1, h2, h3, h4⟩ := ha.cover q hq
    exact hb a h1 h2 (by omega) q (by rcases Nat.eq_or_lt_of_le h3 with h | h; (subst h; exact absurd h1 hn); exact h) h4
  · intro h
    refine ⟨ha, fun a h1 h2 h3 q h4 h5 => h q (by have := (H.nx_gt h2).2; omega) (fun hq => ?_)⟩
    have := (At.next h1 hq h4).2
    omega
theorem tiled_not {q : Nat} (h : H.Tiled) (hq : q < H.p) (hn : ¬ H.At q) : H.cel q 0 = 0 := (tiled_iff h.1).1 h q hq hn

/-- rule 3 at a page of a span -/
def FootAt (H : AuH) (a q : Nat) : Prop := H.cel q 1 = if q + 1 = H.nx a then a + 1 else 0
theorem r3_iff (ht : H.Tiled) : H.R3 ↔ ∀ q, q < H.p → ∀ a, H.At a → a ≤ q → q < H.nx a → H.FootAt a q := by
  constructor
  · intro h q hq a ha h1 h2
    have hc := ht.at_can ha (show a < H.p by omega)
    have hk := ht.at_K ha (show a < H.p by omega)
    obtain ⟨h3, h4⟩ := h a (by omega) hk
    unfold FootAt
    have hnx : H.nx a = a + H.ln a := rfl
    by_cases he : q + 1 = H.nx a
    · rw [if_pos he, show q = a + H.ln a - 1 by omega]
      exact h4
    · rw [if_neg he]
      exact h3 q h1 (by omega)
  · intro h q hq hk
    obtain ⟨ha, hc⟩ := ht.start hq hk
    have hg := H.nx_gt hc
    have hl := H.ln_pos q hk
    have hnx : H.nx q = q + H.ln q := rfl
    refine ⟨fun r h1 h2 => ?_, ?_⟩
    · have := h r (by omega) q ha h1 (by omega)
      unfold FootAt at this
      rw [if_neg (by omega)] at this
      exact this
    · have := h (q + H.ln q - 1) (by omega) q ha (by omega) (by omega)
      unfold FootAt at this
      rw [if_pos (by omega)] at this
      exact this

/-- rule 4 as far as the starts ahead of number n -/
def ApartTo (H : AuH) (l : List Nat) (n : Nat) : Prop := ∀ (i a b : Nat), i + 1 < n → l[i]? = some a → l[i + 1]? = some b → ¬ (H.K b = 1 ∧ H.K a = 1)
theorem apart_all (h : H.Starts l H.p) {n : Nat} (hn : l.length ≤ n) (ha : H.ApartTo l n) : H.R4 := by
  intro q hq hp hk hx h2
  obtain ⟨i, hi⟩ := h.find hq hp
  rcases (h.next hi).2 with h4 | ⟨h4, h5⟩
  · have : i + 1 < l.length := by
      rcases Nat.lt_or_ge (i + 1) l.length with h | h
      · exact h
      · rw [List.getElem?_eq_none h] at h4; cases h4
    exact ha i q _ (by omega) hi h4 ⟨h2, hk⟩
  · omega
theorem apart_not (h : H.Starts l H.p) {i a b : Nat} (h1 : l[i]? = some a) (h2 : l[i + 1]? = some b) (hb : H.K b = 1) (ha : H.K a = 1) : ¬ H.R4 := by
  intro hr
  obtain ⟨⟨g1, g2, g3⟩, g4⟩ := h.next h1
  rcases g4 with g4 | ⟨g4, g5⟩
  · rw [g4] at h2
    have e : H.nx a = b := by simpa using h2
    subst e
    exact hr a g1 g3 ha (h.next g4).1.2.2 hb
  · rw [List.getElem?_eq_none (by omega)] at h2; cases h2
theorem ApartTo.step {n a b : Nat} (h : H.ApartTo l (n + 1)) (h1 : l[n]? = some a) (h2 : l[n + 1]? = some b) (hn : ¬ (H.K b = 1 ∧ H.K a = 1)) : H.ApartTo l (n + 1 + 1) := by
  intro i a' b' hi g1 g2
  rcases Nat.lt_or_ge (i + 1) (n + 1) with h3 | h3
  · exact h i a' b' h3 g1 g2
  · have : i = n := by omega
    subst this
    rw [h1] at g1
    rw [h2] at g2
    simp only [Option.some.injEq] at g1 g2
    subst g1
    subst g2
    exact hn

/-- rule 5 at a bit of a page -/
def SlotBad (H : AuH) (q b : Nat) : Prop := ((H.cel q 4).testBit b = true ∧ (H.cel q 5).testBit b = false) ∨ ((H.cel q 5).testBit b = true ∧ (H.K q ≠ 3 ∨ slotI (H.Cl q) ≤ b))
theorem slot5_iff (q : Nat) (h4 : H.cel q 4 < 2 ^ 32) (h5 : H.cel q 5 < 2 ^ 32) : H.Slot5 q ↔ (∀ b, b < 32 → ¬ H.SlotBad q b) ∧ ¬ (H.K q = 3 ∧ H.cel q 5 = 0) := by
  have hs := slotI_le (H.Cl q)
  constructor
  · rintro ⟨hy, hn⟩
    by_cases hk : H.K q = 3
    · obtain ⟨h1, h2, h3⟩ := hy hk
      refine ⟨fun b hb hbad => ?_, fun h => h1 h.2⟩
      rcases hbad with ⟨g1, g2⟩ | ⟨g1, g2⟩
      · rw [h3 b hb g1] at g2; cases g2
      · rcases g2 with g2 | g2
        · exact g2 hk
        · rw [Nat.testBit_lt_two_pow (Nat.lt_of_lt_of_le h2 (Nat.pow_le_pow_right (by omega) g2))] at g1; cases g1
    · obtain ⟨h1, h2⟩ := hn hk
      refine ⟨fun b hb hbad => ?_, fun h => hk h.1⟩
      rcases hbad with ⟨g1, _⟩ | ⟨g1, _⟩
      · rw [h2] at g1; simp at g1
      · rw [h1] at g1; simp at g1
  · rintro ⟨hb, hz⟩
    have hsub : SubB (H.cel q 4) (H.cel q 5) := fun i hi h => by
      cases hc : (H.cel q 5).testBit i
      · exact absurd (show H.SlotBad q i from .inl ⟨h, hc⟩) (hb i hi)
      · rfl
    refine ⟨fun hk => ⟨fun h => hz ⟨hk, h⟩, (sub_mask _ _ h5 hs).1 (fun i hi h => ?_), hsub⟩, fun hk => ?_⟩
    · have : i < slotI (H.Cl q) := by
        rcases Nat.lt_or_ge i (slotI (H.Cl q)) with g | g
        · exact g
        · exact absurd (show H.SlotBad q i from .inr ⟨h, .inr g⟩) (hb i hi)
      rw [Nat.testBit_two_pow_sub_one]
      simpa using this
    · have h0 : H.cel q 5 = 0 := (sub_zero _ h5).1 (fun i hi h => absurd (show H.SlotBad q i from .inr ⟨h, .inl hk⟩) (hb i hi))
      refine ⟨h0, (sub_zero _ h4).1 (fun i hi h => ?_)⟩
      have := hsub i hi h
      rw [h0] at this
      simp at this

/-! a list as it is walked -/
inductive Path (H : AuH) (head : Nat) : List Nat → Nat → Nat → Prop where
  | nil : Path H head [] (H.V head) 0
  | snoc {l : List Nat} {q a : Nat} : Path H head l q a → 1 ≤ q → q ≤ H.p → H.cel (q - 1) 3 = a → Path H head (l ++ [q - 1]) (H.cel (q - 1) 2) q
def cntIn (l : List Nat) (q : Nat) : Nat := (l.filter fun y => decide (y = q)).length
theorem cntIn_snoc (l : List Nat) (y q : Nat) : cntIn (l ++ [y]) q = cntIn l q + if y = q then 1 else 0 := by
  unfold cntIn
  rw [List.filter_append, List.length_append]
  congr 1
  by_cases h : y = q <;> simp [h]
theorem cntIn_le (l : List Nat) (q : Nat) : cntIn l q ≤ l.length := List.length_filter_le _ _
theorem cntIn_pos {l : List Nat} {q : Nat} (h : q ∈ l) : 1 ≤ cntIn l q := by
  unfold cntIn
  exact List.length_pos_of_mem (List.mem_filter.2 ⟨h, by simp⟩)
theorem cntIn_zero {l : List Nat} {q : Nat} (h : ¬ q ∈ l) : cntIn l q = 0 := by
  unfold cntIn
  rw [List.length_eq_zero_iff, List.filter_eq_nil_iff]
  intro y hy
  simp
  rintro rfl
  exact h hy
variable {head q a : Nat}
theorem Path.lt (h : H.Path head l q a) : ∀ y ∈ l, y < H.p := by
  induction h with
  | nil => simp
  | snoc h h1 h2 h3 ih =>
    rename_i l q a
    intro y hy
    rcases List.mem_append.1 hy with hy | hy
    · exact ih y hy
    · have : y = q - 1 := by simpa using hy
      omega
theorem Path.once (h : H.Path head l q a) : (∀ y ∈ l, H.cel y 3 ≠ a) ∧ (∀ y ∈ l, H.cel y 3 = 0 ∨ ∃ z ∈ l, H.cel y 3 = z + 1) ∧ (a = 0 ∨ ∃ z ∈ l, a = z + 1) ∧ ∀ y, cntIn l y ≤ 1 := by
  induction h with
  | nil => exact ⟨by simp, by simp, .inl rfl, fun y => by simp [cntIn]⟩
  | snoc h h1 h2 h3 ih =>
    rename_i l q a
    obtain ⟨i1, i2, i3, i4⟩ := ih
    have hnot : ¬ (q - 1) ∈ l := fun hm => i1 _ hm h3
    have hmem : ∀ y ∈ l ++ [q - 1], H.cel y 3 = 0 ∨ ∃ z ∈ l, H.cel y 3 = z + 1 := by
      intro y hy
      rcases List.mem_append.1 hy with hy | hy
      · exact i2 y hy
      · have : y = q - 1 := by simpa using hy
        subst this
        rw [h3]
        exact i3
    refine ⟨fun y hy he => ?_, fun y hy => ?_, .inr ⟨q - 1, by simp, by omega⟩, fun y => ?_⟩
    · rcases hmem y hy with h | ⟨z, hz, h⟩
      · omega
      · have : z = q - 1 := by omega
        subst this
        exact hnot hz
    · rcases hmem y hy with h | ⟨z, hz, h⟩
      · exact .inl h
      · exact .inr ⟨z, List.mem_append_left _ hz, h⟩
    · rw [cntIn_snoc]
      by_cases he : q - 1 = y
      · subst he
        rw [if_pos rfl, cntIn_zero hnot]
        omega
      · rw [if_neg he]
        exact i4 y
theorem chain_path {m : Nat} (hc : H.chain head m (H.V head) 0) (h : H.Path head l q a) : l.length ≤ m ∧ H.chain head (m - l.length) q a ∧ ∀ y ∈ l, H.tgt y = head := by
  induction h with
  | nil => exact ⟨by simp, hc, by simp⟩
  | snoc h h1 h2 h3 ih =>
    rename_i l q a
    obtain ⟨i1, i2, i3⟩ := ih
    rcases hr : m - l.length with _ | r
    · rw [hr] at i2
      have : q = 0 := i2
      omega
    · rw [hr] at i2
      obtain ⟨⟨_, _, g3, _⟩, g5⟩ := i2
      have e : m - (l ++ [q - 1]).length = r := by rw [List.length_append]; simp; omega
      refine ⟨by rw [List.length_append]; simp; omega, by rw [e]; exact g5, fun y hy => ?_⟩
      rcases List.mem_append.1 hy with hy | hy
      · exact i3 y hy
      · have : y = q - 1 := by simpa using hy
        rw [this]
        exact g3
theorem path_chain (h : H.Path head l q a) : ∀ {m : Nat}, (∀ y ∈ l, H.tgt y = head) → H.chain head m q a → H.chain head (l.length + m) (H.V head) 0 := by
  induction h with
  | nil => intro m _ hc; simpa using hc
  | snoc h h1 h2 h3 ih =>
    rename_i l q a
    intro m hy hc
    have := ih (m := m + 1) (fun y hm => hy y (List.mem_append_left _ hm)) ⟨⟨h1, h2, hy _ (by simp), h3⟩, hc⟩
    rw [List.length_append]
    rw [show l.length + [q - 1].length + m = l.length + (m + 1) by simp; omega]
    exact this
theorem sumTo_add (f g : Nat → Nat) : ∀ n, sumTo (fun q => f q + g q) n = sumTo f n + sumTo g n
  | 0 => rfl
  | n + 1 => by
    show sumTo (fun q => f q + g q) n + (f n + g n) = (sumTo f n + f n) + (sumTo g n + g n)
    rw [sumTo_add f g n]
    omega
theorem sumTo_zero : ∀ n, sumTo (fun _ => 0) n = 0
  | 0 => rfl
  | n + 1 => by show sumTo (fun _ => 0) n + 0 = 0; rw [sumTo_zero n]
theorem sumTo_one (y : Nat) : ∀ n, sumTo (fun q => if y = q then 1 else 0) n = if y < n then 1 else 0
  | 0 => by simp [sumTo]
  | n + 1 => by
    show sumTo _ n + (if y = n then 1 else 0) = _
    rw [sumTo_one y n]
    by_cases h1 : y < n
    · rw [if_pos h1, if_neg (by omega), if_pos (by omega)]
    · rw [if_neg h1]
      by_cases h2 : y = n
      · rw [if_pos h2, if_pos (by omega)]
      · rw [if_neg h2, if_neg (by omega)]
theorem sumTo_congr {f g : Nat → Nat} : ∀ n, (∀ q, q < n → f q = g q) → sumTo f n = sumTo g n
  | 0, _ => rfl
  | n + 1, h => by
    show sumTo f n + f n = sumTo g n + g n
    rw [sumTo_congr n (fun q hq => h q (by omega)), h n (by omega)]
theorem sumTo_mono {f g : Nat → Nat} : ∀ n, (∀ q, q < n → f q ≤ g q) → sumTo f n ≤ sumTo g n
  | 0, _ => Nat.le_refl _
  | n + 1, h => by
    have h1 := sumTo_mono n (fun q hq => h q (by omega))
    have h2 := h n (by omega)
    show sumTo f n + f n ≤ sumTo g n + g n
    omega
theorem sumTo_eq {f g : Nat → Nat} : ∀ n, (∀ q, q < n → f q ≤ g q) → sumTo f n = sumTo g n → ∀ q, q < n → f q = g q
  | 0, _, _, q, hq => by omega
  | n + 1, h, he, q, hq => by
    have h1 := sumTo_mono n (fun q hq => h q (by omega))
    have h2 := h n (by omega)
    have he' : sumTo f n + f n = sumTo g n + g n := he
    rcases Nat.lt_or_ge q n with h3 | h3
    · exact sumTo_eq n (fun q hq => h q (by omega)) (by omega) q h3
    · have : q = n := by omega
      subst this
      omega
theorem sumTo_cntIn (n : Nat) : ∀ l : List Nat, (∀ y ∈ l, y < n) → sumTo (cntIn l) n = l.length
  | [], _ => sumTo_zero n
  | y :: l, h => by
    have e : ∀ q, q < n → cntIn (y :: l) q = (if y = q then 1 else 0) + cntIn l q := fun q _ => by
      unfold cntIn
      rw [List.filter_cons]
      by_cases h : y = q
      · simp [h]; omega
      · simp [h]
    rw [sumTo_congr n e, sumTo_add, sumTo_one, if_pos (h y (by simp)), sumTo_cntIn n l (fun z hz => h z (by simp [hz]))]
    simp
    omega
theorem cnt_le (head : Int) (n : Nat) : H.cnt head n ≤ n := by
  have := sumTo_le (H.isF head) 1 n (fun q _ => by unfold isF; split <;> omega)
  unfold cnt
  omega
/-- the list has been walked to its end: it is the document's if each page is in it as often as it must be -/
theorem listOk_iff (h : H.Path head l 0 a) : H.ListOk head ↔ ∀ q, q < H.p → cntIn l q = H.isF head q := by
  constructor
  · intro hk
    obtain ⟨h1, h2, h3⟩ := chain_path hk h
    have hlen : l.length = H.cnt head H.p := by
      rcases hr : H.cnt head H.p - l.length with _ | r
      · omega
      · rw [hr] at h2
        have := h2.1.1
        omega
    refine sumTo_eq H.p (fun q hq => ?_) (by rw [sumTo_cntIn _ _ h.lt, hlen]; rfl)
    by_cases hm : q ∈ l
    · have := h.once.2.2.2 q
      unfold isF
      rw [if_pos (h3 q hm)]
      exact this
    · rw [cntIn_zero hm]
      exact Nat.zero_le _
  · intro hq
    have hm : ∀ y ∈ l, H.tgt y = head := fun y hy => by
      have h1 := cntIn_pos hy
      rw [hq y (h.lt y hy)] at h1
      unfold isF at h1
      by_cases he : H.tgt y = head
      · exact he
      · rw [if_neg he] at h1; omega
    have hlen : l.length = H.cnt head H.p := by
      rw [← sumTo_cntIn _ _ h.lt]
      exact sumTo_congr _ hq
    have := path_chain h (m := 0) hm rfl
    rw [Nat.add_zero, hlen] at this
    exact this
theorem listOk_goes (hk : H.ListOk head) (h : H.Path head l q a) (hq : q ≠ 0) : 1 ≤ q ∧ q ≤ H.p ∧ H.cel (q - 1) 3 = a ∧ l.length < H.p := by
  obtain ⟨h1, h2, h3⟩ := chain_path hk h
  have hc := cnt_le (H := H) head H.p
  rcases hr : H.cnt head H.p - l.length with _ | r
  · rw [hr] at h2
    exact absurd h2 hq
  · rw [hr] at h2
    obtain ⟨⟨g1, g2, _, g4⟩, _⟩ := h2
    exact ⟨g1, g2, g4, by omega⟩

/-! what full is, and what belongs in no list -/
theorem ones_full {v n : Nat} (hv : v < 2 ^ n) (hn : n ≤ 32) : HM.onesTo v 32 = n ↔ v = 2 ^ n - 1 := by
  have h32 : ∀ k, HM.onesTo v (n + k) = HM.onesTo v n := by
    intro k
    induction k with
    | zero => rfl
    | succ k ih =>
      rw [← Nat.add_assoc, HM.onesTo_succ, ih, Nat.testBit_lt_two_pow (Nat.lt_of_lt_of_le hv (Nat.pow_le_pow_right (by omega) (by omega)))]
      simp
  have e : HM.onesTo v 32 = HM.onesTo v n := by
    have := h32 (32 - n)
    rwa [show n + (32 - n) = 32 by omega] at this
  rw [e]
  have hf := HM.ones_free v n
  constructor
  · intro h
    have h0 : HM.freeTo v n = [] := List.length_eq_zero_iff.1 (by omega)
    apply Nat.eq_of_testBit_eq
    intro i
    rw [Nat.testBit_two_pow_sub_one]
    by_cases hi : i < n
    · unfold HM.freeTo at h0
      rw [List.filter_eq_nil_iff] at h0
      have := h0 i (List.mem_range.2 hi)
      simp at this
      rw [this, decide_eq_true hi]
    · rw [Nat.testBit_lt_two_pow (Nat.lt_of_lt_of_le hv (Nat.pow_le_pow_right (by omega) (by omega))), decide_eq_false hi]
  · intro h
    have h0 : HM.freeTo v n = [] := by
      unfold HM.freeTo
      rw [List.filter_eq_nil_iff]
      intro i hi
      rw [h, Nat.testBit_two_pow_sub_one]
      simpa using List.mem_range.1 hi
    rw [h0] at hf
    simpa using hf
end AuH
end Go.Proofs.Ythiobfghanlelaa

/-
  The document's Full, binned, racked. Written by doc12/gen_where.py.
-/
namespace Go.Proofs.Ythiobfghanlelaa
open Go.ChangeShapes Go.WideShapes Go.ChangeAt Go.RowKit Go.Shelf
set_option linter.unusedVariables false
set_option linter.unusedSimpArgs false


set_option maxHeartbeats 1600000 in
theorem xFull_c (v : Nat) (k : Int) (hk0 : 0 ≤ k) (hk1 : k ≤ 8) (hv : v < 2 ^ slotI k) (b : Bool) (hb : b = true ↔ v = 2 ^ slotI k - 1) (w : World) :
    Calls Try.prog 78 #[.int .u32 (v : Int), .int .i64 k] w fun e w' => e = .returned (.bool b) ∧ w = w' := by
  have hs := slotI_le k
  have hv32 : v < 2 ^ 32 := Nat.lt_of_lt_of_le hv (Nat.pow_le_pow_right (by omega) hs)
  have hf := AuH.ones_full hv hs
  obtain ⟨o, ho⟩ : ∃ o, HM.onesTo v 32 = o := ⟨_, rfl⟩
  obtain ⟨m, hm⟩ : ∃ m, slotI k = m := ⟨_, rfl⟩
  rw [ho, hm] at hf
  rw [hm] at hb
  have HO := hidp ho
  have HMM := hidp hm
  have t0 : ((o : Int) == (m : Int)) = b := by
    cases b
    · have : ¬ o = m := fun h => by have := hb.2 (hf.1 h); cases this
      simp; omega
    · have := hf.2 (hb.1 rfl)
      simp; omega
  clear hf hb ho hm hv hs
  go_enter Try.func78, Try.ntmps78
  go_wp2_with (first
    | (go_at_call 79; refine (ROnes_c v hv32 _).mono ?_; rintro e w1 ⟨rfl, rfl⟩; rw [HO.out])
    | (go_at_call 72; refine (r5Slots_c k (by omega) (by omega) _).mono ?_; rintro e w1 ⟨rfl, rfl⟩; rw [HMM.out])
    | fail)
  go_ret
  exact ⟨rfl, rfl⟩

set_option maxHeartbeats 1600000 in
theorem xBinned_c {H : AuH} {n c : Nat} (HV : HeapV H n c) (ad : Addr) {q : Nat} (hq : q < H.p) (k : Nat) (hk : k < 11) (b : Bool) (hb : b = true ↔ H.tgt q = 2 + (k : Int)) (w : World) (hv : IsVals w ad n H.V) :
    Calls Try.prog 74 #[hpV H ad n c, .int .i64 (q : Int), .int .i64 (k : Int)] w fun e w' => e = .returned (.bool b) ∧ Below w.heap.size w w' := by
  have HVL := hidp hv
  have HX0 := hidp (Held.new w 51 #[.int .i64 (H.t : Int), .int .i64 (H.p : Int), .int .i64 (H.s : Int), .slice (some ad) n c])
  obtain ⟨c0, c1, c2, c3⟩ := HX0.out.four
  have HBW := hidp (Bnew (B0 w) (.cells #[.int .i64 (H.t : Int), .int .i64 (H.p : Int), .int .i64 (H.s : Int), .slice (some ad) n c] 51))
  have hkc := H.K_cases q
  obtain ⟨kk, hkk⟩ : ∃ k, H.K q = k := ⟨_, rfl⟩
  obtain ⟨m, hmm⟩ : ∃ m, H.ln q = m := ⟨_, rfl⟩
  obtain ⟨cl, hcl⟩ : ∃ k, H.Cl q = k := ⟨_, rfl⟩
  have HK := hidp hkk
  have HLM := hidp hmm
  have HCL := hidp hcl
  have HBC := hidp hb
  rw [hkk, hmm, hcl] at hkc
  by_cases h1 : kk = 1
  · have ht := AuH.tgt_free (hkk.trans h1)
    rw [hmm] at ht
    obtain ⟨t, htt⟩ : ∃ t, HM.logI (m : Int) = t := ⟨_, rfl⟩
    rw [htt] at ht
    have HLG := hidp htt
    have q1 : (t == (k : Int)) = b := by
      rw [ht] at hb
      cases b
      · have : ¬ t = (k : Int) := fun h => by have := hb.2 (by omega); cases this
        simpa using this
      · have := hb.1 rfl
        simp; omega
    subst h1
    have hml : m ≤ 1024 := by omega
    clear hv hb hkk hmm hcl hkc ht htt
    unfold hpV
    go_enter Try.func74, Try.ntmps74
    go_wp2_with (first
      | (go_at_call 67; refine (xInfo_c HV ad hq _ (HVL.out.below HBW.out)).mono ?_; rintro e w2 ⟨rfl, hb2⟩; rw [HK.out, HLM.out, HCL.out]; have HB2 := hidp (Bnew (Bgo HBW.out hb2) (.cells #[.int .i64 1, .int .i64 (m : Int), .int .i64 cl] 96)); have HX2 := hidp ((HX0.out.keep hb2).alloc (.cells #[.int .i64 1, .int .i64 (m : Int), .int .i64 cl] 96)); clear hb2 c0 c1 c2 c3; obtain ⟨c0, c1, c2, c3⟩ := HX2.out.four; obtain ⟨d0, d1, d2⟩ := (Held.new w2 96 #[.int .i64 1, .int .i64 (m : Int), .int .i64 cl]).three)
      | (go_at_call 88; refine (RLog_c _ (by omega) (by omega) _).mono ?_; rintro e w3 ⟨rfl, rfl⟩; rw [HLG.out])
      | fail)
    go_ret
    exact ⟨rfl, HB2.out⟩
  · have q0 : (kk == 1) = false := by simpa using h1
    have HBF : Hid (b = false) := hidp (bool_no hb (fun h => by
      unfold AuH.tgt at h
      rw [hkk, hcl, if_neg h1] at h
      split at h <;> omega))
    clear hv hb hkk hmm hcl hkc h1
    unfold hpV
    go_enter Try.func74, Try.ntmps74
    go_wp2_with (first
      | (go_at_call 67; refine (xInfo_c HV ad hq _ (HVL.out.below HBW.out)).mono ?_; rintro e w2 ⟨rfl, hb2⟩; rw [HK.out, HLM.out, HCL.out]; have HB2 := hidp (Bnew (Bgo HBW.out hb2) (.cells #[.int .i64 kk, .int .i64 (m : Int), .int .i64 cl] 96)); have HX2 := hidp ((HX0.out.keep hb2).alloc (.cells #[.int .i64 kk, .int .i64 (m : Int), .int .i64 cl] 96)); clear hb2 c0 c1 c2 c3; obtain ⟨c0, c1, c2, c3⟩ := HX2.out.four; obtain ⟨d0, d1, d2⟩ := (Held.new w2 96 #[.int .i64 kk, .int .i64 (m : Int), .int .i64 cl]).three)
      | fail)
    go_ret
    exact ⟨by rw [HBF.out]; rfl, HB2.out⟩

set_option maxHeartbeats 3200000 in
theorem xRacked_c {H : AuH} {n c : Nat} (HV : HeapV H n c) (ad : Addr) {q : Nat} (hq : q < H.p) (hs : H.Slot5 q) (k : Nat) (hk : k < 9) (b : Bool) (hb : b = true ↔ H.tgt q = 13 + (k : Int)) (w : World) (hv : IsVals w ad n H.V) :
    Calls Try.prog 77 #[hpV H ad n c, .int .i64 (q : Int), .int .i64 (k : Int)] w fun e w' => e = .returned (.bool b) ∧ Below w.heap.size w w' := by
  have HVL := hidp hv
  have HX0 := hidp (Held.new w 51 #[.int .i64 (H.t : Int), .int .i64 (H.p : Int), .int .i64 (H.s : Int), .slice (some ad) n c])
  obtain ⟨c0, c1, c2, c3⟩ := HX0.out.four
  have HBW := hidp (Bnew (B0 w) (.cells #[.int .i64 (H.t : Int), .int .i64 (H.p : Int), .int .i64 (H.s : Int), .slice (some ad) n c] 51))
  have hkc := H.K_cases q
  obtain ⟨kk, hkk⟩ : ∃ k, H.K q = k := ⟨_, rfl⟩
  obtain ⟨m, hmm⟩ : ∃ m, H.ln q = m := ⟨_, rfl⟩
  obtain ⟨cl, hcl⟩ : ∃ k, H.Cl q = k := ⟨_, rfl⟩
  have HK := hidp hkk
  have HLM := hidp hmm
  have HCL := hidp hcl
  have HBC := hidp hb
  rw [hkk, hmm, hcl] at hkc
  by_cases h3 : kk = 3
  · obtain ⟨h5a, h5b, h5c⟩ := hs.1 (hkk.trans h3)
    obtain ⟨tk, htk⟩ : ∃ t, H.cel q 5 = t := ⟨_, rfl⟩
    rw [htk, hcl] at h5b
    have HTK := hidp htk
    by_cases hck : cl = (k : Int)
    · have q1 : (cl == (k : Int)) = true := by simpa using hck
      have HFU : Hid (∀ W, Calls Try.prog 78 #[.int .u32 (tk : Int), .int .i64 (k : Int)] W fun e w' => e = .returned (.bool (!b)) ∧ W = w') := hidp (fun W => by
        refine xFull_c tk k (by omega) (by omega) (by rw [← hck]; exact h5b) (!b) ?_ W
        cases hbb : b
        · refine ⟨fun _ => ?_, fun _ => rfl⟩
          by_cases h6 : tk = 2 ^ slotI (k : Int) - 1
          · exact h6
          · have := hb.2 (by rw [AuH.tgt_slab (hkk.trans h3) (by rw [htk, hcl, hck]; exact h6), hcl, hck])
            rw [hbb] at this; cases this
        · refine ⟨fun h => (by cases h), fun h6 => ?_⟩
          have h7 := hb.1 hbb
          rw [AuH.tgt_full (hkk.trans h3) (by rw [htk, hcl, hck]; exact h6)] at h7
          omega)
      subst h3
      clear hv hb hkk hmm hcl hkc htk h5a h5b h5c hs hck
      unfold hpV
      go_enter Try.func77, Try.ntmps77
      go_wp2_with (first
        | (go_at_call 67; refine (xInfo_c HV ad hq _ (HVL.out.below HBW.out)).mono ?_; rintro e w2 ⟨rfl, hb2⟩; rw [HK.out, HLM.out, HCL.out]; have HB2 := hidp (Bnew (Bgo HBW.out hb2) (.cells #[.int .i64 3, .int .i64 (m : Int), .int .i64 cl] 96)); have HX2 := hidp ((HX0.out.keep hb2).alloc (.cells #[.int .i64 3, .int .i64 (m : Int), .int .i64 cl] 96)); clear hb2 c0 c1 c2 c3; obtain ⟨c0, c1, c2, c3⟩ := HX2.out.four; obtain ⟨d0, d1, d2⟩ := (Held.new w2 96 #[.int .i64 3, .int .i64 (m : Int), .int .i64 cl]).three)
        | (go_at_call 71; refine (xTaken_c HV ad hq _ (HVL.out.below HB2.out)).mono ?_; rintro e w3 ⟨rfl, hb3⟩; rw [HTK.out]; have HB3 := hidp (Bgo HB2.out hb3); clear hb3)
        | (go_at_call 78; refine (HFU.out _).mono ?_; rintro e w4 ⟨rfl, rfl⟩)
        | fail)
      go_ret
      exact ⟨by cases b <;> rfl, HB3.out⟩
    · have q1 : (cl == (k : Int)) = false := by simpa using hck
      have HBF : Hid (b = false) := hidp (bool_no hb (fun h => by
        unfold AuH.tgt at h
        rw [hkk, hcl, if_neg (by omega)] at h
        split at h <;> omega))
      subst h3
      clear hv hb hkk hmm hcl hkc htk h5a h5b h5c hs hck
      unfold hpV
      go_enter Try.func77, Try.ntmps77
      go_wp2_with (first
        | (go_at_call 67; refine (xInfo_c HV ad hq _ (HVL.out.below HBW.out)).mono ?_; rintro e w2 ⟨rfl, hb2⟩; rw [HK.out, HLM.out, HCL.out]; have HB2 := hidp (Bnew (Bgo HBW.out hb2) (.cells #[.int .i64 3, .int .i64 (m : Int), .int .i64 cl] 96)); have HX2 := hidp ((HX0.out.keep hb2).alloc (.cells #[.int .i64 3, .int .i64 (m : Int), .int .i64 cl] 96)); clear hb2 c0 c1 c2 c3; obtain ⟨c0, c1, c2, c3⟩ := HX2.out.four; obtain ⟨d0, d1, d2⟩ := (Held.new w2 96 #[.int .i64 3, .int .i64 (m : Int), .int .i64 cl]).three)
        | fail)
      go_ret
      exact ⟨by rw [HBF.out]; rfl, HB2.out⟩
  · have q0 : (kk == 3) = false := by simpa using h3
    have HBF : Hid (b = false) := hidp (bool_no hb (fun h => by
      unfold AuH.tgt at h
      rw [hkk, hmm] at h
      by_cases h1 : kk = 1
      · rw [if_pos h1] at h
        have := AuH.log_few (n := m) (by omega) (by omega)
        omega
      · rw [if_neg h1, if_neg (by omega)] at h
        omega))
    clear hv hb hkk hmm hcl hkc h3 hs
    unfold hpV
    go_enter Try.func77, Try.ntmps77
    go_wp2_with (first
      | (go_at_call 67; refine (xInfo_c HV ad hq _ (HVL.out.below HBW.out)).mono ?_; rintro e w2 ⟨rfl, hb2⟩; rw [HK.out, HLM.out, HCL.out]; have HB2 := hidp (Bnew (Bgo HBW.out hb2) (.cells #[.int .i64 kk, .int .i64 (m : Int), .int .i64 cl] 96)); have HX2 := hidp ((HX0.out.keep hb2).alloc (.cells #[.int .i64 kk, .int .i64 (m : Int), .int .i64 cl] 96)); clear hb2 c0 c1 c2 c3; obtain ⟨c0, c1, c2, c3⟩ := HX2.out.four; obtain ⟨d0, d1, d2⟩ := (Held.new w2 96 #[.int .i64 kk, .int .i64 (m : Int), .int .i64 cl]).three)
      | fail)
    go_ret
    exact ⟨by rw [HBF.out]; rfl, HB2.out⟩
end Go.Proofs.Ythiobfghanlelaa

/-
  The document's rule 9. Written by doc12/gen_counts.py.
-/
namespace Go.Proofs.Ythiobfghanlelaa
open Go.ChangeShapes Go.WideShapes Go.ChangeAt Go.RowKit Go.Shelf
set_option linter.unusedVariables false
set_option linter.unusedSimpArgs false


set_option maxHeartbeats 6400000 in
set_option maxRecDepth 100000 in
theorem xCounts_c {H : AuH} {n c : Nat} (HV : HeapV H n c) (h5 : H.R5) (ad : Addr) (b : Bool) (hb : b = true ↔ H.R9) (w : World) (hv : IsVals w ad n H.V) :
    Calls Try.prog 62 #[hpV H ad n c] w fun e w' => e = .returned (.bool b) ∧ Below w.heap.size w w' := by
  have HVL := hidp hv
  have HX0 := hidp (Held.new w 51 #[.int .i64 (H.t : Int), .int .i64 (H.p : Int), .int .i64 (H.s : Int), .slice (some ad) n c])
  obtain ⟨c0, c1, c2, c3⟩ := HX0.out.four
  have HBW := hidp (Bnew (B0 w) (.cells #[.int .i64 (H.t : Int), .int .i64 (H.p : Int), .int .i64 (H.s : Int), .slice (some ad) n c] 51))
  have hn := HV.nums
  have hcx : c ≤ 9223372036854775807 := hn.2.2.2.2.2.2.2.2
  have hni : n ≤ 6238 := hn.2.2.2.2.2.2.1
  have hnc := HV.cap
  have hp1 := hn.2.2.2.1
  have hn30 : 30 ≤ n := by have := HV.len; omega
  have HBC := hidp hb
  have HR5 := hidp h5
  clear hv hn hb h5
  unfold hpV
  go_enter Try.func62, Try.ntmps62
  go_wp2_with fail
  go_loopw [3, 4, 5] (fun u3 u4 u5 wr => ∃ (p f v : Nat), p ≤ H.p ∧ u5 = .int .i64 (p : Int) ∧ u3 = .int .i64 (f : Int) ∧ u4 = .int .i64 (v : Int) ∧ Hid (AuH.sumTo H.freeF p = f) ∧ Hid (AuH.sumTo H.liveF p = v) ∧ Hid (Held wr w.heap.size 51 #[.int .i64 (H.t : Int), .int .i64 (H.p : Int), .int .i64 (H.s : Int), .slice (some ad) n c]) ∧ Hid (Below w.heap.size w wr)) (fun _ _ u5 _ => H.p - (intOf u5).toNat)
  case atStart => exact ⟨0, 0, 0, by omega, rfl, rfl, rfl, hidp rfl, hidp rfl, HX0, HBW⟩
  case round =>
    clear c0 c1 c2 c3 HX0 HBW
    obtain ⟨p, f, v, hp, rfl, rfl, rfl, HSF, HSL, HX, HB⟩ := hrel
    obtain ⟨c0, c1, c2, c3⟩ := HX.out.four
    have hsum := AuH.sums_le (H := H) p (by omega)
    rw [HSF.out, HSL.out] at hsum
    obtain ⟨hf, hl⟩ := hsum
    by_cases hlt : p < H.p
    · have t0 : decide ((p : Int) < H.p) = true := decide_eq_true (by omega)
      have HVR := hidp (HVL.out.below HB.out)
      have h4 := HR5.out p hlt
      obtain ⟨sv, hsv⟩ : ∃ v, H.cel p 4 = v := ⟨_, rfl⟩
      have HSV := hidp hsv
      have hs32 := HV.cel_lt hlt (show 4 < 6 by omega)
      rw [hsv] at hs32
      obtain ⟨o, ho⟩ : ∃ o, HM.onesTo sv 32 = o := ⟨_, rfl⟩
      have HON := hidp ho
      have ho32 : o ≤ 32 := by rw [← ho]; exact HM.onesTo_le _ _
      have hkc := H.K_cases p
      obtain ⟨kk, hkk⟩ : ∃ k, H.K p = k := ⟨_, rfl⟩
      obtain ⟨m, hmm⟩ : ∃ m, H.ln p = m := ⟨_, rfl⟩
      obtain ⟨cl, hcl⟩ : ∃ k, H.Cl p = k := ⟨_, rfl⟩
      have HK := hidp hkk
      have HM := hidp hmm
      have HCL := hidp hcl
      have hff : H.freeF p = if kk = 1 then m else 0 := by unfold AuH.freeF; rw [hkk, hmm]
      have hlf : H.liveF p = if kk = 2 then 1 else if kk = 3 then o else 0 := by unfold AuH.liveF; rw [hkk, hsv, ho]
      have ho0 : kk ≠ 3 → o = 0 := fun h => by
        have := (h4.2 (by rw [hkk]; exact h)).2
        rw [← ho, ← hsv, this]
        decide
      rw [hkk, hmm, hcl] at hkc
      clear ho hsv
      rcases (by omega : kk = 0 ∨ kk = 1 ∨ kk = 2 ∨ kk = 3) with hk | hk | hk | hk
      · have HFR : Hid (H.freeF p = 0) := hidp (by rw [hff, if_neg (by omega)])
        have HLI : Hid (H.liveF p = 0) := hidp (by rw [hlf, if_neg (by omega), if_neg (by omega)])
        have hoz := ho0 (by omega)
        subst hoz
        have s1 : IntKind.i64.wrap ((v : Int) + ((0 : Nat) : Int)) = (v : Int) := by rw [i64_same (by omega) (by omega)]; omega
        clear hff hlf ho0
        subst hk
        clear hkc h4 hkk hmm hcl
        go_wp2_with (first
          | (go_at_call 67; refine (xInfo_c HV ad hlt _ HVR.out).mono ?_; rintro e w2 ⟨rfl, hb2⟩; rw [HK.out, HM.out, HCL.out]; have HB2 := hidp (Bnew (Bgo HB.out hb2) (.cells #[.int .i64 0, .int .i64 (m : Int), .int .i64 cl] 96)); have HX2 := hidp ((HX.out.keep hb2).alloc (.cells #[.int .i64 0, .int .i64 (m : Int), .int .i64 cl] 96)); clear hb2 c0 c1 c2 c3; obtain ⟨c0, c1, c2, c3⟩ := HX2.out.four; obtain ⟨d0, d1, d2⟩ := (Held.new w2 96 #[.int .i64 0, .int .i64 (m : Int), .int .i64 cl]).three)
          | (go_at_call 70; refine (xSlots_c HV ad hlt _ (HVL.out.below HB2.out)).mono ?_; rintro e w3 ⟨rfl, hb3⟩; rw [HSV.out]; have HB3 := hidp (Bgo HB2.out hb3); have HX3 := hidp (HX2.out.keep hb3); clear hb3)
          | (go_at_call 79; refine (ROnes_c sv hs32 _).mono ?_; rintro e w4 ⟨rfl, rfl⟩; rw [HON.out])
          | fail)
        go_roundw
        case rel => exact ⟨p + 1, H.freeF p + f, H.liveF p + v, by omega, by go_num, by have h := HFR.out; simp only [h]; first | rfl | (congr 1; omega), by have h := HLI.out; simp only [h]; first | rfl | (congr 1; omega), hidp (by have := HSF.out; show AuH.sumTo H.freeF p + H.freeF p = _; omega), hidp (by have := HSL.out; show AuH.sumTo H.liveF p + H.liveF p = _; omega), HX3, HB3⟩
        case measure => simp [intOf]; omega
      · have HFR : Hid (H.freeF p = m) := hidp (by rw [hff, if_pos hk])
        have HLI : Hid (H.liveF p = 0) := hidp (by rw [hlf, if_neg (by omega), if_neg (by omega)])
        have hoz := ho0 (by omega)
        subst hoz
        have hmb : m ≤ 1024 := by omega
        have s0 : IntKind.i64.wrap ((f : Int) + (m : Int)) = ((m + f : Nat) : Int) := by rw [i64_same (by omega) (by omega)]; omega
        have s1 : IntKind.i64.wrap ((v : Int) + ((0 : Nat) : Int)) = (v : Int) := by rw [i64_same (by omega) (by omega)]; omega
        clear hff hlf ho0
        subst hk
        clear hkc h4 hkk hmm hcl
        go_wp2_with (first
          | (go_at_call 67; refine (xInfo_c HV ad hlt _ HVR.out).mono ?_; rintro e w2 ⟨rfl, hb2⟩; rw [HK.out, HM.out, HCL.out]; have HB2 := hidp (Bnew (Bgo HB.out hb2) (.cells #[.int .i64 1, .int .i64 (m : Int), .int .i64 cl] 96)); have HX2 := hidp ((HX.out.keep hb2).alloc (.cells #[.int .i64 1, .int .i64 (m : Int), .int .i64 cl] 96)); clear hb2 c0 c1 c2 c3; obtain ⟨c0, c1, c2, c3⟩ := HX2.out.four; obtain ⟨d0, d1, d2⟩ := (Held.new w2 96 #[.int .i64 1, .int .i64 (m : Int), .int .i64 cl]).three)
          | (go_at_call 70; refine (xSlots_c HV ad hlt _ (HVL.out.below HB2.out)).mono ?_; rintro e w3 ⟨rfl, hb3⟩; rw [HSV.out]; have HB3 := hidp (Bgo HB2.out hb3); have HX3 := hidp (HX2.out.keep hb3); clear hb3)
          | (go_at_call 79; refine (ROnes_c sv hs32 _).mono ?_; rintro e w4 ⟨rfl, rfl⟩; rw [HON.out])
          | fail)
        go_roundw
        case rel => exact ⟨p + 1, H.freeF p + f, H.liveF p + v, by omega, by go_num, by have h := HFR.out; simp only [h]; first | rfl | (congr 1; omega), by have h := HLI.out; simp only [h]; first | rfl | (congr 1; omega), hidp (by have := HSF.out; show AuH.sumTo H.freeF p + H.freeF p = _; omega), hidp (by have := HSL.out; show AuH.sumTo H.liveF p + H.liveF p = _; omega), HX3, HB3⟩
        case measure => simp [intOf]; omega
      · have HFR : Hid (H.freeF p = 0) := hidp (by rw [hff, if_neg (by omega)])
        have HLI : Hid (H.liveF p = 1) := hidp (by rw [hlf, if_pos (by omega)])
        have hoz := ho0 (by omega)
        subst hoz
        have s0 : IntKind.i64.wrap ((v : Int) + 1) = ((1 + v : Nat) : Int) := by rw [i64_same (by omega) (by omega)]; omega
        have s1 : IntKind.i64.wrap (((1 + v : Nat) : Int) + ((0 : Nat) : Int)) = ((1 + v : Nat) : Int) := by rw [i64_same (by omega) (by omega)]; omega
        clear hff hlf ho0
        subst hk
        clear hkc h4 hkk hmm hcl
        go_wp2_with (first
          | (go_at_call 67; refine (xInfo_c HV ad hlt _ HVR.out).mono ?_; rintro e w2 ⟨rfl, hb2⟩; rw [HK.out, HM.out, HCL.out]; have HB2 := hidp (Bnew (Bgo HB.out hb2) (.cells #[.int .i64 2, .int .i64 (m : Int), .int .i64 cl] 96)); have HX2 := hidp ((HX.out.keep hb2).alloc (.cells #[.int .i64 2, .int .i64 (m : Int), .int .i64 cl] 96)); clear hb2 c0 c1 c2 c3; obtain ⟨c0, c1, c2, c3⟩ := HX2.out.four; obtain ⟨d0, d1, d2⟩ := (Held.new w2 96 #[.int .i64 2, .int .i64 (m : Int), .int .i64 cl]).three)
          | (go_at_call 70; refine (xSlots_c HV ad hlt _ (HVL.out.below HB2.out)).mono ?_; rintro e w3 ⟨rfl, hb3⟩; rw [HSV.out]; have HB3 := hidp (Bgo HB2.out hb3); have HX3 := hidp (HX2.out.keep hb3); clear hb3)
          | (go_at_call 79; refine (ROnes_c sv hs32 _).mono ?_; rintro e w4 ⟨rfl, rfl⟩; rw [HON.out])
          | fail)
        go_roundw
        case rel => exact ⟨p + 1, H.freeF p + f, H.liveF p + v, by omega, by go_num, by have h := HFR.out; simp only [h]; first | rfl | (congr 1; omega), by have h := HLI.out; simp only [h]; first | rfl | (congr 1; omega), hidp (by have := HSF.out; show AuH.sumTo H.freeF p + H.freeF p = _; omega), hidp (by have := HSL.out; show AuH.sumTo H.liveF p + H.liveF p = _; omega), HX3, HB3⟩
        case measure => simp [intOf]; omega
      · have HFR : Hid (H.freeF p = 0) := hidp (by rw [hff, if_neg (by omega)])
        have HLI : Hid (H.liveF p = o) := hidp (by rw [hlf, if_neg (by omega), if_pos hk])
        have s1 : IntKind.i64.wrap ((v : Int) + (o : Int)) = ((o + v : Nat) : Int) := by rw [i64_same (by omega) (by omega)]; omega
        clear hff hlf ho0
        subst hk
        clear hkc h4 hkk hmm hcl
        go_wp2_with (first
          | (go_at_call 67; refine (xInfo_c HV ad hlt _ HVR.out).mono ?_; rintro e w2 ⟨rfl, hb2⟩; rw [HK.out, HM.out, HCL.out]; have HB2 := hidp (Bnew (Bgo HB.out hb2) (.cells #[.int .i64 3, .int .i64 (m : Int), .int .i64 cl] 96)); have HX2 := hidp ((HX.out.keep hb2).alloc (.cells #[.int .i64 3, .int .i64 (m : Int), .int .i64 cl] 96)); clear hb2 c0 c1 c2 c3; obtain ⟨c0, c1, c2, c3⟩ := HX2.out.four; obtain ⟨d0, d1, d2⟩ := (Held.new w2 96 #[.int .i64 3, .int .i64 (m : Int), .int .i64 cl]).three)
          | (go_at_call 70; refine (xSlots_c HV ad hlt _ (HVL.out.below HB2.out)).mono ?_; rintro e w3 ⟨rfl, hb3⟩; rw [HSV.out]; have HB3 := hidp (Bgo HB2.out hb3); have HX3 := hidp (HX2.out.keep hb3); clear hb3)
          | (go_at_call 79; refine (ROnes_c sv hs32 _).mono ?_; rintro e w4 ⟨rfl, rfl⟩; rw [HON.out])
          | fail)
        go_roundw
        case rel => exact ⟨p + 1, H.freeF p + f, H.liveF p + v, by omega, by go_num, by have h := HFR.out; simp only [h]; first | rfl | (congr 1; omega), by have h := HLI.out; simp only [h]; first | rfl | (congr 1; omega), hidp (by have := HSF.out; show AuH.sumTo H.freeF p + H.freeF p = _; omega), hidp (by have := HSL.out; show AuH.sumTo H.liveF p + H.liveF p = _; omega), HX3, HB3⟩
        case measure => simp [intOf]; omega
    · have t0 : decide ((p : Int) < H.p) = false := decide_eq_false (by omega)
      have hpe : p = H.p := by omega
      have HVR := hidp (HVL.out.below HB.out)
      have e0 := HVR.out.2 0 (by omega)
      have e1 := HVR.out.2 1 (by omega)
      have e0z : ad.add 0 = ad := by simp [Addr.add]
      rw [e0z] at e0
      have i0 : (0 : Int) < n := by omega
      have i1 : (1 : Int) < n := by omega
      have hv0 := HV.lt 0 (by omega)
      have hv1 := HV.lt 1 (by omega)
      have HR : Hid (H.R9 ↔ H.V 0 = f ∧ H.V 1 = v) := hidp (by
        have h1 := HSF.out
        have h2 := HSL.out
        rw [hpe] at h1 h2
        unfold AuH.R9
        rw [h1, h2, Nat.mod_eq_of_lt (by omega), Nat.mod_eq_of_lt (by omega)])
      obtain ⟨x0, hx0⟩ : ∃ x, H.V 0 = x := ⟨_, rfl⟩
      obtain ⟨x1, hx1⟩ : ∃ x, H.V 1 = x := ⟨_, rfl⟩
      rw [hx0] at e0 hv0 HR
      rw [hx1] at e1 hv1 HR
      have e1b : wr.cell? { block := ad.block, off := ad.off + 1 } = some (.int .u32 (x1 : Int)) := e1
      have u0 : IntKind.u32.wrap (f : Int) = (f : Int) := wrap_nat32 _ (by omega)
      have u1 : IntKind.u32.wrap (v : Int) = (v : Int) := wrap_nat32 _ (by omega)
      clear hpe hx0 hx1
      by_cases g0 : x0 = f
      · have q0 : ((x0 : Int) == (f : Int)) = true := by simp; omega
        have q1 : ((x1 : Int) == (v : Int)) = b := by
          have h := HBC.out
          rw [HR.out] at h
          by_cases g1 : x1 = v
          · rw [bool_yes h ⟨g0, g1⟩]; simp; omega
          · rw [bool_no h (fun h => g1 h.2)]; simp; omega
        clear g0
        go_wp2_with fail
        go_ret
        exact ⟨rfl, HB.out⟩
      · have q0 : ((x0 : Int) == (f : Int)) = false := by simp; omega
        have HBF : Hid (b = false) := hidp (bool_no HBC.out (fun h => g0 (HR.out.1 h).1))
        clear g0
        go_wp2_with fail
        go_ret
        exact ⟨by rw [HBF.out]; rfl, HB.out⟩
end Go.Proofs.Ythiobfghanlelaa
