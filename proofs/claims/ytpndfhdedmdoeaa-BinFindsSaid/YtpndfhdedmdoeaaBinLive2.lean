/-
  The page's example (nacrelaw14.live): the walk. Written by bin/gen_live.py.
-/
import Derived.Test.YtpndfhdedmdoeaaBinLive
namespace Go.Proofs.Ytpndfhdedmdoeaa
open Go.ChangeShapes Go.WideShapes Go.ChangeAt Go.RowKit Go.Maps
set_option linter.unusedVariables false
set_option linter.unusedSimpArgs false
set_option maxRecDepth 100000

theorem ex14_len : ex14L.length = 82 := by decide
theorem ex14_32 : ∀ x ∈ ex14L, x < 2 ^ 32 := by decide
theorem ex14_cells {w : World} {g : Nat} {t : TypeId} (h : Held w g t ex14C) : ∀ j u, (valVs ex14L)[j]? = some u → w.cell? ((⟨g, 0, none⟩ : Addr).add j) = some u := by
  intro j u hu
  have e : (⟨g, 0, none⟩ : Addr).add j = ⟨g, j, none⟩ := by
    unfold Addr.add
    by_cases hz : j = 0
    · rw [if_pos hz, hz]
    · rw [if_neg hz]; simp
  rw [e, h.cell j, ← hu, ← ex14_eq]
  simp

set_option maxHeartbeats 3200000 in
theorem live14_c (w : World) : Calls Try.prog 7 #[] w fun e w' => e = .returned (.bool true) ∧ Below w.heap.size w w' := by
  go_enter Try.func7, Try.ntmps7
  go_wp2_with fail
  refine (Eight14_c _).mono ?_
  rintro e w1 ⟨g, rfl, hg, hb⟩
  have HG := hidp (hg.alloc (.cells #[.int .i64 1, .int .i64 8, .int .i64 10] 23))
  have HC := hidp (Held.new w1 23 #[.int .i64 1, .int .i64 8, .int .i64 10])
  have HB := hidp (Bnew hb (.cells #[.int .i64 1, .int .i64 8, .int .i64 10] 23))
  clear hg hb
  generalize hNC : w1.heap.size = NC at *
  obtain ⟨x0, x1, x2⟩ := HC.out.three
  go_wp2_with fail
  replace HC := hidp HC.out.drw
  replace HG := hidp HG.out.drw
  replace HB := hidp (Bdrew HB.out)
  refine wp_region_held_drew (S := (fun w' => w'.cell? ⟨NC, 0, none⟩ = some (.int .i64 1) ∧ w'.cell? ⟨NC, 1, none⟩ = some (.int .i64 8) ∧ w'.cell? ⟨NC, 2, none⟩ = some (.int .i64 10))) (by kernel_rfl) ?_ (fun hHeld => ?_)
  · (try dsimp only)
    first | exact HC.out.three | exact hHeld
  refine tkO (i := 0) (v := ?_) rfl (by kernel_rfl) (fun _ _ _ h => h) (by rfl) ?_ (by assumption) ?_
  rotate_left
  · intro w hSw; (try dsimp only at hSw); go_simp; (try with_reducible rfl)
  (try simp only [Act.put, gA, gB, gC, sA, sB, sC])
  refine tkO (i := 2) (v := ?_) rfl (by kernel_rfl) (fun _ _ _ h => h) (by rfl) ?_ (by assumption) ?_
  rotate_left
  · intro w hSw; (try dsimp only at hSw); go_simp; (try with_reducible rfl)
  (try simp only [Act.put, gA, gB, gC, sA, sB, sC])
  refine wpAnyH_ready (rs := [1]) (by kernel_rfl) (by simp) ?_
  refine AllReadyH.cons (o := _) rfl (fun K hK => ?_) AllReadyH.nil
  go_simp
  refine (Whole_c (some ⟨g, 0, none⟩) 82 ex14L 82 ex14_len (by omega) ex14_32 _ (fun _ => ⟨_, rfl, ex14_cells HG.out⟩)).mono ?_
  rintro e v1a ⟨b, o, rfl, hI, hB⟩
  have HD := hidp (duo_made (W := w) (G := fun i => i = NC ∨ i = g) hI HB.out.size (Bgo HB.out hB) (fun i hi => by
    have h1 := HC.out.lt
    have h2 := HG.out.lt
    have h3 := hB.size
    rcases hi with rfl | rfl
    · exact ⟨by omega, fun x => by have := hI.ge _ x; omega⟩
    · exact ⟨by omega, fun x => by have := hI.ge _ x; omega⟩))
  replace HC := hidp (HC.out.keep hB)
  replace HG := hidp (HG.out.keep hB)
  clear hI hB HB
  refine hK.out _ _ ?_ (fun hHeld => ?_)
  · (try dsimp only)
    first | exact HC.out.three | exact hHeld
  clear hK K
  (try simp only [Act.put, gA, gB, gC, sA, sB, sC])
  refine wpAnyH_ready (rs := [3]) (by kernel_rfl) (by simp) ?_
  refine AllReadyH.cons (o := _) rfl (fun K hK => ?_) AllReadyH.nil
  go_simp
  refine (bnFind_c (by omega) (by omega) 5 HD.out.at1).mono ?_
  rintro e v1b ⟨rfl, h1, _⟩
  obtain ⟨A4, h2, h3⟩ := HD.out.left1 h1.left
  replace HC := hidp (h3.held (.inl rfl) HC.out)
  replace HG := hidp (h3.held (.inr rfl) HG.out)
  have HB := hidp h2.bel
  clear h1 h2 h3 HD
  rw [show (findI 82 (fun i => ex14L[i]?) 1 8 10 5 freshS).1 = some 0 from ex14_find5]
  refine hK.out _ _ ?_ (fun hHeld => ?_)
  · (try dsimp only)
    first | exact HC.out.three | exact hHeld
  clear hK K
  (try simp only [Act.put, gA, gB, gC, sA, sB, sC])
  refine tkO (i := 4) (v := ?_) rfl (by kernel_rfl) (fun _ _ _ h => h) (by rfl) ?_ (by assumption) ?_
  rotate_left
  · intro w hSw; (try dsimp only at hSw); go_simp; (try with_reducible rfl)
  (try simp only [Act.put, gA, gB, gC, sA, sB, sC])
  refine tkO (i := 5) (v := ?_) rfl (by kernel_rfl) (fun _ _ _ h => h) (by rfl) ?_ (by assumption) ?_
  rotate_left
  · intro w hSw; (try dsimp only at hSw); go_simp; (try with_reducible rfl)
  (try simp only [Act.put, gA, gB, gC, sA, sB, sC])
  refine tkO (i := 6) (v := ?_) rfl (by kernel_rfl) (fun _ _ _ h => h) (by rfl) ?_ (by assumption) ?_
  rotate_left
  · intro w hSw; (try dsimp only at hSw); go_simp; (try with_reducible rfl)
  (try simp only [Act.put, gA, gB, gC, sA, sB, sC])
  refine tkO (i := 7) (v := ?_) rfl (by kernel_rfl) (fun _ _ _ h => h) (by rfl) ?_ (by assumption) ?_
  rotate_left
  · intro w hSw; (try dsimp only at hSw); go_simp; (try with_reducible rfl)
  (try simp only [Act.put, gA, gB, gC, sA, sB, sC])
  refine tkO (i := 8) (v := ?_) rfl (by kernel_rfl) (fun _ _ _ h => h) (by rfl) ?_ (by assumption) ?_
  rotate_left
  · intro w hSw; (try dsimp only at hSw); go_simp; (try with_reducible rfl)
  (try simp only [Act.put, gA, gB, gC, sA, sB, sC])
  refine wpAnyH_done (by kernel_rfl) ?_ _
  clear x0 x1 x2
  obtain ⟨x0, x1, x2⟩ := HC.out.three
  go_wp2_with fail
  replace HC := hidp HC.out.drw
  replace HG := hidp HG.out.drw
  replace HB := hidp (Bdrew HB.out)
  refine wp_region_held_drew (S := (fun w' => w'.cell? ⟨NC, 0, none⟩ = some (.int .i64 1) ∧ w'.cell? ⟨NC, 1, none⟩ = some (.int .i64 8) ∧ w'.cell? ⟨NC, 2, none⟩ = some (.int .i64 10))) (by kernel_rfl) ?_ (fun hHeld => ?_)
  · (try dsimp only)
    first | exact HC.out.three | exact hHeld
  refine tkO (i := 0) (v := ?_) rfl (by kernel_rfl) (fun _ _ _ h => h) (by rfl) ?_ (by assumption) ?_
  rotate_left
  · intro w hSw; (try dsimp only at hSw); go_simp; (try with_reducible rfl)
  (try simp only [Act.put, gA, gB, gC, sA, sB, sC])
  refine tkO (i := 2) (v := ?_) rfl (by kernel_rfl) (fun _ _ _ h => h) (by rfl) ?_ (by assumption) ?_
  rotate_left
  · intro w hSw; (try dsimp only at hSw); go_simp; (try with_reducible rfl)
  (try simp only [Act.put, gA, gB, gC, sA, sB, sC])
  refine wpAnyH_ready (rs := [1]) (by kernel_rfl) (by simp) ?_
  refine AllReadyH.cons (o := _) rfl (fun K hK => ?_) AllReadyH.nil
  go_simp
  refine (Whole_c (some ⟨g, 0, none⟩) 82 ex14L 82 ex14_len (by omega) ex14_32 _ (fun _ => ⟨_, rfl, ex14_cells HG.out⟩)).mono ?_
  rintro e v2a ⟨b, o, rfl, hI, hB⟩
  have HD := hidp (duo_made (W := w) (G := fun i => i = NC ∨ i = g) hI HB.out.size (Bgo HB.out hB) (fun i hi => by
    have h1 := HC.out.lt
    have h2 := HG.out.lt
    have h3 := hB.size
    rcases hi with rfl | rfl
    · exact ⟨by omega, fun x => by have := hI.ge _ x; omega⟩
    · exact ⟨by omega, fun x => by have := hI.ge _ x; omega⟩))
  replace HC := hidp (HC.out.keep hB)
  replace HG := hidp (HG.out.keep hB)
  clear hI hB HB
  refine hK.out _ _ ?_ (fun hHeld => ?_)
  · (try dsimp only)
    first | exact HC.out.three | exact hHeld
  clear hK K
  (try simp only [Act.put, gA, gB, gC, sA, sB, sC])
  refine wpAnyH_ready (rs := [3]) (by kernel_rfl) (by simp) ?_
  refine AllReadyH.cons (o := _) rfl (fun K hK => ?_) AllReadyH.nil
  go_simp
  refine (bnFind_c (by omega) (by omega) 9 HD.out.at1).mono ?_
  rintro e v2b ⟨rfl, h1, _⟩
  obtain ⟨A4, h2, h3⟩ := HD.out.left1 h1.left
  replace HC := hidp (h3.held (.inl rfl) HC.out)
  replace HG := hidp (h3.held (.inr rfl) HG.out)
  have HB := hidp h2.bel
  clear h1 h2 h3 HD
  rw [show findI 82 (fun i => ex14L[i]?) 1 8 10 9 freshS = (none, freshS) from ex14_find9 freshS]
  refine hK.out _ _ ?_ (fun hHeld => ?_)
  · (try dsimp only)
    first | exact HC.out.three | exact hHeld
  clear hK K
  (try simp only [Act.put, gA, gB, gC, sA, sB, sC])
  refine tkO (i := 4) (v := ?_) rfl (by kernel_rfl) (fun _ _ _ h => h) (by rfl) ?_ (by assumption) ?_
  rotate_left
  · intro w hSw; (try dsimp only at hSw); go_simp; (try with_reducible rfl)
  (try simp only [Act.put, gA, gB, gC, sA, sB, sC])
  refine tkO (i := 5) (v := ?_) rfl (by kernel_rfl) (fun _ _ _ h => h) (by rfl) ?_ (by assumption) ?_
  rotate_left
  · intro w hSw; (try dsimp only at hSw); go_simp; (try with_reducible rfl)
  (try simp only [Act.put, gA, gB, gC, sA, sB, sC])
  refine tkO (i := 6) (v := ?_) rfl (by kernel_rfl) (fun _ _ _ h => h) (by rfl) ?_ (by assumption) ?_
  rotate_left
  · intro w hSw; (try dsimp only at hSw); go_simp; (try with_reducible rfl)
  (try simp only [Act.put, gA, gB, gC, sA, sB, sC])
  refine tkO (i := 7) (v := ?_) rfl (by kernel_rfl) (fun _ _ _ h => h) (by rfl) ?_ (by assumption) ?_
  rotate_left
  · intro w hSw; (try dsimp only at hSw); go_simp; (try with_reducible rfl)
  (try simp only [Act.put, gA, gB, gC, sA, sB, sC])
  refine tkO (i := 8) (v := ?_) rfl (by kernel_rfl) (fun _ _ _ h => h) (by rfl) ?_ (by assumption) ?_
  rotate_left
  · intro w hSw; (try dsimp only at hSw); go_simp; (try with_reducible rfl)
  (try simp only [Act.put, gA, gB, gC, sA, sB, sC])
  refine wpAnyH_done (by kernel_rfl) ?_ _
  clear x0 x1 x2
  obtain ⟨x0, x1, x2⟩ := HC.out.three
  have HO5 : Hid (ofI 5 = 2) := hidp ex14_of
  go_wp2_with fail
  refine (bnOf_c 5 (by omega) (by omega) _).mono ?_
  rintro e w9 ⟨rfl, rfl⟩
  rw [HO5.out]
  go_wp2
  go_ret
  exact ⟨rfl, HB.out⟩
end Go.Proofs.Ytpndfhdedmdoeaa
