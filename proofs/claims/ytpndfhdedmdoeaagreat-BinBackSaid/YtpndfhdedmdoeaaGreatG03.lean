/-
  Views: contract of Vals.
-/
import Derived.Test.YtpndfhdedmdoeaaGreatG02
import Derived.Deep.RegionHeld3
namespace Go.Proofs.YtpndfhdedmdoeaaGreat
open Go.ChangeShapes Go.WideShapes Go.ChangeAt Go.RowKit Go.Maps
set_option linter.unusedVariables false
set_option maxRecDepth 100000
set_option linter.unusedSimpArgs false

def toPV (l : List (Nat × Nat)) : List PairV := l.map fun p => ⟨(p.1 : Int), p.2⟩
theorem toPV_at {l : List (Nat × Nat)} {k : Nat} (h : k < l.length) : (toPV l)[k]? = some ⟨(cellW l k : Int), atW l k⟩ := by
  unfold toPV
  rw [List.getElem?_map, List.getElem?_eq_getElem h]
  simp [cellW, atW, List.getD, List.getElem?_eq_getElem h]
theorem pairs_of_own {w : World} {base m cap : Nat} {B : Option Addr} {l : List (Nat × Nat)} (h : w.ownsRow base 65 2 (.slice B m cap) m (prVs l)) (hl : l.length = m) : PairVs w B (toPV l) := fun i a ha => by
  have hi : i < l.length := by
    rcases Nat.lt_or_ge i l.length with h1 | h1
    · exact h1
    · rw [List.getElem?_eq_none (by simpa [toPV] using h1)] at ha; cases ha
  rw [toPV_at hi] at ha
  injection ha with ha
  subst ha
  obtain ⟨ad, e1, e2, e3⟩ := (Reads.of_own h).2 (by omega)
  obtain ⟨p1, p2⟩ := prVs_at l i hi
  refine ⟨ad, e1, e2, fun j u hu => ?_⟩
  unfold PairV.cells at hu
  rcases j with _ | _ | j
  · simp at hu; subst hu; exact e3 _ _ p1
  · simp at hu; subst hu; exact e3 _ _ p2
  · simp at hu

theorem valF_upd (f : Nat → Nat) (i v j : Nat) : updF (valF f) i (.int .u32 (v : Int)) j = valF (updF f i v) j := by
  by_cases e : j = i
  · subst e; simp [valF, updF_same]
  · simp [valF, updF_other _ _ e]
theorem vown_caps {w : World} {base size n c m : Nat} {e : TypeId} {A : Option Addr} {xs : List Value} (h : w.ownsRow base e size (.slice A n c) m xs) : m ≤ c ∧ c ≤ maxLen := by
  rcases h.2 with ⟨h1, h2⟩ | ⟨g', cap', cur, h1, _, _, h2, h3, _⟩
  · injection h1 with _ _ h1; subst h1; omega
  · injection h1 with _ _ h1; subst h1; exact ⟨h2, h3⟩

theorem listBehind_c (A B : Option Addr) (n c m cap : Nat) (f : Nat → Nat) (wl : List (Nat × Nat)) (hn : 0 < n) (hmx : n ≤ 2 ^ 40) (hl : wl.length = m) (hmc : m ≤ cap) (hcap : cap ≤ maxLen) (hlt : ∀ p ∈ wl, p.1 < n) (w : World)
    (hA : 0 < n → ∃ ad, A = some ad ∧ ∀ j u, ((List.range n).map (valF f))[j]? = some u → w.cell? (ad.add j) = some u) (hB : PairVs w B (toPV wl)) :
    Calls Tryz.prog 125 #[.slice A n c, .slice B m cap] w fun e w' => ∃ g cp, e = .returned (.slice (some ⟨g, 0, none⟩) n cp) ∧ w.heap.size ≤ g ∧ RowF w' g 56 n cp (valF (foldW f wl)) ∧ Below w.heap.size w w' := by
  have HB := hidp hB
  have HL := hidp hl
  have HLT := hidp hlt
  unfold maxLen at hcap
  have hone : ∀ u ∈ (List.range n).map (valF f), u.oneCell' = true := fun u hu => by
    obtain ⟨j, _, rfl⟩ := List.mem_map.1 hu
    rfl
  have HCL := hidp (CloneList_c A n c ((List.range n).map (valF f)) (by simp) (by omega) hone w hA)
  clear hA hB hl hlt hone
  go_enter Tryz.func125, Tryz.ntmps125
  go_wp2_with fail
  refine HCL.out.mono ?_
  rintro e w1 ⟨v, rfl, ho, _, hb⟩
  obtain ⟨g, cp, rfl, hg, _⟩ := ho.form hn
  have HR := hidp (RowF.of_own ho).2
  have HB1 := hidp hb
  have hcp := (RowF.of_own ho).2.max
  have hncp := (RowF.of_own ho).2.le
  unfold maxLen at hcp
  clear ho hb HCL
  go_wp2_with fail
  go_loopw [7, 12] (fun _ i wr => ∃ k : Nat, k ≤ m ∧ i = .int .i64 k ∧ Hid (RowF wr g 56 n cp (valF (foldW f (wl.take k)))) ∧ Hid (Below w.heap.size w wr)) (fun _ i _ => m - (intOf i).toNat)
  case atStart => exact ⟨0, by omega, rfl, HR, HB1⟩
  case round =>
    clear HR HB1
    obtain ⟨k, hk, rfl, HR, HB1⟩ := hrel
    by_cases hlt : k < m
    · have hkl : k < wl.length := by rw [HL.out]; exact hlt
      have hp := toPV_at hkl
      obtain ⟨ad, rfl, hadb, _⟩ := HB.out k _ hp
      obtain ⟨x0, x1⟩ := (HB.out.below HB1.out).cells hp
      simp only at x0 x1
      have hcn : cellW wl k < n := by
        have := HLT.out wl[k] (List.getElem_mem _)
        simpa [cellW, List.getD, List.getElem?_eq_getElem hkl] using this
      have HF := hidp (foldW_take (f := f) hkl)
      have d0 := HR.out.cell hcn
      have f0 := HR.out.thawed (cellW wl k)
      have hgl := HR.out.lt
      have hab : (ad.add (k * 2)).block < wr.heap.size := by rw [block_of_add]; have := HB1.out.size; omega
      unfold valF at d0
      clear hp hkl
      generalize cellW wl k = i at *
      generalize atW wl k = x at *
      generalize foldW f (wl.take k) i = y at *
      go_wp2
      go_roundw
      case rel => exact ⟨k + 1, by omega, by go_num, hidp (by
          rw [HF.out]
          refine ((HR.out.put hcn _).congr (fun j _ => ?_)).keep (Bnew (B0 _) _)
          exact valF_upd _ _ _ j), hidp (Bnew (Bput HB1.out (p := ⟨g, i, none⟩) hg _) _)⟩
      case measure => simp [intOf]; omega
    · obtain rfl : k = m := by omega
      have HKL : Hid (wl.take k = wl) := hidp (List.take_of_length_le (by have := HL.out; omega))
      go_wp2
      go_ret
      exact ⟨g, cp, rfl, hg, by have := HR.out; rwa [HKL.out] at this, HB1.out⟩

theorem listBehind_zero (A B : Option Addr) (c cap : Nat) (w : World) (hA : A = none ∨ ∃ ad, A = some ad) :
    Calls Tryz.prog 125 #[.slice A 0 c, .slice B 0 cap] w fun e w' => ∃ v, e = .returned v ∧ w'.ownsRow w.heap.size 56 1 v 0 [] ∧ Below w.heap.size w w' := by
  have HCL := hidp (CloneList_c A 0 c [] rfl (by omega) (by simp) w (fun h => by omega))
  go_enter Tryz.func125, Tryz.ntmps125
  go_wp2_with fail
  refine HCL.out.mono ?_
  rintro e w1 ⟨v, rfl, ho, _, hb⟩
  have HO := hidp ho
  have HB1 := hidp hb
  clear ho hb HCL
  go_wp2_with fail
  refine wp_loop_rounds 1 ?_
  rw [rounds_succ]
  go_wp2
  go_ret
  exact ⟨v, rfl, HO.out, HB1.out⟩
theorem behind_list (A : Option Addr) (n c : Nat) (w : World) : (method 256 59 (.slice A n c) "nacre/view.behind").run Tryz.prog w = .ok (125, .slice A n c) w := by kernel_rfl
theorem vVals_zero {base b : Nat} {o : VGeo} {K : Nat → Option Nat} {s : Vst} (w : World) (h : IsView w base b 0 true o K s) :
    Calls Tryz.prog 13 #[.pointer (some ⟨b, 0, none⟩)] w fun e w' => ∃ v, e = .returned v ∧ w'.ownsRow w.heap.size 56 1 v 0 [] ∧ Below w.heap.size w w' := by
  obtain ⟨B, cap, hv⟩ := own_slice h.wrow
  obtain ⟨_, c1, _, _, c4, _, _, _⟩ := h.cells
  have hr := h.wrow
  rw [hv] at hr c4
  obtain ⟨A, c, hf, _, _, _, _⟩ := h.src.list
  rw [hf] at c1
  have hm : s.wr.length = 0 := by
    cases hw : s.wr with
    | nil => rfl
    | cons p r =>
      have := (h.ok.wrLt p (by rw [hw]; exact List.mem_cons_self ..)).1
      omega
  rw [hm] at c4
  clear h hr hv hf hm
  have hmt := behind_list
  go_enter Tryz.func13, Tryz.ntmps13
  go_wp2_with fail
  refine wp_region_held_drew (S := (fun w' => w'.cell? ⟨b, 1, none⟩ = some (.iface 59 (.slice A 0 c)) ∧ w'.cell? ⟨b, 4, none⟩ = some (.slice B 0 cap))) (by kernel_rfl) ?_ (fun hHeld => ?_)
  · (try dsimp only)
    first | exact ⟨c1, c4⟩ | exact ⟨hst _ _ hHeld.1, hst _ _ hHeld.2⟩ | exact hHeld
  refine wpAnyH_take (i := 0) (oi := _) (v := ?_) rfl (by kernel_rfl) (by kernel_rfl) (by kernel_rfl) (fun _ _ _ h => h) (Or.inl ⟨by rfl, ?_⟩) (by assumption) ?_
  rotate_left
  · intro w hSw; (try dsimp only at hSw); go_simp; (try with_reducible rfl)
  (try simp only [Act.put, List.getElem_toArray, List.getElem_cons_zero, List.getElem_cons_succ, List.setIfInBounds_toArray, List.set_cons_zero, List.set_cons_succ])
  refine wpAnyH_take (i := 1) (oi := _) (v := ?_) rfl (by kernel_rfl) (by kernel_rfl) (by kernel_rfl) (fun _ _ _ h => h) (Or.inl ⟨by rfl, ?_⟩) (by assumption) ?_
  rotate_left
  · intro w hSw; (try dsimp only at hSw); go_simp; (try with_reducible rfl)
  (try simp only [Act.put, List.getElem_toArray, List.getElem_cons_zero, List.getElem_cons_succ, List.setIfInBounds_toArray, List.set_cons_zero, List.set_cons_succ])
  refine wpAnyH_take (i := 2) (oi := _) (v := ?_) rfl (by kernel_rfl) (by kernel_rfl) (by kernel_rfl) (fun _ _ _ h => h) (Or.inl ⟨by rfl, ?_⟩) (by assumption) ?_
  rotate_left
  · intro w hSw; (try dsimp only at hSw); go_simp; (try with_reducible rfl)
  (try simp only [Act.put, List.getElem_toArray, List.getElem_cons_zero, List.getElem_cons_succ, List.setIfInBounds_toArray, List.set_cons_zero, List.set_cons_succ])
  refine wpAnyH_take (i := 3) (oi := _) (v := ?_) rfl (by kernel_rfl) (by kernel_rfl) (by kernel_rfl) (fun _ _ _ h => h) (Or.inl ⟨by rfl, ?_⟩) (by assumption) ?_
  rotate_left
  · intro w hSw; (try dsimp only at hSw); go_simp; (try with_reducible rfl)
  (try simp only [Act.put, List.getElem_toArray, List.getElem_cons_zero, List.getElem_cons_succ, List.setIfInBounds_toArray, List.set_cons_zero, List.set_cons_succ])
  refine wpAnyH_take (i := 4) (oi := _) (v := ?_) rfl (by kernel_rfl) (by kernel_rfl) (by kernel_rfl) (fun _ _ _ h => h) (Or.inl ⟨by rfl, ?_⟩) (by assumption) ?_
  rotate_left
  · intro w hSw; (try dsimp only at hSw); go_simp; (try with_reducible rfl)
  (try simp only [Act.put, List.getElem_toArray, List.getElem_cons_zero, List.getElem_cons_succ, List.setIfInBounds_toArray, List.set_cons_zero, List.set_cons_succ])
  refine wpAnyH_take (i := 5) (oi := _) (v := ?_) rfl (by kernel_rfl) (by kernel_rfl) (by kernel_rfl) (fun _ _ _ h => h) (Or.inl ⟨by rfl, ?_⟩) (by assumption) ?_
  rotate_left
  · intro w hSw; (try dsimp only at hSw); go_simp; (try with_reducible rfl)
  (try simp only [Act.put, List.getElem_toArray, List.getElem_cons_zero, List.getElem_cons_succ, List.setIfInBounds_toArray, List.set_cons_zero, List.set_cons_succ])
  refine wpAnyH_take (i := 6) (oi := _) (v := ?_) rfl (by kernel_rfl) (by kernel_rfl) (by kernel_rfl) (fun _ _ _ h => h) (Or.inl ⟨by rfl, ?_⟩) (by assumption) ?_
  rotate_left
  · intro w hSw; (try dsimp only at hSw); go_simp; (try with_reducible rfl)
  (try simp only [Act.put, List.getElem_toArray, List.getElem_cons_zero, List.getElem_cons_succ, List.setIfInBounds_toArray, List.set_cons_zero, List.set_cons_succ])
  refine wpAnyH_take (i := 7) (oi := _) (v := ?_) rfl (by kernel_rfl) (by kernel_rfl) (by kernel_rfl) (fun _ _ _ h => h) (Or.inl ⟨by rfl, ?_⟩) (by assumption) ?_
  rotate_left
  · intro w hSw; (try dsimp only at hSw); go_simp; (try with_reducible rfl)
  (try simp only [Act.put, List.getElem_toArray, List.getElem_cons_zero, List.getElem_cons_succ, List.setIfInBounds_toArray, List.set_cons_zero, List.set_cons_succ])
  refine wpAnyH_take (i := 8) (oi := _) (v := ?_) rfl (by kernel_rfl) (by kernel_rfl) (by kernel_rfl) (fun _ _ _ h => h) (Or.inl ⟨by rfl, ?_⟩) (by assumption) ?_
  rotate_left
  · intro w hSw; (try dsimp only at hSw); go_simp; (try with_reducible rfl)
  (try simp only [Act.put, List.getElem_toArray, List.getElem_cons_zero, List.getElem_cons_succ, List.setIfInBounds_toArray, List.set_cons_zero, List.set_cons_succ])
  refine wpAnyH_take (i := 9) (oi := _) (v := ?_) rfl (by kernel_rfl) (by kernel_rfl) (by kernel_rfl) (fun _ _ _ h => h) (Or.inl ⟨by rfl, ?_⟩) (by assumption) ?_
  rotate_left
  · intro w hSw; (try dsimp only at hSw); go_simp; (try with_reducible rfl)
  (try simp only [Act.put, List.getElem_toArray, List.getElem_cons_zero, List.getElem_cons_succ, List.setIfInBounds_toArray, List.set_cons_zero, List.set_cons_succ])
  refine wpAnyH_ready (rs := [10]) (by kernel_rfl) (by simp) ?_
  refine AllReadyH.cons (o := _) rfl (fun K hK => ?_) AllReadyH.nil
  go_simp
  refine (listBehind_zero A B c cap _ (by cases A <;> simp)).mono ?_; rintro e w2 ⟨v, rfl, ho, hb⟩; have HO := hidp ho; have HB := hidp (Bgo (Bdrew (B0 w)) hb); have hst := cells_stay hb; clear ho hb
  refine hK.out _ _ ?_ (fun hHeld => ?_)
  · (try dsimp only)
    first | exact ⟨c1, c4⟩ | exact ⟨hst _ _ hHeld.1, hst _ _ hHeld.2⟩ | exact hHeld
  clear hK K
  (try simp only [Act.put, List.getElem_toArray, List.getElem_cons_zero, List.getElem_cons_succ, List.setIfInBounds_toArray, List.set_cons_zero, List.set_cons_succ])
  refine wpAnyH_take (i := 11) (oi := _) (v := ?_) rfl (by kernel_rfl) (by kernel_rfl) (by kernel_rfl) (fun _ _ _ h => h) (Or.inl ⟨by rfl, ?_⟩) (by assumption) ?_
  rotate_left
  · intro w hSw; (try dsimp only at hSw); go_simp; (try with_reducible rfl)
  (try simp only [Act.put, List.getElem_toArray, List.getElem_cons_zero, List.getElem_cons_succ, List.setIfInBounds_toArray, List.set_cons_zero, List.set_cons_succ])
  refine wpAnyH_done (by kernel_rfl) ?_ _
  go_wp2
  go_ret
  exact ⟨v, rfl, by simpa using HO.out, HB.out⟩

theorem vVals_some {base b n : Nat} {o : VGeo} {Kn : Nat → Option Nat} {s : Vst} (hn : 0 < n) (hlim : s.wr.length < 2 ^ 40) (w : World) (h : IsView w base b n true o Kn s) :
    Calls Tryz.prog 13 #[.pointer (some ⟨b, 0, none⟩)] w fun e w' => ∃ g cp, e = .returned (.slice (some ⟨g, 0, none⟩) n cp) ∧ w.heap.size ≤ g ∧ RowF w' g 56 n cp (valF (nowV Kn s.wr)) ∧ Below w.heap.size w w' := by
  obtain ⟨B, cap, hv⟩ := own_slice h.wrow
  obtain ⟨_, c1, _, _, c4, _, _, _⟩ := h.cells
  have hr := h.wrow
  rw [hv] at hr c4
  obtain ⟨A, c, hf, _, _, _, hR⟩ := h.src.list
  rw [hf] at c1
  have hnmx := h.nmax
  have HA : Hid (∀ w', Below w.heap.size w w' → (0 < n → ∃ ad, A = some ad ∧ ∀ j u, ((List.range n).map (valF fun i => (Kn i).getD 0))[j]? = some u → w'.cell? (ad.add j) = some u)) := hidp (fun w' hb hn => by
    obtain ⟨e1, e2⟩ := hR hn
    obtain ⟨ad, e3, _, e4⟩ := ((e2.keep hb).reads (B := w'.heap.size) (e2.keep hb).lt).2 hn
    exact ⟨ad, e1.trans e3, e4⟩)
  have HP : Hid (∀ w', Below w.heap.size w w' → PairVs w' B (toPV s.wr)) := hidp (fun w' hb => (pairs_of_own hr rfl).below hb)
  have HLT : Hid (∀ p ∈ s.wr, p.1 < n) := hidp (fun p hp => (h.ok.wrLt p hp).1)
  have HF : Hid (foldW (fun i => (Kn i).getD 0) s.wr = nowV Kn s.wr) := hidp (by funext i; exact foldW_now h.ok i)
  obtain ⟨hmc, hcm⟩ := vown_caps hr
  obtain ⟨m, hm2⟩ : ∃ m, s.wr.length = m := ⟨_, rfl⟩
  have HM := hidp hm2
  rw [hm2] at c4 hmc
  clear h hr hv hf hm2 hR
  have hmt := behind_list
  go_enter Tryz.func13, Tryz.ntmps13
  go_wp2_with fail
  refine wp_region_held_drew (S := (fun w' => w'.cell? ⟨b, 1, none⟩ = some (.iface 59 (.slice A n c)) ∧ w'.cell? ⟨b, 4, none⟩ = some (.slice B m cap))) (by kernel_rfl) ?_ (fun hHeld => ?_)
  · (try dsimp only)
    first | exact ⟨c1, c4⟩ | exact ⟨hst _ _ hHeld.1, hst _ _ hHeld.2⟩ | exact hHeld
  refine wpAnyH_take (i := 0) (oi := _) (v := ?_) rfl (by kernel_rfl) (by kernel_rfl) (by kernel_rfl) (fun _ _ _ h => h) (Or.inl ⟨by rfl, ?_⟩) (by assumption) ?_
  rotate_left
  · intro w hSw; (try dsimp only at hSw); go_simp; (try with_reducible rfl)
  (try simp only [Act.put, List.getElem_toArray, List.getElem_cons_zero, List.getElem_cons_succ, List.setIfInBounds_toArray, List.set_cons_zero, List.set_cons_succ])
  refine wpAnyH_take (i := 1) (oi := _) (v := ?_) rfl (by kernel_rfl) (by kernel_rfl) (by kernel_rfl) (fun _ _ _ h => h) (Or.inl ⟨by rfl, ?_⟩) (by assumption) ?_
  rotate_left
  · intro w hSw; (try dsimp only at hSw); go_simp; (try with_reducible rfl)
  (try simp only [Act.put, List.getElem_toArray, List.getElem_cons_zero, List.getElem_cons_succ, List.setIfInBounds_toArray, List.set_cons_zero, List.set_cons_succ])
  refine wpAnyH_take (i := 2) (oi := _) (v := ?_) rfl (by kernel_rfl) (by kernel_rfl) (by kernel_rfl) (fun _ _ _ h => h) (Or.inl ⟨by rfl, ?_⟩) (by assumption) ?_
  rotate_left
  · intro w hSw; (try dsimp only at hSw); go_simp; (try with_reducible rfl)
  (try simp only [Act.put, List.getElem_toArray, List.getElem_cons_zero, List.getElem_cons_succ, List.setIfInBounds_toArray, List.set_cons_zero, List.set_cons_succ])
  refine wpAnyH_take (i := 3) (oi := _) (v := ?_) rfl (by kernel_rfl) (by kernel_rfl) (by kernel_rfl) (fun _ _ _ h => h) (Or.inl ⟨by rfl, ?_⟩) (by assumption) ?_
  rotate_left
  · intro w hSw; (try dsimp only at hSw); go_simp; (try with_reducible rfl)
  (try simp only [Act.put, List.getElem_toArray, List.getElem_cons_zero, List.getElem_cons_succ, List.setIfInBounds_toArray, List.set_cons_zero, List.set_cons_succ])
  refine wpAnyH_take (i := 4) (oi := _) (v := ?_) rfl (by kernel_rfl) (by kernel_rfl) (by kernel_rfl) (fun _ _ _ h => h) (Or.inl ⟨by rfl, ?_⟩) (by assumption) ?_
  rotate_left
  · intro w hSw; (try dsimp only at hSw); go_simp; (try with_reducible rfl)
  (try simp only [Act.put, List.getElem_toArray, List.getElem_cons_zero, List.getElem_cons_succ, List.setIfInBounds_toArray, List.set_cons_zero, List.set_cons_succ])
  refine wpAnyH_take (i := 5) (oi := _) (v := ?_) rfl (by kernel_rfl) (by kernel_rfl) (by kernel_rfl) (fun _ _ _ h => h) (Or.inl ⟨by rfl, ?_⟩) (by assumption) ?_
  rotate_left
  · intro w hSw; (try dsimp only at hSw); go_simp; (try with_reducible rfl)
  (try simp only [Act.put, List.getElem_toArray, List.getElem_cons_zero, List.getElem_cons_succ, List.setIfInBounds_toArray, List.set_cons_zero, List.set_cons_succ])
  refine wpAnyH_take (i := 6) (oi := _) (v := ?_) rfl (by kernel_rfl) (by kernel_rfl) (by kernel_rfl) (fun _ _ _ h => h) (Or.inl ⟨by rfl, ?_⟩) (by assumption) ?_
  rotate_left
  · intro w hSw; (try dsimp only at hSw); go_simp; (try with_reducible rfl)
  (try simp only [Act.put, List.getElem_toArray, List.getElem_cons_zero, List.getElem_cons_succ, List.setIfInBounds_toArray, List.set_cons_zero, List.set_cons_succ])
  refine wpAnyH_take (i := 7) (oi := _) (v := ?_) rfl (by kernel_rfl) (by kernel_rfl) (by kernel_rfl) (fun _ _ _ h => h) (Or.inl ⟨by rfl, ?_⟩) (by assumption) ?_
  rotate_left
  · intro w hSw; (try dsimp only at hSw); go_simp; (try with_reducible rfl)
  (try simp only [Act.put, List.getElem_toArray, List.getElem_cons_zero, List.getElem_cons_succ, List.setIfInBounds_toArray, List.set_cons_zero, List.set_cons_succ])
  refine wpAnyH_take (i := 8) (oi := _) (v := ?_) rfl (by kernel_rfl) (by kernel_rfl) (by kernel_rfl) (fun _ _ _ h => h) (Or.inl ⟨by rfl, ?_⟩) (by assumption) ?_
  rotate_left
  · intro w hSw; (try dsimp only at hSw); go_simp; (try with_reducible rfl)
  (try simp only [Act.put, List.getElem_toArray, List.getElem_cons_zero, List.getElem_cons_succ, List.setIfInBounds_toArray, List.set_cons_zero, List.set_cons_succ])
  refine wpAnyH_take (i := 9) (oi := _) (v := ?_) rfl (by kernel_rfl) (by kernel_rfl) (by kernel_rfl) (fun _ _ _ h => h) (Or.inl ⟨by rfl, ?_⟩) (by assumption) ?_
  rotate_left
  · intro w hSw; (try dsimp only at hSw); go_simp; (try with_reducible rfl)
  (try simp only [Act.put, List.getElem_toArray, List.getElem_cons_zero, List.getElem_cons_succ, List.setIfInBounds_toArray, List.set_cons_zero, List.set_cons_succ])
  refine wpAnyH_ready (rs := [10]) (by kernel_rfl) (by simp) ?_
  refine AllReadyH.cons (o := _) rfl (fun K hK => ?_) AllReadyH.nil
  go_simp
  refine (listBehind_c A B n c m cap (fun i => (Kn i).getD 0) s.wr hn hnmx HM.out hmc hcm HLT.out _ (HA.out _ (Bdrew (B0 _))) (HP.out _ (Bdrew (B0 _)))).mono ?_; rintro e w2 ⟨g, cp, rfl, hg, hr2, hb⟩; have HR := hidp hr2; have HG := hidp hg; have HB := hidp (Bgo (Bdrew (B0 w)) hb); have hst := cells_stay hb; clear hr2 hb hg
  refine hK.out _ _ ?_ (fun hHeld => ?_)
  · (try dsimp only)
    first | exact ⟨c1, c4⟩ | exact ⟨hst _ _ hHeld.1, hst _ _ hHeld.2⟩ | exact hHeld
  clear hK K
  (try simp only [Act.put, List.getElem_toArray, List.getElem_cons_zero, List.getElem_cons_succ, List.setIfInBounds_toArray, List.set_cons_zero, List.set_cons_succ])
  refine wpAnyH_take (i := 11) (oi := _) (v := ?_) rfl (by kernel_rfl) (by kernel_rfl) (by kernel_rfl) (fun _ _ _ h => h) (Or.inl ⟨by rfl, ?_⟩) (by assumption) ?_
  rotate_left
  · intro w hSw; (try dsimp only at hSw); go_simp; (try with_reducible rfl)
  (try simp only [Act.put, List.getElem_toArray, List.getElem_cons_zero, List.getElem_cons_succ, List.setIfInBounds_toArray, List.set_cons_zero, List.set_cons_succ])
  refine wpAnyH_done (by kernel_rfl) ?_ _
  go_wp2
  go_ret
  refine ⟨g, cp, rfl, HG.out, ?_, HB.out⟩
  have := HR.out
  rwa [HF.out] at this
end Go.Proofs.YtpndfhdedmdoeaaGreat

/-
  The document's answer for Views (nacreref11.V): what one is, and how its parts turn.
-/
namespace Go.Proofs.YtpndfhdedmdoeaaGreat
open Go.ChangeShapes Go.WideShapes Go.ChangeAt Go.RowKit Go.Maps
set_option linter.unusedVariables false
set_option maxRecDepth 100000
set_option linter.unusedSimpArgs false

def rE (i : Nat) : TypeId := if i = 0 then 4 else if i = 1 then 56 else if i = 2 then 4 else if i = 3 then 56 else 3
def rSz (_ : Nat) : Nat := 1
def rowL (n : Nat) (f : Nat → Value) : List Value := (List.range n).map f
def bitF (f : Nat → Bool) : Nat → Value := fun i => .bool (f i)
def toV (wr : List (Nat × Nat)) (i : Nat) : Nat := match pos wr i with | some k => atW wr k | none => 0
def rN (n : Nat) (s : Vst) (i : Nat) : Nat := if i < 4 then n else if i = 4 then s.rd.length else s.wr.length
def rX (n : Nat) (K : Nat → Option Nat) (s : Vst) (i : Nat) : List Value :=
  if i = 0 then rowL n (bitF fun j => (K j).isSome) else if i = 1 then rowL n (valF fun j => (K j).getD 0) else if i = 2 then rowL n (bitF fun j => (pos s.wr j).isSome)
  else if i = 3 then rowL n (valF (toV s.wr)) else if i = 4 then ntVs s.rd else ntVs (s.wr.map (·.1))
def rHead (n : Nat) (v : Nat → Value) (s : Vst) (all : Bool) : Array Value := #[.int .i64 (n : Int), v 0, v 1, v 2, v 3, v 4, v 5, .int .i64 (missI s), .bool all]

theorem rowL_len (n : Nat) (f : Nat → Value) : (rowL n f).length = n := by unfold rowL; simp
theorem rowL_at {n : Nat} (f : Nat → Value) {j : Nat} (h : j < n) : (rowL n f)[j]? = some (f j) := by
  unfold rowL
  rw [List.getElem?_map, List.getElem?_range h]
  rfl
theorem rowL_set {n : Nat} (f : Nat → Value) (j : Nat) (u : Value) : (rowL n f).set j u = rowL n (updF f j u) := by
  apply List.ext_getElem?
  intro i
  rw [List.getElem?_set]
  unfold rowL
  rw [List.getElem?_map, List.getElem?_map]
  rcases Nat.lt_or_ge i n with h | h
  · rw [List.getElem?_range h]
    by_cases e : j = i
    · subst e
      simp [h, updF_same]
    · simp [e, updF_other _ _ (fun x => e x.symm)]
  · rw [List.getElem?_eq_none (by simpa using h)]
    by_cases e : j = i
    · subst e
      simp; omega
    · simp [e]
theorem rowL_snoc (n : Nat) (f : Nat → Value) : rowL (n + 1) f = rowL n f ++ [f n] := by
  unfold rowL
  rw [List.range_succ, List.map_append]
  rfl
theorem rowL_congr {n : Nat} {f g : Nat → Value} (h : ∀ i, i < n → f i = g i) : rowL n f = rowL n g := by
  unfold rowL
  exact List.map_congr_left (fun i hi => h i (List.mem_range.1 hi))

section
variable {w w' : World} {base b : Nat} {v : Nat → Value} {hd : Array Value} {nn : Nat → Nat} {xs : Nat → List Value}
end

section
variable {w w' : World} {base b n : Nat} {all : Bool} {v : Nat → Value} {K : Nat → Option Nat} {s : Vst}
theorem rX_0 (n : Nat) (K : Nat → Option Nat) (s : Vst) {j : Nat} (h : j < n) : (rX n K s 0)[j]? = some (.bool (K j).isSome) := rowL_at _ h
theorem rX_1 (n : Nat) (K : Nat → Option Nat) (s : Vst) {j : Nat} (h : j < n) : (rX n K s 1)[j]? = some (.int .u32 (((K j).getD 0 : Nat) : Int)) := rowL_at _ h
theorem rX_2 (n : Nat) (K : Nat → Option Nat) (s : Vst) {j : Nat} (h : j < n) : (rX n K s 2)[j]? = some (.bool (pos s.wr j).isSome) := rowL_at _ h
theorem rX_3 (n : Nat) (K : Nat → Option Nat) (s : Vst) {j : Nat} (h : j < n) : (rX n K s 3)[j]? = some (.int .u32 ((toV s.wr j : Nat) : Int)) := rowL_at _ h
end
/-- 'i < 6', by cases -/
theorem six {p : Nat → Prop} (h0 : p 0) (h1 : p 1) (h2 : p 2) (h3 : p 3) (h4 : p 4) (h5 : p 5) : ∀ i, i < 6 → p i := fun i hi => by
  rcases (by omega : i = 0 ∨ i = 1 ∨ i = 2 ∨ i = 3 ∨ i = 4 ∨ i = 5) with rfl | rfl | rfl | rfl | rfl | rfl <;> assumption
end Go.Proofs.YtpndfhdedmdoeaaGreat

/-
  The document's answer for Views: blank, Whole, Known. Written by view/gen_ref2.py.
-/
namespace Go.Proofs.YtpndfhdedmdoeaaGreat
open Go.ChangeShapes Go.WideShapes Go.ChangeAt Go.RowKit Go.Maps
set_option linter.unusedVariables false
set_option maxRecDepth 100000
set_option linter.unusedSimpArgs false

/-- so many cells of each row, of which nothing is known or put -/
def bN (k i : Nat) : Nat := if i < 4 then k else 0
def bX (k i : Nat) : List Value := if i = 0 then rowL k (bitF fun _ => false) else if i = 1 then rowL k (valF fun _ => 0) else if i = 2 then rowL k (bitF fun _ => false) else if i = 3 then rowL k (valF fun _ => 0) else []
theorem bN_rN (n : Nat) : ∀ i, i < 6 → bN n i = rN n freshS i := six rfl rfl rfl rfl rfl rfl
theorem bX_rX (n : Nat) : ∀ i, i < 6 → bX n i = rX n (fun _ => none) freshS i := six rfl rfl rfl rfl rfl rfl
def bN1 (k i : Nat) : Nat := updF (updF (updF (updF (bN k) 0 (k + 1)) 1 (k + 1)) 2 (k + 1)) 3 (k + 1) i
def bX1 (k i : Nat) : List Value := updF (updF (updF (updF (bX k) 0 (bX k 0 ++ [.bool false])) 1 (bX k 1 ++ [.int .u32 0])) 2 (bX k 2 ++ [.bool false])) 3 (bX k 3 ++ [.int .u32 0]) i
theorem bN_step (k : Nat) : ∀ i, i < 6 → bN1 k i = bN (k + 1) i := six rfl rfl rfl rfl rfl rfl
theorem bX_step (k : Nat) : ∀ i, i < 6 → bX1 k i = bX (k + 1) i := six (rowL_snoc _ _).symm (rowL_snoc _ _).symm (rowL_snoc _ _).symm (rowL_snoc _ _).symm rfl rfl
theorem boolInfo11 : (Tryz.prog.info? 4).map (fun i => (i.zero, i.size, i.bytes)) = some (some (.bool false), 1, 1) := by kernel_rfl

def firstK (vals : List Nat) (k : Nat) : Nat → Option Nat := fun i => if i < k then vals[i]? else none
theorem firstK_step {vals : List Nat} {k : Nat} (h : k < vals.length) : firstK vals (k + 1) = updF (firstK vals k) k (some (vals.getD k 0)) := by
  funext i
  unfold firstK updF
  by_cases e : i = k
  · subst e
    simp [List.getD, List.getElem?_eq_getElem h]
  · have : (i < k + 1) ↔ (i < k) := by omega
    simp only [this, if_neg e]
theorem firstK_all (vals : List Nat) : firstK vals vals.length = fun i => vals[i]? := by
  funext i
  unfold firstK
  split
  · rfl
  · rename_i h
    rw [List.getElem?_eq_none (by omega)]
/-- a cell is known from now on -/
theorem rX_know (n : Nat) (K : Nat → Option Nat) (s : Vst) (j x : Nat) : ∀ i, i < 6 → updF (updF (rX n K s) 0 ((rX n K s 0).set j (.bool true))) 1 ((updF (rX n K s) 0 ((rX n K s 0).set j (.bool true)) 1).set j (.int .u32 (x : Int))) i = rX n (updF K j (some x)) s i := by
  refine six ?_ ?_ rfl rfl rfl rfl
  · show (rowL n (bitF fun j => (K j).isSome)).set j (.bool true) = rowL n (bitF fun i => (updF K j (some x) i).isSome)
    rw [rowL_set]
    refine rowL_congr (fun i _ => ?_)
    unfold bitF updF
    by_cases e : i = j <;> simp [e]
  · show (rowL n (valF fun j => (K j).getD 0)).set j (.int .u32 (x : Int)) = rowL n (valF fun i => (updF K j (some x) i).getD 0)
    rw [rowL_set]
    refine rowL_congr (fun i _ => ?_)
    unfold valF updF
    by_cases e : i = j <;> simp [e]

end Go.Proofs.YtpndfhdedmdoeaaGreat

/-
  The document's answer for Views: Known. Written by view/gen_ref3.py.
-/
namespace Go.Proofs.YtpndfhdedmdoeaaGreat
open Go.ChangeShapes Go.WideShapes Go.ChangeAt Go.RowKit Go.Maps
set_option linter.unusedVariables false
set_option maxRecDepth 100000
set_option linter.unusedSimpArgs false

end Go.Proofs.YtpndfhdedmdoeaaGreat
