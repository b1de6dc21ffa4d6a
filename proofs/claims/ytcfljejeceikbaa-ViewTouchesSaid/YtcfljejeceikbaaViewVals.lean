/-
  Views: contract of Vals.
-/
import Derived.Test.YtcfljejeceikbaaViewMake
import Derived.Deep.RegionHeld3
namespace Go.Proofs.Ytcfljejeceikbaa
open Go.ChangeShapes Go.WideShapes Go.ChangeAt Go.RowKit Go.Maps
set_option linter.unusedVariables false
set_option linter.unusedSimpArgs false

def toPV (l : List (Nat × Nat)) : List PairV := l.map fun p => ⟨(p.1 : Int), p.2⟩
theorem toPV_at {l : List (Nat × Nat)} {k : Nat} (h : k < l.length) : (toPV l)[k]? = some ⟨(cellW l k : Int), atW l k⟩ := by
  unfold toPV
  rw [List.getElem?_map, List.getElem?_eq_getElem h]
  simp [cellW, atW, List.getD, List.getElem?_eq_getElem h]
theorem pairs_of_own {w : World} {base m cap : Nat} {B : Option Addr} {l : List (Nat × Nat)} (h : w.ownsRow base 46 2 (.slice B m cap) m (prVs l)) (hl : l.length = m) : PairVs w B (toPV l) := fun i a ha => by
  have hi : i < l.length := by
    rcases Nat.lt_or_ge i l.length with h1 | h1
    · exact h1
    · rw [List.getElem?_eq_none (by simpa [toPV] using h1)] at ha; cases ha
  rw [toPV_at hi] at ha
  injection ha with ha
  subst ha
  obtain ⟨ad, e1, e2, e3⟩ := (Reads.of_own h).2 (by omega)
  obtain ⟨p1, p2⟩ := prVs_at l i hi
  refine ⟨ad, e1, e2, fun j u hu => ?_⟩
  unfold PairV.cells at hu
  rcases j with _ | _ | j
  · simp at hu; subst hu; exact e3 _ _ p1
  · simp at hu; subst hu; exact e3 _ _ p2
  · simp at hu

theorem valF_upd (f : Nat → Nat) (i v j : Nat) : updF (valF f) i (.int .u32 (v : Int)) j = valF (updF f i v) j := by
  by_cases e : j = i
  · subst e; simp [valF, updF_same]
  · simp [valF, updF_other _ _ e]
theorem own_caps {w : World} {base size n c m : Nat} {e : TypeId} {A : Option Addr} {xs : List Value} (h : w.ownsRow base e size (.slice A n c) m xs) : m ≤ c ∧ c ≤ maxLen := by
  rcases h.2 with ⟨h1, h2⟩ | ⟨g', cap', cur, h1, _, _, h2, h3, _⟩
  · injection h1 with _ _ h1; subst h1; omega
  · injection h1 with _ _ h1; subst h1; exact ⟨h2, h3⟩

theorem listBehind_c (A B : Option Addr) (n c m cap : Nat) (f : Nat → Nat) (wl : List (Nat × Nat)) (hn : 0 < n) (hmx : n ≤ 2 ^ 40) (hl : wl.length = m) (hmc : m ≤ cap) (hcap : cap ≤ maxLen) (hlt : ∀ p ∈ wl, p.1 < n) (w : World)
    (hA : 0 < n → ∃ ad, A = some ad ∧ ∀ j u, ((List.range n).map (valF f))[j]? = some u → w.cell? (ad.add j) = some u) (hB : PairVs w B (toPV wl)) :
    Calls Try.prog 50 #[.slice A n c, .slice B m cap] w fun e w' => ∃ g cp, e = .returned (.slice (some ⟨g, 0, none⟩) n cp) ∧ w.heap.size ≤ g ∧ RowF w' g 32 n cp (valF (foldW f wl)) ∧ Below w.heap.size w w' := by
  have HB := hidp hB
  have HL := hidp hl
  have HLT := hidp hlt
  unfold maxLen at hcap
  have hone : ∀ u ∈ (List.range n).map (valF f), u.oneCell' = true := fun u hu => by
    obtain ⟨j, _, rfl⟩ := List.mem_map.1 hu
    rfl
  have HCL := hidp (CloneList_c A n c ((List.range n).map (valF f)) (by simp) (by omega) hone w hA)
  clear hA hB hl hlt hone
  go_enter Try.func50, Try.ntmps50
  go_wp2_with fail
  refine HCL.out.mono ?_
  rintro e w1 ⟨v, rfl, ho, _, hb⟩
  obtain ⟨g, cp, rfl, hg, _⟩ := ho.form hn
  have HR := hidp (RowF.of_own ho).2
  have HB1 := hidp hb
  have hcp := (RowF.of_own ho).2.max
  have hncp := (RowF.of_own ho).2.le
  unfold maxLen at hcp
  clear ho hb HCL
  go_wp2_with fail
  go_loopw [7, 12] (fun _ i wr => ∃ k : Nat, k ≤ m ∧ i = .int .i64 k ∧ Hid (RowF wr g 32 n cp (valF (foldW f (wl.take k)))) ∧ Hid (Below w.heap.size w wr)) (fun _ i _ => m - (intOf i).toNat)
  case atStart => exact ⟨0, by omega, rfl, HR, HB1⟩
  case round =>
    clear HR HB1
    obtain ⟨k, hk, rfl, HR, HB1⟩ := hrel
    by_cases hlt : k < m
    · have hkl : k < wl.length := by rw [HL.out]; exact hlt
      have hp := toPV_at hkl
      obtain ⟨ad, rfl, hadb, _⟩ := HB.out k _ hp
      obtain ⟨x0, x1⟩ := (HB.out.below HB1.out).cells hp
      simp only at x0 x1
      have hcn : cellW wl k < n := by
        have := HLT.out wl[k] (List.getElem_mem _)
        simpa [cellW, List.getD, List.getElem?_eq_getElem hkl] using this
      have HF := hidp (foldW_take (f := f) hkl)
      have d0 := HR.out.cell hcn
      have f0 := HR.out.thawed (cellW wl k)
      have hgl := HR.out.lt
      have hab : (ad.add (k * 2)).block < wr.heap.size := by rw [block_of_add]; have := HB1.out.size; omega
      unfold valF at d0
      clear hp hkl
      generalize cellW wl k = i at *
      generalize atW wl k = x at *
      generalize foldW f (wl.take k) i = y at *
      go_wp2
      go_roundw
      case rel => exact ⟨k + 1, by omega, by go_num, hidp (by
          rw [HF.out]
          refine ((HR.out.put hcn _).congr (fun j _ => ?_)).keep (Bnew (B0 _) _)
          exact valF_upd _ _ _ j), hidp (Bnew (Bput HB1.out (p := ⟨g, i, none⟩) hg _) _)⟩
      case measure => simp [intOf]; omega
    · obtain rfl : k = m := by omega
      have HKL : Hid (wl.take k = wl) := hidp (List.take_of_length_le (by have := HL.out; omega))
      go_wp2
      go_ret
      exact ⟨g, cp, rfl, hg, by have := HR.out; rwa [HKL.out] at this, HB1.out⟩

theorem listBehind_zero (A B : Option Addr) (c cap : Nat) (w : World) (hA : A = none ∨ ∃ ad, A = some ad) :
    Calls Try.prog 50 #[.slice A 0 c, .slice B 0 cap] w fun e w' => ∃ v, e = .returned v ∧ w'.ownsRow w.heap.size 32 1 v 0 [] ∧ Below w.heap.size w w' := by
  have HCL := hidp (CloneList_c A 0 c [] rfl (by omega) (by simp) w (fun h => by omega))
  go_enter Try.func50, Try.ntmps50
  go_wp2_with fail
  refine HCL.out.mono ?_
  rintro e w1 ⟨v, rfl, ho, _, hb⟩
  have HO := hidp ho
  have HB1 := hidp hb
  clear ho hb HCL
  go_wp2_with fail
  refine wp_loop_rounds 1 ?_
  rw [rounds_succ]
  go_wp2
  go_ret
  exact ⟨v, rfl, HO.out, HB1.out⟩
theorem tableBehind_c (m : Option Nat) (B : Option Addr) (k cap : Nat) (w : World) :
    Calls Try.prog 53 #[.map m, .slice B k cap] w fun e w' => e = .returned (.slice none 0 0) ∧ w' = w := by
  go_enter Try.func53, Try.ntmps53
  go_wp2
  go_ret
  exact ⟨rfl, rfl⟩
theorem behind_list (A : Option Addr) (n c : Nat) (w : World) : (method 195 60 (.slice A n c) "nacre/view.behind").run Try.prog w = .ok (50, .slice A n c) w := by kernel_rfl
theorem behind_table (m : Option Nat) (w : World) : (method 195 63 (.map m) "nacre/view.behind").run Try.prog w = .ok (53, .map m) w := by kernel_rfl

theorem vVals_table {base b n : Nat} {o : VGeo} {K : Nat → Option Nat} {s : Vst} (w : World) (h : IsView w base b n false o K s) :
    Calls Try.prog 18 #[.pointer (some ⟨b, 0, none⟩)] w fun e w' => e = .returned (.slice none 0 0) ∧ Below w.heap.size w w' := by
  obtain ⟨B, cap, hv⟩ := own_slice h.wrow
  obtain ⟨_, c1, _, _, c4, _, _, _⟩ := h.cells
  have hr := h.wrow
  rw [hv] at hr c4
  obtain ⟨k3, D3, hf, _, _⟩ := h.src.table
  rw [hf] at c1
  generalize s.wr.length = m at *
  clear h hr hv hf
  have hmt := behind_table
  go_enter Try.func18, Try.ntmps18
  go_wp2_with fail
  refine wp_region_held_drew (S := (fun w' => w'.cell? ⟨b, 1, none⟩ = some (.iface 63 (.map (some o.sb))) ∧ w'.cell? ⟨b, 4, none⟩ = some (.slice B m cap))) (by kernel_rfl) ?_ (fun hHeld => ?_)
  · (try dsimp only)
    first | exact ⟨c1, c4⟩ | exact hHeld
  refine wpAnyH_take (i := 0) (oi := _) (v := ?_) rfl (by kernel_rfl) (by kernel_rfl) (by kernel_rfl) (fun _ _ _ h => h) (Or.inl ⟨by rfl, ?_⟩) (by assumption) ?_
  rotate_left
  · intro w hSw; (try dsimp only at hSw); go_simp; (try with_reducible rfl)
  (try simp only [Act.put, List.getElem_toArray, List.getElem_cons_zero, List.getElem_cons_succ, List.setIfInBounds_toArray, List.set_cons_zero, List.set_cons_succ])
  refine wpAnyH_take (i := 1) (oi := _) (v := ?_) rfl (by kernel_rfl) (by kernel_rfl) (by kernel_rfl) (fun _ _ _ h => h) (Or.inl ⟨by rfl, ?_⟩) (by assumption) ?_
  rotate_left
  · intro w hSw; (try dsimp only at hSw); go_simp; (try with_reducible rfl)
  (try simp only [Act.put, List.getElem_toArray, List.getElem_cons_zero, List.getElem_cons_succ, List.setIfInBounds_toArray, List.set_cons_zero, List.set_cons_succ])
  refine wpAnyH_take (i := 2) (oi := _) (v := ?_) rfl (by kernel_rfl) (by kernel_rfl) (by kernel_rfl) (fun _ _ _ h => h) (Or.inl ⟨by rfl, ?_⟩) (by assumption) ?_
  rotate_left
  · intro w hSw; (try dsimp only at hSw); go_simp; (try with_reducible rfl)
  (try simp only [Act.put, List.getElem_toArray, List.getElem_cons_zero, List.getElem_cons_succ, List.setIfInBounds_toArray, List.set_cons_zero, List.set_cons_succ])
  refine wpAnyH_take (i := 3) (oi := _) (v := ?_) rfl (by kernel_rfl) (by kernel_rfl) (by kernel_rfl) (fun _ _ _ h => h) (Or.inl ⟨by rfl, ?_⟩) (by assumption) ?_
  rotate_left
  · intro w hSw; (try dsimp only at hSw); go_simp; (try with_reducible rfl)
  (try simp only [Act.put, List.getElem_toArray, List.getElem_cons_zero, List.getElem_cons_succ, List.setIfInBounds_toArray, List.set_cons_zero, List.set_cons_succ])
  refine wpAnyH_take (i := 4) (oi := _) (v := ?_) rfl (by kernel_rfl) (by kernel_rfl) (by kernel_rfl) (fun _ _ _ h => h) (Or.inl ⟨by rfl, ?_⟩) (by assumption) ?_
  rotate_left
  · intro w hSw; (try dsimp only at hSw); go_simp; (try with_reducible rfl)
  (try simp only [Act.put, List.getElem_toArray, List.getElem_cons_zero, List.getElem_cons_succ, List.setIfInBounds_toArray, List.set_cons_zero, List.set_cons_succ])
  refine wpAnyH_take (i := 5) (oi := _) (v := ?_) rfl (by kernel_rfl) (by kernel_rfl) (by kernel_rfl) (fun _ _ _ h => h) (Or.inl ⟨by rfl, ?_⟩) (by assumption) ?_
  rotate_left
  · intro w hSw; (try dsimp only at hSw); go_simp; (try with_reducible rfl)
  (try simp only [Act.put, List.getElem_toArray, List.getElem_cons_zero, List.getElem_cons_succ, List.setIfInBounds_toArray, List.set_cons_zero, List.set_cons_succ])
  refine wpAnyH_take (i := 6) (oi := _) (v := ?_) rfl (by kernel_rfl) (by kernel_rfl) (by kernel_rfl) (fun _ _ _ h => h) (Or.inl ⟨by rfl, ?_⟩) (by assumption) ?_
  rotate_left
  · intro w hSw; (try dsimp only at hSw); go_simp; (try with_reducible rfl)
  (try simp only [Act.put, List.getElem_toArray, List.getElem_cons_zero, List.getElem_cons_succ, List.setIfInBounds_toArray, List.set_cons_zero, List.set_cons_succ])
  refine wpAnyH_take (i := 7) (oi := _) (v := ?_) rfl (by kernel_rfl) (by kernel_rfl) (by kernel_rfl) (fun _ _ _ h => h) (Or.inl ⟨by rfl, ?_⟩) (by assumption) ?_
  rotate_left
  · intro w hSw; (try dsimp only at hSw); go_simp; (try with_reducible rfl)
  (try simp only [Act.put, List.getElem_toArray, List.getElem_cons_zero, List.getElem_cons_succ, List.setIfInBounds_toArray, List.set_cons_zero, List.set_cons_succ])
  refine wpAnyH_take (i := 8) (oi := _) (v := ?_) rfl (by kernel_rfl) (by kernel_rfl) (by kernel_rfl) (fun _ _ _ h => h) (Or.inl ⟨by rfl, ?_⟩) (by assumption) ?_
  rotate_left
  · intro w hSw; (try dsimp only at hSw); go_simp; (try with_reducible rfl)
  (try simp only [Act.put, List.getElem_toArray, List.getElem_cons_zero, List.getElem_cons_succ, List.setIfInBounds_toArray, List.set_cons_zero, List.set_cons_succ])
  refine wpAnyH_take (i := 9) (oi := _) (v := ?_) rfl (by kernel_rfl) (by kernel_rfl) (by kernel_rfl) (fun _ _ _ h => h) (Or.inl ⟨by rfl, ?_⟩) (by assumption) ?_
  rotate_left
  · intro w hSw; (try dsimp only at hSw); go_simp; (try with_reducible rfl)
  (try simp only [Act.put, List.getElem_toArray, List.getElem_cons_zero, List.getElem_cons_succ, List.setIfInBounds_toArray, List.set_cons_zero, List.set_cons_succ])
  refine wpAnyH_ready (rs := [10]) (by kernel_rfl) (by simp) ?_
  refine AllReadyH.cons (o := _) rfl (fun K hK => ?_) AllReadyH.nil
  go_simp
  refine (tableBehind_c _ B m cap _).mono ?_; rintro e w2 ⟨rfl, rfl⟩
  refine hK.out _ _ ?_ (fun hHeld => ?_)
  · (try dsimp only)
    first | exact ⟨c1, c4⟩ | exact hHeld
  clear hK K
  (try simp only [Act.put, List.getElem_toArray, List.getElem_cons_zero, List.getElem_cons_succ, List.setIfInBounds_toArray, List.set_cons_zero, List.set_cons_succ])
  refine wpAnyH_take (i := 11) (oi := _) (v := ?_) rfl (by kernel_rfl) (by kernel_rfl) (by kernel_rfl) (fun _ _ _ h => h) (Or.inl ⟨by rfl, ?_⟩) (by assumption) ?_
  rotate_left
  · intro w hSw; (try dsimp only at hSw); go_simp; (try with_reducible rfl)
  (try simp only [Act.put, List.getElem_toArray, List.getElem_cons_zero, List.getElem_cons_succ, List.setIfInBounds_toArray, List.set_cons_zero, List.set_cons_succ])
  refine wpAnyH_done (by kernel_rfl) ?_ _
  go_wp2
  go_ret
  exact ⟨rfl, Bdrew (B0 _)⟩

theorem vVals_zero {base b : Nat} {o : VGeo} {K : Nat → Option Nat} {s : Vst} (w : World) (h : IsView w base b 0 true o K s) :
    Calls Try.prog 18 #[.pointer (some ⟨b, 0, none⟩)] w fun e w' => ∃ v, e = .returned v ∧ w'.ownsRow w.heap.size 32 1 v 0 [] ∧ Below w.heap.size w w' := by
  obtain ⟨B, cap, hv⟩ := own_slice h.wrow
  obtain ⟨_, c1, _, _, c4, _, _, _⟩ := h.cells
  have hr := h.wrow
  rw [hv] at hr c4
  obtain ⟨A, c, hf, _, _, _, _⟩ := h.src.list
  rw [hf] at c1
  have hm : s.wr.length = 0 := by
    cases hw : s.wr with
    | nil => rfl
    | cons p r =>
      have := (h.ok.wrLt p (by rw [hw]; exact List.mem_cons_self ..)).1
      omega
  rw [hm] at c4
  clear h hr hv hf hm
  have hmt := behind_list
  go_enter Try.func18, Try.ntmps18
  go_wp2_with fail
  refine wp_region_held_drew (S := (fun w' => w'.cell? ⟨b, 1, none⟩ = some (.iface 60 (.slice A 0 c)) ∧ w'.cell? ⟨b, 4, none⟩ = some (.slice B 0 cap))) (by kernel_rfl) ?_ (fun hHeld => ?_)
  · (try dsimp only)
    first | exact ⟨c1, c4⟩ | exact ⟨hst _ _ hHeld.1, hst _ _ hHeld.2⟩ | exact hHeld
  refine wpAnyH_take (i := 0) (oi := _) (v := ?_) rfl (by kernel_rfl) (by kernel_rfl) (by kernel_rfl) (fun _ _ _ h => h) (Or.inl ⟨by rfl, ?_⟩) (by assumption) ?_
  rotate_left
  · intro w hSw; (try dsimp only at hSw); go_simp; (try with_reducible rfl)
  (try simp only [Act.put, List.getElem_toArray, List.getElem_cons_zero, List.getElem_cons_succ, List.setIfInBounds_toArray, List.set_cons_zero, List.set_cons_succ])
  refine wpAnyH_take (i := 1) (oi := _) (v := ?_) rfl (by kernel_rfl) (by kernel_rfl) (by kernel_rfl) (fun _ _ _ h => h) (Or.inl ⟨by rfl, ?_⟩) (by assumption) ?_
  rotate_left
  · intro w hSw; (try dsimp only at hSw); go_simp; (try with_reducible rfl)
  (try simp only [Act.put, List.getElem_toArray, List.getElem_cons_zero, List.getElem_cons_succ, List.setIfInBounds_toArray, List.set_cons_zero, List.set_cons_succ])
  refine wpAnyH_take (i := 2) (oi := _) (v := ?_) rfl (by kernel_rfl) (by kernel_rfl) (by kernel_rfl) (fun _ _ _ h => h) (Or.inl ⟨by rfl, ?_⟩) (by assumption) ?_
  rotate_left
  · intro w hSw; (try dsimp only at hSw); go_simp; (try with_reducible rfl)
  (try simp only [Act.put, List.getElem_toArray, List.getElem_cons_zero, List.getElem_cons_succ, List.setIfInBounds_toArray, List.set_cons_zero, List.set_cons_succ])
  refine wpAnyH_take (i := 3) (oi := _) (v := ?_) rfl (by kernel_rfl) (by kernel_rfl) (by kernel_rfl) (fun _ _ _ h => h) (Or.inl ⟨by rfl, ?_⟩) (by assumption) ?_
  rotate_left
  · intro w hSw; (try dsimp only at hSw); go_simp; (try with_reducible rfl)
  (try simp only [Act.put, List.getElem_toArray, List.getElem_cons_zero, List.getElem_cons_succ, List.setIfInBounds_toArray, List.set_cons_zero, List.set_cons_succ])
  refine wpAnyH_take (i := 4) (oi := _) (v := ?_) rfl (by kernel_rfl) (by kernel_rfl) (by kernel_rfl) (fun _ _ _ h => h) (Or.inl ⟨by rfl, ?_⟩) (by assumption) ?_
  rotate_left
  · intro w hSw; (try dsimp only at hSw); go_simp; (try with_reducible rfl)
  (try simp only [Act.put, List.getElem_toArray, List.getElem_cons_zero, List.getElem_cons_succ, List.setIfInBounds_toArray, List.set_cons_zero, List.set_cons_succ])
  refine wpAnyH_take (i := 5) (oi := _) (v := ?_) rfl (by kernel_rfl) (by kernel_rfl) (by kernel_rfl) (fun _ _ _ h => h) (Or.inl ⟨by rfl, ?_⟩) (by assumption) ?_
  rotate_left
  · intro w hSw; (try dsimp only at hSw); go_simp; (try with_reducible rfl)
  (try simp only [Act.put, List.getElem_toArray, List.getElem_cons_zero, List.getElem_cons_succ, List.setIfInBounds_toArray, List.set_cons_zero, List.set_cons_succ])
  refine wpAnyH_take (i := 6) (oi := _) (v := ?_) rfl (by kernel_rfl) (by kernel_rfl) (by kernel_rfl) (fun _ _ _ h => h) (Or.inl ⟨by rfl, ?_⟩) (by assumption) ?_
  rotate_left
  · intro w hSw; (try dsimp only at hSw); go_simp; (try with_reducible rfl)
  (try simp only [Act.put, List.getElem_toArray, List.getElem_cons_zero, List.getElem_cons_succ, List.setIfInBounds_toArray, List.set_cons_zero, List.set_cons_succ])
  refine wpAnyH_take (i := 7) (oi := _) (v := ?_) rfl (by kernel_rfl) (by kernel_rfl) (by kernel_rfl) (fun _ _ _ h => h) (Or.inl ⟨by rfl, ?_⟩) (by assumption) ?_
  rotate_left
  · intro w hSw; (try dsimp only at hSw); go_simp; (try with_reducible rfl)
  (try simp only [Act.put, List.getElem_toArray, List.getElem_cons_zero, List.getElem_cons_succ, List.setIfInBounds_toArray, List.set_cons_zero, List.set_cons_succ])
  refine wpAnyH_take (i := 8) (oi := _) (v := ?_) rfl (by kernel_rfl) (by kernel_rfl) (by kernel_rfl) (fun _ _ _ h => h) (Or.inl ⟨by rfl, ?_⟩) (by assumption) ?_
  rotate_left
  · intro w hSw; (try dsimp only at hSw); go_simp; (try with_reducible rfl)
  (try simp only [Act.put, List.getElem_toArray, List.getElem_cons_zero, List.getElem_cons_succ, List.setIfInBounds_toArray, List.set_cons_zero, List.set_cons_succ])
  refine wpAnyH_take (i := 9) (oi := _) (v := ?_) rfl (by kernel_rfl) (by kernel_rfl) (by kernel_rfl) (fun _ _ _ h => h) (Or.inl ⟨by rfl, ?_⟩) (by assumption) ?_
  rotate_left
  · intro w hSw; (try dsimp only at hSw); go_simp; (try with_reducible rfl)
  (try simp only [Act.put, List.getElem_toArray, List.getElem_cons_zero, List.getElem_cons_succ, List.setIfInBounds_toArray, List.set_cons_zero, List.set_cons_succ])
  refine wpAnyH_ready (rs := [10]) (by kernel_rfl) (by simp) ?_
  refine AllReadyH.cons (o := _) rfl (fun K hK => ?_) AllReadyH.nil
  go_simp
  refine (listBehind_zero A B c cap _ (by cases A <;> simp)).mono ?_; rintro e w2 ⟨v, rfl, ho, hb⟩; have HO := hidp ho; have HB := hidp (Bgo (Bdrew (B0 w)) hb); have hst := cells_stay hb; clear ho hb
  refine hK.out _ _ ?_ (fun hHeld => ?_)
  · (try dsimp only)
    first | exact ⟨c1, c4⟩ | exact ⟨hst _ _ hHeld.1, hst _ _ hHeld.2⟩ | exact hHeld
  clear hK K
  (try simp only [Act.put, List.getElem_toArray, List.getElem_cons_zero, List.getElem_cons_succ, List.setIfInBounds_toArray, List.set_cons_zero, List.set_cons_succ])
  refine wpAnyH_take (i := 11) (oi := _) (v := ?_) rfl (by kernel_rfl) (by kernel_rfl) (by kernel_rfl) (fun _ _ _ h => h) (Or.inl ⟨by rfl, ?_⟩) (by assumption) ?_
  rotate_left
  · intro w hSw; (try dsimp only at hSw); go_simp; (try with_reducible rfl)
  (try simp only [Act.put, List.getElem_toArray, List.getElem_cons_zero, List.getElem_cons_succ, List.setIfInBounds_toArray, List.set_cons_zero, List.set_cons_succ])
  refine wpAnyH_done (by kernel_rfl) ?_ _
  go_wp2
  go_ret
  exact ⟨v, rfl, by simpa using HO.out, HB.out⟩

theorem vVals_some {base b n : Nat} {o : VGeo} {Kn : Nat → Option Nat} {s : Vst} (hn : 0 < n) (hlim : s.wr.length < 2 ^ 40) (w : World) (h : IsView w base b n true o Kn s) :
    Calls Try.prog 18 #[.pointer (some ⟨b, 0, none⟩)] w fun e w' => ∃ g cp, e = .returned (.slice (some ⟨g, 0, none⟩) n cp) ∧ w.heap.size ≤ g ∧ RowF w' g 32 n cp (valF (nowV Kn s.wr)) ∧ Below w.heap.size w w' := by
  obtain ⟨B, cap, hv⟩ := own_slice h.wrow
  obtain ⟨_, c1, _, _, c4, _, _, _⟩ := h.cells
  have hr := h.wrow
  rw [hv] at hr c4
  obtain ⟨A, c, hf, _, _, _, hR⟩ := h.src.list
  rw [hf] at c1
  have hnmx := h.nmax
  have HA : Hid (∀ w', Below w.heap.size w w' → (0 < n → ∃ ad, A = some ad ∧ ∀ j u, ((List.range n).map (valF fun i => (Kn i).getD 0))[j]? = some u → w'.cell? (ad.add j) = some u)) := hidp (fun w' hb hn => by
    obtain ⟨e1, e2⟩ := hR hn
    obtain ⟨ad, e3, _, e4⟩ := ((e2.keep hb).reads (B := w'.heap.size) (e2.keep hb).lt).2 hn
    exact ⟨ad, e1.trans e3, e4⟩)
  have HP : Hid (∀ w', Below w.heap.size w w' → PairVs w' B (toPV s.wr)) := hidp (fun w' hb => (pairs_of_own hr rfl).below hb)
  have HLT : Hid (∀ p ∈ s.wr, p.1 < n) := hidp (fun p hp => (h.ok.wrLt p hp).1)
  have HF : Hid (foldW (fun i => (Kn i).getD 0) s.wr = nowV Kn s.wr) := hidp (by funext i; exact foldW_now h.ok i)
  obtain ⟨hmc, hcm⟩ := own_caps hr
  obtain ⟨m, hm2⟩ : ∃ m, s.wr.length = m := ⟨_, rfl⟩
  have HM := hidp hm2
  rw [hm2] at c4 hmc
  clear h hr hv hf hm2 hR
  have hmt := behind_list
  go_enter Try.func18, Try.ntmps18
  go_wp2_with fail
  refine wp_region_held_drew (S := (fun w' => w'.cell? ⟨b, 1, none⟩ = some (.iface 60 (.slice A n c)) ∧ w'.cell? ⟨b, 4, none⟩ = some (.slice B m cap))) (by kernel_rfl) ?_ (fun hHeld => ?_)
  · (try dsimp only)
    first | exact ⟨c1, c4⟩ | exact ⟨hst _ _ hHeld.1, hst _ _ hHeld.2⟩ | exact hHeld
  refine wpAnyH_take (i := 0) (oi := _) (v := ?_) rfl (by kernel_rfl) (by kernel_rfl) (by kernel_rfl) (fun _ _ _ h => h) (Or.inl ⟨by rfl, ?_⟩) (by assumption) ?_
  rotate_left
  · intro w hSw; (try dsimp only at hSw); go_simp; (try with_reducible rfl)
  (try simp only [Act.put, List.getElem_toArray, List.getElem_cons_zero, List.getElem_cons_succ, List.setIfInBounds_toArray, List.set_cons_zero, List.set_cons_succ])
  refine wpAnyH_take (i := 1) (oi := _) (v := ?_) rfl (by kernel_rfl) (by kernel_rfl) (by kernel_rfl) (fun _ _ _ h => h) (Or.inl ⟨by rfl, ?_⟩) (by assumption) ?_
  rotate_left
  · intro w hSw; (try dsimp only at hSw); go_simp; (try with_reducible rfl)
  (try simp only [Act.put, List.getElem_toArray, List.getElem_cons_zero, List.getElem_cons_succ, List.setIfInBounds_toArray, List.set_cons_zero, List.set_cons_succ])
  refine wpAnyH_take (i := 2) (oi := _) (v := ?_) rfl (by kernel_rfl) (by kernel_rfl) (by kernel_rfl) (fun _ _ _ h => h) (Or.inl ⟨by rfl, ?_⟩) (by assumption) ?_
  rotate_left
  · intro w hSw; (try dsimp only at hSw); go_simp; (try with_reducible rfl)
  (try simp only [Act.put, List.getElem_toArray, List.getElem_cons_zero, List.getElem_cons_succ, List.setIfInBounds_toArray, List.set_cons_zero, List.set_cons_succ])
  refine wpAnyH_take (i := 3) (oi := _) (v := ?_) rfl (by kernel_rfl) (by kernel_rfl) (by kernel_rfl) (fun _ _ _ h => h) (Or.inl ⟨by rfl, ?_⟩) (by assumption) ?_
  rotate_left
  · intro w hSw; (try dsimp only at hSw); go_simp; (try with_reducible rfl)
  (try simp only [Act.put, List.getElem_toArray, List.getElem_cons_zero, List.getElem_cons_succ, List.setIfInBounds_toArray, List.set_cons_zero, List.set_cons_succ])
  refine wpAnyH_take (i := 4) (oi := _) (v := ?_) rfl (by kernel_rfl) (by kernel_rfl) (by kernel_rfl) (fun _ _ _ h => h) (Or.inl ⟨by rfl, ?_⟩) (by assumption) ?_
  rotate_left
  · intro w hSw; (try dsimp only at hSw); go_simp; (try with_reducible rfl)
  (try simp only [Act.put, List.getElem_toArray, List.getElem_cons_zero, List.getElem_cons_succ, List.setIfInBounds_toArray, List.set_cons_zero, List.set_cons_succ])
  refine wpAnyH_take (i := 5) (oi := _) (v := ?_) rfl (by kernel_rfl) (by kernel_rfl) (by kernel_rfl) (fun _ _ _ h => h) (Or.inl ⟨by rfl, ?_⟩) (by assumption) ?_
  rotate_left
  · intro w hSw; (try dsimp only at hSw); go_simp; (try with_reducible rfl)
  (try simp only [Act.put, List.getElem_toArray, List.getElem_cons_zero, List.getElem_cons_succ, List.setIfInBounds_toArray, List.set_cons_zero, List.set_cons_succ])
  refine wpAnyH_take (i := 6) (oi := _) (v := ?_) rfl (by kernel_rfl) (by kernel_rfl) (by kernel_rfl) (fun _ _ _ h => h) (Or.inl ⟨by rfl, ?_⟩) (by assumption) ?_
  rotate_left
  · intro w hSw; (try dsimp only at hSw); go_simp; (try with_reducible rfl)
  (try simp only [Act.put, List.getElem_toArray, List.getElem_cons_zero, List.getElem_cons_succ, List.setIfInBounds_toArray, List.set_cons_zero, List.set_cons_succ])
  refine wpAnyH_take (i := 7) (oi := _) (v := ?_) rfl (by kernel_rfl) (by kernel_rfl) (by kernel_rfl) (fun _ _ _ h => h) (Or.inl ⟨by rfl, ?_⟩) (by assumption) ?_
  rotate_left
  · intro w hSw; (try dsimp only at hSw); go_simp; (try with_reducible rfl)
  (try simp only [Act.put, List.getElem_toArray, List.getElem_cons_zero, List.getElem_cons_succ, List.setIfInBounds_toArray, List.set_cons_zero, List.set_cons_succ])
  refine wpAnyH_take (i := 8) (oi := _) (v := ?_) rfl (by kernel_rfl) (by kernel_rfl) (by kernel_rfl) (fun _ _ _ h => h) (Or.inl ⟨by rfl, ?_⟩) (by assumption) ?_
  rotate_left
  · intro w hSw; (try dsimp only at hSw); go_simp; (try with_reducible rfl)
  (try simp only [Act.put, List.getElem_toArray, List.getElem_cons_zero, List.getElem_cons_succ, List.setIfInBounds_toArray, List.set_cons_zero, List.set_cons_succ])
  refine wpAnyH_take (i := 9) (oi := _) (v := ?_) rfl (by kernel_rfl) (by kernel_rfl) (by kernel_rfl) (fun _ _ _ h => h) (Or.inl ⟨by rfl, ?_⟩) (by assumption) ?_
  rotate_left
  · intro w hSw; (try dsimp only at hSw); go_simp; (try with_reducible rfl)
  (try simp only [Act.put, List.getElem_toArray, List.getElem_cons_zero, List.getElem_cons_succ, List.setIfInBounds_toArray, List.set_cons_zero, List.set_cons_succ])
  refine wpAnyH_ready (rs := [10]) (by kernel_rfl) (by simp) ?_
  refine AllReadyH.cons (o := _) rfl (fun K hK => ?_) AllReadyH.nil
  go_simp
  refine (listBehind_c A B n c m cap (fun i => (Kn i).getD 0) s.wr hn hnmx HM.out hmc hcm HLT.out _ (HA.out _ (Bdrew (B0 _))) (HP.out _ (Bdrew (B0 _)))).mono ?_; rintro e w2 ⟨g, cp, rfl, hg, hr2, hb⟩; have HR := hidp hr2; have HG := hidp hg; have HB := hidp (Bgo (Bdrew (B0 w)) hb); have hst := cells_stay hb; clear hr2 hb hg
  refine hK.out _ _ ?_ (fun hHeld => ?_)
  · (try dsimp only)
    first | exact ⟨c1, c4⟩ | exact ⟨hst _ _ hHeld.1, hst _ _ hHeld.2⟩ | exact hHeld
  clear hK K
  (try simp only [Act.put, List.getElem_toArray, List.getElem_cons_zero, List.getElem_cons_succ, List.setIfInBounds_toArray, List.set_cons_zero, List.set_cons_succ])
  refine wpAnyH_take (i := 11) (oi := _) (v := ?_) rfl (by kernel_rfl) (by kernel_rfl) (by kernel_rfl) (fun _ _ _ h => h) (Or.inl ⟨by rfl, ?_⟩) (by assumption) ?_
  rotate_left
  · intro w hSw; (try dsimp only at hSw); go_simp; (try with_reducible rfl)
  (try simp only [Act.put, List.getElem_toArray, List.getElem_cons_zero, List.getElem_cons_succ, List.setIfInBounds_toArray, List.set_cons_zero, List.set_cons_succ])
  refine wpAnyH_done (by kernel_rfl) ?_ _
  go_wp2
  go_ret
  refine ⟨g, cp, rfl, HG.out, ?_, HB.out⟩
  have := HR.out
  rwa [HF.out] at this
end Go.Proofs.Ytcfljejeceikbaa
