/-
  Memories (nvm.Mem): New, Words, Kept, Crash, Copy, and the clones that they make.
-/
import Derived.Test.YtobeapibiebpaaaNvmKeep
import Derived.Lib.SliceRun
import Derived.Lib.Walk
import Derived.Shelf.SlMaps.Clone
import Derived.Laws.CopyOwn
import Derived.Deep.RegionLaw
import Derived.Deep.RegionHeld3
namespace Go.Proofs.Ytobeapibiebpaaa
open Go.ChangeShapes Go.WideShapes Go.ChangeAt Go.RowKit Go.Maps
set_option linter.unusedVariables false
set_option linter.unusedSimpArgs false

theorem wordInfo : (Try.prog.info? 30).map (fun i => (i.zero, i.size, i.bytes)) = some (some (.int .u64 0), 1, 8) := by kernel_rfl
def wordL (f : Nat → Nat) (n : Nat) : List Nat := (List.range n).map f
theorem wordL_len (f : Nat → Nat) (n : Nat) : (wordL f n).length = n := by unfold wordL; simp
theorem wordL_vs (f : Nat → Nat) (n : Nat) : (List.range n).map (wordF f) = wordVs (wordL f n) := by
  unfold wordVs wordL wordF
  rw [List.map_map]
  rfl

theorem Clone_c (ad : Addr) (n c : Nat) (f : Nat → Nat) (hn : 0 < n) (hmx : n * 8 ≤ 140737488355328) (w : World) (hc : ∀ j, j < n → w.cell? (ad.add j) = some (wordF f j)) :
    Calls Try.prog 27 #[.slice (some ad) n c] w fun e w' =>
      ∃ g cap, e = .returned (.slice (some ⟨g, 0, none⟩) n cap) ∧ w.heap.size ≤ g ∧ RowF w' g 30 n cap (wordF f) ∧ Below w.heap.size w w' := by
  obtain ⟨i0, hi, hz0, hz1, hz2⟩ := info_parts wordInfo
  have HC : Hid (∀ j, j < n → w.cell? (ad.add j) = some (wordF f j)) := hidp hc
  have q22 : ∀ (w : World) (a : Option Addr) (n c n' c' : Nat), (binOp .eql 22 (.slice a n c) (.slice none n' c')).run Try.prog w = .ok (.bool a.isNone) w := fun w a n c n' c' => Lib.run_eql_slice_nil w _ _ a n c n' c' Try.underlying22
  clear hc
  go_enter Try.func27, Try.ntmps27
  go_wp2_with (at_builtin
               refine wpList_append_own _ rfl _ _ 22 rfl w.heap.size 30 i0 (.int .u64 0) 1 8 Try.underlying22 hi hz0 hz1 hz2 rfl (by decide) _ 0 [] rfl (World.ownsRow_made w #[] 0 (Nat.le_refl _) (Nat.zero_le _) (by simp)) ad n c ((List.range n).map (wordF f)) rfl ?c1 ?c2 ?c3 ?c4 ?c5 ?c6 ?_)
  case c1 => simp
  case c2 =>
    intro j u hj
    have hj' : j < n := by
      rcases Nat.lt_or_ge j n with h1 | h1
      · exact h1
      · rw [List.getElem?_eq_none (by simp; omega)] at hj; cases hj
    rw [List.getElem?_map, List.getElem?_range hj'] at hj
    refine Lib.cell?_alloc_some _ ((HC.out j hj').trans ?_)
    exact hj
  case c3 =>
    intro u hu
    obtain ⟨j, _, rfl⟩ := List.mem_map.1 hu
    rfl
  case c4 => rw [Nat.zero_add]; unfold maxLen; omega
  case c5 => rw [Nat.zero_add]; exact hmx
  case c6 => simp
  intro v' w1 hown hgrow hnil
  obtain ⟨g, cap, rfl, hg1, hg2⟩ := hown.form hn
  have hr := RowF.of_own hown
  have HB := hidp (((Below.refl _ w).alloc (Nat.le_refl _) (.cells #[] 30)).grown hgrow (by simp) (by intro k hk; simp [Value.ownBlock] at hk; omega))
  have HR := hidp hr
  clear hr hgrow hown hnil
  go_wp2
  go_ret
  exact ⟨g, cap, rfl, HR.out.1, HR.out.2, HB.out⟩

theorem mod8 {n : Nat} (h : n % 8 = 0) : ((n : Int).tmod 8 != 0) = false ∧ ((n : Int) % 8 != 0) = false ∧ (n % 8 != 0) = false ∧ (((n % 8 : Nat) : Int) != 0) = false := by
  have e : ((n : Int).tmod 8) = ((n % 8 : Nat) : Int) := by rw [Int.tmod_eq_emod_of_nonneg (by omega)]; norm_cast
  rw [e, h]
  refine ⟨rfl, ?_, rfl, rfl⟩
  simp
  omega
theorem mod8_no {n : Nat} (h : n % 8 ≠ 0) : ((n : Int).tmod 8 != 0) = true ∧ ((n : Int) % 8 != 0) = true ∧ (n % 8 != 0) = true ∧ (((n % 8 : Nat) : Int) != 0) = true := by
  have e : ((n : Int).tmod 8) = ((n % 8 : Nat) : Int) := by rw [Int.tmod_eq_emod_of_nonneg (by omega)]; norm_cast
  rw [e]
  simp
  omega
def newS (f : Nat → Nat) : Mst := ⟨f, f, fun _ _ => false⟩

theorem New_yes (ad : Addr) (n c : Nat) (f : Nat → Nat) (h8 : 8 ≤ n) (hmx : n ≤ 65536) (hmod : n % 8 = 0) (hf : ∀ i, f i < 2 ^ 64) (w : World) (had : ad.block < w.heap.size) (hc : ∀ j, j < n → w.cell? (ad.add j) = some (wordF f j)) :
    Calls Try.prog 9 #[.slice (some ad) n c] w fun e w' =>
      ∃ o : Geo, o.n = n ∧ e = .returned (.pointer (some ⟨o.b, 0, none⟩)) ∧ IsMem w' o 0 (newS f) ∧ w.heap.size ≤ o.b ∧ w.heap.size ≤ o.g ∧ w.heap.size ≤ o.h ∧ w.heap.size ≤ o.m ∧ Below w.heap.size w w' := by
  have hmm := @run_makeMap Try.prog
  obtain ⟨t1, t2, t3, t4⟩ := mod8 hmod
  have HC := hidp hc
  have HF := hidp hf
  have HMOD := hidp hmod
  have HAD := hidp had
  clear hc hf hmod had
  go_enter Try.func9, Try.ntmps9
  go_wp2_with fail
  refine (Clone_c ad n c f (by omega) (by omega) _ HC.out).mono ?_
  rintro e w1 ⟨g, cg, rfl, hg, hr1, hb1⟩
  have HR1 := hidp hr1
  have HB1 := hidp hb1
  clear hr1 hb1
  go_wp2_with fail
  refine (Clone_c ad n c f (by omega) (by omega) _ (fun j hj => (HB1.out.cell (p := ad.add j) (by rw [block_of_add]; exact HAD.out)).trans (HC.out j hj))).mono ?_
  rintro e w2 ⟨g2, cg2, rfl, hg2, hr2, hb2⟩
  have HR2 := hidp hr2
  have HB2 := hidp hb2
  clear hr2 hb2
  go_wp2
  go_ret
  have hl1 := HR1.out.lt
  have hl2 := HR2.out.lt
  have hs1 := HB1.out.size
  have hs2 := HB2.out.size
  have hbm := Bnew (B0 w2) (.map #[] 0)
  have hbn := Bnew hbm (.cells #[.slice (some ⟨g, 0, none⟩) n cg, .slice (some ⟨g2, 0, none⟩) n cg2, .map (some w2.heap.size)] 54)
  refine ⟨⟨w2.heap.size + 1, g, g2, w2.heap.size, n, cg, cg2⟩, rfl, rfl, ?_, by simp; omega, hg, by simp; omega, by simp; omega, Bgo (Bgo HB1.out HB2.out) hbn⟩
  exact { head := Held.new2 _ _ _ _
          words := (HR1.out.keep HB2.out).keep hbn
          kept := HR2.out.keep hbn
          pend := ⟨0, _, Nat.le_refl _, (World.ownsMap_made w2 Try.prog 58 unitElem).alloc _, PendIs.none _⟩
          n8 := h8
          nmax := hmx
          nmod := HMOD.out
          bg := by simp; omega
          bh := by simp; omega
          gh := by simp; omega
          w64 := HF.out
          k64 := HF.out }

theorem New_low (A : Option Addr) (n c : Nat) (h8 : n < 8) (w : World) :
    Calls Try.prog 9 #[.slice A n c] w fun e w' => e = .returned (.pointer none) ∧ w' = w := by
  go_enter Try.func9, Try.ntmps9
  go_wp2
  go_ret
  exact ⟨rfl, rfl⟩
theorem New_mod (A : Option Addr) (n c : Nat) (h8 : 8 ≤ n) (hmx : n ≤ 65536) (hmod : n % 8 ≠ 0) (w : World) :
    Calls Try.prog 9 #[.slice A n c] w fun e w' => e = .returned (.pointer none) ∧ w' = w := by
  obtain ⟨t1, t2, t3, t4⟩ := mod8_no hmod
  clear hmod
  go_enter Try.func9, Try.ntmps9
  go_wp2
  go_ret
  exact ⟨rfl, rfl⟩

theorem Words_m (o : Geo) (lim : Nat) (s : Mst) (w : World) (h : IsMem w o lim s) :
    Calls Try.prog 14 #[.pointer (some ⟨o.b, 0, none⟩)] w fun e w' =>
      ∃ g cap, e = .returned (.slice (some ⟨g, 0, none⟩) o.n cap) ∧ w.heap.size ≤ g ∧ RowF w' g 30 o.n cap (wordF s.W) ∧ Below w.heap.size w w' := by
  have c0 := h.cells.1
  have hn := h.nmax
  have h8 := h.n8
  have HC : Hid (∀ j, j < o.n → w.cell? ((⟨o.g, 0, none⟩ : Addr).add j) = some (wordF s.W j)) := hidp (fun j hj => by
    have e : (⟨o.g, 0, none⟩ : Addr).add j = ⟨o.g, j, none⟩ := by
      unfold Addr.add
      by_cases hz : j = 0
      · rw [if_pos hz, hz]
      · rw [if_neg hz]; simp
    rw [e]
    exact h.words.cell hj)
  clear h
  go_enter Try.func14, Try.ntmps14
  go_wp2_with fail
  refine (Clone_c _ o.n o.cg s.W (by omega) (by omega) _ HC.out).mono ?_
  rintro e w1 ⟨g, cg, rfl, hg, hr1, hb1⟩
  go_wp2
  go_ret
  exact ⟨g, cg, rfl, hg, hr1, hb1⟩
theorem Kept_m (o : Geo) (lim : Nat) (s : Mst) (w : World) (h : IsMem w o lim s) :
    Calls Try.prog 15 #[.pointer (some ⟨o.b, 0, none⟩)] w fun e w' =>
      ∃ g cap, e = .returned (.slice (some ⟨g, 0, none⟩) o.n cap) ∧ w.heap.size ≤ g ∧ RowF w' g 30 o.n cap (wordF s.K) ∧ Below w.heap.size w w' := by
  have c0 := h.cells.2.1
  have hn := h.nmax
  have h8 := h.n8
  have HC : Hid (∀ j, j < o.n → w.cell? ((⟨o.h, 0, none⟩ : Addr).add j) = some (wordF s.K j)) := hidp (fun j hj => by
    have e : (⟨o.h, 0, none⟩ : Addr).add j = ⟨o.h, j, none⟩ := by
      unfold Addr.add
      by_cases hz : j = 0
      · rw [if_pos hz, hz]
      · rw [if_neg hz]; simp
    rw [e]
    exact h.kept.cell hj)
  clear h
  go_enter Try.func15, Try.ntmps15
  go_wp2_with fail
  refine (Clone_c _ o.n o.ch s.K (by omega) (by omega) _ HC.out).mono ?_
  rintro e w1 ⟨g, cg, rfl, hg, hr1, hb1⟩
  go_wp2
  go_ret
  exact ⟨g, cg, rfl, hg, hr1, hb1⟩
end Go.Proofs.Ytobeapibiebpaaa
