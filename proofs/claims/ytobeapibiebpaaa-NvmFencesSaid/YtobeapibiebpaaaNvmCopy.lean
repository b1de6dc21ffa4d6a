/-
  Memories (nvm.Mem): Copy.
-/
import Derived.Test.YtobeapibiebpaaaNvmCrash
import Derived.Deep.RegionHeld3
namespace Go.Proofs.Ytobeapibiebpaaa
open Go.ChangeShapes Go.WideShapes Go.ChangeAt Go.RowKit Go.Maps
set_option linter.unusedVariables false
set_option linter.unusedSimpArgs false

theorem memS {w : World} {o : Geo} {lim : Nat} {s : Mst} (h : IsMem w o lim s) : w.cell? ⟨o.b, 0, none⟩ = some (.slice (some ⟨o.g, 0, none⟩) o.n o.cg) ∧ w.cell? ⟨o.b, 1, none⟩ = some (.slice (some ⟨o.h, 0, none⟩) o.n o.ch) ∧ w.cell? ⟨o.b, 2, none⟩ = some (.map (some o.m)) ∧ Hid (IsMem w o lim s) :=
  ⟨h.cells.1, h.cells.2.1, h.cells.2.2, hidp h⟩
theorem memStay {w w' : World} {o : Geo} {lim : Nat} {s : Mst} (hb : Below w.heap.size w w') (h : (w.cell? ⟨o.b, 0, none⟩ = some (.slice (some ⟨o.g, 0, none⟩) o.n o.cg) ∧ w.cell? ⟨o.b, 1, none⟩ = some (.slice (some ⟨o.h, 0, none⟩) o.n o.ch) ∧ w.cell? ⟨o.b, 2, none⟩ = some (.map (some o.m)) ∧ Hid (IsMem w o lim s))) : w'.cell? ⟨o.b, 0, none⟩ = some (.slice (some ⟨o.g, 0, none⟩) o.n o.cg) ∧ w'.cell? ⟨o.b, 1, none⟩ = some (.slice (some ⟨o.h, 0, none⟩) o.n o.ch) ∧ w'.cell? ⟨o.b, 2, none⟩ = some (.map (some o.m)) ∧ Hid (IsMem w' o lim s) := memS (h.2.2.2.out.keep hb)
/-- what the row of a memory at an address holds -/
def pickF (o : Geo) (s : Mst) (ad : Addr) : Nat → Nat := if ad = ⟨o.g, 0, none⟩ then s.W else s.K
theorem Clone_pick (o : Geo) (lim : Nat) (s : Mst) (ad : Addr) (c : Nat) (hd : ad = ⟨o.g, 0, none⟩ ∨ ad = ⟨o.h, 0, none⟩) (w : World) (hS : (w.cell? ⟨o.b, 0, none⟩ = some (.slice (some ⟨o.g, 0, none⟩) o.n o.cg) ∧ w.cell? ⟨o.b, 1, none⟩ = some (.slice (some ⟨o.h, 0, none⟩) o.n o.ch) ∧ w.cell? ⟨o.b, 2, none⟩ = some (.map (some o.m)) ∧ Hid (IsMem w o lim s))) :
    Calls Try.prog 27 #[.slice (some ad) o.n c] w fun e w' =>
      ∃ g cap, e = .returned (.slice (some ⟨g, 0, none⟩) o.n cap) ∧ w.heap.size ≤ g ∧ Hid (RowF w' g 30 o.n cap (wordF (pickF o s ad))) ∧ Hid (Below w.heap.size w w') := by
  have h := hS.2.2.2
  have h8 := h.out.n8
  have hm := h.out.nmax
  refine (Clone_c ad o.n c (pickF o s ad) (by omega) (by omega) w fun j hj => ?_).mono ?_
  · have hne : (⟨o.h, 0, none⟩ : Addr) ≠ ⟨o.g, 0, none⟩ := fun e => h.out.gh (by injection e with e; exact e.symm)
    rcases hd with rfl | rfl
    · rw [add_at, h.out.words.cell hj]
      unfold pickF
      rw [if_pos rfl]
    · rw [add_at, h.out.kept.cell hj]
      unfold pickF
      rw [if_neg hne]
  · rintro e w' ⟨g, cap, he, hg, hr, hb⟩
    exact ⟨g, cap, he, hg, hidp hr, hidp hb⟩
theorem mapsClone_mem (o : Geo) (lim : Nat) (s : Mst) (w : World) (hS : (w.cell? ⟨o.b, 0, none⟩ = some (.slice (some ⟨o.g, 0, none⟩) o.n o.cg) ∧ w.cell? ⟨o.b, 1, none⟩ = some (.slice (some ⟨o.h, 0, none⟩) o.n o.ch) ∧ w.cell? ⟨o.b, 2, none⟩ = some (.map (some o.m)) ∧ Hid (IsMem w o lim s))) :
    Calls Try.prog 40 #[.map (some o.m)] w fun e w' => e = .returned (.map (some w.heap.size)) ∧ Hid (∃ k D, k ≤ lim ∧ w'.ownsMap Try.prog 58 unitElem w.heap.size k D ∧ PendIs D (o.n / 8) s.P) ∧ Hid (Below w.heap.size w w') := by
  have h := hS.2.2.2
  obtain ⟨k, D, hk, hown, hp⟩ := h.out.pend
  refine (mapsClone_m o.m k D w hown).mono ?_
  rintro e w' ⟨he, ho, hb⟩
  exact ⟨he, hidp ⟨k, D, hk, ho, hp⟩, hidp hb⟩

theorem Copy_m (o : Geo) (lim : Nat) (s : Mst) (w : World) (h : IsMem w o lim s) :
    Calls Try.prog 25 #[.pointer (some ⟨o.b, 0, none⟩)] w fun e w' =>
      ∃ o' : Geo, o'.n = o.n ∧ e = .returned (.pointer (some ⟨o'.b, 0, none⟩)) ∧ IsMem w' o' lim s ∧ w.heap.size ≤ o'.b ∧ w.heap.size ≤ o'.g ∧ w.heap.size ≤ o'.h ∧ w.heap.size ≤ o'.m ∧ Below w.heap.size w w' := by
  have HH := hidp h
  have h8 := h.n8
  have c0 := h.cells.1
  have c1 := h.cells.2.1
  have c2 := h.cells.2.2
  clear h
  go_enter Try.func25, Try.ntmps25
  go_wp2_with fail
  refine (has_c o lim s _ _ HH.out).mono ?_
  rintro e w1 ⟨rfl, rfl⟩
  rw [show hasW o.n 0 = true from decide_eq_true ⟨by omega, by omega⟩]
  go_wp2_with fail
  go_region_held3 (fun w' => w'.cell? ⟨o.b, 0, none⟩ = some (.slice (some ⟨o.g, 0, none⟩) o.n o.cg) ∧ w'.cell? ⟨o.b, 1, none⟩ = some (.slice (some ⟨o.h, 0, none⟩) o.n o.ch) ∧ w'.cell? ⟨o.b, 2, none⟩ = some (.map (some o.m)) ∧ Hid (IsMem w' o lim s))
    (first | exact memStay (Bdrew (B0 _)) (memS HH.out) | exact hst (by assumption) | exact memStay (Bnew (B0 _) _) (by assumption))
    (first
      | (go_at_call 27; refine (Clone_pick o lim s _ _ (by first | exact .inl rfl | exact .inr rfl) _ (by assumption)).mono ?_; rintro e w2 ⟨g2, cap2, rfl, hg2, hr2, hb2⟩; have hst := @memStay _ _ o lim s hb2.out)
      | (go_at_call 40; refine (mapsClone_mem o lim s _ (by assumption)).mono ?_; rintro e w3 ⟨rfl, hm3, hb3⟩; have hst := @memStay _ _ o lim s hb3.out))
  rename_i w2a g2a cap2a hg2a hr2a hb2a hsta hstb hHeld
  clear hst hsta hstb hHeld
  rw [show pickF o s ⟨o.g, 0, none⟩ = s.W from if_pos rfl] at hr2a
  rw [show pickF o s ⟨o.h, 0, none⟩ = s.K from if_neg (fun e => HH.out.gh (by injection e with e; exact e.symm))] at hr2
  go_wp2
  go_ret
  have hl1 := hr2a.out.lt
  have hl2 := hr2.out.lt
  have hs0 := hb2a.out.size
  have hs1 := hb2.out.size
  have hs2 := hb3.out.size
  simp at hg2a hs0
  obtain ⟨k, D, hk, hown, hp⟩ := hm3.out
  have hlm := hown.lt
  have hbn := Bnew (B0 w3) (.cells #[.slice (some ⟨g2a, 0, none⟩) o.n cap2a, .slice (some ⟨g2, 0, none⟩) o.n cap2, .map (some w2.heap.size)] 54)
  refine ⟨⟨w3.heap.size, g2a, g2, w2.heap.size, o.n, cap2a, cap2⟩, rfl, rfl, ?_, by simp; omega, hg2a, by simp; omega, by simp; omega, Bgo (Bgo (Bgo (Bgo (Bdrew (B0 _)) hb2a.out) hb2.out) hb3.out) hbn⟩
  exact { head := Held.new _ _ _
          words := ((hr2a.out.keep hb2.out).keep hb3.out).keep hbn
          kept := (hr2.out.keep hb3.out).keep hbn
          pend := ⟨k, D, hk, hown.alloc _, hp⟩
          n8 := HH.out.n8
          nmax := HH.out.nmax
          nmod := HH.out.nmod
          bg := by simp; omega
          bh := by simp; omega
          gh := by simp; omega
          w64 := HH.out.w64
          k64 := HH.out.k64 }
end Go.Proofs.Ytobeapibiebpaaa
