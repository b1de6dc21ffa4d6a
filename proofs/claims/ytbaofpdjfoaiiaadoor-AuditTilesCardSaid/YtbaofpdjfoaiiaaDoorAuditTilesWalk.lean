/-
  The law AuditTiles, from its arguments. Written by audit/gen_tiles.py.
-/
import Derived.Test.YtbaofpdjfoaiiaaDoorAuditTiles
import Derived.Test.YtbaofpdjfoaiiaaDoorAuditOpen
namespace Go.Proofs.YtbaofpdjfoaiiaaDoor
open Go.ChangeShapes Go.WideShapes Go.ChangeAt Go.RowKit Go.Shelf
set_option linter.unusedVariables false
set_option linter.unusedSimpArgs false

set_option maxRecDepth 100000 in
theorem AuditTiles_walk {H : Type} {enc : TypeId × Value → H} {W : World} {base : Nat} {args : Array Value} {ds : List (DataW H)} {ps : List MemPlace} (hL : laidMetH Tryd.prog Rows.auditTilesRow.laid W)
    (g : Given enc Tryd.prog Tryd.f3 W base args ds ps) : Calls Tryd.prog 3 args W (Keeps W) := by
  have hval := g.ok
  have hA := g.trod
  have hlt := g.lt
  rw [Tryd.params3] at hA hval
  obtain ⟨v0, vs0, d0, ds0, p0, q0, hargs, rfl, rfl, h0, r0⟩ := trodAll_cons hA
  obtain ⟨v1, vs1, d1, ds1, p1, q1, rfl, rfl, rfl, h1, r1⟩ := trodAll_cons r0
  obtain ⟨rfl, rfl, rfl⟩ := trodAll_nil r1
  obtain rfl : args = #[v0, v1] := by cases args; simp_all
  obtain ⟨t, q, s, rfl⟩ := open_conf (hval 0 23 v0 rfl rfl) h0
  have hlt1 : ∀ x ∈ p1, x.block < W.heap.size := fun x hx => hlt x (by simp [hx])
  obtain ⟨A, c, vals, rfl, hnc, hcm, h32, hR⟩ := open_u32s Tryd.underlying24 Tryd.underlying39 (by kernel_rfl) (hval 1 24 v1 rfl rfl) h1 hlt1
  have hT := slots12_laid hL (by kernel_rfl)
  rcases Int.lt_or_le 64 q with hq | hq
  · exact AuditTiles_few t q s A vals.length c hq W hT
  · rcases heap_or W t q s A c vals hnc hcm h32 hR hT with ⟨m, hC⟩ | ⟨H, ad, m, b, ht, hp, hs, rfl, HV, hv, hto, hC⟩
    · exact AuditTiles_no t q s A vals.length c m hq W hT hC
    · subst ht hp hs
      cases b
      · exact AuditTiles_no _ _ _ _ _ _ m hq W hT hC
      · exact AuditTiles_yes HV (told_tiled hto) ad m hq W hv hT hC
end Go.Proofs.YtbaofpdjfoaiiaaDoor