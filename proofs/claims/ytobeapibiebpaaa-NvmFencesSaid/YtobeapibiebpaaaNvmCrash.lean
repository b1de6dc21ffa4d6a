/-
  Memories (nvm.Mem): Crash, Copy.
-/
import Derived.Test.YtobeapibiebpaaaNvmMake
namespace Go.Proofs.Ytobeapibiebpaaa
open Go.ChangeShapes Go.WideShapes Go.ChangeAt Go.RowKit Go.Maps
set_option linter.unusedVariables false
set_option linter.unusedSimpArgs false

theorem add_at (g j : Nat) : (⟨g, 0, none⟩ : Addr).add j = ⟨g, j, none⟩ := by
  unfold Addr.add
  by_cases hz : j = 0
  · rw [if_pos hz, hz]
  · rw [if_neg hz]; simp
theorem step_copy_rows {P : Program} {ops : Array Oper} {o : Oper} {a : Act} {w : World} {K : Act → World → Prop} {Q : Exit → Act → World → Prop} {E : Prop} (hgd : o.guard = none) (d s : Operand) (dT sT : TypeId)
    (ho : o.op = .call { callee := .builtin .copy, args := #[d, s], argTypes := #[dT, sT] }) (elem : TypeId) (hu : P.underlying dT = some (.slice elem)) (hsz : (P.info? elem).map (·.size) = some 1)
    (g h n cg ch : Nat) (hd : a.eval d = .slice (some ⟨g, 0, none⟩) n cg) (hs : a.eval s = .slice (some ⟨h, 0, none⟩) n ch) (f f' : Nat → Nat) (t : TypeId) (hg : RowF w g t n cg (wordF f)) (hh : RowF w h t n ch (wordF f'))
    (hK : ∀ w', RowF w' g t n cg (wordF f') → Turns (fun i => i = g) w w' → K (a.put o.dst (goInt n)) w') :
    if Region.wanted o (yielded ops a.tmps) = true then Oper.wp P o a w K Q else E := by
  have hw : Region.wanted o (yielded ops a.tmps) = true := by simp [Region.wanted, hgd]
  rw [if_pos hw]
  obtain ⟨cs, h1, h2, h3, h4, h5⟩ := hg
  have hl : ((List.range n).map (wordF f')).length = n := by simp
  have hrun := run_copy_row (P := P) w dT sT o.type elem g 0 n cg ⟨h, 0, none⟩ n ch cs t ((List.range n).map (wordF f')) hu hsz h1 (by rw [hl]; exact (Nat.min_self n).symm)
    (fun j v hv => by
      have hj : j < n := by
        rcases Nat.lt_or_ge j n with h6 | h6
        · exact h6
        · rw [List.getElem?_eq_none (by simp; omega)] at hv; cases hv
      rw [List.getElem?_map, List.getElem?_range hj] at hv
      rw [add_at, hh.cell hj]
      exact hv) (by rw [hl]; omega) (fun v hv => by obtain ⟨j, _, rfl⟩ := List.mem_map.1 hv; rfl)
  rw [hl] at hrun
  unfold Oper.wp
  simp only [execOp, ho, resolve, invoke, builtin, hd, hs]
  simp [hd, hs, hrun, Result.andThen]
  refine hK _ ⟨_, setRow_heap w g _ _ t _ h1, ?_, h3, h4, ?_⟩ ?_
  · simp; omega
  · intro i hi
    simp [hi, List.getElem?_append]
  · exact ⟨rfl, rfl, rfl, by simp [World.setRow], fun i hi hf => setRow_other w g i _ (by omega)⟩

theorem Crash_m (o : Geo) (lim : Nat) (s : Mst) (w : World) (h : IsMem w o lim s) :
    Calls Try.prog 24 #[.pointer (some ⟨o.b, 0, none⟩)] w fun e w' => e = .returned (.tuple #[]) ∧ IsMem w' o lim (newS s.K) ∧ Turns o.F w w' := by
  have c0 := h.cells.1
  have c1 := h.cells.2.1
  have c2 := h.cells.2.2
  have HH := hidp h
  obtain ⟨k, D, hk, hown, hp⟩ := h.pend
  have HO := hidp hown
  clear h hown hp
  go_enter Try.func24, Try.ntmps24
  go_wp2
  go_region_law (refine step_copy_rows rfl (.tmp 7) (.tmp 11) 22 22 rfl 30 Try.underlying22 (by kernel_rfl) o.g o.h o.n o.cg o.ch (by simp [Act.eval, Act.put]) (by simp [Act.eval, Act.put]) s.W s.K 30 HH.out.words HH.out.kept ?_; intro w1 hr1 ht1)
  all_goals (
    have ht2 : Turns (fun i => i = o.g) w w1 := (T0 _ w).drew.trans ht1
    have d2 : w1.cell? ⟨o.b, 2, none⟩ = some (.map (some o.m)) := (ht2.held HH.out.head HH.out.bg).three.2.2
    have HO1 := hidp (owns_turns HO.out ht2 HH.out.gm.symm)
    have HR := hidp hr1
    have HT := hidp ht2
    clear hr1 ht1 ht2 c0 c1 c2
    go_wp2_with (first
      | (refine wpList_clear_own _ rfl (.tmp 16) 52 rfl 58 61 Try.underlying52 _ o.m k D rfl HO1.out ?_; intro w2 hown2 hturn2)
      | go_in)
    go_end0
    have hm := hturn2.grown
    have ht3 : Turns (fun i => i = o.m) w1 w2 := Turns.of_grown hm rfl
    exact ⟨rfl, { HH.out with
      head := ht3.held (HT.out.held HH.out.head HH.out.bg) HH.out.bm
      words := HR.out.turns ht3 HH.out.gm
      kept := (HH.out.kept.turns HT.out HH.out.gh.symm).turns ht3 HH.out.hm
      pend := ⟨0, _, Nat.zero_le _, hown2, PendIs.none _⟩
      w64 := HH.out.k64 }, (HT.out.more (fun i hi => .inl hi)).trans (ht3.more (fun i hi => .inr (.inr hi)))⟩)

theorem mapsClone_m (b n : Nat) (D : DataW Unit) (w : World) (hown : w.ownsMap Try.prog 58 unitElem b n D) :
    Calls Try.prog 40 #[.map (some b)] w fun e w' => e = .returned (.map (some w.heap.size)) ∧ w'.ownsMap Try.prog 58 unitElem w.heap.size n D ∧ Below w.heap.size w w' := by
  obtain ⟨es, clock, hb, F, hs, hD⟩ := hown
  have hq := fun w => run_eql_map_nil_sl (P := Try.prog) w 52 _ _ (some b) Try.underlying52
  have hB : Below w.heap.size w (w.alloc (.map es clock)) := Bnew (B0 _) _
  have HO : Hid ((w.alloc (.map es clock)).ownsMap Try.prog 58 unitElem w.heap.size n D) := hidp ⟨es, clock, (MapKept.heap_alloc w _).1, F, hs, hD⟩
  have HB := hidp hB
  have HBB := hidp hb
  clear F hs hD hB hb
  go_enter Try.func40, Try.ntmps40
  go_wp2
  rw [run_callFunc_extern Try.func45 (by kernel_rfl) (by kernel_rfl) (by kernel_rfl) (e := Extern.MapsClone.clone) (by kernel_rfl), run_maps_clone_sl w _ HBB.out]
  simp only [Result.andThen]
  rw [Oper.upon_value]
  go_wp2
  rw [run_typeAssert_map_sl _ _ _ _ _ _ Try.underlying52]
  simp only [Result.andThen]
  rw [Oper.upon_value]
  go_wp2
  go_ret
  exact ⟨rfl, HO.out, HB.out⟩
end Go.Proofs.Ytobeapibiebpaaa
