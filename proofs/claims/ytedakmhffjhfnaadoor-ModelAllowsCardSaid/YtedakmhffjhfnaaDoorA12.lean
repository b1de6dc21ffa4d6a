/-
  The program's automaton: State. Written by model/gen_state.py.
-/
import Derived.Test.YtedakmhffjhfnaaDoorA11
import Derived.RegionTactic
import Derived.Test.YtedakmhffjhfnaaDoorA05
import Derived.Test.YtedakmhffjhfnaaDoorA06
import Derived.Test.YtedakmhffjhfnaaDoorA01
import Derived.Lib.SmallJoins
import Derived.OpenShut
import Derived.Deep.Slices
import Derived.Test.YtedakmhffjhfnaaDoorAKit
import Derived.Below
import Derived.WalkKit
import Derived.ProofKit
import Derived.BigQuiet
import Derived.Outline
import Derived.Deep.QuietTactic
import Derived.Deep.RegionHeld3
import Derived.IntWalk
import Derived.KernelRfl
import Derived.Laws.BitsAllLaws
import Derived.Laws.CopyOwn
import Derived.Laws.MakeOwn
import Derived.Deep.RegionLaw
import Derived.Deep.RegionWith
import Derived.Deep.CutRange
namespace Go.Proofs.YtedakmhffjhfnaaDoor
open Go.ChangeShapes Go.WideShapes Go.ChangeAt Go.RowKit Go.Maps
set_option linter.unusedVariables false
set_option linter.unusedSimpArgs false
set_option maxRecDepth 100000
section
def setS9 (w : World) (b : Nat) (A : Option Addr) (n c : Nat) (R : Nat -> Int) : World := (((((((((w.setCell ⟨b, 0, none⟩ (.slice A n c)).setCell ⟨b, 1, none⟩ (.int .i64 (R 0))).setCell ⟨b, 2, none⟩ (.int .i64 (R 1))).setCell ⟨b, 3, none⟩ (.int .i64 (R 2))).setCell ⟨b, 4, none⟩ (.int .i64 (R 3))).setCell ⟨b, 5, none⟩ (.int .i64 (R 4))).setCell ⟨b, 6, none⟩ (.int .i64 (R 5))).setCell ⟨b, 7, none⟩ (.int .i64 (R 6))).setCell ⟨b, 8, none⟩ (.int .i64 (R 7)))
theorem st_put {w : World} {b : Nat} {T : TypeId} {A : Option Addr} {n c : Nat} {R : Nat -> Int} (h : Held w b T #[.slice none 0 0, .int .i64 0, .int .i64 0, .int .i64 0, .int .i64 0, .int .i64 0, .int .i64 0, .int .i64 0, .int .i64 0]) : Held (setS9 w b A n c R) b T (stV A n c R) := by
 have h0 : Held (w.setCell ⟨b, 0, none⟩ (.slice A n c)) b T #[.slice A n c, .int .i64 0, .int .i64 0, .int .i64 0, .int .i64 0, .int .i64 0, .int .i64 0, .int .i64 0, .int .i64 0] := h.put 0 (.slice A n c)
 have h1 : Held ((w.setCell ⟨b, 0, none⟩ (.slice A n c)).setCell ⟨b, 1, none⟩ (.int .i64 (R 0))) b T #[.slice A n c, .int .i64 (R 0), .int .i64 0, .int .i64 0, .int .i64 0, .int .i64 0, .int .i64 0, .int .i64 0, .int .i64 0] := h0.put 1 (.int .i64 (R 0))
 have h2 : Held (((w.setCell ⟨b, 0, none⟩ (.slice A n c)).setCell ⟨b, 1, none⟩ (.int .i64 (R 0))).setCell ⟨b, 2, none⟩ (.int .i64 (R 1))) b T #[.slice A n c, .int .i64 (R 0), .int .i64 (R 1), .int .i64 0, .int .i64 0, .int .i64 0, .int .i64 0, .int .i64 0, .int .i64 0] := h1.put 2 (.int .i64 (R 1))
 have h3 : Held ((((w.setCell ⟨b, 0, none⟩ (.slice A n c)).setCell ⟨b, 1, none⟩ (.int .i64 (R 0))).setCell ⟨b, 2, none⟩ (.int .i64 (R 1))).setCell ⟨b, 3, none⟩ (.int .i64 (R 2))) b T #[.slice A n c, .int .i64 (R 0), .int .i64 (R 1), .int .i64 (R 2), .int .i64 0, .int .i64 0, .int .i64 0, .int .i64 0, .int .i64 0] := h2.put 3 (.int .i64 (R 2))
 have h4 : Held (((((w.setCell ⟨b, 0, none⟩ (.slice A n c)).setCell ⟨b, 1, none⟩ (.int .i64 (R 0))).setCell ⟨b, 2, none⟩ (.int .i64 (R 1))).setCell ⟨b, 3, none⟩ (.int .i64 (R 2))).setCell ⟨b, 4, none⟩ (.int .i64 (R 3))) b T #[.slice A n c, .int .i64 (R 0), .int .i64 (R 1), .int .i64 (R 2), .int .i64 (R 3), .int .i64 0, .int .i64 0, .int .i64 0, .int .i64 0] := h3.put 4 (.int .i64 (R 3))
 have h5 : Held ((((((w.setCell ⟨b, 0, none⟩ (.slice A n c)).setCell ⟨b, 1, none⟩ (.int .i64 (R 0))).setCell ⟨b, 2, none⟩ (.int .i64 (R 1))).setCell ⟨b, 3, none⟩ (.int .i64 (R 2))).setCell ⟨b, 4, none⟩ (.int .i64 (R 3))).setCell ⟨b, 5, none⟩ (.int .i64 (R 4))) b T #[.slice A n c, .int .i64 (R 0), .int .i64 (R 1), .int .i64 (R 2), .int .i64 (R 3), .int .i64 (R 4), .int .i64 0, .int .i64 0, .int .i64 0] := h4.put 5 (.int .i64 (R 4))
 have h6 : Held (((((((w.setCell ⟨b, 0, none⟩ (.slice A n c)).setCell ⟨b, 1, none⟩ (.int .i64 (R 0))).setCell ⟨b, 2, none⟩ (.int .i64 (R 1))).setCell ⟨b, 3, none⟩ (.int .i64 (R 2))).setCell ⟨b, 4, none⟩ (.int .i64 (R 3))).setCell ⟨b, 5, none⟩ (.int .i64 (R 4))).setCell ⟨b, 6, none⟩ (.int .i64 (R 5))) b T #[.slice A n c, .int .i64 (R 0), .int .i64 (R 1), .int .i64 (R 2), .int .i64 (R 3), .int .i64 (R 4), .int .i64 (R 5), .int .i64 0, .int .i64 0] := h5.put 6 (.int .i64 (R 5))
 have h7 : Held ((((((((w.setCell ⟨b, 0, none⟩ (.slice A n c)).setCell ⟨b, 1, none⟩ (.int .i64 (R 0))).setCell ⟨b, 2, none⟩ (.int .i64 (R 1))).setCell ⟨b, 3, none⟩ (.int .i64 (R 2))).setCell ⟨b, 4, none⟩ (.int .i64 (R 3))).setCell ⟨b, 5, none⟩ (.int .i64 (R 4))).setCell ⟨b, 6, none⟩ (.int .i64 (R 5))).setCell ⟨b, 7, none⟩ (.int .i64 (R 6))) b T #[.slice A n c, .int .i64 (R 0), .int .i64 (R 1), .int .i64 (R 2), .int .i64 (R 3), .int .i64 (R 4), .int .i64 (R 5), .int .i64 (R 6), .int .i64 0] := h6.put 7 (.int .i64 (R 6))
 have h8 : Held (((((((((w.setCell ⟨b, 0, none⟩ (.slice A n c)).setCell ⟨b, 1, none⟩ (.int .i64 (R 0))).setCell ⟨b, 2, none⟩ (.int .i64 (R 1))).setCell ⟨b, 3, none⟩ (.int .i64 (R 2))).setCell ⟨b, 4, none⟩ (.int .i64 (R 3))).setCell ⟨b, 5, none⟩ (.int .i64 (R 4))).setCell ⟨b, 6, none⟩ (.int .i64 (R 5))).setCell ⟨b, 7, none⟩ (.int .i64 (R 6))).setCell ⟨b, 8, none⟩ (.int .i64 (R 7))) b T #[.slice A n c, .int .i64 (R 0), .int .i64 (R 1), .int .i64 (R 2), .int .i64 (R 3), .int .i64 (R 4), .int .i64 (R 5), .int .i64 (R 6), .int .i64 (R 7)] := h7.put 8 (.int .i64 (R 7))
 exact h8
theorem setS9_below {w w0 : World} {b : Nat} {A : Option Addr} {n c : Nat} {R : Nat -> Int} (h : Below w0.heap.size w0 w) (hb : w0.heap.size <= b) : Below w0.heap.size w0 (setS9 w b A n c R) := by
 have b0 := h.setCell (p := ⟨b, 0, none⟩) hb (.slice A n c)
 have b1 := b0.setCell (p := ⟨b, 1, none⟩) hb (.int .i64 (R 0))
 have b2 := b1.setCell (p := ⟨b, 2, none⟩) hb (.int .i64 (R 1))
 have b3 := b2.setCell (p := ⟨b, 3, none⟩) hb (.int .i64 (R 2))
 have b4 := b3.setCell (p := ⟨b, 4, none⟩) hb (.int .i64 (R 3))
 have b5 := b4.setCell (p := ⟨b, 5, none⟩) hb (.int .i64 (R 4))
 have b6 := b5.setCell (p := ⟨b, 6, none⟩) hb (.int .i64 (R 5))
 have b7 := b6.setCell (p := ⟨b, 7, none⟩) hb (.int .i64 (R 6))
 have b8 := b7.setCell (p := ⟨b, 8, none⟩) hb (.int .i64 (R 7))
 exact b8
theorem setS9_turns {w : World} {b : Nat} {A : Option Addr} {n c : Nat} {R : Nat -> Int} : Turns (fun i => i = b) w (setS9 w b A n c R) := by
 have h := T0 (fun i => i = b) w
 have b0 := h.put (p := ⟨b, 0, none⟩) rfl (.slice A n c)
 have b1 := b0.put (p := ⟨b, 1, none⟩) rfl (.int .i64 (R 0))
 have b2 := b1.put (p := ⟨b, 2, none⟩) rfl (.int .i64 (R 1))
 have b3 := b2.put (p := ⟨b, 3, none⟩) rfl (.int .i64 (R 2))
 have b4 := b3.put (p := ⟨b, 4, none⟩) rfl (.int .i64 (R 3))
 have b5 := b4.put (p := ⟨b, 5, none⟩) rfl (.int .i64 (R 4))
 have b6 := b5.put (p := ⟨b, 6, none⟩) rfl (.int .i64 (R 5))
 have b7 := b6.put (p := ⟨b, 7, none⟩) rfl (.int .i64 (R 6))
 have b8 := b7.put (p := ⟨b, 8, none⟩) rfl (.int .i64 (R 7))
 exact b8
theorem mdState_nil (w : World) : Calls Tryd.prog 12 #[.pointer none] w fun e w' => e = .returned (.agg #[.slice none 0 0, .int .i64 0, .int .i64 0, .int .i64 0, .int .i64 0, .int .i64 0, .int .i64 0, .int .i64 0, .int .i64 0]) /\ Below w.heap.size w w' := by
 have HR := hidp (Held.new w 27 #[.slice none 0 0, .int .i64 0, .int .i64 0, .int .i64 0, .int .i64 0, .int .i64 0, .int .i64 0, .int .i64 0, .int .i64 0])
 have HB := hidp (Bnew (B0 w) (.cells #[.slice none 0 0, .int .i64 0, .int .i64 0, .int .i64 0, .int .i64 0, .int .i64 0, .int .i64 0, .int .i64 0, .int .i64 0] 27))
 go_enter Tryd.func12, Tryd.ntmps12
 go_wp2_with fail
 refine (mdMade_nil _).mono ?_; rintro e w1 ⟨rfl, hb⟩
 replace HR := hidp (HR.out.keep hb)
 replace HB := hidp (Bgo HB.out hb)
 clear hb
 have r0 : w1.cell? ⟨w.heap.size, 0, none⟩ = some (.slice none 0 0) := HR.out.cell 0
 have fr0 := HR.out.thawed 0
 have r1 : w1.cell? ⟨w.heap.size, 1, none⟩ = some (.int .i64 0) := HR.out.cell 1
 have fr1 := HR.out.thawed 1
 have r2 : w1.cell? ⟨w.heap.size, 2, none⟩ = some (.int .i64 0) := HR.out.cell 2
 have fr2 := HR.out.thawed 2
 have r3 : w1.cell? ⟨w.heap.size, 3, none⟩ = some (.int .i64 0) := HR.out.cell 3
 have fr3 := HR.out.thawed 3
 have r4 : w1.cell? ⟨w.heap.size, 4, none⟩ = some (.int .i64 0) := HR.out.cell 4
 have fr4 := HR.out.thawed 4
 have r5 : w1.cell? ⟨w.heap.size, 5, none⟩ = some (.int .i64 0) := HR.out.cell 5
 have fr5 := HR.out.thawed 5
 have r6 : w1.cell? ⟨w.heap.size, 6, none⟩ = some (.int .i64 0) := HR.out.cell 6
 have fr6 := HR.out.thawed 6
 have r7 : w1.cell? ⟨w.heap.size, 7, none⟩ = some (.int .i64 0) := HR.out.cell 7
 have fr7 := HR.out.thawed 7
 have r8 : w1.cell? ⟨w.heap.size, 8, none⟩ = some (.int .i64 0) := HR.out.cell 8
 have fr8 := HR.out.thawed 8
 have HEND := hidp (st_put (A := none) (n := 0) (c := 0) (R := fun _ => 0) HR.out)
 have HEB := hidp (setS9_below (A := none) (n := 0) (c := 0) (R := fun _ => 0) HB.out (b := w.heap.size) (Nat.le_refl _))
 go_wp2_with fail
 have HEND1 : Held _ w.heap.size 27 (stV none 0 0 (fun _ => 0)) := HEND.out
 obtain ⟨z0, z1, z2, z3, z4, z5, z6, z7, z8⟩ := st_cells HEND1
 unfold setS9 at z0 z1 z2 z3 z4 z5 z6 z7 z8
 refine bodyPost_ret (v := .agg #[.slice none 0 0, .int .i64 0, .int .i64 0, .int .i64 0, .int .i64 0, .int .i64 0, .int .i64 0, .int .i64 0, .int .i64 0]) (by simp [results, Tryd.results12, go_sem, z0, z1, z2, z3, z4, z5, z6, z7, z8]) rfl ⟨rfl, HEB.out⟩
theorem own_slice26 {w : World} {base n sz : Nat} {e : TypeId} {v : Value} {xs : List Value} (h : w.ownsRow base e sz v n xs) : ∃ A c, v = .slice A n c := by
 rcases h.2 with ⟨e1, e2⟩ | ⟨g', cap, cur, e1, _⟩
 ·exact ⟨none, 0, by rw [e1, e2]⟩
 ·exact ⟨_, _, e1⟩
set_option maxHeartbeats 3200000 in
theorem mdState_c {w : World} {g : Nat} {F : Nat -> Prop} {t p s : Int} {L : List (Int × Int)} {R : Nat -> Int} (h : IsMod w g F t p s L R) (hn : L.length <= 90000) :
  Calls Tryd.prog 12 #[.pointer (some ⟨g, 0, none⟩)] w fun e w' => ∃ (A : Option Addr) (c : Nat), e = .returned (.agg #[.slice A L.length c, .int .i64 (R 0), .int .i64 (R 1), .int .i64 (R 2), .int .i64 (R 3), .int .i64 (R 4), .int .i64 (R 5), .int .i64 (R 6), .int .i64 (R 7)]) /\ w'.ownsRow w.heap.size 55 2 (.slice A L.length c) L.length (bkVs L) /\ Below w.heap.size w w' := by
 have HR := hidp (Held.new w 27 #[.slice none 0 0, .int .i64 0, .int .i64 0, .int .i64 0, .int .i64 0, .int .i64 0, .int .i64 0, .int .i64 0, .int .i64 0])
 have HB := hidp (Bnew (B0 w) (.cells #[.slice none 0 0, .int .i64 0, .int .i64 0, .int .i64 0, .int .i64 0, .int .i64 0, .int .i64 0, .int .i64 0, .int .i64 0] 27))
 have HM := hidp (h.stay HB.out)
 have HN := hidp hn
 have HGL := hidp (h.lt g h.fg)
 obtain ⟨m, D, hm, hG, hO, hD⟩ := h.ex
 have HD := hidp hD
 have HG := hidp (hG.keep HB.out)
 have HO := hidp (owns_turns hO (Turns.of_below HB.out (fun _ => False)) (fun x => x))
 clear h hn hG hO hD hm
 go_enter Tryd.func12, Tryd.ntmps12
 go_wp2_with fail
 refine (mdMade_c HG.out).mono ?_; rintro e w1 ⟨rfl, hb⟩
 replace HM := hidp (HM.out.stay hb)
 replace HG := hidp (HG.out.keep hb)
 replace HR := hidp (HR.out.keep hb)
 replace HO := hidp (owns_turns HO.out (Turns.of_below hb (fun _ => False)) (fun x => x))
 replace HB := hidp (Bgo HB.out hb)
 clear hb
 have HR2 : Hid (w.heap.size + 1 <= w1.heap.size) := hidp HR.out.lt
 go_wp2_with fail
 replace HM := hidp (HM.out.stay (Bdrew (B0 _)))
 replace HG := hidp (HG.out.keep (Bdrew (B0 _)))
 replace HR := hidp (HR.out.keep (Bdrew (B0 _)))
 replace HO := hidp (owns_turns HO.out (Turns.of_below (Bdrew (B0 _)) (fun _ => False)) (fun x => x))
 replace HB := hidp (Bgo HB.out (Bdrew (B0 _)))
 refine wp_region_held_drew (S := (fun w' => (w'.cell? ⟨g, 3, none⟩ = some (.map (some m))) /\ (w'.cell? ⟨g, 4, none⟩ = some (.int .i64 (R 0)) /\ w'.cell? ⟨g, 5, none⟩ = some (.int .i64 (R 1)) /\ w'.cell? ⟨g, 6, none⟩ = some (.int .i64 (R 2)) /\ w'.cell? ⟨g, 7, none⟩ = some (.int .i64 (R 3)) /\ w'.cell? ⟨g, 8, none⟩ = some (.int .i64 (R 4)) /\ w'.cell? ⟨g, 9, none⟩ = some (.int .i64 (R 5)) /\ w'.cell? ⟨g, 10, none⟩ = some (.int .i64 (R 6)) /\ w'.cell? ⟨g, 11, none⟩ = some (.int .i64 (R 7))))) (by kernel_rfl) ?_ (fun hHeld => ?_)
 ·(try dsimp only)
  first | exact ⟨HG.out.cell 3, HG.out.cell 4, HG.out.cell 5, HG.out.cell 6, HG.out.cell 7, HG.out.cell 8, HG.out.cell 9, HG.out.cell 10, HG.out.cell 11⟩ | exact hHeld
 refine tkz 0 ?_
 refine tkz 1 ?_
 refine tkz 2 ?_
 refine tkz 3 ?_
 refine tkz 6 ?_
 refine tkz 7 ?_
 refine tkz 8 ?_
 refine tkz 9 ?_
 refine rdz 4 fun K hK => ?_
 go_simp
 (refine (keys_c m _).mono ?_; rintro e w2 ⟨rfl, hw2⟩; have hbx : Held w2 w1.heap.size 60 #[.map (some m)] := (by rw [hw2]; exact Held.new w1.drew _ _); have hb2 : Below w1.drew.heap.size w1.drew w2 := (by rw [hw2]; exact Bnew (B0 _) (.cells #[.map (some m)] 60)); clear hw2; replace HM := hidp (HM.out.stay hb2); replace HG := hidp (HG.out.keep hb2); replace HR := hidp (HR.out.keep hb2); replace HO := hidp (owns_turns HO.out (Turns.of_below hb2 (fun _ => False)) (fun x => x)); replace HB := hidp (Bgo HB.out hb2); have HKA : Hid (KeysAt m w1.heap.size L.length D w2.heap[m]? w2) := hidp ⟨hbx.lt, hbx.cell 0, HO.out, rfl⟩; clear hbx hb2)
 refine hK.out _ _ ?_ (fun hHeld => ?_)
 ·(try dsimp only)
  first | exact ⟨HG.out.cell 3, HG.out.cell 4, HG.out.cell 5, HG.out.cell 6, HG.out.cell 7, HG.out.cell 8, HG.out.cell 9, HG.out.cell 10, HG.out.cell 11⟩ | exact hHeld
 clear hK K
 (try simp only [Act.put, gA, gB, gC, sA, sB, sC])
 refine rdz 5 fun K hK => ?_
 go_simp
 (refine (sortedFunc_c _ (keys_seq m w1.heap.size L.length D w2.heap[m]? L HD.out HM.out.nodup) (enters_of Tryd.func68 (by kernel_rfl) rfl) (by have := HN.out; omega) (fun xs hx => Nat.le_of_eq hx.length_eq) (fun A1 hb => HKA.out.keep hb) (fun A1 B1 h1 h2 => h1.keep h2)).mono ?_; rintro e w3 ⟨v, xs, ys, rfl, hpx, hp, hs, ho, hb3⟩; obtain rfl : L = ys := sort_one (hpx.symm.trans hp.symm) (chain_iff.2 ⟨HM.out.asc, HM.out.ins⟩) hs; obtain ⟨A, c, rfl⟩ : ∃ A c, v = .slice A L.length c := own_slice26 ho; have HW := hidp ho; have HSZ : Hid (w.heap.size + 1 <= w2.heap.size) := hidp HR.out.lt; replace HM := hidp (HM.out.stay hb3); replace HG := hidp (HG.out.keep hb3); replace HR := hidp (HR.out.keep hb3); replace HO := hidp (owns_turns HO.out (Turns.of_below hb3 (fun _ => False)) (fun x => x)); replace HB := hidp (Bgo HB.out hb3); clear hpx hp hs ho hb3; have r0 : w3.cell? ⟨w.heap.size, 0, none⟩ = some (.slice none 0 0) := HR.out.cell 0; have fr0 := HR.out.thawed 0; have r1 : w3.cell? ⟨w.heap.size, 1, none⟩ = some (.int .i64 0) := HR.out.cell 1; have fr1 := HR.out.thawed 1; have r2 : w3.cell? ⟨w.heap.size, 2, none⟩ = some (.int .i64 0) := HR.out.cell 2; have fr2 := HR.out.thawed 2; have r3 : w3.cell? ⟨w.heap.size, 3, none⟩ = some (.int .i64 0) := HR.out.cell 3; have fr3 := HR.out.thawed 3; have r4 : w3.cell? ⟨w.heap.size, 4, none⟩ = some (.int .i64 0) := HR.out.cell 4; have fr4 := HR.out.thawed 4; have r5 : w3.cell? ⟨w.heap.size, 5, none⟩ = some (.int .i64 0) := HR.out.cell 5; have fr5 := HR.out.thawed 5; have r6 : w3.cell? ⟨w.heap.size, 6, none⟩ = some (.int .i64 0) := HR.out.cell 6; have fr6 := HR.out.thawed 6; have r7 : w3.cell? ⟨w.heap.size, 7, none⟩ = some (.int .i64 0) := HR.out.cell 7; have fr7 := HR.out.thawed 7; have r8 : w3.cell? ⟨w.heap.size, 8, none⟩ = some (.int .i64 0) := HR.out.cell 8; have fr8 := HR.out.thawed 8)
 refine hK.out _ _ ?_ (fun hHeld => ?_)
 ·(try dsimp only)
  first | exact ⟨HG.out.cell 3, HG.out.cell 4, HG.out.cell 5, HG.out.cell 6, HG.out.cell 7, HG.out.cell 8, HG.out.cell 9, HG.out.cell 10, HG.out.cell 11⟩ | exact hHeld
 clear hK K
 (try simp only [Act.put, gA, gB, gC, sA, sB, sC])
 refine tkz 10 ?_
 refine rdz 11 fun K hK => ?_
 go_simp
 (obtain ⟨WF, hWF⟩ : ∃ WF, setS9 w3 w.heap.size A L.length c R = WF := ⟨_, rfl⟩; have hT9 : Turns (fun i => i = w.heap.size) w3 WF := (by rw [<- hWF]; exact setS9_turns); have HE9 : Hid (Held WF w.heap.size 27 (stV A L.length c R)) := hidp (by rw [<- hWF]; exact st_put HR.out); have HB9 : Hid (Below w.heap.size w WF) := hidp (by rw [<- hWF]; exact setS9_below HB.out (Nat.le_refl _)); unfold setS9 at hWF; rw [hWF]; have HW9 : Hid (WF.ownsRow w.heap.size 55 2 (.slice A L.length c) L.length (bkVs L)) := hidp (own_kept (own_down HW.out (by have := HSZ.out; omega)) (fun g1 hg1 => hT9.block g1 (HW.out.lt g1 hg1).2 (fun e => by have := (HW.out.lt g1 hg1).1; have := HSZ.out; omega))); replace HG := hidp (hT9.held HG.out (by have := HGL.out; omega)); clear hT9 hWF HR)
 refine hK.out _ _ ?_ (fun hHeld => ?_)
 ·(try dsimp only)
  first | exact ⟨HG.out.cell 3, HG.out.cell 4, HG.out.cell 5, HG.out.cell 6, HG.out.cell 7, HG.out.cell 8, HG.out.cell 9, HG.out.cell 10, HG.out.cell 11⟩ | exact hHeld
 clear hK K
 (try simp only [Act.put, gA, gB, gC, sA, sB, sC])
 refine dnz ?_
 go_wp2_with fail
 obtain ⟨z0, z1, z2, z3, z4, z5, z6, z7, z8⟩ := st_cells HE9.out
 refine bodyPost_ret (v := .agg (stV A L.length c R)) (by simp [results, Tryd.results12, go_sem, z0, z1, z2, z3, z4, z5, z6, z7, z8]) rfl ⟨A, c, rfl, HW9.out, HB9.out⟩
end
section
theorem mdOf_no (t p s : Int) (R : Nat -> Int) (A : Option Addr) (n c : Nat) (l : List (Int × Int)) (hl : l.length = n) (hn : n <= 80000) (hcn : n <= c /\ c <= maxLen) (w : World) (hin : BkIn w A l) (hwf : ∀ x ∈ l, WfB x) (hX : ofM t p s l R = none) :
  Calls Tryd.prog 8 #[.agg #[.int .i64 t, .int .i64 p, .int .i64 s], .agg #[.slice A n c, .int .i64 (R 0), .int .i64 (R 1), .int .i64 (R 2), .int .i64 (R 3), .int .i64 (R 4), .int .i64 (R 5), .int .i64 (R 6), .int .i64 (R 7)]] w fun e w' => e = .returned (.pointer none) /\ Below w.heap.size w w' := by
 cases hr : rightB t p s with
 | false => exact of_nil t p s R A n c hr w
 | true =>
  obtain ⟨b1, b2⟩ := end_le hr
  refine (of_go t p s R A n c l hr hl hn hcn w hin hwf).mono ?_
  rintro e w' ⟨ys, hp, hs, hb, he⟩
  refine ⟨?_, hb⟩
  unfold ofM at hX
  rw [if_pos hr, of_sorted b2.1 hp hs] at hX
  split at he
  ·rename_i hc
   simp only [Bool.and_eq_true] at hc
   rw [if_pos hc.1] at hX
   dsimp only at hX
   rw [if_pos hc.2] at hX
   cases hX
  ·exact he
theorem mdOf_yes (t p s : Int) (R : Nat -> Int) (A : Option Addr) (n c : Nat) (l L : List (Int × Int)) (hl : l.length = n) (hn : n <= 80000) (hcn : n <= c /\ c <= maxLen) (w : World) (hin : BkIn w A l) (hwf : ∀ x ∈ l, WfB x) (hX : ofM t p s l R = some L) :
  Calls Tryd.prog 8 #[.agg #[.int .i64 t, .int .i64 p, .int .i64 s], .agg #[.slice A n c, .int .i64 (R 0), .int .i64 (R 1), .int .i64 (R 2), .int .i64 (R 3), .int .i64 (R 4), .int .i64 (R 5), .int .i64 (R 6), .int .i64 (R 7)]] w fun e w' => ∃ (g : Nat) (F : Nat -> Prop), e = .returned (.pointer (some ⟨g, 0, none⟩)) /\ (∀ i, F i -> w.heap.size <= i) /\ IsMod w' g F t p s L R /\ Below w.heap.size w w' := by
 cases hr : rightB t p s with
 | false => unfold ofM at hX; rw [if_neg (by rw [hr]; simp)] at hX; cases hX
 | true =>
  obtain ⟨b1, b2⟩ := end_le hr
  refine (of_go t p s R A n c l hr hl hn hcn w hin hwf).mono ?_
  rintro e w' ⟨ys, hp, hs, hb, he⟩
  unfold ofM at hX
  rw [if_pos hr, of_sorted b2.1 hp hs] at hX
  split at hX
  ·cases hX
  ·rename_i L0 h0
   split at h0
   ·rename_i hf
    injection h0 with h0
    subst h0
    split at hX
    ·rename_i hn2
     injection hX with hX
     subst hX
     rw [hf, hn2, Bool.and_self, if_pos rfl] at he
     obtain ⟨g, F, h1, h2, h3⟩ := he
     exact ⟨g, F, h1, h2, h3, hb⟩
    ·cases hX
   ·cases h0
end
end Go.Proofs.YtedakmhffjhfnaaDoor

namespace Go.Proofs.YtedakmhffjhfnaaDoor
open Go.ChangeShapes Go.WideShapes Go.ChangeAt Go.RowKit
set_option linter.unusedVariables false
set_option linter.unusedSimpArgs false
set_option maxRecDepth 100000
section
structure SaidV where
 k : Int
 a : Int
 b : Int
 err : Int
 out : Int
 aux : Int
instance : Inhabited SaidV := ⟨⟨0, 0, 0, 0, 0, 0⟩⟩
structure SaidV.Ok (x : SaidV) : Prop where
 k : (-9223372036854775808 <= x.k /\ x.k <= 9223372036854775807)
 a : (-9223372036854775808 <= x.a /\ x.a <= 9223372036854775807)
 b : (-9223372036854775808 <= x.b /\ x.b <= 9223372036854775807)
 err : (-9223372036854775808 <= x.err /\ x.err <= 9223372036854775807)
 out : (-9223372036854775808 <= x.out /\ x.out <= 9223372036854775807)
 aux : (-9223372036854775808 <= x.aux /\ x.aux <= 9223372036854775807)
def SaidV.cells (x : SaidV) : List Value := [.int .i64 x.k, .int .i64 x.a, .int .i64 x.b, .int .i64 x.err, .int .i64 x.out, .int .i64 x.aux]
section
variable {H : Type} {enc : TypeId × Value -> H} {w : World} {base : Nat} {sp : Nat -> Bool} {held : Bool}
theorem op26_cells {fuel : Nat} {cs : List Value} {x : DataW H × List MemPlace} (h : DataW.trod enc Tryd.prog w base sp held fuel 29 cs = some x) : ∃ a0 a1 a2 : Int, cs = [.int .i64 a0, .int .i64 a1, .int .i64 a2] /\ (-9223372036854775808 <= a0 /\ a0 <= 9223372036854775807) /\ (-9223372036854775808 <= a1 /\ a1 <= 9223372036854775807) /\ (-9223372036854775808 <= a2 /\ a2 <= 9223372036854775807) := by
 obtain ⟨xs, n, _, _, hl, hxl, hg⟩ := DataW.trod_struct Tryd.underlying29 h
 have hc : Tryd.prog.cellsOf 29 = 3 := by kernel_rfl
 have s0 : Tryd.prog.cellsOf 3 = 1 := by kernel_rfl
 have s1 : Tryd.prog.cellsOf 2 = 1 := by kernel_rfl
 rw [hc] at hl
 match cs, hl, xs, hxl with
 | [v0, v1, v2], _, [y0, y1, y2], _ =>
  have g0 := hg 0 _ rfl
  have g1 := hg 1 _ rfl
  have g2 := hg 2 _ rfl
  simp [s0, s1] at g0 g1 g2
  obtain ⟨a0, e0, _, w0⟩ := DataW.trod_int Tryd.underlying3 g0
  obtain ⟨a1, e1, _, w1⟩ := DataW.trod_int Tryd.underlying2 g1
  obtain ⟨a2, e2, _, w2⟩ := DataW.trod_int Tryd.underlying2 g2
  simp at e0 e1 e2
  subst e0 e1 e2
  exact ⟨a0, a1, a2, rfl, i64_bounds w0, i64_bounds w1, i64_bounds w2⟩
theorem res26_cells {fuel : Nat} {cs : List Value} {x : DataW H × List MemPlace} (h : DataW.trod enc Tryd.prog w base sp held fuel 32 cs = some x) : ∃ a0 a1 a2 : Int, cs = [.int .i64 a0, .int .i64 a1, .int .i64 a2] /\ (-9223372036854775808 <= a0 /\ a0 <= 9223372036854775807) /\ (-9223372036854775808 <= a1 /\ a1 <= 9223372036854775807) /\ (-9223372036854775808 <= a2 /\ a2 <= 9223372036854775807) := by
 obtain ⟨xs, n, _, _, hl, hxl, hg⟩ := DataW.trod_struct Tryd.underlying32 h
 have hc : Tryd.prog.cellsOf 32 = 3 := by kernel_rfl
 have s0 : Tryd.prog.cellsOf 30 = 1 := by kernel_rfl
 have s1 : Tryd.prog.cellsOf 2 = 1 := by kernel_rfl
 rw [hc] at hl
 match cs, hl, xs, hxl with
 | [v0, v1, v2], _, [y0, y1, y2], _ =>
  have g0 := hg 0 _ rfl
  have g1 := hg 1 _ rfl
  have g2 := hg 2 _ rfl
  simp [s0, s1] at g0 g1 g2
  obtain ⟨a0, e0, _, w0⟩ := DataW.trod_int Tryd.underlying30 g0
  obtain ⟨a1, e1, _, w1⟩ := DataW.trod_int Tryd.underlying2 g1
  obtain ⟨a2, e2, _, w2⟩ := DataW.trod_int Tryd.underlying2 g2
  simp at e0 e1 e2
  subst e0 e1 e2
  exact ⟨a0, a1, a2, rfl, i64_bounds w0, i64_bounds w1, i64_bounds w2⟩
theorem said_cells {fuel : Nat} {cs : List Value} {x : DataW H × List MemPlace} (h : DataW.trod enc Tryd.prog w base sp held fuel 34 cs = some x) : ∃ a : SaidV, a.Ok /\ cs = a.cells := by
 obtain ⟨xs, n, _, _, hl, hxl, hf⟩ := DataW.trod_struct Tryd.underlying34 h
 have hc : Tryd.prog.cellsOf 34 = 6 := by kernel_rfl
 have s0 : Tryd.prog.cellsOf 29 = 3 := by kernel_rfl
 have s1 : Tryd.prog.cellsOf 32 = 3 := by kernel_rfl
 rw [hc] at hl
 match cs, hl, xs, hxl with
 | [v0, v1, v2, v3, v4, v5], _, [y0, y1], _ =>
  have g0 := hf 0 _ rfl
  have g1 := hf 1 _ rfl
  simp [s0, s1] at g0 g1
  obtain ⟨a0, a1, a2, e0, k0, k1, k2⟩ := op26_cells g0
  obtain ⟨a3, a4, a5, e1, k3, k4, k5⟩ := res26_cells g1
  simp at e0 e1
  obtain ⟨rfl, rfl, rfl⟩ := e0
  obtain ⟨rfl, rfl, rfl⟩ := e1
  exact ⟨⟨a0, a1, a2, a3, a4, a5⟩, ⟨k0, k1, k2, k3, k4, k5⟩, rfl⟩
theorem open_said {r : Reach} {b0 : Nat} {v : Value} {d : DataW H} {p : List MemPlace} (hv : Value.okWide Tryd.prog w r b0 34 v) (h : DataW.Trod enc Tryd.prog w base sp held 34 v d p) :
  ∃ x : SaidV, x.Ok /\ v = .agg #[.int .i64 x.k, .int .i64 x.a, .int .i64 x.b, .int .i64 x.err, .int .i64 x.out, .int .i64 x.aux] := by
 obtain ⟨cs, rfl, hsz⟩ := okWide_struct Tryd.underlying34 hv
 obtain ⟨fuel, hf⟩ := h
 obtain ⟨a, ha, hc⟩ := said_cells hf
 refine ⟨a, ha, ?_⟩
 obtain ⟨l⟩ := cs
 simp [Value.cells] at hc
 subst hc
 rfl
theorem blks_of {fuel : Nat} {cs : List Value} {x : DataW H × List MemPlace} (h : DataW.trod enc Tryd.prog w base sp held fuel 24 cs = some x) (hlt : ∀ y ∈ x.2, y.block < w.heap.size) :
  ∃ (A : Option Addr) (c : Nat) (l : List BlkV), cs = [.slice A l.length c] /\ l.length <= c /\ c <= maxLen /\ (∀ a ∈ l, a.Ok) /\ BlkVs w A l := by
 have hc : Tryd.prog.cellsOf 55 = 2 := by kernel_rfl
 rcases Go.Deep.open_slice Tryd.underlying24 h with ⟨hcs, _⟩ | ⟨a, len, cap, m, n, D, Pl, hcs, hb, hl, hm, hmm, hx, hi⟩
 ·exact ⟨none, 0, [], hcs, Nat.le_refl _, Nat.zero_le _, by simp, fun i a h => by simp at h⟩
 ·have hlm : len <= m := by rw [hmm]; split <;> omega
  have each : ∀ i, i < len -> ∃ q : BlkV, q.Ok /\ ∀ j u, q.cells[j]? = some u -> w.cell? (a.add (i * 2 + j)) = some u := by
   intro i hil
   obtain ⟨cs', h1, h2⟩ := hi i (by omega)
   obtain ⟨q, hq, rfl⟩ := blkV_cells h2
   rw [hc] at h1
   obtain ⟨_, hlen, hcell⟩ := World.cells?_some h1
   refine ⟨q, hq, fun j u hu => ?_⟩
   have hj : j < 2 := by
    rcases Nat.lt_or_ge j 2 with h3 | h3
    ·exact h3
    ·rw [List.getElem?_eq_none (by unfold BlkV.cells; simp; omega)] at hu; cases hu
   have h4 := hcell j (by omega)
   rw [add_of_add] at h4
   rw [h4, hu]
  obtain ⟨q, hq⟩ := Go.Deep.choose_lt (α := BlkV) (p := fun i q => q.Ok /\ ∀ j u, q.cells[j]? = some u -> w.cell? (a.add (i * 2 + j)) = some u) each
  have hln : ((List.range len).map q).length = len := by simp
  refine ⟨some a, cap, (List.range len).map q, by rw [hln]; exact hcs, by rw [hln]; exact hl, hm, ?_, ?_⟩
  ·intro y hy
   obtain ⟨i, hi1, rfl⟩ := List.mem_map.1 hy
   exact (hq i (List.mem_range.1 hi1)).1
  ·intro i y hy
   have hil : i < len := by
    rcases Nat.lt_or_ge i len with h3 | h3
    ·exact h3
    ·rw [List.getElem?_eq_none (by simp; omega)] at hy; cases hy
   rw [List.getElem?_map, List.getElem?_range hil] at hy
   injection hy with hy
   subst hy
   refine ⟨a, rfl, ?_, (hq i hil).2⟩
   have hp : (x.2 : List MemPlace) = MemPlace.row a (m * 2) ++ (List.range m).flatMap Pl := by
    have := congrArg Prod.snd hx
    rw [hc] at this
    exact this
   have h0 : (MemPlace.row a (m * 2))[0]'(by simp [MemPlace.row]; omega) ∈ x.2 := by
    rw [hp]
    exact List.mem_append_left _ (List.getElem_mem _)
   have h1 := hlt _ h0
   simpa [MemPlace.row, MemPlace.block] using h1
theorem open_state {r : Reach} {b0 : Nat} {v : Value} {d : DataW H} {p : List MemPlace} (hv : Value.okWide Tryd.prog w r b0 27 v) (h : DataW.Trod enc Tryd.prog w base sp held 27 v d p) (hlt : ∀ x ∈ p, x.block < w.heap.size) :
  ∃ (A : Option Addr) (n c : Nat) (l : List (Int × Int)) (R : Nat -> Int), v = .agg #[.slice A n c, .int .i64 (R 0), .int .i64 (R 1), .int .i64 (R 2), .int .i64 (R 3), .int .i64 (R 4), .int .i64 (R 5), .int .i64 (R 6), .int .i64 (R 7)] /\ l.length = n /\ n <= c /\ c <= maxLen /\ BkIn w A l /\ ∀ x ∈ l, (Lit.int .i64 x.1).wf = true /\ (Lit.int .i64 x.2).wf = true := by
 obtain ⟨cs, rfl, hsz⟩ := okWide_struct Tryd.underlying27 hv
 obtain ⟨fuel, hf⟩ := h
 obtain ⟨xs, n, _, hx, hl, hxl, hfs⟩ := DataW.trod_struct Tryd.underlying27 hf
 have hc : Tryd.prog.cellsOf 27 = 9 := by kernel_rfl
 have s_sl : Tryd.prog.cellsOf 24 = 1 := by kernel_rfl
 have s_ar : Tryd.prog.cellsOf 25 = 8 := by kernel_rfl
 have s_i : Tryd.prog.cellsOf 2 = 1 := by kernel_rfl
 have hu : Tryd.prog.underlying 25 = some (.array 8 2) := by kernel_rfl
 obtain ⟨l⟩ := cs
 simp [Value.cells] at hl hfs
 rw [hc] at hl
 match l, hl, xs, hxl, hx, hfs with
 | [v0, v1, v2, v3, v4, v5, v6, v7, v8], _, [y0, y1], _, hx, hfs =>
  have g0 := hfs 0 _ rfl
  have g1 := hfs 1 _ rfl
  simp [s_sl, s_ar] at g0 g1
  obtain ⟨A, c, bl, e0, hlc, hcm, hOk, hP⟩ := blks_of g0 (fun y hy => hlt y (by
   injection hx with _ hx
   rw [hx]
   exact List.mem_flatMap.2 ⟨y0, by simp, hy⟩))
  obtain ⟨zs, m, _, _, _, hzl, hi⟩ := DataW.trod_array hu g1
  have h0 := hi 0 (by omega)
  obtain ⟨z0, f0⟩ : ∃ y, zs[0]? = some y := ⟨_, List.getElem?_eq_getElem (by omega)⟩
  rw [s_i, f0] at h0
  obtain ⟨r0, e1, _, _⟩ := DataW.trod_int Tryd.underlying2 h0
  have h1 := hi 1 (by omega)
  obtain ⟨z1, f1⟩ : ∃ y, zs[1]? = some y := ⟨_, List.getElem?_eq_getElem (by omega)⟩
  rw [s_i, f1] at h1
  obtain ⟨r1, e2, _, _⟩ := DataW.trod_int Tryd.underlying2 h1
  have h2 := hi 2 (by omega)
  obtain ⟨z2, f2⟩ : ∃ y, zs[2]? = some y := ⟨_, List.getElem?_eq_getElem (by omega)⟩
  rw [s_i, f2] at h2
  obtain ⟨r2, e3, _, _⟩ := DataW.trod_int Tryd.underlying2 h2
  have h3 := hi 3 (by omega)
  obtain ⟨z3, f3⟩ : ∃ y, zs[3]? = some y := ⟨_, List.getElem?_eq_getElem (by omega)⟩
  rw [s_i, f3] at h3
  obtain ⟨r3, e4, _, _⟩ := DataW.trod_int Tryd.underlying2 h3
  have h4 := hi 4 (by omega)
  obtain ⟨z4, f4⟩ : ∃ y, zs[4]? = some y := ⟨_, List.getElem?_eq_getElem (by omega)⟩
  rw [s_i, f4] at h4
  obtain ⟨r4, e5, _, _⟩ := DataW.trod_int Tryd.underlying2 h4
  have h5 := hi 5 (by omega)
  obtain ⟨z5, f5⟩ : ∃ y, zs[5]? = some y := ⟨_, List.getElem?_eq_getElem (by omega)⟩
  rw [s_i, f5] at h5
  obtain ⟨r5, e6, _, _⟩ := DataW.trod_int Tryd.underlying2 h5
  have h6 := hi 6 (by omega)
  obtain ⟨z6, f6⟩ : ∃ y, zs[6]? = some y := ⟨_, List.getElem?_eq_getElem (by omega)⟩
  rw [s_i, f6] at h6
  obtain ⟨r6, e7, _, _⟩ := DataW.trod_int Tryd.underlying2 h6
  have h7 := hi 7 (by omega)
  obtain ⟨z7, f7⟩ : ∃ y, zs[7]? = some y := ⟨_, List.getElem?_eq_getElem (by omega)⟩
  rw [s_i, f7] at h7
  obtain ⟨r7, e8, _, _⟩ := DataW.trod_int Tryd.underlying2 h7
  simp at e0 e1 e2 e3 e4 e5 e6 e7 e8
  subst e0 e1 e2 e3 e4 e5 e6 e7 e8
  refine ⟨A, bl.length, c, bl.map fun x => (x.ad, x.z), fun j => [r0, r1, r2, r3, r4, r5, r6, r7].getD j 0, rfl, by simp, hlc, hcm, BkIn.of hP, fun x hx => ?_⟩
  obtain ⟨y, hy, rfl⟩ := List.mem_map.1 hx
  exact ⟨(hOk y hy).ad, (hOk y hy).z⟩
end
end
end Go.Proofs.YtedakmhffjhfnaaDoor

namespace Go.Proofs.YtedakmhffjhfnaaDoor
open Go.ChangeShapes Go.WideShapes Go.ChangeAt Go.RowKit Go.Shelf
set_option linter.unusedVariables false
set_option linter.unusedSimpArgs false
section
section
variable {w : World} {g : Nat} {t : TypeId} {c0 c1 c2 c3 c4 c5 c6 c7 c8 : Value}
theorem Held.nine (h : Held w g t #[c0, c1, c2, c3, c4, c5, c6, c7, c8]) : w.cell? ⟨g, 0, none⟩ = some c0 /\ w.cell? ⟨g, 1, none⟩ = some c1 /\ w.cell? ⟨g, 2, none⟩ = some c2 /\ w.cell? ⟨g, 3, none⟩ = some c3 /\ w.cell? ⟨g, 4, none⟩ = some c4 /\ w.cell? ⟨g, 5, none⟩ = some c5 /\ w.cell? ⟨g, 6, none⟩ = some c6 /\ w.cell? ⟨g, 7, none⟩ = some c7 /\ w.cell? ⟨g, 8, none⟩ = some c8 := ⟨h.cell 0, h.cell 1, h.cell 2, h.cell 3, h.cell 4, h.cell 5, h.cell 6, h.cell 7, h.cell 8⟩
end
end
section
theorem eqStep (d : Nat) (xs ys : Array Value) (i : Nat) (a b : Int) (is : List Nat) (w : World) (hx : xs[i]? = some (.int .i64 a)) (hy : ys[i]? = some (.int .i64 b)) :
  (Op.eqItems (d + 1) 2 1 xs ys (i :: is)).run Tryd.prog w = if (a == b) = true then (Op.eqItems (d + 1) 2 1 xs ys is).run Tryd.prog w else .ok false w := by
 have p1 := run_part_plain (P := Tryd.prog) w (e := 2) (by kernel_rfl) (off := i * 1) (by rw [Nat.mul_one]; exact hx)
 have p2 := run_part_plain (P := Tryd.prog) w (e := 2) (by kernel_rfl) (off := i * 1) (by rw [Nat.mul_one]; exact hy)
 have p3 := run_equalIn_int (P := Tryd.prog) w d 2 .i64 .i64 a b Tryd.underlying2
 simp only [Op.eqItems, Sem.run_bind, p1, p2, p3, Result.andThen_ok]
 cases a == b <;> simp
theorem eq8_run (r0 r1 r2 r3 r4 r5 r6 r7 p0 p1 p2 p3 p4 p5 p6 p7 : Int) (w : World) :
  (Op.equalIn 10000 25 (.agg #[.int .i64 r0, .int .i64 r1, .int .i64 r2, .int .i64 r3, .int .i64 r4, .int .i64 r5, .int .i64 r6, .int .i64 r7]) (.agg #[.int .i64 p0, .int .i64 p1, .int .i64 p2, .int .i64 p3, .int .i64 p4, .int .i64 p5, .int .i64 p6, .int .i64 p7])).run Tryd.prog w = .ok (r0 == p0 && (r1 == p1 && (r2 == p2 && (r3 == p3 && (r4 == p4 && (r5 == p5 && (r6 == p6 && (r7 == p7)))))))) w := by
 obtain ⟨i, hi⟩ : ∃ i, Tryd.prog.info? 2 = some i := Option.isSome_iff_exists.1 (by kernel_rfl)
 have hc : Tryd.prog.cellsOf 2 = 1 := by kernel_rfl
 show (Op.equalIn (9999 + 1) _ _ _).run _ _ = _
 rw [run_equalIn_array w 9999 _ _ Tryd.underlying25 hi, hc]
 show (Op.eqItems (9998 + 1) 2 1 _ _ [0, 1, 2, 3, 4, 5, 6, 7]).run _ _ = _
 rw [eqStep 9998 _ _ 0 r0 p0 _ w rfl rfl]
 rw [eqStep 9998 _ _ 1 r1 p1 _ w rfl rfl]
 rw [eqStep 9998 _ _ 2 r2 p2 _ w rfl rfl]
 rw [eqStep 9998 _ _ 3 r3 p3 _ w rfl rfl]
 rw [eqStep 9998 _ _ 4 r4 p4 _ w rfl rfl]
 rw [eqStep 9998 _ _ 5 r5 p5 _ w rfl rfl]
 rw [eqStep 9998 _ _ 6 r6 p6 _ w rfl rfl]
 rw [eqStep 9998 _ _ 7 r7 p7 _ w rfl rfl]
 have hn : ∀ xs ys : Array Value, (Op.eqItems (9998 + 1) 2 1 xs ys []).run Tryd.prog w = .ok true w := fun xs ys => by simp [Op.eqItems]
 rw [hn]
 generalize (r0 == p0) = e0
 generalize (r1 == p1) = e1
 generalize (r2 == p2) = e2
 generalize (r3 == p3) = e3
 generalize (r4 == p4) = e4
 generalize (r5 == p5) = e5
 generalize (r6 == p6) = e6
 generalize (r7 == p7) = e7
 cases e0
 ·rfl
 cases e1
 ·rfl
 cases e2
 ·rfl
 cases e3
 ·rfl
 cases e4
 ·rfl
 cases e5
 ·rfl
 cases e6
 ·rfl
 cases e7
 ·rfl
 ·rfl

theorem eq8_iff (r0 r1 r2 r3 r4 r5 r6 r7 p0 p1 p2 p3 p4 p5 p6 p7 : Int) : (r0 == p0 && (r1 == p1 && (r2 == p2 && (r3 == p3 && (r4 == p4 && (r5 == p5 && (r6 == p6 && (r7 == p7)))))))) = true ↔ [r0, r1, r2, r3, r4, r5, r6, r7] = [p0, p1, p2, p3, p4, p5, p6, p7] := by simp
end
section
set_option maxHeartbeats 6400000 in
set_option maxRecDepth 100000 in
theorem xSame_len (l1 l2 : List (Int × Int)) (A1 A2 : Option Addr) (nl c1 c2 b1 b2 : Nat) (r0 r1 r2 r3 r4 r5 r6 r7 p0 p1 p2 p3 p4 p5 p6 p7 : Int) (w : World) (h1 : l1.length = nl) (h2 : l2.length = nl) (hnl : nl <= 100000) (hnl : nl <= 100000)
  (hO1 : w.ownsRow b1 55 2 (.slice A1 nl c1) nl (bkVs l1)) (hO2 : w.ownsRow b2 55 2 (.slice A2 nl c2) nl (bkVs l2)) (b : Bool) (hb : b = true ↔ [r0, r1, r2, r3, r4, r5, r6, r7] = [p0, p1, p2, p3, p4, p5, p6, p7] /\ l1 = l2) :
  Calls Tryd.prog 11 #[.agg #[.slice A1 nl c1, .int .i64 r0, .int .i64 r1, .int .i64 r2, .int .i64 r3, .int .i64 r4, .int .i64 r5, .int .i64 r6, .int .i64 r7], .agg #[.slice A2 nl c2, .int .i64 p0, .int .i64 p1, .int .i64 p2, .int .i64 p3, .int .i64 p4, .int .i64 p5, .int .i64 p6, .int .i64 p7]] w fun e w' => e = .returned (.bool b) /\ Below w.heap.size w w' := by
 have HX1 := hidp ((Held.new w 27 #[.slice A1 nl c1, .int .i64 r0, .int .i64 r1, .int .i64 r2, .int .i64 r3, .int .i64 r4, .int .i64 r5, .int .i64 r6, .int .i64 r7]).alloc (.cells #[.slice A2 nl c2, .int .i64 p0, .int .i64 p1, .int .i64 p2, .int .i64 p3, .int .i64 p4, .int .i64 p5, .int .i64 p6, .int .i64 p7] 27))
 have HX2 := hidp (Held.new2 w (.cells #[.slice A1 nl c1, .int .i64 r0, .int .i64 r1, .int .i64 r2, .int .i64 r3, .int .i64 r4, .int .i64 r5, .int .i64 r6, .int .i64 r7] 27) 27 #[.slice A2 nl c2, .int .i64 p0, .int .i64 p1, .int .i64 p2, .int .i64 p3, .int .i64 p4, .int .i64 p5, .int .i64 p6, .int .i64 p7])
 obtain ⟨x0, x1, x2, x3, x4, x5, x6, x7, x8⟩ := HX1.out.nine
 obtain ⟨y0, y1, y2, y3, y4, y5, y6, y7, y8⟩ := HX2.out.nine
 have HBW := hidp (Bnew (Bnew (B0 w) (.cells #[.slice A1 nl c1, .int .i64 r0, .int .i64 r1, .int .i64 r2, .int .i64 r3, .int .i64 r4, .int .i64 r5, .int .i64 r6, .int .i64 r7] 27)) (.cells #[.slice A2 nl c2, .int .i64 p0, .int .i64 p1, .int .i64 p2, .int .i64 p3, .int .i64 p4, .int .i64 p5, .int .i64 p6, .int .i64 p7] 27))
 have HO1 := hidp ((hO1.alloc (.cells #[.slice A1 nl c1, .int .i64 r0, .int .i64 r1, .int .i64 r2, .int .i64 r3, .int .i64 r4, .int .i64 r5, .int .i64 r6, .int .i64 r7] 27)).alloc (.cells #[.slice A2 nl c2, .int .i64 p0, .int .i64 p1, .int .i64 p2, .int .i64 p3, .int .i64 p4, .int .i64 p5, .int .i64 p6, .int .i64 p7] 27))
 have HO2 := hidp ((hO2.alloc (.cells #[.slice A1 nl c1, .int .i64 r0, .int .i64 r1, .int .i64 r2, .int .i64 r3, .int .i64 r4, .int .i64 r5, .int .i64 r6, .int .i64 r7] 27)).alloc (.cells #[.slice A2 nl c2, .int .i64 p0, .int .i64 p1, .int .i64 p2, .int .i64 p3, .int .i64 p4, .int .i64 p5, .int .i64 p6, .int .i64 p7] 27))
 have HL1 := hidp h1
 have HL2 := hidp h2
 obtain ⟨h11, h12⟩ := own_caps3 hO1
 obtain ⟨h21, h22⟩ := own_caps3 hO2
 have h12 : c1 <= 9223372036854775807 := h12
 have h22 : c2 <= 9223372036854775807 := h22
 have hei := eq8_iff r0 r1 r2 r3 r4 r5 r6 r7 p0 p1 p2 p3 p4 p5 p6 p7
 have he := fun W => eq8_run r0 r1 r2 r3 r4 r5 r6 r7 p0 p1 p2 p3 p4 p5 p6 p7 W
 obtain ⟨eb, heb⟩ : ∃ eb, (r0 == p0 && (r1 == p1 && (r2 == p2 && (r3 == p3 && (r4 == p4 && (r5 == p5 && (r6 == p6 && (r7 == p7)))))))) = eb := ⟨_, rfl⟩
 rw [heb] at hei
 simp only [heb] at he
 have q0 : ((nl : Int) != (nl : Int)) = false := by simp
 cases eb
 ·have HBF : Hid (b = false) := hidp (bool_no hb (fun h => by have := hei.2 h.1; cases this))
  clear hei heb hb h1 h2 hO1 hO2
  go_enter Tryd.func11, Tryd.ntmps11
  go_wp2_with fail
  go_ret
  exact ⟨by rw [HBF.out]; rfl, HBW.out⟩
 ·have HBC : Hid (b = true ↔ l1 = l2) := hidp (hb.trans ⟨fun h => h.2, fun h => ⟨hei.1 rfl, h⟩⟩)
  clear hei heb hb h1 h2 hO1 hO2
  go_enter Tryd.func11, Tryd.ntmps11
  go_wp2_with fail
  generalize (w.alloc (.cells #[.slice A1 nl c1, .int .i64 r0, .int .i64 r1, .int .i64 r2, .int .i64 r3, .int .i64 r4, .int .i64 r5, .int .i64 r6, .int .i64 r7] 27)).alloc (.cells #[.slice A2 nl c2, .int .i64 p0, .int .i64 p1, .int .i64 p2, .int .i64 p3, .int .i64 p4, .int .i64 p5, .int .i64 p6, .int .i64 p7] 27) = WL at *
  clear he x1 x2 x3 x4 x5 x6 x7 x8 y1 y2 y3 y4 y5 y6 y7 y8 q0
  go_loopw [5] (fun u5 wr => ∃ (i d : Nat), i <= nl /\ u5 = .int .i64 (i : Int) /\ Hid (l1.take i = l2.take i) /\ wr = WL.drewN d) (fun u5 _ => nl - (intOf u5).toNat)
  case atStart => exact ⟨0, 0, by omega, rfl, hidp rfl, rfl⟩
  case round =>
   obtain ⟨i, d, hi, rfl, HTE, rfl⟩ := hrel
   by_cases hlt : i < nl
   ·obtain ⟨x, hx⟩ : ∃ x, l1[i]? = some x := ⟨_, List.getElem?_eq_getElem (by have := HL1.out; omega)⟩
    obtain ⟨y, hy⟩ : ∃ y, l2[i]? = some y := ⟨_, List.getElem?_eq_getElem (by have := HL2.out; omega)⟩
    obtain ⟨g1, cv1, hv1, _, _⟩ := HO1.out.form (by omega)
    injection hv1 with hv1 _ hc1
    subst hv1
    subst hc1
    obtain ⟨g2, cv2, hv2, _, _⟩ := HO2.out.form (by omega)
    injection hv2 with hv2 _ hc2
    subst hv2
    subst hc2
    obtain ⟨p0, p1⟩ := own_block0 HO1.out HL1.out hx
    obtain ⟨q0, q1⟩ := own_block0 HO2.out HL2.out hy
    have HNE : Hid (x ≠ y -> ¬ l1 = l2) := hidp (fun h e => h (by rw [e, hy] at hx; exact (Option.some.inj hx).symm))
    have HSU : Hid (x = y -> l1.take (i + 1) = l2.take (i + 1)) := hidp (fun h => by rw [List.take_add_one, List.take_add_one, HTE.out, hx, hy, h])
    obtain ⟨a1, z1⟩ := x
    obtain ⟨a2, z2⟩ := y
    have t0 : decide ((i : Int) < nl) = true := decide_eq_true (by omega)
    have t0n : decide (i < nl) = true := decide_eq_true hlt
    simp only at p0 p1 q0 q1
    clear hx hy
    by_cases ha : a1 = a2
    ·subst ha
     by_cases hz : z1 = z2
     ·subst hz
      have HT1 := hidp (HSU.out rfl)
      go_wp2_with fail
      refine wp_region_held_drew (S := (fun w' => w'.cell? ⟨g1, i * 2, none⟩ = some (.int .i64 a1) /\ w'.cell? ⟨g1, i * 2 + 1, none⟩ = some (.int .i64 z1) /\ w'.cell? ⟨g2, i * 2, none⟩ = some (.int .i64 a1) /\ w'.cell? ⟨g2, i * 2 + 1, none⟩ = some (.int .i64 z1) /\ w'.cell? ⟨w.heap.size, 0, none⟩ = some (.slice (some ⟨g1, 0, none⟩) nl c1) /\ w'.cell? ⟨w.heap.size + 1, 0, none⟩ = some (.slice (some ⟨g2, 0, none⟩) nl c2))) (by kernel_rfl) ?_ (fun hHeld => ?_)
      ·(try dsimp only)
       first | exact ⟨p0, p1, q0, q1, x0, y0⟩ | exact hHeld
      refine tkz 0 ?_
      refine tkz 1 ?_
      refine tkz 2 ?_
      refine tkz 3 ?_
      refine tkz 4 ?_
      refine tkz 5 ?_
      refine tkz 6 ?_
      refine tkz 7 ?_
      refine tkz 8 ?_
      refine tkz 9 ?_
      refine tkz 10 ?_
      refine dnz ?_
      go_wp2_with fail
      go_roundw
      case rel => exact ⟨i + 1, d + 1, by omega, by go_num, HT1, rfl⟩
      case measure => simp [intOf]; omega
     ·have qz : (z1 == z2) = false := by simpa using hz
      have HBF : Hid (b = false) := hidp (bool_no HBC.out (HNE.out (fun e => hz (Prod.mk.inj e).2)))
      go_wp2_with fail
      refine wp_region_held_drew (S := (fun w' => w'.cell? ⟨g1, i * 2, none⟩ = some (.int .i64 a1) /\ w'.cell? ⟨g1, i * 2 + 1, none⟩ = some (.int .i64 z1) /\ w'.cell? ⟨g2, i * 2, none⟩ = some (.int .i64 a1) /\ w'.cell? ⟨g2, i * 2 + 1, none⟩ = some (.int .i64 z2) /\ w'.cell? ⟨w.heap.size, 0, none⟩ = some (.slice (some ⟨g1, 0, none⟩) nl c1) /\ w'.cell? ⟨w.heap.size + 1, 0, none⟩ = some (.slice (some ⟨g2, 0, none⟩) nl c2))) (by kernel_rfl) ?_ (fun hHeld => ?_)
      ·(try dsimp only)
       first | exact ⟨p0, p1, q0, q1, x0, y0⟩ | exact hHeld
      refine tkz 0 ?_
      refine tkz 1 ?_
      refine tkz 2 ?_
      refine tkz 3 ?_
      refine tkz 4 ?_
      refine tkz 5 ?_
      refine tkz 6 ?_
      refine tkz 7 ?_
      refine tkz 8 ?_
      refine tkz 9 ?_
      refine tkz 10 ?_
      refine dnz ?_
      go_wp2_with fail
      go_ret
      exact ⟨by rw [HBF.out]; rfl, Bdraw HBW.out (d + 1)⟩
    ·have qa : (a1 == a2) = false := by simpa using ha
     have HBF : Hid (b = false) := hidp (bool_no HBC.out (HNE.out (fun e => ha (Prod.mk.inj e).1)))
     go_wp2_with fail
     refine wp_region_held_drew (S := (fun w' => w'.cell? ⟨g1, i * 2, none⟩ = some (.int .i64 a1) /\ w'.cell? ⟨g1, i * 2 + 1, none⟩ = some (.int .i64 z1) /\ w'.cell? ⟨g2, i * 2, none⟩ = some (.int .i64 a2) /\ w'.cell? ⟨g2, i * 2 + 1, none⟩ = some (.int .i64 z2) /\ w'.cell? ⟨w.heap.size, 0, none⟩ = some (.slice (some ⟨g1, 0, none⟩) nl c1) /\ w'.cell? ⟨w.heap.size + 1, 0, none⟩ = some (.slice (some ⟨g2, 0, none⟩) nl c2))) (by kernel_rfl) ?_ (fun hHeld => ?_)
     ·(try dsimp only)
      first | exact ⟨p0, p1, q0, q1, x0, y0⟩ | exact hHeld
     refine tkz 0 ?_
     refine tkz 1 ?_
     refine tkz 2 ?_
     refine tkz 3 ?_
     refine tkz 4 ?_
     refine tkz 5 ?_
     refine tkz 6 ?_
     refine tkz 7 ?_
     refine tkz 8 ?_
     refine tkz 9 ?_
     refine tkz 10 ?_
     refine dnz ?_
     go_wp2_with fail
     go_ret
     exact ⟨by rw [HBF.out]; rfl, Bdraw HBW.out (d + 1)⟩
   ·have t0 : decide ((i : Int) < nl) = false := decide_eq_false (by omega)
    have t0n : decide (i < nl) = false := decide_eq_false hlt
    have HBT : Hid (b = true) := hidp (HBC.out.2 (by
     have h := HTE.out
     rwa [List.take_of_length_le (by have := HL1.out; omega), List.take_of_length_le (by have := HL2.out; omega)] at h))
    go_wp2_with fail
    go_ret
    exact ⟨by rw [HBT.out]; rfl, Bdraw HBW.out d⟩
set_option maxHeartbeats 1600000 in
theorem xSame_c (l1 l2 : List (Int × Int)) (A1 A2 : Option Addr) (n1 n2 c1 c2 b1 b2 : Nat) (r0 r1 r2 r3 r4 r5 r6 r7 p0 p1 p2 p3 p4 p5 p6 p7 : Int) (w : World) (h1 : l1.length = n1) (h2 : l2.length = n2) (hn1 : n1 <= 100000) (hn2 : n2 <= 100000)
  (hO1 : w.ownsRow b1 55 2 (.slice A1 n1 c1) n1 (bkVs l1)) (hO2 : w.ownsRow b2 55 2 (.slice A2 n2 c2) n2 (bkVs l2)) (b : Bool) (hb : b = true ↔ [r0, r1, r2, r3, r4, r5, r6, r7] = [p0, p1, p2, p3, p4, p5, p6, p7] /\ l1 = l2) :
  Calls Tryd.prog 11 #[.agg #[.slice A1 n1 c1, .int .i64 r0, .int .i64 r1, .int .i64 r2, .int .i64 r3, .int .i64 r4, .int .i64 r5, .int .i64 r6, .int .i64 r7], .agg #[.slice A2 n2 c2, .int .i64 p0, .int .i64 p1, .int .i64 p2, .int .i64 p3, .int .i64 p4, .int .i64 p5, .int .i64 p6, .int .i64 p7]] w fun e w' => e = .returned (.bool b) /\ Below w.heap.size w w' := by
 by_cases hne : n1 = n2
 ·subst hne
  exact xSame_len l1 l2 A1 A2 n1 c1 c2 b1 b2 r0 r1 r2 r3 r4 r5 r6 r7 p0 p1 p2 p3 p4 p5 p6 p7 w h1 h2 hn1 hn2 hO1 hO2 b hb
 ·have q0 : ((n1 : Int) != (n2 : Int)) = true := by simp; omega
  have q0n : (n1 != n2) = true := by simpa using hne
  have HBF : Hid (b = false) := hidp (bool_no hb (fun e => hne (by rw [<- h1, <- h2, e.2])))
  have HX1 := hidp ((Held.new w 27 #[.slice A1 n1 c1, .int .i64 r0, .int .i64 r1, .int .i64 r2, .int .i64 r3, .int .i64 r4, .int .i64 r5, .int .i64 r6, .int .i64 r7]).alloc (.cells #[.slice A2 n2 c2, .int .i64 p0, .int .i64 p1, .int .i64 p2, .int .i64 p3, .int .i64 p4, .int .i64 p5, .int .i64 p6, .int .i64 p7] 27))
  have HX2 := hidp (Held.new2 w (.cells #[.slice A1 n1 c1, .int .i64 r0, .int .i64 r1, .int .i64 r2, .int .i64 r3, .int .i64 r4, .int .i64 r5, .int .i64 r6, .int .i64 r7] 27) 27 #[.slice A2 n2 c2, .int .i64 p0, .int .i64 p1, .int .i64 p2, .int .i64 p3, .int .i64 p4, .int .i64 p5, .int .i64 p6, .int .i64 p7])
  obtain ⟨x0, x1, x2, x3, x4, x5, x6, x7, x8⟩ := HX1.out.nine
  obtain ⟨y0, y1, y2, y3, y4, y5, y6, y7, y8⟩ := HX2.out.nine
  have HBW := hidp (Bnew (Bnew (B0 w) (.cells #[.slice A1 n1 c1, .int .i64 r0, .int .i64 r1, .int .i64 r2, .int .i64 r3, .int .i64 r4, .int .i64 r5, .int .i64 r6, .int .i64 r7] 27)) (.cells #[.slice A2 n2 c2, .int .i64 p0, .int .i64 p1, .int .i64 p2, .int .i64 p3, .int .i64 p4, .int .i64 p5, .int .i64 p6, .int .i64 p7] 27))
  have HO1 := hidp ((hO1.alloc (.cells #[.slice A1 n1 c1, .int .i64 r0, .int .i64 r1, .int .i64 r2, .int .i64 r3, .int .i64 r4, .int .i64 r5, .int .i64 r6, .int .i64 r7] 27)).alloc (.cells #[.slice A2 n2 c2, .int .i64 p0, .int .i64 p1, .int .i64 p2, .int .i64 p3, .int .i64 p4, .int .i64 p5, .int .i64 p6, .int .i64 p7] 27))
  have HO2 := hidp ((hO2.alloc (.cells #[.slice A1 n1 c1, .int .i64 r0, .int .i64 r1, .int .i64 r2, .int .i64 r3, .int .i64 r4, .int .i64 r5, .int .i64 r6, .int .i64 r7] 27)).alloc (.cells #[.slice A2 n2 c2, .int .i64 p0, .int .i64 p1, .int .i64 p2, .int .i64 p3, .int .i64 p4, .int .i64 p5, .int .i64 p6, .int .i64 p7] 27))
  have HL1 := hidp h1
  have HL2 := hidp h2
  obtain ⟨h11, h12⟩ := own_caps3 hO1
  obtain ⟨h21, h22⟩ := own_caps3 hO2
  have h12 : c1 <= 9223372036854775807 := h12
  have h22 : c2 <= 9223372036854775807 := h22
  have hei := eq8_iff r0 r1 r2 r3 r4 r5 r6 r7 p0 p1 p2 p3 p4 p5 p6 p7
  have he := fun W => eq8_run r0 r1 r2 r3 r4 r5 r6 r7 p0 p1 p2 p3 p4 p5 p6 p7 W
  obtain ⟨eb, heb⟩ : ∃ eb, (r0 == p0 && (r1 == p1 && (r2 == p2 && (r3 == p3 && (r4 == p4 && (r5 == p5 && (r6 == p6 && (r7 == p7)))))))) = eb := ⟨_, rfl⟩
  rw [heb] at hei
  simp only [heb] at he
  clear hei heb hb h1 h2 hO1 hO2 hne he
  go_enter Tryd.func11, Tryd.ntmps11
  go_wp2_with fail
  go_ret
  exact ⟨by rw [HBF.out]; rfl, HBW.out⟩
end
end Go.Proofs.YtedakmhffjhfnaaDoor

namespace Go.Proofs.YtedakmhffjhfnaaDoor
open Go.ChangeShapes Go.WideShapes Go.ChangeAt Go.RowKit Go.Maps
set_option linter.unusedVariables false
set_option linter.unusedSimpArgs false
set_option maxRecDepth 100000
section
theorem live26_c (w : World) (hT : SlotsLaid w) : Calls Tryd.prog 7 #[] w fun e w' => e = .returned (.bool true) /\ Below w.heap.size w w' := by
 have HSL := hidp hT
 clear hT
 have A0 : Hid (allowM 1 8 10 [] (fun _ => 0) 1 20 0 0 1024 32 = true) := hidp (by decide +kernel)
 have A1 : Hid (allowM 1 8 10 [] (fun _ => 0) 1 20 0 0 1040 32 = true) := hidp (by decide +kernel)
 have A2 : Hid (allowM 1 8 10 [] (fun _ => 0) 1 20 0 3 0 0 = true) := hidp (by decide +kernel)
 have A3 : Hid (allowM 1 8 10 [] (fun _ => 0) 1 20 0 0 1024 20 = false) := hidp (by decide +kernel)
 go_enter Tryd.func7, Tryd.ntmps7
 go_wp2_with fail
 refine (mdNew_yes 1 8 10 (by decide) _).mono ?_; rintro e w1 ⟨g, F, rfl, hF, hM, hb⟩
 have HX := hidp (Held.new w1 29 #[.int .i64 1, .int .i64 20, .int .i64 0])
 have HB := hidp (Bnew hb (.cells #[.int .i64 1, .int .i64 20, .int .i64 0] 29))
 have HM := hidp (hM.turns (Turns.of_below (Bnew (B0 w1) (.cells #[.int .i64 1, .int .i64 20, .int .i64 0] 29)) (fun _ => False)) (fun _ _ x => x))
 clear hb hM hF
 obtain ⟨x0, x1, x2⟩ := HX.out.three
 go_wp2_with fail
 refine (mdAllows_c HM.out (by simp) 1 20 0 0 1024 32 (by omega) (by omega) (by omega) (HSL.out.below HB.out)).mono ?_; rintro e w2 ⟨rfl, hb⟩; rw [A0.out]
 replace HM := hidp (HM.out.turns (Turns.of_below hb (fun _ => False)) (fun _ _ x => x))
 replace HX := hidp (HX.out.keep hb)
 replace HB := hidp (Bgo HB.out hb)
 clear hb x0 x1 x2
 obtain ⟨x0, x1, x2⟩ := HX.out.three
 go_wp2_with fail
 refine (mdAllows_c HM.out (by simp) 1 20 0 0 1040 32 (by omega) (by omega) (by omega) (HSL.out.below HB.out)).mono ?_; rintro e w3 ⟨rfl, hb⟩; rw [A1.out]
 replace HM := hidp (HM.out.turns (Turns.of_below hb (fun _ => False)) (fun _ _ x => x))
 replace HX := hidp (HX.out.keep hb)
 replace HB := hidp (Bgo HB.out hb)
 clear hb x0 x1 x2
 obtain ⟨x0, x1, x2⟩ := HX.out.three
 go_wp2_with fail
 refine (mdAllows_c HM.out (by simp) 1 20 0 3 0 0 (by omega) (by omega) (by omega) (HSL.out.below HB.out)).mono ?_; rintro e w4 ⟨rfl, hb⟩; rw [A2.out]
 replace HM := hidp (HM.out.turns (Turns.of_below hb (fun _ => False)) (fun _ _ x => x))
 replace HX := hidp (HX.out.keep hb)
 replace HB := hidp (Bgo HB.out hb)
 clear hb x0 x1 x2
 obtain ⟨x0, x1, x2⟩ := HX.out.three
 go_wp2_with fail
 refine (mdAllows_c HM.out (by simp) 1 20 0 0 1024 20 (by omega) (by omega) (by omega) (HSL.out.below HB.out)).mono ?_; rintro e w5 ⟨rfl, hb⟩; rw [A3.out]
 replace HM := hidp (HM.out.turns (Turns.of_below hb (fun _ => False)) (fun _ _ x => x))
 replace HX := hidp (HX.out.keep hb)
 replace HB := hidp (Bgo HB.out hb)
 clear hb x0 x1 x2
 obtain ⟨x0, x1, x2⟩ := HX.out.three
 go_wp2_with fail
 go_ret
 exact ⟨rfl, HB.out⟩
theorem few26_c (A : Option Addr) (n c : Nat) (R : Nat -> Int) (b : Bool) (hb : decide (n <= 60) = b) (w : World) : Calls Tryd.prog 6 #[.agg #[.slice A n c, .int .i64 (R 0), .int .i64 (R 1), .int .i64 (R 2), .int .i64 (R 3), .int .i64 (R 4), .int .i64 (R 5), .int .i64 (R 6), .int .i64 (R 7)]] w fun e w' => e = .returned (.bool b) /\ Below w.heap.size w w' := by
 have t0 : decide ((n : Int) <= 60) = b := by rw [<- hb]; exact decide_eq_decide.2 (by omega)
 have HX := hidp (Held.new w 27 #[.slice A n c, .int .i64 (R 0), .int .i64 (R 1), .int .i64 (R 2), .int .i64 (R 3), .int .i64 (R 4), .int .i64 (R 5), .int .i64 (R 6), .int .i64 (R 7)])
 have HB := hidp (Bnew (B0 w) (.cells #[.slice A n c, .int .i64 (R 0), .int .i64 (R 1), .int .i64 (R 2), .int .i64 (R 3), .int .i64 (R 4), .int .i64 (R 5), .int .i64 (R 6), .int .i64 (R 7)] 27))
 have x0 : (w.alloc (.cells #[.slice A n c, .int .i64 (R 0), .int .i64 (R 1), .int .i64 (R 2), .int .i64 (R 3), .int .i64 (R 4), .int .i64 (R 5), .int .i64 (R 6), .int .i64 (R 7)] 27)).cell? ⟨w.heap.size, 0, none⟩ = some (.slice A n c) := HX.out.cell 0
 go_enter Tryd.func6, Tryd.ntmps6
 go_wp2_with fail
 go_ret
 exact ⟨rfl, HB.out⟩
theorem nine26 {w : World} {g : Nat} {T : TypeId} {c0 c1 c2 c3 c4 c5 c6 c7 c8 : Value} (h : Held w g T #[c0, c1, c2, c3, c4, c5, c6, c7, c8]) : w.cell? ⟨g, 0, none⟩ = some c0 /\ w.cell? ⟨g, 1, none⟩ = some c1 /\ w.cell? ⟨g, 2, none⟩ = some c2 /\ w.cell? ⟨g, 3, none⟩ = some c3 /\ w.cell? ⟨g, 4, none⟩ = some c4 /\ w.cell? ⟨g, 5, none⟩ = some c5 /\ w.cell? ⟨g, 6, none⟩ = some c6 /\ w.cell? ⟨g, 7, none⟩ = some c7 /\ w.cell? ⟨g, 8, none⟩ = some c8 :=
 ⟨h.cell 0, h.cell 1, h.cell 2, h.cell 3, h.cell 4, h.cell 5, h.cell 6, h.cell 7, h.cell 8⟩
theorem six26 {w : World} {g : Nat} {T : TypeId} {c0 c1 c2 c3 c4 c5 : Value} (h : Held w g T #[c0, c1, c2, c3, c4, c5]) : w.cell? ⟨g, 0, none⟩ = some c0 /\ w.cell? ⟨g, 1, none⟩ = some c1 /\ w.cell? ⟨g, 2, none⟩ = some c2 /\ w.cell? ⟨g, 3, none⟩ = some c3 /\ w.cell? ⟨g, 4, none⟩ = some c4 /\ w.cell? ⟨g, 5, none⟩ = some c5 :=
 ⟨h.cell 0, h.cell 1, h.cell 2, h.cell 3, h.cell 4, h.cell 5⟩
theorem mc12 {w : World} {g : Nat} {T : TypeId} {t p s : Int} {u : Value} {R : Nat -> Int} (h : Held w g T (mC t p s u R)) : w.cell? ⟨g, 3, none⟩ = some u /\ w.cell? ⟨g, 4, none⟩ = some (.int .i64 (R 0)) /\ w.cell? ⟨g, 5, none⟩ = some (.int .i64 (R 1)) /\ w.cell? ⟨g, 6, none⟩ = some (.int .i64 (R 2)) /\ w.cell? ⟨g, 7, none⟩ = some (.int .i64 (R 3)) /\ w.cell? ⟨g, 8, none⟩ = some (.int .i64 (R 4)) /\ w.cell? ⟨g, 9, none⟩ = some (.int .i64 (R 5)) /\ w.cell? ⟨g, 10, none⟩ = some (.int .i64 (R 6)) /\ w.cell? ⟨g, 11, none⟩ = some (.int .i64 (R 7)) :=
 ⟨h.cell 3, h.cell 4, h.cell 5, h.cell 6, h.cell 7, h.cell 8, h.cell 9, h.cell 10, h.cell 11⟩
theorem IsMod.keep {w w' : World} {g : Nat} {F : Nat -> Prop} {t p s : Int} {L : List (Int × Int)} {R : Nat -> Int} (h : IsMod w g F t p s L R) (hb : Below w.heap.size w w') : IsMod w' g F t p s L R := h.turns (Turns.of_below hb (fun _ => False)) (fun _ _ x => x)
end
end Go.Proofs.YtedakmhffjhfnaaDoor
