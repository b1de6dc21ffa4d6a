/-
  The law PocketFits: the walk. Written by pocket/gen_law.py.
-/
import Derived.Test.YtkbjckhbllmclaaGreatDoorT16
import Derived.Test.YtkbjckhbllmclaaGreatDoorT18
import Derived.Test.YtkbjckhbllmclaaGreatDoorT17
import Derived.Test.YtkbjckhbllmclaaGreatDoorT02
import Derived.Test.YtkbjckhbllmclaaGreatDoorKit
import Derived.Lib.SmallJoins
import Derived.Test.YtkbjckhbllmclaaGreatDoorLaw
import Derived.Test.YtkbjckhbllmclaaGreatDoorCards
import Derived.Test.YtkbjckhbllmclaaGreatDoorTie
import Derived.SevenTiedAt
import Derived.Lay
import Derived.LaidMore
import Derived.LaidHandle
import Derived.Lib.LaidTab
import Derived.Stop.Joined
import Derived.LaidSub
import Derived.MakeChecks
import Derived.Test.YtkbjckhbllmclaaGreatDoorT03
namespace Go.Proofs.YtkbjckhbllmclaaGreatDoor
open Go.ChangeShapes Go.WideShapes Go.ChangeAt Go.RowKit Go.Maps
set_option linter.unusedVariables false
set_option linter.unusedSimpArgs false
set_option maxRecDepth 100000
section
theorem told17 {H : AuH} {m : Nat} (h : H.Told m true) : ∀ i, i < 10 → H.rule i := by
  rcases h with ⟨_, _, h⟩ | ⟨h, _⟩
  · exact h
  · cases h
theorem few17_c (t q s : Int) (w : World) : Calls Tryz.prog 4 #[.agg #[.int .i64 t, .int .i64 q, .int .i64 s]] w fun e w' => e = .returned (.bool (decide (q ≤ 64))) ∧ Below w.heap.size w w' := by
  go_enter Tryz.func4, Tryz.ntmps4
  go_wp2
  go_ret
  exact ⟨rfl, Bnew (B0 _) _⟩
theorem PocketFits_few (t q s : Int) (A : Option Addr) (n c : Nat) (A2 : Option Addr) (T c2 : Nat) (hq : 64 < q) (W : World) (hT : SlotsLaid W) : Calls Tryz.prog 3 #[.agg #[.int .i64 t, .int .i64 q, .int .i64 s], .slice A n c, .slice A2 T c2] W (Keeps W) := by
  have t2 : decide (q ≤ (64 : Int)) = false := decide_eq_false (by omega)
  have HC := hidp (Held.new W 23 #[.int .i64 t, .int .i64 q, .int .i64 s])
  have HB := hidp (Bnew (B0 W) (.cells #[.int .i64 t, .int .i64 q, .int .i64 s] 23))
  have HTL := hidp hT
  clear hT
  obtain ⟨x0, x1, x2⟩ := HC.out.three
  go_enter Tryz.func3, Tryz.ntmps3
  go_wp2_with fail
  refine (few17_c t q s _).mono ?_
  rintro e w1 ⟨rfl, hb⟩
  rw [t2]
  replace HC := hidp (HC.out.keep hb)
  replace HB := hidp (Bgo HB.out hb)
  clear hb
  clear x0 x1 x2
  obtain ⟨x0, x1, x2⟩ := HC.out.three
  go_wp2_with fail
  refine (live17_c _ (HTL.out.below HB.out)).mono ?_
  rintro e w9 ⟨rfl, hb⟩
  replace HB := hidp (Bgo HB.out hb)
  clear hb
  go_wp2
  go_ret
  exact ⟨rfl, HB.out⟩
theorem PocketFits_many (t q s : Int) (A : Option Addr) (n c : Nat) (A2 : Option Addr) (T c2 : Nat) (hq : q ≤ 64) (hT20 : 20 < T) (W : World) (hT : SlotsLaid W) : Calls Tryz.prog 3 #[.agg #[.int .i64 t, .int .i64 q, .int .i64 s], .slice A n c, .slice A2 T c2] W (Keeps W) := by
  have t2 : decide (q ≤ (64 : Int)) = true := decide_eq_true hq
  have t3 : decide ((20 : Int) < (T : Int)) = true := decide_eq_true (by omega)
  have t3n : decide (20 < T) = true := decide_eq_true hT20
  have HC := hidp (Held.new W 23 #[.int .i64 t, .int .i64 q, .int .i64 s])
  have HB := hidp (Bnew (B0 W) (.cells #[.int .i64 t, .int .i64 q, .int .i64 s] 23))
  have HTL := hidp hT
  clear hT
  obtain ⟨x0, x1, x2⟩ := HC.out.three
  go_enter Tryz.func3, Tryz.ntmps3
  go_wp2_with fail
  refine (few17_c t q s _).mono ?_
  rintro e w1 ⟨rfl, hb⟩
  rw [t2]
  replace HC := hidp (HC.out.keep hb)
  replace HB := hidp (Bgo HB.out hb)
  clear hb
  clear x0 x1 x2
  obtain ⟨x0, x1, x2⟩ := HC.out.three
  go_wp2_with fail
  refine (live17_c _ (HTL.out.below HB.out)).mono ?_
  rintro e w9 ⟨rfl, hb⟩
  replace HB := hidp (Bgo HB.out hb)
  clear hb
  go_wp2
  go_ret
  exact ⟨rfl, HB.out⟩
set_option maxHeartbeats 3200000 in
theorem PocketFits_main (t q s : Int) (A : Option Addr) (n c : Nat) (A2 : Option Addr) (T c2 : Nat) (U : Nat → Nat → Sl) (Z : Nat → Nat → List Int) (hq : q ≤ 64) (hT20 : T ≤ 20) (hTc : T ≤ c2) (hc2 : c2 ≤ maxLen) (b : Bool) (W : World) (hT : SlotsLaid W) (hP : Hid (PksAt W A2 T U Z))
    (HPF : Hid (∀ w, Below W.heap.size W w → Calls Tryz.prog 7 #[.agg #[.int .i64 t, .int .i64 q, .int .i64 s], .slice A n c, .slice A2 T c2] w fun e w' => e = .returned (.bool b) ∧ Below w.heap.size w w'))
    (HRF : Hid ((∀ i, i < T → ∀ k, k < 9 → (Z i k).length ≤ 10) → ∀ w, Below W.heap.size W w → Calls Tryz.prog 8 #[.agg #[.int .i64 t, .int .i64 q, .int .i64 s], .slice A n c, .slice A2 T c2] w fun e w' => e = .returned (.bool b) ∧ Below w.heap.size w w')) :
    Calls Tryz.prog 3 #[.agg #[.int .i64 t, .int .i64 q, .int .i64 s], .slice A n c, .slice A2 T c2] W (Keeps W) := by
  have t2 : decide (q ≤ (64 : Int)) = true := decide_eq_true hq
  have t3 : decide ((20 : Int) < (T : Int)) = false := decide_eq_false (by omega)
  have t3n : decide (20 < T) = false := decide_eq_false (by omega)
  have hc3 : c2 ≤ 9223372036854775807 := by unfold maxLen at hc2; omega
  have HC := hidp (Held.new W 23 #[.int .i64 t, .int .i64 q, .int .i64 s])
  have HB := hidp (Bnew (B0 W) (.cells #[.int .i64 t, .int .i64 q, .int .i64 s] 23))
  have HTL := hidp hT
  clear hT
  obtain ⟨x0, x1, x2⟩ := HC.out.three
  go_enter Tryz.func3, Tryz.ntmps3
  go_wp2_with fail
  refine (few17_c t q s _).mono ?_
  rintro e w1 ⟨rfl, hb⟩
  rw [t2]
  replace HC := hidp (HC.out.keep hb)
  replace HB := hidp (Bgo HB.out hb)
  clear hb
  clear x0 x1 x2
  obtain ⟨x0, x1, x2⟩ := HC.out.three
  go_wp2_with fail
  go_loopw [7] (fun u7 wr => ∃ i : Nat, i ≤ T ∧ u7 = .int .i64 (i : Int) ∧ Hid (∀ j, j < i → ∀ k, k < 9 → (Z j k).length ≤ 10) ∧ Hid (Held wr W.heap.size 23 #[.int .i64 t, .int .i64 q, .int .i64 s]) ∧ Hid (Below W.heap.size W wr)) (fun u7 _ => T - (intOf u7).toNat)
  case atStart => exact ⟨0, by omega, rfl, hidp (fun j hj => absurd hj (Nat.not_lt_zero _)), HC, HB⟩
  case round =>
    clear HC HB x0 x1 x2
    obtain ⟨i, hi, rfl, HF, HC, HB⟩ := hrel
    by_cases hlt : i < T
    · have t0 : decide ((i : Int) < (T : Int)) = true := decide_eq_true (by omega)
      obtain ⟨ad, e, hbk, hcs⟩ := hP.out.below HB.out i hlt
      subst e
      obtain ⟨y0, y1, y2, y3, y4, y5, y6, y7, y8⟩ := nine_at hcs
      have HV : Hid (PkV wr (U i) (Z i)) := hidp (fun k hk => (hcs k hk).2)
      clear hcs
      by_cases hf : ∀ k, k < 9 → (Z i k).length ≤ 10
      · have HFW := hidp (fun (w' : World) (h : PkV w' (U i) (Z i)) => rFew_c (U i) (Z i) w' h true ⟨fun _ => hf, fun _ => rfl⟩)
        have HF2 : Hid (∀ j, j < i + 1 → ∀ k, k < 9 → (Z j k).length ≤ 10) := hidp (fun j hj k hk => by
          by_cases e : j = i
          · subst e; exact hf k hk
          · exact HF.out j (by omega) k hk)
        clear hf HF
        go_wp2_with fail
        refine (HFW.out _ HV.out).mono ?_
        rintro e w3 ⟨rfl, hb⟩
        replace HC := hidp (HC.out.keep hb)
        replace HB := hidp (Bgo HB.out hb)
        clear hb
        go_wp2_with fail
        go_roundw
        case rel => exact ⟨i + 1, by omega, by go_num, HF2, HC, HB⟩
        case measure => simp [intOf]; omega
      · have HFW := hidp (fun (w' : World) (h : PkV w' (U i) (Z i)) => rFew_c (U i) (Z i) w' h false ⟨(fun h => by cases h), fun h => absurd h hf⟩)
        clear hf
        go_wp2_with fail
        refine (HFW.out _ HV.out).mono ?_
        rintro e w3 ⟨rfl, hb⟩
        replace HC := hidp (HC.out.keep hb)
        replace HB := hidp (Bgo HB.out hb)
        clear hb
        go_wp2_with fail
        refine (live17_c _ (HTL.out.below HB.out)).mono ?_
        rintro e w9 ⟨rfl, hb⟩
        replace HB := hidp (Bgo HB.out hb)
        clear hb
        go_wp2
        go_ret
        exact ⟨rfl, HB.out⟩
    · obtain rfl : i = T := by omega
      have t0 : decide ((i : Int) < (i : Int)) = false := decide_eq_false (by omega)
      have HRG := hidp (HRF.out HF.out)
      clear HF HRF
      have t5 : (b == b) = true := by cases b <;> rfl
      go_wp2_with fail
      replace HC := hidp (HC.out.keep (Bdrew (B0 _)))
      replace HB := hidp (Bdrew HB.out)
      refine wp_region_held_drew (S := (fun w' => w'.cell? ⟨W.heap.size, 0, none⟩ = some (.int .i64 t) ∧ w'.cell? ⟨W.heap.size, 1, none⟩ = some (.int .i64 q) ∧ w'.cell? ⟨W.heap.size, 2, none⟩ = some (.int .i64 s))) (by kernel_rfl) ?_ (fun hHeld => ?_)
      · (try dsimp only)
        first | exact HC.out.three | exact hHeld
      refine tkz 0 ?_
      refine tkz 1 ?_
      refine tkz 2 ?_
      refine tkz 4 ?_
      refine tkz 5 ?_
      refine tkz 6 ?_
      refine wpAnyH_ready (rs := [3]) (by kernel_rfl) (by simp) ?_
      refine AllReadyH.cons (o := _) rfl (fun K hK => ?_) AllReadyH.nil
      go_simp
      refine (HPF.out _ HB.out).mono ?_
      rintro e w3 ⟨rfl, hb⟩
      replace HC := hidp (HC.out.keep hb)
      replace HB := hidp (Bgo HB.out hb)
      clear hb
      refine hK.out _ _ ?_ (fun hHeld => ?_)
      · (try dsimp only)
        first | exact HC.out.three | exact hHeld
      clear hK K
      (try simp only [Act.put, gA, gB, gC, sA, sB, sC])
      refine wpAnyH_ready (rs := [7]) (by kernel_rfl) (by simp) ?_
      refine AllReadyH.cons (o := _) rfl (fun K hK => ?_) AllReadyH.nil
      go_simp
      refine (HRG.out _ HB.out).mono ?_
      rintro e w7 ⟨rfl, hb⟩
      replace HC := hidp (HC.out.keep hb)
      replace HB := hidp (Bgo HB.out hb)
      clear hb
      refine hK.out _ _ ?_ (fun hHeld => ?_)
      · (try dsimp only)
        first | exact HC.out.three | exact hHeld
      clear hK K
      (try simp only [Act.put, gA, gB, gC, sA, sB, sC])
      refine tkz 8 ?_
      refine tkz 9 ?_
      refine wpAnyH_ready (rs := [10]) (by kernel_rfl) (by simp) ?_
      refine AllReadyH.cons (o := _) rfl (fun K hK => ?_) AllReadyH.nil
      go_simp
      refine (live17_c _ (HTL.out.below HB.out)).mono ?_
      rintro e w9 ⟨rfl, hb⟩
      replace HC := hidp (HC.out.keep hb)
      replace HB := hidp (Bgo HB.out hb)
      clear hb
      refine hK.out _ _ ?_ (fun hHeld => ?_)
      · (try dsimp only)
        first | exact HC.out.three | exact hHeld
      clear hK K
      (try simp only [Act.put, gA, gB, gC, sA, sB, sC])
      refine tkz 11 ?_
      refine tkz 12 ?_
      refine wpAnyH_done (by kernel_rfl) ?_ _
      go_wp2
      go_ret
      exact ⟨rfl, HB.out⟩

theorem PocketFits_calls (t q s : Int) (A : Option Addr) (c : Nat) (vals : List Nat) (hnc : vals.length ≤ c) (hcm : c ≤ maxLen) (h32 : ∀ x ∈ vals, x < 2 ^ 32) (A2 : Option Addr) (T c2 : Nat) (U : Nat → Nat → Sl) (Z : Nat → Nat → List Int) (hTc : T ≤ c2) (hc2 : c2 ≤ maxLen) (W : World) (hT : SlotsLaid W) (HP : Hid (PksAt W A2 T U Z)) (HR : Hid (Reads W W.heap.size 1 A vals.length (valVs vals))) :
    Calls Tryz.prog 3 #[.agg #[.int .i64 t, .int .i64 q, .int .i64 s], .slice A vals.length c, .slice A2 T c2] W (Keeps W) := by
  by_cases hq : q ≤ 64
  · by_cases hT20 : T ≤ 20
    · have no : (∃ m, CheckIs W t q s A vals.length c m false) → (∃ m, XCheckIs W t q s A vals.length c m false) → Calls Tryz.prog 3 #[.agg #[.int .i64 t, .int .i64 q, .int .i64 s], .slice A vals.length c, .slice A2 T c2] W (Keeps W) := by
        rintro ⟨m, h1⟩ ⟨m', h2⟩
        exact PocketFits_main t q s A vals.length c A2 T c2 U Z hq hT20 hTc hc2 false W hT HP (hidp (fun w hb => pkFits_no t q s A _ c m A2 T c2 w (h1.grown hb))) (hidp (fun _ w hb => rFits_unsound t q s A _ c m' A2 T c2 w (h2.grown hb)))
      by_cases h : lC t q s ≠ 0 ∧ (vals.length : Int) = lC t q s
      · obtain ⟨H, ad, rfl, rfl, rfl, rfl, hV, HV, hv⟩ := heap13_of W t q s A c vals hnc hcm h32 HR.out h
        obtain ⟨m, b, hto⟩ := H.told_is
        have hX := xCheckIs_yes HV ad W hv hto
        have hC := checkIs_yes HV ad W hv hT hto
        cases b with
        | false => exact no ⟨m, hC⟩ ⟨m, hX⟩
        | true =>
          have ht : H.Tiled := told17 hto 1 (by omega)
          by_cases hTt : T = H.t
          · subst hTt
            have hcon := AuH.parts_contig HV ht
            have hnd : ∀ k : Nat, k < 9 → (pkA H.parts ((sizeN (H.s : Int) (k : Int) : Nat) : Int)).Nodup := fun k _ => pkA_nodup hcon _
            obtain ⟨bb, hbb⟩ : ∃ bb : Bool, bb = true ↔ FitsP H.parts (fun k => ((sizeN (H.s : Int) ((k : Nat) : Int) : Nat) : Int)) H.t Z := by
              by_cases hx : FitsP H.parts (fun k => ((sizeN (H.s : Int) ((k : Nat) : Int) : Nat) : Int)) H.t Z
              · exact ⟨true, ⟨fun _ => hx, fun _ => rfl⟩⟩
              · exact ⟨false, ⟨(fun h => by cases h), fun h => absurd h hx⟩⟩
            refine PocketFits_main H.t H.p H.s (some ad) vals.length c A2 H.t c2 U Z hq hT20 hTc hc2 bb W hT HP
              (hidp (fun w hb => pkFits_heap HV ht ad m A2 c2 U Z hTc hc2 _ (fun _ _ => rfl) _ hbb w (hv.below hb) (hT.below hb) (hC.grown hb) (HP.out.below hb)))
              (hidp (fun hf w hb => rFits_heap HV ad m A2 c2 U Z (fun t k h1 h2 => Nat.le_trans (hf t h1 k h2) (by omega)) hTc hc2 _ (fun _ _ => rfl) hnd _ hbb w (hv.below hb) (hX.grown hb) (HP.out.below hb)))
          · have hne : (T : Int) ≠ (H.t : Int) := by omega
            refine PocketFits_main H.t H.p H.s (some ad) vals.length c A2 T c2 U Z hq hT20 hTc hc2 false W hT HP
              (hidp (fun w hb => pkFits_other HV ht ad m A2 T c2 hne w (hv.below hb) (hT.below hb) (hC.grown hb)))
              (hidp (fun hf w hb => rFits_other (H.t : Int) (H.p : Int) (H.s : Int) (some ad) _ c m A2 T c2 hne w (hX.grown hb)))
      · exact no ⟨1, checkIs_no W t q s A vals.length c hnc hcm h⟩ ⟨1, xCheckIs_no W t q s A vals.length c hnc hcm h⟩
    · exact PocketFits_many t q s A _ c A2 T c2 hq (by omega) W hT
  · exact PocketFits_few t q s A _ c A2 T c2 (by omega) W hT
end
end Go.Proofs.YtkbjckhbllmclaaGreatDoor

namespace Go.Proofs.YtkbjckhbllmclaaGreatDoor
open Go.ChangeShapes Go.WideShapes Go.ChangeAt Go.RowKit
set_option linter.unusedVariables false
set_option linter.unusedSimpArgs false
section
set_option maxRecDepth 100000 in
theorem open_conf {H : Type} {enc : TypeId × Value → H} {W : World} {b base : Nat} {sp : Nat → Bool} {held : Bool} {v : Value} {d : DataW H} {p : List MemPlace}
    (hv : Value.okWide Tryz.prog W .any b 23 v) (h : DataW.Trod enc Tryz.prog W base sp held 23 v d p) :
    ∃ (t q s : Int), v = .agg #[.int .i64 t, .int .i64 q, .int .i64 s] := by
  obtain ⟨v0, v1, v2, y0, y1, y2, m, rfl, rfl, rfl, h0, h1, h2⟩ := Joins.open_agg3 Tryz.underlying23 (by kernel_rfl) (by kernel_rfl) hv h
  obtain ⟨a, e0, _, w0⟩ := DataW.trod_int Tryz.underlying3 h0
  obtain ⟨c, e1, _, w1⟩ := DataW.trod_int Tryz.underlying3 h1
  obtain ⟨k, e2, _, w2⟩ := DataW.trod_int Tryz.underlying3 h2
  simp at e0 e1 e2
  subst e0 e1 e2
  exact ⟨a, c, k, rfl⟩
end
end Go.Proofs.YtkbjckhbllmclaaGreatDoor

namespace Go.Proofs.YtkbjckhbllmclaaGreatDoor
open Go.ChangeShapes Go.WideShapes Go.ChangeAt Go.RowKit
set_option linter.unusedVariables false
section
section
variable {H : Type} {enc : TypeId × Value → H}
theorem law_lifted_laid {C : Checked} {os : Os} {f : FuncId} {fn : Func} {s : ChangeSpec} {tb : TypeId} {laid : List (String × DataW Unit)}
    (own : ownKnob C.prog.godebug = none) (started : os.Started) (noInit : C.prog.inits.idxOf? f = none) (hfn : C.prog.funcs[f]? = some fn)
    (witness : ∃ (w : World) (tape : Tape) (i : Input), w.os = os ∧ (w.forCall tape i).Shaped C.prog ∧ i.vars = [] ∧ Input.okWide C.prog (w.forCall tape i) .any w.heap.size f i ∧
      ((s.pre enc C.prog fn [] false (w.forCall tape i).memory i.args ∧ laidMetH C.prog laid (w.forCall tape i).memory) ∧ sizedMet enc C.prog fn (OpenSpec.ofChange s) false (w.forCall tape i).memory i.args) ∧
      ({} : Assume).holds C.prog (lone (Frame.enter C.prog f i.args .normal) [] (w.forCall tape i)))
    (hl : laidOutB C.prog = true) (hp : (fn.params.toList.all fun t => C.prog.readableRec t && decide (t < C.prog.types.size)) = true) (hv : s.vars = []) (hr : fn.resultTypes = #[tb]) (htb : C.prog.underlying tb = some .bool)
    (hs : ∀ ds : List (DataW H), ds.length = fn.params.size → s.fn H ds = ⟨[.lit (.bool true)], ds, []⟩)
    (walk : ∀ (W : World) (base : Nat) (args : Array Value) (ds : List (DataW H)) (ps : List MemPlace), laidMetH C.prog laid W → Given enc C.prog fn W base args ds ps → Calls C.prog f args W (Keeps W)) :
    ReturnsInHanded {} C os f .any (fun w args => (s.pre enc C.prog fn [] false w args ∧ laidMetH C.prog laid w) ∧ sizedMet enc C.prog fn (OpenSpec.ofChange s) false w args) (s.post enc C.prog fn false true false false) := by
  refine returnsInHanded_of_change_and (C := C) (X := fun w _ => laidMetH C.prog laid w) (fun _ _ _ hh h => h.of_heap hh) own started noInit hfn witness ?_
  intro W base args ds gs before hval hW _ hsz hL _
  have hW0 := hW
  obtain ⟨p, q, hA, hV, rfl, hz, hn⟩ := hW0
  rw [hv] at hV
  obtain ⟨rfl, rfl⟩ := trodVars_none hV
  have hvt : s.plain.varTypes C.prog = [] := by
    simp [ChangeSpec.plain, DataSpec.varTypes, hv]
  rw [hvt, List.append_nil, List.append_nil] at hsz
  have hp' : ∀ t ∈ fn.params.toList, C.prog.readableRec t = true ∧ t < C.prog.types.size := fun t ht => by
    have := List.all_eq_true.1 hp t ht
    simpa using this
  refine (walk W base args ds p hL ⟨hval, hA, fun x hx => hW.lt x (List.mem_append_left _ hx), hsz⟩).mono ?_
  rintro e W' ⟨rfl, hb⟩
  exact ⟨_, rfl, law_post hl hp' hv hr htb hs hW hb⟩
end

theorem card_of {p : Pinned} {s : OpenSpec} {c : OpenClaim} {kinds : List LaidKind} {tests : Bool} {har : Bool × String} {lk : Bool} (f : FuncId) (fn : Func)
    (hc : c.holds p s) (hw : c.wfByText s = true) (htie : c.laidByTextAt .later p kinds tests) (hst : c.start = .entering) (hnb : c.noBlocks = false ∧ c.again = false)
    (hm : p.checked.prog.mainIs = some (har.1, har.2.toList)) (hn : (!har.1 && har.2.isEmpty && !lk) = false) (hname : p.checked.prog.funcNamed c.func = some f) (hfn : p.checked.prog.funcs[f]? = some fn)
    (hlk : lk = p.checked.prog.looks []) (hps : (fn.params.toList.all fun t => !p.checked.prog.wantsStandIn t) = true) (hg : false = c.goesBy p.checked.prog) :
    Claim7.holds p (.plain s) { stood := { row := c, standIns := [], harness := har, looks := lk }, kinds := [], alts := [], laidByText := true, laidKinds := kinds, laidTests := tests, laidLooks := .later } :=
  Claim7.holds_tied_plain_at .later [] kinds tests har lk hc (fun _ h => by cases h) hw (fun _ h => by cases h) htie hst hnb hm hn
    (fun f' fn' hf' hfn' => by
      obtain rfl := Option.some.inj (hname.symm.trans hf')
      obtain rfl := Option.some.inj (hfn.symm.trans hfn')
      refine ⟨hlk, fun j t ht => ?_⟩
      have := List.all_eq_true.1 hps t (by simpa using Array.mem_of_getElem? ht)
      simpa using this)
    hg

theorem tab_of_laid {P : Program} {W : World} {laid : List (String × DataW Unit)} {name : String} {k : IntKind} {zs : List Int} {g : Nat} {t e : TypeId} {n : Nat}
    (h : laidMetH P laid W) (hf : (laid.filter fun x => x.1 == name) = [(name, Lib.tabData k zs)])
    (hg : P.globalNamed name = some g) (hty : (P.globals[g]?).map (·.type) = some t) (ht : P.underlying t = some (.array n e)) (he : P.underlying e = some (.int k)) (hce : P.cellsOf e = 1) (hct : P.cellsOf t = n) :
    ∀ i, i < zs.length → W.cell? ⟨g, i, none⟩ = some (.int k (zs.getD i 0)) := by
  have h1 := h.filter (fun x => x.1 == name)
  rw [hf, MakeChecks.laidMetH_plain _ _ _ (by rfl)] at h1
  exact fun i hi => (Lib.tabIs_of_head hg hty ht he hce hct h1).cell hg i hi
end
section
theorem slots17_laid {W : World} {laid : List (String × DataW Unit)} (h : laidMetH Tryz.prog laid W)
    (hf : (laid.filter fun x => x.1 == "nacre/class.slots") = [("nacre/class.slots", Lib.tabData .i64 [32, 21, 16, 10, 8, 5, 4, 3, 2])]) : SlotsLaid W := by
  have h1 := tab_of_laid h hf (g := 0) (t := 71) (e := 3) (n := 9) (by kernel_rfl) (by kernel_rfl) Tryz.underlying71 Tryz.underlying3 (by kernel_rfl) (by kernel_rfl)
  intro k hk
  rw [h1 k (by simpa using hk)]
  have : ∀ j, j < 9 → ([32, 21, 16, 10, 8, 5, 4, 3, 2] : List Int).getD j 0 = ((slotN j : Nat) : Int) := by decide
  rw [this k hk]
end
end Go.Proofs.YtkbjckhbllmclaaGreatDoor
