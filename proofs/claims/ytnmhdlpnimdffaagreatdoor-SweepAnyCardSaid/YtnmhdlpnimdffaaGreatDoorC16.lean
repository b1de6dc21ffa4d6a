/-
  How a configuration that came in is opened.
-/
import Derived.Test.YtnmhdlpnimdffaaGreatDoorCKit
import Derived.Lib.SmallJoins
import Derived.Test.YtnmhdlpnimdffaaGreatDoorCLaw
import Derived.Test.YtnmhdlpnimdffaaGreatDoorCards
import Derived.Test.YtnmhdlpnimdffaaGreatDoorTie
import Derived.SevenTiedAt
import Derived.Lay
import Derived.LaidMore
import Derived.LaidHandle
import Derived.Lib.LaidTab
import Derived.Stop.Joined
import Derived.LaidSub
import Derived.MakeChecks
import Derived.Test.YtnmhdlpnimdffaaGreatDoorC03
namespace Go.Proofs.YtnmhdlpnimdffaaGreatDoor
open Go.ChangeShapes Go.WideShapes Go.ChangeAt Go.RowKit
set_option linter.unusedVariables false
set_option linter.unusedSimpArgs false
section
set_option maxRecDepth 100000 in
theorem open_conf {H : Type} {enc : TypeId × Value -> H} {W : World} {b base : Nat} {sp : Nat -> Bool} {held : Bool} {v : Value} {d : DataW H} {p : List MemPlace}
  (hv : Value.okWide Tryz.prog W .any b 23 v) (h : DataW.Trod enc Tryz.prog W base sp held 23 v d p) :
  ∃ (t q s : Int), v = .agg #[.int .i64 t, .int .i64 q, .int .i64 s] := by
 obtain ⟨v0, v1, v2, y0, y1, y2, m, rfl, rfl, rfl, h0, h1, h2⟩ := Joins.open_agg3 Tryz.underlying23 (by kernel_rfl) (by kernel_rfl) hv h
 obtain ⟨a, e0, _, w0⟩ := DataW.trod_int Tryz.underlying3 h0
 obtain ⟨c, e1, _, w1⟩ := DataW.trod_int Tryz.underlying3 h1
 obtain ⟨k, e2, _, w2⟩ := DataW.trod_int Tryz.underlying3 h2
 simp at e0 e1 e2
 subst e0 e1 e2
 exact ⟨a, c, k, rfl⟩
end
end Go.Proofs.YtnmhdlpnimdffaaGreatDoor

namespace Go.Proofs.YtnmhdlpnimdffaaGreatDoor
open Go.ChangeShapes Go.WideShapes Go.ChangeAt Go.RowKit
set_option linter.unusedVariables false
section
section
variable {H : Type} {enc : TypeId × Value -> H}
theorem law_lifted_laid {C : Checked} {os : Os} {f : FuncId} {fn : Func} {s : ChangeSpec} {tb : TypeId} {laid : List (String × DataW Unit)}
  (own : ownKnob C.prog.godebug = none) (started : os.Started) (noInit : C.prog.inits.idxOf? f = none) (hfn : C.prog.funcs[f]? = some fn)
  (witness : ∃ (w : World) (tape : Tape) (i : Input), w.os = os /\ (w.forCall tape i).Shaped C.prog /\ i.vars = [] /\ Input.okWide C.prog (w.forCall tape i) .any w.heap.size f i /\
   ((s.pre enc C.prog fn [] false (w.forCall tape i).memory i.args /\ laidMetH C.prog laid (w.forCall tape i).memory) /\ sizedMet enc C.prog fn (OpenSpec.ofChange s) false (w.forCall tape i).memory i.args) /\
   ({} : Assume).holds C.prog (lone (Frame.enter C.prog f i.args .normal) [] (w.forCall tape i)))
  (hl : laidOutB C.prog = true) (hp : (fn.params.toList.all fun t => C.prog.readableRec t && decide (t < C.prog.types.size)) = true) (hv : s.vars = []) (hr : fn.resultTypes = #[tb]) (htb : C.prog.underlying tb = some .bool)
  (hs : ∀ ds : List (DataW H), ds.length = fn.params.size -> s.fn H ds = ⟨[.lit (.bool true)], ds, []⟩)
  (walk : ∀ (W : World) (base : Nat) (args : Array Value) (ds : List (DataW H)) (ps : List MemPlace), laidMetH C.prog laid W -> Given enc C.prog fn W base args ds ps -> Calls C.prog f args W (Keeps W)) :
  ReturnsInHanded {} C os f .any (fun w args => (s.pre enc C.prog fn [] false w args /\ laidMetH C.prog laid w) /\ sizedMet enc C.prog fn (OpenSpec.ofChange s) false w args) (s.post enc C.prog fn false true false false) := by
 refine returnsInHanded_of_change_and (C := C) (X := fun w _ => laidMetH C.prog laid w) (fun _ _ _ hh h => h.of_heap hh) own started noInit hfn witness ?_
 intro W base args ds gs before hval hW _ hsz hL _
 have hW0 := hW
 obtain ⟨p, q, hA, hV, rfl, hz, hn⟩ := hW0
 rw [hv] at hV
 obtain ⟨rfl, rfl⟩ := trodVars_none hV
 have hvt : s.plain.varTypes C.prog = [] := by
  simp [ChangeSpec.plain, DataSpec.varTypes, hv]
 rw [hvt, List.append_nil, List.append_nil] at hsz
 have hp' : ∀ t ∈ fn.params.toList, C.prog.readableRec t = true /\ t < C.prog.types.size := fun t ht => by
  have := List.all_eq_true.1 hp t ht
  simpa using this
 refine (walk W base args ds p hL ⟨hval, hA, fun x hx => hW.lt x (List.mem_append_left _ hx), hsz⟩).mono ?_
 rintro e W' ⟨rfl, hb⟩
 exact ⟨_, rfl, law_post hl hp' hv hr htb hs hW hb⟩
end

theorem card_of {p : Pinned} {s : OpenSpec} {c : OpenClaim} {kinds : List LaidKind} {tests : Bool} {har : Bool × String} {lk : Bool} (f : FuncId) (fn : Func)
  (hc : c.holds p s) (hw : c.wfByText s = true) (htie : c.laidByTextAt .later p kinds tests) (hst : c.start = .entering) (hnb : c.noBlocks = false /\ c.again = false)
  (hm : p.checked.prog.mainIs = some (har.1, har.2.toList)) (hn : (!har.1 && har.2.isEmpty && !lk) = false) (hname : p.checked.prog.funcNamed c.func = some f) (hfn : p.checked.prog.funcs[f]? = some fn)
  (hlk : lk = p.checked.prog.looks []) (hps : (fn.params.toList.all fun t => !p.checked.prog.wantsStandIn t) = true) (hg : false = c.goesBy p.checked.prog) :
  Claim7.holds p (.plain s) { stood := { row := c, standIns := [], harness := har, looks := lk }, kinds := [], alts := [], laidByText := true, laidKinds := kinds, laidTests := tests, laidLooks := .later } :=
 Claim7.holds_tied_plain_at .later [] kinds tests har lk hc (fun _ h => by cases h) hw (fun _ h => by cases h) htie hst hnb hm hn
  (fun f' fn' hf' hfn' => by
   obtain rfl := Option.some.inj (hname.symm.trans hf')
   obtain rfl := Option.some.inj (hfn.symm.trans hfn')
   refine ⟨hlk, fun j t ht => ?_⟩
   have := List.all_eq_true.1 hps t (by simpa using Array.mem_of_getElem? ht)
   simpa using this)
  hg

theorem tab_of_laid {P : Program} {W : World} {laid : List (String × DataW Unit)} {name : String} {k : IntKind} {zs : List Int} {g : Nat} {t e : TypeId} {n : Nat}
  (h : laidMetH P laid W) (hf : (laid.filter fun x => x.1 == name) = [(name, Lib.tabData k zs)])
  (hg : P.globalNamed name = some g) (hty : (P.globals[g]?).map (·.type) = some t) (ht : P.underlying t = some (.array n e)) (he : P.underlying e = some (.int k)) (hce : P.cellsOf e = 1) (hct : P.cellsOf t = n) :
  ∀ i, i < zs.length -> W.cell? ⟨g, i, none⟩ = some (.int k (zs.getD i 0)) := by
 have h1 := h.filter (fun x => x.1 == name)
 rw [hf, MakeChecks.laidMetH_plain _ _ _ (by rfl)] at h1
 exact fun i hi => (Lib.tabIs_of_head hg hty ht he hce hct h1).cell hg i hi
end
section
theorem slots16_laid {W : World} {laid : List (String × DataW Unit)} (h : laidMetH Tryz.prog laid W)
  (hf : (laid.filter fun x => x.1 == "nacre/class.slots") = [("nacre/class.slots", Lib.tabData .i64 [32, 21, 16, 10, 8, 5, 4, 3, 2])]) : SlotsLaid W := by
 have h1 := tab_of_laid h hf (g := 0) (t := 154) (e := 3) (n := 9) (by kernel_rfl) (by kernel_rfl) Tryz.underlying154 Tryz.underlying3 (by kernel_rfl) (by kernel_rfl)
 intro k hk
 rw [h1 k (by simpa using hk)]
 have : ∀ j, j < 9 -> ([32, 21, 16, 10, 8, 5, 4, 3, 2] : List Int).getD j 0 = ((slotN j : Nat) : Int) := by decide
 rw [this k hk]
end
end Go.Proofs.YtnmhdlpnimdffaaGreatDoor
