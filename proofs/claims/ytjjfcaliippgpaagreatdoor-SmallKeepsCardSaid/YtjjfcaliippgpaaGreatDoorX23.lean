/-
  How a configuration that came in is opened.
-/
import Derived.Test.YtjjfcaliippgpaaGreatDoorXKit
import Derived.Lib.SmallJoins
import Derived.Test.YtjjfcaliippgpaaGreatDoorX01
import Derived.Test.YtjjfcaliippgpaaGreatDoorXLaw
import Derived.Test.YtjjfcaliippgpaaGreatDoorCards
import Derived.Test.YtjjfcaliippgpaaGreatDoorTie
import Derived.SevenTiedAt
import Derived.Lay
import Derived.LaidMore
import Derived.LaidHandle
import Derived.Lib.LaidTab
import Derived.Stop.Joined
import Derived.LaidSub
import Derived.MakeChecks
import Derived.Test.YtjjfcaliippgpaaGreatDoorX04
set_option linter.unusedVariables false
set_option linter.unusedSimpArgs false
set_option maxRecDepth 100000
set_option maxHeartbeats 25600000
namespace Go.Proofs.YtjjfcaliippgpaaGreatDoor
open Go.ChangeShapes Go.WideShapes Go.ChangeAt Go.RowKit
section
theorem qFP {H:Type}{enc:TypeId × Value->H}{W:World}{b base:Nat}{sp:Nat->Bool}{held:Bool}{v:Value}{d:DataW H}{p:List MemPlace}
  (hv:Value.okWide Tryz.prog W .any b 23 v) (h:DataW.Trod enc Tryz.prog W base sp held 23 v d p) :
  ∃ (t q s:Int),v = .agg #[.int .i64 t,.int .i64 q,.int .i64 s]:=by
 obtain⟨v0,v1,v2,y0,y1,y2,m,rfl,rfl,rfl,h0,h1,h2⟩:=Joins.open_agg3 Tryz.underlying23 qr qr hv h
 obtain⟨a,e0,_,w0⟩:=DataW.trod_int Tryz.underlying3 h0
 obtain⟨c,e1,_,w1⟩:=DataW.trod_int Tryz.underlying3 h1
 obtain⟨k,e2,_,w2⟩:=DataW.trod_int Tryz.underlying3 h2
 simp at e0 e1 e2
 subst e0 e1 e2
 exact⟨a,c,k,rfl⟩
end
section
section
variable {H : Type} {enc : TypeId × Value -> H} {w : World} {base : Nat} {sp : Nat -> Bool} {held : Bool}
theorem qBp {fuel:Nat}{cs:List Value}{x:DataW H × List MemPlace}(h:DataW.trod enc Tryz.prog w base sp held fuel 25 cs=some x)(hlt:∀ y∈x.2,y.block<w.heap.size) :
  ∃ (A:Option Addr) (T c:Nat) (U:Nat->Nat->Sl) (Z:Nat->Nat->List Int),cs = [.slice A T c]/\T<=c/\c<=maxLen/\PksAt w A T U Z:=by
 have hc : Tryz.prog.cellsOf 36 = 9:=by kernel_rfl
 rcases Go.Deep.open_slice Tryz.underlying25 h with ⟨hcs,_⟩|⟨a,len,cap,m,n,D,Pl,hcs,hb,hl,hm,hmm,hx,hi⟩
 ·exact⟨none,0,0,fun _ _=>⟨none,0,0⟩,fun _ _ => [],hcs,Nat.le_refl _,Nat.zero_le _,fun t ht=>absurd ht (Nat.not_lt_zero _)⟩
 ·have hlm:len<=m:=by rw[hmm];split <;> omega
  have hp:(x.2:List MemPlace)=MemPlace.row a (m*9)++(List.range m).flatMap Pl:=by
   have:=congrArg Prod.snd hx
   rw[hc] at this
   exact this
  have each:∀ t,t<len->∃ q:(Nat->Sl) × (Nat->List Int),∀ k,k<9->w.cell? (a.add (t*9+k))=some (q.1 k).v/\LongsAt w (q.1 k).v (q.2 k):=by
   intro t ht
   obtain⟨cs',h1,h2⟩:=hi t qo
   rw[hc] at h1
   obtain⟨_,hlen,hcell⟩:=World.cells?_some h1
   obtain⟨g1,g2⟩:=qU3 h2 (fun y hy=>hlt y (by
    rw[hp]
    exact List.mem_append_right _ (List.mem_flatMap.2 ⟨t,List.mem_range.2 qo,hy⟩)))
   obtain⟨q,hq⟩:=Go.Deep.choose_lt (α:=Sl × List Int) (p:=fun k q=>cs'[k]?=some q.1.v/\LongsAt w q.1.v q.2) (fun k hk=>by
    obtain⟨u,l,e1,e2⟩:=g2 k hk
    obtain⟨A,c,hu,_⟩:=id e2
    subst hu
    exact⟨(⟨A,l.length,c⟩,l),e1,e2⟩)
   refine⟨(fun k=>(q k).1,fun k=>(q k).2),fun k hk=>⟨?_,(hq k hk).2⟩⟩
   have h4:=hcell k qo
   rw[qUN] at h4
   rw[h4,(hq k hk).1]
  obtain⟨q,hq⟩:=Go.Deep.choose_lt (α:=(Nat->Sl) × (Nat->List Int)) (p:=fun t q=>∀ k,k<9->w.cell? (a.add (t*9+k))=some (q.1 k).v/\LongsAt w (q.1 k).v (q.2 k)) each
  refine⟨some a,len,cap,fun t=>(q t).1,fun t=>(q t).2,hcs,hl,hm,fun t ht=>⟨a,rfl,?_,hq t ht⟩⟩
  have h0:(MemPlace.row a (m*9))[0]'(by simp[MemPlace.row];omega)∈x.2:=by
   rw[hp]
   exact List.mem_append_left _ (List.getElem_mem _)
  have h1:=hlt _ h0
  simpa [MemPlace.row,MemPlace.block] using h1

theorem qBP {r:Reach}{b0:Nat}{v:Value}{d:DataW H}{p:List MemPlace}(hv:Value.okWide Tryz.prog w r b0 27 v)(h:DataW.Trod enc Tryz.prog w base sp held 27 v d p)(hlt:∀ x∈p,x.block<w.heap.size) :
  ∃ (A:Option Addr) (T c:Nat) (U:Nat->Nat->Sl) (Z:Nat->Nat->List Int) (t0 k0 pg sl:Int),v = .agg #[.slice A T c,.int .i64 t0,.int .i64 k0,.int .i64 pg,.int .i64 sl]/\T<=c/\c<=maxLen/\PksAt w A T U Z /\
   (-9223372036854775808<=k0/\k0<=9223372036854775807)/\(-9223372036854775808<=pg/\pg<=9223372036854775807)/\(-9223372036854775808<=sl/\sl<=9223372036854775807):=by
 obtain⟨cs,rfl,hsz⟩:=okWide_struct Tryz.underlying27 hv
 obtain⟨fuel,hf⟩:=h
 obtain⟨xs,n,_,hx,hl,hxl,hfs⟩:=DataW.trod_struct Tryz.underlying27 hf
 have hc : Tryz.prog.cellsOf 27 = 5:=by kernel_rfl
 have s_sl : Tryz.prog.cellsOf 25 = 1:=by kernel_rfl
 have s_int : Tryz.prog.cellsOf 3 = 1:=by kernel_rfl
 obtain⟨l⟩:=cs
 simp[Value.cells] at hl hfs
 rw[hc] at hl
 match l,hl,xs,hxl,hx,hfs with
 | [v0,v1,v2,v3,v4],_,[y0,y1,y2,y3,y4],_,hx,hfs =>
  have g0:=hfs 0 _ rfl
  have g1:=hfs 1 _ rfl
  have g2:=hfs 2 _ rfl
  have g3:=hfs 3 _ rfl
  have g4:=hfs 4 _ rfl
  simp[s_sl,s_int] at g0 g1 g2 g3 g4
  obtain⟨a1,e1,_,w1⟩:=DataW.trod_int Tryz.underlying3 g1
  obtain⟨a2,e2,_,w2⟩:=DataW.trod_int Tryz.underlying3 g2
  obtain⟨a3,e3,_,w3⟩:=DataW.trod_int Tryz.underlying3 g3
  obtain⟨a4,e4,_,w4⟩:=DataW.trod_int Tryz.underlying3 g4
  obtain⟨A,T,c,U,Z,e0,hTc,hcm,hP⟩:=qBp g0 (fun y hy=>hlt y (by
   injection hx with _ hx
   rw[hx]
   exact List.mem_flatMap.2 ⟨y0,by simp,hy⟩))
  simp at e0 e1 e2 e3 e4
  subst e0 e1 e2 e3 e4
  exact⟨A,T,c,U,Z,a1,a2,a3,a4,rfl,hTc,hcm,hP,qO1 w2,qO1 w3,qO1 w4⟩
end
end
section
section
variable {H : Type} {enc : TypeId × Value -> H}
theorem qSt {C:Checked}{os:Os}{f:FuncId}{fn:Func}{s:ChangeSpec}{tb:TypeId}{laid:List (String × DataW Unit)}
  (own:ownKnob C.prog.godebug=none) (started:os.Started) (noInit:C.prog.inits.idxOf? f=none) (hfn:C.prog.funcs[f]?=some fn)
  (witness:∃ (w:World) (tape:Tape) (i:Input),w.os=os/\(w.forCall tape i).Shaped C.prog/\i.vars = []/\Input.okWide C.prog (w.forCall tape i) .any w.heap.size f i /\
   ((s.pre enc C.prog fn [] false (w.forCall tape i).memory i.args/\laidMetH C.prog laid (w.forCall tape i).memory)/\sizedMet enc C.prog fn (OpenSpec.ofChange s) false (w.forCall tape i).memory i.args) /\
   ({}:Assume).holds C.prog (lone (Frame.enter C.prog f i.args .normal) [] (w.forCall tape i)))
  (hl:laidOutB C.prog=true) (hp:(fn.params.toList.all fun t=>C.prog.readableRec t&&decide (t<C.prog.types.size))=true) (hv:s.vars = []) (hr:fn.resultTypes=#[tb]) (htb:C.prog.underlying tb=some .bool)
  (hs:∀ ds:List (DataW H),ds.length=fn.params.size->s.fn H ds=⟨[.lit (.bool true)],ds,[]⟩)
  (walk:∀ (W:World) (base:Nat) (args:Array Value) (ds:List (DataW H)) (ps:List MemPlace),laidMetH C.prog laid W->Given enc C.prog fn W base args ds ps->Calls C.prog f args W (Keeps W)) :
  ReturnsInHanded {} C os f .any (fun w args=>(s.pre enc C.prog fn [] false w args/\laidMetH C.prog laid w)/\sizedMet enc C.prog fn (OpenSpec.ofChange s) false w args) (s.post enc C.prog fn false true false false):=by
 refine returnsInHanded_of_change_and (C:=C) (X:=fun w _=>laidMetH C.prog laid w) (fun _ _ _ hh h=>h.of_heap hh) own started noInit hfn witness ?_
 intro W base args ds gs before hval hW _ hsz hL _
 have hW0:=hW
 obtain⟨p,q,hA,hV,rfl,hz,hn⟩:=hW0
 rw[hv] at hV
 obtain⟨rfl,rfl⟩:=trodVars_none hV
 have hvt:s.plain.varTypes C.prog = []:=by
  simp[ChangeSpec.plain,DataSpec.varTypes,hv]
 rw[hvt,List.append_nil,List.append_nil] at hsz
 have hp':∀ t∈fn.params.toList,C.prog.readableRec t=true/\t<C.prog.types.size:=fun t ht=>by
  have:=List.all_eq_true.1 hp t ht
  simpa using this
 refine(walk W base args ds p hL ⟨hval,hA,fun x hx=>hW.lt x (List.mem_append_left _ hx),hsz⟩).mono ?_
 rintro e W' ⟨rfl,hb⟩
 exact⟨_,rfl,qHE hl hp' hv hr htb hs hW hb⟩
end

theorem qFY {p:Pinned}{s:OpenSpec}{c:OpenClaim}{kinds:List LaidKind}{tests:Bool}{har:Bool × String}{lk:Bool}(f:FuncId)(fn:Func)
  (hc:c.holds p s) (hw:c.wfByText s=true) (htie:c.laidByTextAt .later p kinds tests) (hst:c.start = .entering) (hnb:c.noBlocks=false/\c.again=false)
  (hm:p.checked.prog.mainIs=some (har.1,har.2.toList)) (hn:(!har.1&&har.2.isEmpty && !lk)=false) (hname:p.checked.prog.funcNamed c.func=some f) (hfn:p.checked.prog.funcs[f]?=some fn)
  (hlk:lk=p.checked.prog.looks []) (hps:(fn.params.toList.all fun t => !p.checked.prog.wantsStandIn t)=true) (hg:false=c.goesBy p.checked.prog) :
  Claim7.holds p (.plain s) { stood := { row:=c,standIns := [],harness:=har,looks:=lk },kinds := [],alts := [],laidByText:=true,laidKinds:=kinds,laidTests:=tests,laidLooks := .later } :=
 Claim7.holds_tied_plain_at .later [] kinds tests har lk hc (fun _ h=>by cases h) hw (fun _ h=>by cases h) htie hst hnb hm hn
  (fun f' fn' hf' hfn'=>by
   obtain rfl:=Option.some.inj (hname.symm.trans hf')
   obtain rfl:=Option.some.inj (hfn.symm.trans hfn')
   refine⟨hlk,fun j t ht=>?_⟩
   have:=List.all_eq_true.1 hps t (by simpa using Array.mem_of_getElem? ht)
   simpa using this)
  hg

theorem qYo {P:Program}{W:World}{laid:List (String × DataW Unit)}{name:String}{k:IntKind}{zs:List Int}{g:Nat}{t e:TypeId}{n:Nat}
  (h:laidMetH P laid W) (hf:(laid.filter fun x=>x.1==name) = [(name,Lib.tabData k zs)])
  (hg:P.globalNamed name=some g) (hty:(P.globals[g]?).map (·.type)=some t) (ht:P.underlying t=some (.array n e)) (he:P.underlying e=some (.int k)) (hce:P.cellsOf e=1) (hct:P.cellsOf t=n) :
  ∀ i,i<zs.length->W.cell? ⟨g,i,none⟩=some (.int k (zs.getD i 0)):=by
 have h1:=h.filter (fun x=>x.1==name)
 rw[hf,MakeChecks.laidMetH_plain _ _ _ (by rfl)] at h1
 exact fun i hi=>(Lib.tabIs_of_head hg hty ht he hce hct h1).cell hg i hi
end
section
theorem qBb {W:World}{laid:List (String × DataW Unit)}(h:laidMetH Tryz.prog laid W)
  (hf : (laid.filter fun x => x.1 == "nacre/class.slots") = [("nacre/class.slots", Lib.tabData .i64 [32, 21, 16, 10, 8, 5, 4, 3, 2])]) : SlotsLaid W := by
 have h1:=qYo h hf (g := 0) (t := 182) (e := 3) (n:=9) qr qr Tryz.underlying182 Tryz.underlying3 qr qr
 intro k hk
 rw[h1 k (by simpa using hk)]
 have:∀ j,j<9->([32,21,16,10,8,5,4,3,2]:List Int).getD j 0=((slotN j:Nat):Int):=by decide
 rw[this k hk]
end
end Go.Proofs.YtjjfcaliippgpaaGreatDoor
