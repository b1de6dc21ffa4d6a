/-
  How a configuration that came in is opened.
-/
import Derived.Test.YtgifnhcknodekaaGreatCKit
import Derived.Lib.SmallJoins
import Derived.OpenShut
set_option linter.unusedVariables false
set_option linter.unusedSimpArgs false
set_option maxRecDepth 100000
set_option maxHeartbeats 25600000
namespace Go.Proofs.YtgifnhcknodekaaGreat
open Go.ChangeShapes Go.WideShapes Go.ChangeAt Go.RowKit
section
theorem qFP {H:Type}{enc:TypeId × Value->H}{W:World}{b base:Nat}{sp:Nat->Bool}{held:Bool}{v:Value}{d:DataW H}{p:List MemPlace}
  (hv:Value.okWide Tryz.prog W .any b 23 v) (h:DataW.Trod enc Tryz.prog W base sp held 23 v d p) :
  ∃ (t q s:Int),v = .agg #[.int .i64 t,.int .i64 q,.int .i64 s]:=by
 obtain⟨v0,v1,v2,y0,y1,y2,m,rfl,rfl,rfl,h0,h1,h2⟩:=Joins.open_agg3 Tryz.underlying23 qr qr hv h
 obtain⟨a,e0,_,w0⟩:=DataW.trod_int Tryz.underlying3 h0
 obtain⟨c,e1,_,w1⟩:=DataW.trod_int Tryz.underlying3 h1
 obtain⟨k,e2,_,w2⟩:=DataW.trod_int Tryz.underlying3 h2
 simp at e0 e1 e2
 subst e0 e1 e2
 exact⟨a,c,k,rfl⟩
end
section
theorem qKB {H:Type}{enc:TypeId × Value->H}{W:World}{b base:Nat}{sp:Nat->Bool}{held:Bool}{v:Value}{d:DataW H}{p:List MemPlace}
  (hv:Value.okWide Tryz.prog W .any b 25 v) (h:DataW.Trod enc Tryz.prog W base sp held 25 v d p) :
  ∃ (x y:Int),v = .agg #[.int .i64 x,.int .i64 y]/\(-9223372036854775808<=x/\x<=9223372036854775807)/\(-9223372036854775808<=y/\y<=9223372036854775807):=by
 have hu : Tryz.prog.underlying 25 = some (.array 2 3):=by kernel_rfl
 have hC : Tryz.prog.cellsOf 25 = 2:=by kernel_rfl
 have hc : Tryz.prog.cellsOf 3 = 1:=by kernel_rfl
 simp only[Value.okWide,hu] at hv
 obtain⟨cs,rfl,h2,_⟩:=hv
 rw[hC] at h2
 obtain⟨c0,c1,rfl⟩:∃ c0 c1,cs=#[c0,c1]:=by
  rcases cs with ⟨l⟩
  match l,h2 with
  | [c0,c1],_=>exact⟨c0,c1,rfl⟩
 obtain⟨fuel,hf⟩:=h
 obtain⟨xs,m,_,_,_,hl,hi⟩:=DataW.trod_array hu hf
 have h0:=hi 0 qo
 have h1:=hi 1 qo
 rw[hc] at h0 h1
 obtain⟨y0,e0⟩:∃ y,xs[0]?=some y:=⟨_,List.getElem?_eq_getElem qo⟩
 obtain⟨y1,e1⟩:∃ y,xs[1]?=some y:=⟨_,List.getElem?_eq_getElem qo⟩
 rw[e0] at h0
 rw[e1] at h1
 obtain⟨a,f0,_,w0⟩:=DataW.trod_int Tryz.underlying3 h0
 obtain⟨c,f1,_,w1⟩:=DataW.trod_int Tryz.underlying3 h1
 simp[Value.cells] at f0 f1
 subst f0 f1
 exact⟨a,c,rfl,qO1 w0,qO1 w1⟩
end
end Go.Proofs.YtgifnhcknodekaaGreat
