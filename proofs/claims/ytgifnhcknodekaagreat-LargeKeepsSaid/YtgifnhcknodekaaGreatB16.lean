/-
  How a configuration that came in is opened.
-/
import Derived.Test.YtgifnhcknodekaaGreatBKit
import Derived.Lib.SmallJoins
set_option linter.unusedVariables false
set_option linter.unusedSimpArgs false
set_option maxRecDepth 100000
set_option maxHeartbeats 25600000
namespace Go.Proofs.YtgifnhcknodekaaGreat
open Go.ChangeShapes Go.WideShapes Go.ChangeAt Go.RowKit
section
theorem qFP {H:Type}{enc:TypeId × Value->H}{W:World}{b base:Nat}{sp:Nat->Bool}{held:Bool}{v:Value}{d:DataW H}{p:List MemPlace}
  (hv:Value.okWide Tryz.prog W .any b 23 v) (h:DataW.Trod enc Tryz.prog W base sp held 23 v d p) :
  ∃ (t q s:Int),v = .agg #[.int .i64 t,.int .i64 q,.int .i64 s]:=by
 obtain⟨v0,v1,v2,y0,y1,y2,m,rfl,rfl,rfl,h0,h1,h2⟩:=Joins.open_agg3 Tryz.underlying23 qr qr hv h
 obtain⟨a,e0,_,w0⟩:=DataW.trod_int Tryz.underlying3 h0
 obtain⟨c,e1,_,w1⟩:=DataW.trod_int Tryz.underlying3 h1
 obtain⟨k,e2,_,w2⟩:=DataW.trod_int Tryz.underlying3 h2
 simp at e0 e1 e2
 subst e0 e1 e2
 exact⟨a,c,k,rfl⟩
end
end Go.Proofs.YtgifnhcknodekaaGreat
