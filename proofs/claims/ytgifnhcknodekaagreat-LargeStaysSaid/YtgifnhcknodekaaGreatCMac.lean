/- Shorter words. -/
import Derived.OwnWalk
import Derived.Deep.RegionHeld
namespace Go.Proofs.YtgifnhcknodekaaGreat
structure HQ (Q:Prop):Prop where
 o:Q
structure qH (P:Prop):Prop where
 o:P
theorem qh {P:Prop}(h:P):qH P:=⟨h⟩
theorem qr {P:Prop}(h:P:=by kernel_rfl):P:=h
theorem qo {P:Prop}(h:P:=by omega):P:=h
theorem qs {P:Prop}(h:P:=by simp;omega):P:=h
theorem qt {P:Prop}[Decidable P](h:P:=by omega):decide P=true:=decide_eq_true h
theorem qf {P:Prop}[Decidable P](h:¬ P:=by omega):decide P=false:=decide_eq_false h
theorem qk {P R Q:Prop}(j:R)(kq:Q)(h:R->HQ Q->P:=by
 intro j kq
 refine hK.out _ _ ?_ (fun hHeld=>?_)
 ·(try dsimp only)
  exact j
 (try simp only[Act.put,gA,gB,gC,sA,sB,sC])
 revert hHeld
 exact kq.o):P:=h j ⟨kq⟩
end Go.Proofs.YtgifnhcknodekaaGreat
