/-
  Proved: LargeKeeps answers true at every input, never panics, and changes nothing that was there. Conditions: none beyond those of the given statement.
-/
import Derived.Test.YtgifnhcknodekaaGreatBLargeKeeps
import Derived.Test.YtgifnhcknodekaaGreatB16
set_option linter.unusedVariables false
set_option linter.unusedSimpArgs false
set_option maxRecDepth 100000
set_option maxHeartbeats 25600000
namespace Go.Proofs.YtgifnhcknodekaaGreat
open Go.ChangeShapes Go.WideShapes Go.ChangeAt Go.RowKit
section
theorem qFO {H:Type}{enc:TypeId × Value->H}{W:World}{base:Nat}{args:Array Value}{ds:List (DataW H)}{ps:List MemPlace}
  (g:Given enc Tryz.prog Tryz.f4 W base args ds ps):Calls Tryz.prog 4 args W (Keeps W):=by
 have hval:=g.ok
 have hA:=g.trod
 rw[Tryz.params4] at hA hval
 obtain⟨v0,vs0,d0,ds0,p0,q0,hargs,rfl,rfl,h0,r0⟩:=trodAll_cons hA
 obtain⟨v1,vs1,d1,ds1,p1,q1,rfl,rfl,rfl,h1,r1⟩:=trodAll_cons r0
 obtain⟨v2,vs2,d2,ds2,p2,q2,rfl,rfl,rfl,h2,r2⟩:=trodAll_cons r1
 obtain⟨rfl,rfl,rfl⟩:=trodAll_nil r2
 obtain rfl:args=#[v0,v1,v2]:=by cases args;simp_all
 obtain⟨t,p,s,rfl⟩:=qFP (hval 0 23 v0 rfl rfl) h0
 obtain⟨A,c,vals,rfl,hc0,hm0,h32_0,hR0⟩:=qV8 Tryz.underlying24 Tryz.underlying57 qr (hval 1 24 v1 rfl rfl) h1 (fun x hx=>g.lt x (List.mem_append_right _ (List.mem_append_left _ hx)))
 obtain⟨nn,rfl,rfl,rfl,w2⟩:=open_int Tryz.underlying3 (hval 2 3 v2 rfl rfl) h2
 have b2:=qO1 w2
 exact qCj t p s nn A c vals hc0 hm0 h32_0 W (qh hR0)

theorem qLE (os:Os)(started:os.Started)(H:Type)(enc:TypeId × Value->H) :
  ReturnsInHanded {} Tryz.checked os 4 .any (Rows.largeKeepsSpec.pre6 enc Tryz.prog Tryz.f4 Rows.largeKeepsRow.domain false) (Rows.largeKeepsSpec.post enc Tryz.prog Tryz.f4 false true false false) :=
 qFn (C := Tryz.checked) (tb := 4) qr started qr Tryz.func4
  (ChangeSpec.witness6 (enc:=enc) (C := Tryz.checked) false ⟨#[],#[.agg #[.int .i64 0,.int .i64 0,.int .i64 0],.slice none 0 0,.int .i64 0],[]⟩ 8 qr qr qr qr)
  qr qr rfl qr Tryz.underlying4
  (fun ds h=>by
   have h':ds.length=3:=h
   match ds,h' with
   | [_,_,_],_=>rfl)
  (fun W base args ds ps g=>qFO g)

theorem LargeKeeps_holds:Rows.LargeKeepsSaid :=
 OpenClaim.holds_of_wide 4 Tryz.f4 rfl rfl rfl rfl rfl rfl rfl ⟨rfl,rfl,rfl,rfl,rfl⟩ rfl rfl rfl rfl rfl qr Tryz.func4 qr
  (of_decide_eq_true qr) (by unfold Func.isWrapper;first|(rw[if_pos (by decide +kernel)];kernel_rfl)|(rw[if_neg (by decide +kernel)];exact⟨rfl,rfl⟩))
  (fun os started H enc _=>qLE os started H enc)
end
end Go.Proofs.YtgifnhcknodekaaGreat
