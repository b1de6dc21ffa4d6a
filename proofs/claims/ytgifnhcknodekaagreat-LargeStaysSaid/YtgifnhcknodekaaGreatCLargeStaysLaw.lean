/-
  Proved: LargeStays answers true at every input, never panics, and changes nothing that was there. Conditions: none beyond those of the given statement.
-/
import Derived.Test.YtgifnhcknodekaaGreatCLargeStays
import Derived.Test.YtgifnhcknodekaaGreatC16
set_option linter.unusedVariables false
set_option linter.unusedSimpArgs false
set_option maxRecDepth 100000
set_option maxHeartbeats 25600000
namespace Go.Proofs.YtgifnhcknodekaaGreat
open Go.ChangeShapes Go.WideShapes Go.ChangeAt Go.RowKit
section
theorem qOI {H:Type}{enc:TypeId × Value->H}{W:World}{base:Nat}{args:Array Value}{ds:List (DataW H)}{ps:List MemPlace}
  (g:Given enc Tryz.prog Tryz.f5 W base args ds ps):Calls Tryz.prog 5 args W (Keeps W):=by
 have hval:=g.ok
 have hA:=g.trod
 rw[Tryz.params5] at hA hval
 obtain⟨v0,vs0,d0,ds0,p0,q0,hargs,rfl,rfl,h0,r0⟩:=trodAll_cons hA
 obtain⟨v1,vs1,d1,ds1,p1,q1,rfl,rfl,rfl,h1,r1⟩:=trodAll_cons r0
 obtain⟨v2,vs2,d2,ds2,p2,q2,rfl,rfl,rfl,h2,r2⟩:=trodAll_cons r1
 obtain⟨rfl,rfl,rfl⟩:=trodAll_nil r2
 obtain rfl:args=#[v0,v1,v2]:=by cases args;simp_all
 obtain⟨t,p,s,rfl⟩:=qFP (hval 0 23 v0 rfl rfl) h0
 obtain⟨A,c,vals,rfl,hc0,hm0,h32_0,hR0⟩:=qV8 Tryz.underlying24 Tryz.underlying57 qr (hval 1 24 v1 rfl rfl) h1 (fun x hx=>g.lt x (List.mem_append_right _ (List.mem_append_left _ hx)))
 obtain⟨x0,x1,rfl,bx0,bx1⟩:=qKB (hval 2 25 v2 rfl rfl) h2
 exact qNn t p s x0 x1 A c vals hc0 hm0 h32_0 W (qh hR0)

theorem qMt (os:Os)(started:os.Started)(H:Type)(enc:TypeId × Value->H) :
  ReturnsInHanded {} Tryz.checked os 5 .any (Rows.largeStaysSpec.pre6 enc Tryz.prog Tryz.f5 Rows.largeStaysRow.domain false) (Rows.largeStaysSpec.post enc Tryz.prog Tryz.f5 false true false false) :=
 qFn (C := Tryz.checked) (tb := 4) qr started qr Tryz.func5
  (ChangeSpec.witness6 (enc:=enc) (C := Tryz.checked) false ⟨#[],#[.agg #[.int .i64 0,.int .i64 0,.int .i64 0],.slice none 0 0,.agg #[.int .i64 0,.int .i64 0]],[]⟩ 8 qr qr qr qr)
  qr qr rfl qr Tryz.underlying4
  (fun ds h=>by
   have h':ds.length=3:=h
   match ds,h' with
   | [_,_,_],_=>rfl)
  (fun W base args ds ps g=>qOI g)

theorem LargeStays_holds:Rows.LargeStaysSaid :=
 OpenClaim.holds_of_wide 5 Tryz.f5 rfl rfl rfl rfl rfl rfl rfl ⟨rfl,rfl,rfl,rfl,rfl⟩ rfl rfl rfl rfl rfl qr Tryz.func5 qr
  (of_decide_eq_true qr) (by unfold Func.isWrapper;first|(rw[if_pos (by decide +kernel)];kernel_rfl)|(rw[if_neg (by decide +kernel)];exact⟨rfl,rfl⟩))
  (fun os started H enc _=>qMt os started H enc)
end
end Go.Proofs.YtgifnhcknodekaaGreat
