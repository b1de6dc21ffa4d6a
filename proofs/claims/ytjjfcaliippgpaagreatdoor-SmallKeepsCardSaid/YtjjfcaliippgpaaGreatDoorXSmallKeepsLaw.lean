/-
  Proved: SmallKeeps answers true at every input, never panics, and changes nothing that was there. The listed variable (class.slots) is tied to the text by the given tie. Conditions: none beyond those of the given statement.
-/
import Derived.Test.YtjjfcaliippgpaaGreatDoorXSmallKeeps
import Derived.Test.YtjjfcaliippgpaaGreatDoorX23
import Derived.Test.YtjjfcaliippgpaaGreatDoorX17
set_option linter.unusedVariables false
set_option linter.unusedSimpArgs false
set_option maxRecDepth 100000
set_option maxHeartbeats 25600000
namespace Go.Proofs.YtjjfcaliippgpaaGreatDoor
open Go.ChangeShapes Go.WideShapes Go.ChangeAt Go.RowKit
section
theorem qOa {H:Type}{enc:TypeId × Value->H}{W:World}{base:Nat}{args:Array Value}{ds:List (DataW H)}{ps:List MemPlace}(hL:laidMetH Tryz.prog Rows.smallKeepsRow.laid W)
  (g:Given enc Tryz.prog Tryz.f5 W base args ds ps):Calls Tryz.prog 5 args W (Keeps W):=by
 have hval:=g.ok
 have hA:=g.trod
 rw[Tryz.params5] at hA hval
 obtain⟨v0,vs0,d0,ds0,p0,q0,hargs,rfl,rfl,h0,r0⟩:=trodAll_cons hA
 obtain⟨v1,vs1,d1,ds1,p1,q1,rfl,rfl,rfl,h1,r1⟩:=trodAll_cons r0
 obtain⟨v2,vs2,d2,ds2,p2,q2,rfl,rfl,rfl,h2,r2⟩:=trodAll_cons r1
 obtain⟨rfl,rfl,rfl⟩:=trodAll_nil r2
 obtain rfl:args=#[v0,v1,v2]:=by cases args;simp_all
 obtain⟨t,p,s,rfl⟩:=qFP (hval 0 23 v0 rfl rfl) h0
 obtain⟨A,c,vals,rfl,hc0,hm0,h32_0,hR0⟩:=qV8 Tryz.underlying24 Tryz.underlying76 qr (hval 1 24 v1 rfl rfl) h1 (fun x hx=>g.lt x (List.mem_append_right _ (List.mem_append_left _ hx)))
 obtain⟨A2,T,c2,U,Z,t0,k0,pg,sl,rfl,hTc,hc2,hP,hkb,hpb,hsb⟩:=qBP (hval 2 27 v2 rfl rfl) h2 (fun x hx=>g.lt x (List.mem_append_right _ (List.mem_append_right _ (List.mem_append_left _ hx))))
 have hT:=qBb hL qr
 exact qNb t p s A c vals hc0 hm0 h32_0 A2 T c2 t0 k0 pg sl hkb.1 hkb.2 U Z hTc hc2 W hT (qh hP) (qh hR0)

theorem qC1 (os:Os)(args:Array Value):laidMetH Tryz.prog Rows.smallKeepsRow.laid ((World.laidAll Tryz.prog os Rows.smallKeepsRow.laid).forCall (fun _ _=>0) ⟨#[],args,[]⟩).memory:=by
 rw[MakeChecks.laidMetH_plain _ _ _ qr]
 exact laidMet_laidAll _ qr qr

theorem qZg (os:Os)(started:os.Started)(H:Type)(enc:TypeId × Value->H) :
  ReturnsInHanded {} Tryz.checked os 5 .any (fun w args=>(Rows.smallKeepsSpec.pre enc Tryz.prog Tryz.f5 [] false w args/\laidMetH Tryz.prog Rows.smallKeepsRow.laid w)/\sizedMet enc Tryz.prog Tryz.f5 (OpenSpec.ofChange Rows.smallKeepsSpec) false w args)
   (Rows.smallKeepsSpec.post enc Tryz.prog Tryz.f5 false true false false) :=
 qSt (C := Tryz.checked) (tb := 4) (laid:=Rows.smallKeepsRow.laid) qr started qr Tryz.func5
  (ChangeSpec.witness_shaped (enc:=enc) (C := Tryz.checked) (os:=os) (X:=fun w _=>laidMetH Tryz.prog Rows.smallKeepsRow.laid w) false (World.laidAll Tryz.prog os Rows.smallKeepsRow.laid) #[.agg #[.int .i64 0,.int .i64 0,.int .i64 0],.slice none 0 0,.agg #[.slice none 0 0,.int .i64 0,.int .i64 0,.int .i64 0,.int .i64 0]] 8
   (World.laidAll_os _ _ _) (World.shaped_of_ZipB qr qr) qr qr qr (qC1 os _))
  qr qr rfl qr Tryz.underlying4
  (fun ds h=>by
   have h':ds.length=3:=h
   match ds,h' with
   | [_,_,_],_=>rfl)
  (fun W base args ds ps hL g=>qOa hL g)

theorem SmallKeeps_holds:Rows.SmallKeepsSaid :=
 OpenClaim.holds_of_wide 5 Tryz.f5 rfl rfl rfl rfl rfl rfl rfl ⟨rfl,rfl,rfl,rfl,rfl⟩ rfl rfl rfl rfl rfl qr Tryz.func5 qr
  (of_decide_eq_true qr) (by unfold Func.isWrapper;first|(rw[if_pos (by decide +kernel)];kernel_rfl)|(rw[if_neg (by decide +kernel)];exact⟨rfl,rfl⟩))
  (fun os started H enc _=>qZg os started H enc)

theorem SmallKeepsCard_holds:Rows.SmallKeepsCardSaid :=
 qFY 5 Tryz.f5 SmallKeeps_holds qr smallKeeps_row_tie rfl ⟨rfl,rfl⟩ qr rfl qr Tryz.func5 qr qr qr
end
end Go.Proofs.YtjjfcaliippgpaaGreatDoor
