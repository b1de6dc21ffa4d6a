/-
  What span's release, and Release, do. Written by span/gen_rel.py.
-/
import Derived.Test.YtgifnhcknodekaaGreatC05
namespace Go.Proofs.YtgifnhcknodekaaGreat
theorem RII {P Q:Prop}(kq:Q)(h:HQ Q->P:=by
 intro kq
 rw[qZC (qDq h0 hf (by rw[hi1];exact h1)) hR (x:=(dropV n K t q s ((f:Int)-1) (getS n K (getS n K st (pageI t q s ((p:Int)-1) 1)) (pageI t q s ((f:Int)-1) 0))+(m:Int))) qo]
 exact kq.o):P:=h ⟨kq⟩
theorem RfG {P Q:Prop}(kq:Q)(h:HQ Q->P:=by
 intro kq
 go_simp
 refine(qNv hn qo ((p:Int)+(m:Int)) ((p:Int)+(m:Int)) v5 W2.o.drew.at_).mono ?_
 rintro e w3 ⟨rfl,h1,h2⟩
 have W3:=qh (W2.o.drew.call h1 h2)
 clear h1 h2
 rw[HDW.o]
 rw[HS2.o] at W3
 revert w3 W3
 exact kq.o):P:=h ⟨kq⟩
theorem Rmw {P Q:Prop}(kq:Q)(h:HQ Q->P:=by
 intro kq
 go_simp
 refine(qNv hn qo ((p:Int)+(m:Int)) ((p:Int)+(m:Int)) v5 W5.o.drew.at_).mono ?_
 rintro e w6 ⟨rfl,h1,h2⟩
 have W6:=qh (W5.o.drew.call h1 h2)
 clear h1 h2
 rw[HDW.o]
 rw[HS2.o] at W6
 revert w6 W6
 exact kq.o):P:=h ⟨kq⟩
theorem Rbh {P Q:Prop}(kq:Q)(h:HQ Q->P:=by
 intro kq
 go_simp
 refine(qNv hn qo ((p:Int)+(m:Int)) ((p:Int)+(m:Int)) v5 W7.o.drew.at_).mono ?_
 rintro e w8 ⟨rfl,h1,h2⟩
 have W8:=qh (W7.o.drew.call h1 h2)
 clear h1 h2
 rw[HDW.o]
 rw[HS2.o] at W8
 revert w8 W8
 exact kq.o):P:=h ⟨kq⟩
theorem MR0 {P:Prop}(h:P:=by
 refine qk ?_ (fun hHeld=>?_)
 ·exact⟨W8.o.h2.four.1,W8.o.h2.four.2.1,W8.o.h2.four.2.2.1,W8.o.h2.four.2.2.2⟩
 clear hK K
 refine tkz 6 ?_
 refine tkz 7 ?_
 refine rdz 8 fun K hK=>?_
 obtain⟨z0,z1⟩:=W8.o.h0.two
 have f0:=W8.o.h0.thawed 0
 have f1:=W8.o.h0.thawed 1
 go_simp
 have W9:=qh (W8.o.put 1 (.int .i64 ((dv+(m:Int))+dw)))
 clear W8 z0 z1 f0 f1
 refine qk ?_ (fun hHeld=>?_)
 ·exact⟨W9.o.h2.four.1,W9.o.h2.four.2.1,W9.o.h2.four.2.2.1,W9.o.h2.four.2.2.2⟩
 clear hK K
 refine dnz ?_
 obtain⟨z0,z1⟩:=W9.o.h0.two
 obtain⟨y0,y1⟩:=W9.o.h1.two
 obtain⟨x0,x1,x2,x3⟩:=W9.o.h2.four
 go_wp2_with fail
 refine(qGD hn qo ((f:Int)-1) ((dv+(m:Int))+dw) W9.o.at_).mono ?_;rintro e w10 ⟨rfl,h1,h2⟩;have W10:=qh (W9.o.call h1 h2);clear h1 h2 W9
 obtain⟨z0,z1⟩:=W10.o.h0.two
 obtain⟨y0,y1⟩:=W10.o.h1.two
 obtain⟨x0,x1,x2,x3⟩:=W10.o.h2.four
 go_wp2_with fail
 refine(qKc hn (m:Int) W10.o.at_).mono ?_;rintro e w11 ⟨rfl,h1,h2⟩;have W11:=qh (W10.o.call h1 h2);clear h1 h2 W10
 obtain⟨z0,z1⟩:=W11.o.h0.two
 obtain⟨y0,y1⟩:=W11.o.h1.two
 obtain⟨x0,x1,x2,x3⟩:=W11.o.h2.four
 go_wp2
 go_end0
 exact⟨rfl,W11.o.fin⟩):P:=h
theorem Mk6 {P:Prop}(h:P:=by
 refine qk ?_ (fun hHeld=>?_)
 ·exact MdP
 clear hK K
 refine tkz 6 ?_
 refine tkz 7 ?_
 refine rdz 8 fun K hK=>?_
 obtain⟨z0,z1⟩:=W3.o.h0.two
 have f0:=W3.o.h0.thawed 0
 have f1:=W3.o.h0.thawed 1
 go_simp
 have W4:=qh (W3.o.put 1 (.int .i64 ((m:Int)+dw)))
 clear W3 z0 z1 f0 f1
 refine qk ?_ (fun hHeld=>?_)
 ·exact Mi2
 clear hK K
 refine dnz ?_
 obtain⟨z0,z1⟩:=W4.o.h0.two
 obtain⟨y0,y1⟩:=W4.o.h1.two
 obtain⟨x0,x1,x2,x3⟩:=W4.o.h2.four
 go_wp2_with fail
 refine(qGD hn qo (p:Int) ((m:Int)+dw) W4.o.at_).mono ?_;rintro e w5 ⟨rfl,h1,h2⟩;have W5:=qh (W4.o.call h1 h2);clear h1 h2 W4
 obtain⟨z0,z1⟩:=W5.o.h0.two
 obtain⟨y0,y1⟩:=W5.o.h1.two
 obtain⟨x0,x1,x2,x3⟩:=W5.o.h2.four
 go_wp2_with fail
 refine(qKc hn (m:Int) W5.o.at_).mono ?_;rintro e w6 ⟨rfl,h1,h2⟩;have W6:=qh (W5.o.call h1 h2);clear h1 h2 W5
 obtain⟨z0,z1⟩:=W6.o.h0.two
 obtain⟨y0,y1⟩:=W6.o.h1.two
 obtain⟨x0,x1,x2,x3⟩:=W6.o.h2.four
 go_wp2
 go_end0
 exact⟨rfl,W6.o.fin⟩):P:=h
theorem M9e {P:Prop}(h:P:=by
 refine qk ?_ (fun hHeld=>?_)
 ·exact⟨W6.o.h2.four.1,W6.o.h2.four.2.1,W6.o.h2.four.2.2.1,W6.o.h2.four.2.2.2⟩
 clear hK K
 refine tkz 6 ?_
 refine tkz 7 ?_
 refine rdz 8 fun K hK=>?_
 obtain⟨z0,z1⟩:=W6.o.h0.two
 have f0:=W6.o.h0.thawed 0
 have f1:=W6.o.h0.thawed 1
 go_simp
 have W7:=qh (W6.o.put 1 (.int .i64 ((m:Int)+dw)))
 clear W6 z0 z1 f0 f1
 refine qk ?_ (fun hHeld=>?_)
 ·exact⟨W7.o.h2.four.1,W7.o.h2.four.2.1,W7.o.h2.four.2.2.1,W7.o.h2.four.2.2.2⟩
 clear hK K
 refine dnz ?_
 obtain⟨z0,z1⟩:=W7.o.h0.two
 obtain⟨y0,y1⟩:=W7.o.h1.two
 obtain⟨x0,x1,x2,x3⟩:=W7.o.h2.four
 go_wp2_with fail
 refine(qGD hn qo (p:Int) ((m:Int)+dw) W7.o.at_).mono ?_;rintro e w8 ⟨rfl,h1,h2⟩;have W8:=qh (W7.o.call h1 h2);clear h1 h2 W7
 obtain⟨z0,z1⟩:=W8.o.h0.two
 obtain⟨y0,y1⟩:=W8.o.h1.two
 obtain⟨x0,x1,x2,x3⟩:=W8.o.h2.four
 go_wp2_with fail
 refine(qKc hn (m:Int) W8.o.at_).mono ?_;rintro e w9 ⟨rfl,h1,h2⟩;have W9:=qh (W8.o.call h1 h2);clear h1 h2 W8
 obtain⟨z0,z1⟩:=W9.o.h0.two
 obtain⟨y0,y1⟩:=W9.o.h1.two
 obtain⟨x0,x1,x2,x3⟩:=W9.o.h2.four
 go_wp2
 go_end0
 exact⟨rfl,W9.o.fin⟩):P:=h
theorem MH7 {P:Prop}(h:P:=by
 (try dsimp only)
 exact⟨W3.o.drew.h2.four.1,W3.o.drew.h2.four.2.1,W3.o.drew.h2.four.2.2.1,W3.o.drew.h2.four.2.2.2,W3.o.drew.h1.two.1,W3.o.drew.h1.two.2⟩):P:=h
theorem MnM {P:Prop}(h:P:=by
 (try dsimp only)
 exact M4J):P:=h
theorem Mue {P:Prop}(h:P:=by
 (try dsimp only)
 exact⟨W0.o.drew.h2.four.1,W0.o.drew.h2.four.2.1,W0.o.drew.h2.four.2.2.1,W0.o.drew.h2.four.2.2.2⟩):P:=h
theorem MJD {P:Prop}(h:P:=by exact⟨W4.o.h2.four.1,W4.o.h2.four.2.1,W4.o.h2.four.2.2.1,W4.o.h2.four.2.2.2,W4.o.h1.two.1,W4.o.h1.two.2⟩):P:=h
theorem MXP {P:Prop}(h:P:=by exact⟨W5.o.h2.four.1,W5.o.h2.four.2.1,W5.o.h2.four.2.2.1,W5.o.h2.four.2.2.2,W5.o.h1.two.1,W5.o.h1.two.2⟩):P:=h
theorem M4J {P:Prop}(h:P:=by exact⟨W2.o.drew.h2.four.1,W2.o.drew.h2.four.2.1,W2.o.drew.h2.four.2.2.1,W2.o.drew.h2.four.2.2.2⟩):P:=h
theorem Mim {P:Prop}(h:P:=by exact⟨W5.o.drew.h2.four.1,W5.o.drew.h2.four.2.1,W5.o.drew.h2.four.2.2.1,W5.o.drew.h2.four.2.2.2⟩):P:=h
theorem Muw {P:Prop}(h:P:=by exact⟨W7.o.drew.h2.four.1,W7.o.drew.h2.four.2.1,W7.o.drew.h2.four.2.2.1,W7.o.drew.h2.four.2.2.2⟩):P:=h
theorem MdP {P:Prop}(h:P:=by exact⟨W3.o.h2.four.1,W3.o.h2.four.2.1,W3.o.h2.four.2.2.1,W3.o.h2.four.2.2.2⟩):P:=h
theorem Mi2 {P:Prop}(h:P:=by exact⟨W4.o.h2.four.1,W4.o.h2.four.2.1,W4.o.h2.four.2.2.1,W4.o.h2.four.2.2.2⟩):P:=h
theorem MBC {P:Prop}(h:P:=by exact⟨W1.o.h2.four.1,W1.o.h2.four.2.1,W1.o.h2.four.2.2.1,W1.o.h2.four.2.2.2⟩):P:=h
theorem MAW {P:Prop}(h:P:=by exact⟨W2.o.h2.four.1,W2.o.h2.four.2.1,W2.o.h2.four.2.2.1,W2.o.h2.four.2.2.2⟩):P:=h
end Go.Proofs.YtgifnhcknodekaaGreat
set_option linter.unusedVariables false
set_option linter.unusedSimpArgs false
set_option maxRecDepth 100000
set_option maxHeartbeats 25600000
namespace Go.Proofs.YtgifnhcknodekaaGreat
open Go.ChangeShapes Go.WideShapes Go.ChangeAt Go.RowKit Go.Maps
section
section
variable {base b n : Nat} {wh all : Bool} {K : Nat -> Option Nat} {st : Vst} {w w0 : World} {A G : Nat -> Prop} {t q s : Int}

theorem qRH (hn:n<2^40)(hq:q<=1024)(p m:Nat)(hp:p<=1024)(hm:m<=1024)(hp0:p=0)(hr:¬ ((p:Int)+(m:Int))<q)(h:(vOb base b n wh K).At w0 A G st w) :
  Calls Tryz.prog 85 #[.agg #[.pointer (some ⟨b,0,none⟩),.int .i64 t,.int .i64 q,.int .i64 s],.agg #[.int .i64 (p:Int),.int .i64 (m:Int)]] w fun e w'=>e = .returned (.tuple #[])/\(vOb base b n wh K).At w0 A G (putS n (getS n K (addS n K t q s (p:Int) (m:Int) st) 0) 0 (qOO (getV n K (addS n K t q s (p:Int) (m:Int) st) 0) (m:Int))) w'/\Stay G w w':=by
 have W0:=qh ((((WL.start h).new 110 #[.pointer (some ⟨b,0,none⟩),.int .i64 t,.int .i64 q,.int .i64 s]).new 111 #[.int .i64 (p:Int),.int .i64 (m:Int)]).new 111 #[.int .i64 (p:Int),.int .i64 (m:Int)])
 simp only[World.size_alloc] at W0
 have t0:decide ((0:Int)<(p:Int))=false:=qf
 have t0n:decide (0<p)=false:=qf
 have v4:IntKind.i64.wrap ((p:Int)+(m:Int))=((p:Int)+(m:Int)):=qIv qo qo
 have t1:decide (((p:Int)+(m:Int))<q)=false:=decide_eq_false hr
 clear h hp0
 go_enter Tryz.func85,Tryz.ntmps85
 obtain⟨z0,z1⟩:=W0.o.h0.two
 obtain⟨y0,y1⟩:=W0.o.h1.two
 obtain⟨x0,x1,x2,x3⟩:=W0.o.h2.four
 go_wp2_with fail
 refine(qLO (p:Int) (m:Int) v4 _).mono ?_;rintro e w1 ⟨rfl,hb⟩;have W1:=qh (W0.o.keep hb);clear hb W0
 obtain⟨z0,z1⟩:=W1.o.h0.two
 obtain⟨y0,y1⟩:=W1.o.h1.two
 obtain⟨x0,x1,x2,x3⟩:=W1.o.h2.four
 go_wp2_with fail
 refine(qGD hn qo (p:Int) (m:Int) W1.o.at_).mono ?_;rintro e w2 ⟨rfl,h1,h2⟩;have W2:=qh (W1.o.call h1 h2);clear h1 h2 W1
 obtain⟨z0,z1⟩:=W2.o.h0.two
 obtain⟨y0,y1⟩:=W2.o.h1.two
 obtain⟨x0,x1,x2,x3⟩:=W2.o.h2.four
 go_wp2_with fail
 refine(qKc hn (m:Int) W2.o.at_).mono ?_;rintro e w3 ⟨rfl,h1,h2⟩;have W3:=qh (W2.o.call h1 h2);clear h1 h2 W2
 obtain⟨z0,z1⟩:=W3.o.h0.two
 obtain⟨y0,y1⟩:=W3.o.h1.two
 obtain⟨x0,x1,x2,x3⟩:=W3.o.h2.four
 go_wp2
 go_end0
 exact⟨rfl,W3.o.fin⟩

theorem qXP (hn:n<2^40)(hq:q<=1024)(p m:Nat)(hp:p<=1024)(hm:m<=1024)(hp0:p=0)(hr:((p:Int)+(m:Int))<q)(k2 l2 c2:Int)(o2:Bool)(hi2:infoOf n K t q s ((p:Int)+(m:Int)) st=(k2,l2,c2,o2))(hk2:k2≠1)(s2:Vst)(hs2:(getS n K st (pageI t q s ((p:Int)+(m:Int)) 0))=s2)(h:(vOb base b n wh K).At w0 A G st w) :
  Calls Tryz.prog 85 #[.agg #[.pointer (some ⟨b,0,none⟩),.int .i64 t,.int .i64 q,.int .i64 s],.agg #[.int .i64 (p:Int),.int .i64 (m:Int)]] w fun e w'=>e = .returned (.tuple #[])/\(vOb base b n wh K).At w0 A G (putS n (getS n K (addS n K t q s (p:Int) (m:Int) s2) 0) 0 (qOO (getV n K (addS n K t q s (p:Int) (m:Int) s2) 0) (m:Int))) w'/\Stay G w w':=by
 have W0:=qh ((((WL.start h).new 110 #[.pointer (some ⟨b,0,none⟩),.int .i64 t,.int .i64 q,.int .i64 s]).new 111 #[.int .i64 (p:Int),.int .i64 (m:Int)]).new 111 #[.int .i64 (p:Int),.int .i64 (m:Int)])
 simp only[World.size_alloc] at W0
 have t0:decide ((0:Int)<(p:Int))=false:=qf
 have t0n:decide (0<p)=false:=qf
 have v4:IntKind.i64.wrap ((p:Int)+(m:Int))=((p:Int)+(m:Int)):=qIv qo qo
 have t1:decide (((p:Int)+(m:Int))<q)=true:=decide_eq_true hr
 have HI2:=qh hi2
 have v5:IntKind.i64.wrap (((p:Int)+(m:Int))-1)=((p:Int)+(m:Int))-1:=qIv qo qo
 have g2:∀ w,(Instr.field 90 (.agg #[.int .i64 k2,.int .i64 l2,.int .i64 c2]) 0).run Tryz.prog w = .ok (.int .i64 k2) w:=fun _=>by kernel_rfl
 have u2:(k2==1)=false:=by simpa using hk2
 have HS2:=qh hs2
 clear h hp0 hi2 hs2
 go_enter Tryz.func85,Tryz.ntmps85
 obtain⟨z0,z1⟩:=W0.o.h0.two
 obtain⟨y0,y1⟩:=W0.o.h1.two
 obtain⟨x0,x1,x2,x3⟩:=W0.o.h2.four
 go_wp2_with fail
 refine(qLO (p:Int) (m:Int) v4 _).mono ?_;rintro e w1 ⟨rfl,hb⟩;have W1:=qh (W0.o.keep hb);clear hb W0
 obtain⟨z0,z1⟩:=W1.o.h0.two
 obtain⟨y0,y1⟩:=W1.o.h1.two
 obtain⟨x0,x1,x2,x3⟩:=W1.o.h2.four
 go_wp2_with fail
 refine(qPp hn ((p:Int)+(m:Int)) k2 l2 c2 o2 HI2.o W1.o.at_).mono ?_;rintro e w2 ⟨rfl,h1,h2⟩;have W2:=qh (W1.o.call h1 h2);clear h1 h2 W1;rw[HS2.o] at W2
 obtain⟨z0,z1⟩:=W2.o.h0.two
 obtain⟨y0,y1⟩:=W2.o.h1.two
 obtain⟨x0,x1,x2,x3⟩:=W2.o.h2.four
 go_wp2_with fail
 refine(qGD hn qo (p:Int) (m:Int) W2.o.at_).mono ?_;rintro e w3 ⟨rfl,h1,h2⟩;have W3:=qh (W2.o.call h1 h2);clear h1 h2 W2
 obtain⟨z0,z1⟩:=W3.o.h0.two
 obtain⟨y0,y1⟩:=W3.o.h1.two
 obtain⟨x0,x1,x2,x3⟩:=W3.o.h2.four
 go_wp2_with fail
 refine(qKc hn (m:Int) W3.o.at_).mono ?_;rintro e w4 ⟨rfl,h1,h2⟩;have W4:=qh (W3.o.call h1 h2);clear h1 h2 W3
 obtain⟨z0,z1⟩:=W4.o.h0.two
 obtain⟨y0,y1⟩:=W4.o.h1.two
 obtain⟨x0,x1,x2,x3⟩:=W4.o.h2.four
 go_wp2
 go_end0
 exact⟨rfl,W4.o.fin⟩

theorem qH7 (hn:n<2^40)(hq:q<=1024)(p m:Nat)(hp:p<=1024)(hm:m<=1024)(hp0:p=0)(hr:((p:Int)+(m:Int))<q)(k2 l2 c2:Int)(o2:Bool)(hi2:infoOf n K t q s ((p:Int)+(m:Int)) st=(k2,l2,c2,o2))(hk2:k2=1)(dw:Int)(hdw:dropV n K t q s ((p:Int)+(m:Int)) (getS n K st (pageI t q s ((p:Int)+(m:Int)) 0))=dw)(he0:0<=dw)(he1:dw<=1024)(s2:Vst)(hs2:putS n (putS n (dropS n K t q s ((p:Int)+(m:Int)) (getS n K st (pageI t q s ((p:Int)+(m:Int)) 0))) (pageI t q s ((p:Int)+(m:Int)) 0) 0) (pageI t q s (((p:Int)+(m:Int))-1) 1) 0=s2)(h:(vOb base b n wh K).At w0 A G st w) :
  Calls Tryz.prog 85 #[.agg #[.pointer (some ⟨b,0,none⟩),.int .i64 t,.int .i64 q,.int .i64 s],.agg #[.int .i64 (p:Int),.int .i64 (m:Int)]] w fun e w'=>e = .returned (.tuple #[])/\(vOb base b n wh K).At w0 A G (putS n (getS n K (addS n K t q s (p:Int) ((m:Int)+dw) s2) 0) 0 (qOO (getV n K (addS n K t q s (p:Int) ((m:Int)+dw) s2) 0) (m:Int))) w'/\Stay G w w':=by
 have W0:=qh ((((WL.start h).new 110 #[.pointer (some ⟨b,0,none⟩),.int .i64 t,.int .i64 q,.int .i64 s]).new 111 #[.int .i64 (p:Int),.int .i64 (m:Int)]).new 111 #[.int .i64 (p:Int),.int .i64 (m:Int)])
 simp only[World.size_alloc] at W0
 have t0:decide ((0:Int)<(p:Int))=false:=qf
 have t0n:decide (0<p)=false:=qf
 have v4:IntKind.i64.wrap ((p:Int)+(m:Int))=((p:Int)+(m:Int)):=qIv qo qo
 have t1:decide (((p:Int)+(m:Int))<q)=true:=decide_eq_true hr
 have HI2:=qh hi2
 have v5:IntKind.i64.wrap (((p:Int)+(m:Int))-1)=((p:Int)+(m:Int))-1:=qIv qo qo
 have g2:∀ w,(Instr.field 90 (.agg #[.int .i64 k2,.int .i64 l2,.int .i64 c2]) 0).run Tryz.prog w = .ok (.int .i64 k2) w:=fun _=>by kernel_rfl
 subst hk2
 have HDW:=qh hdw
 have HS2:=qh hs2
 have v6:IntKind.i64.wrap ((m:Int)+dw)=((m:Int)+dw):=qIv qo qo
 clear h hp0 hi2 hs2 hdw
 go_enter Tryz.func85,Tryz.ntmps85
 obtain⟨z0,z1⟩:=W0.o.h0.two
 obtain⟨y0,y1⟩:=W0.o.h1.two
 obtain⟨x0,x1,x2,x3⟩:=W0.o.h2.four
 go_wp2_with fail
 refine(qLO (p:Int) (m:Int) v4 _).mono ?_;rintro e w1 ⟨rfl,hb⟩;have W1:=qh (W0.o.keep hb);clear hb W0
 obtain⟨z0,z1⟩:=W1.o.h0.two
 obtain⟨y0,y1⟩:=W1.o.h1.two
 obtain⟨x0,x1,x2,x3⟩:=W1.o.h2.four
 go_wp2_with fail
 refine(qPp hn ((p:Int)+(m:Int)) 1 l2 c2 o2 HI2.o W1.o.at_).mono ?_;rintro e w2 ⟨rfl,h1,h2⟩;have W2:=qh (W1.o.call h1 h2);clear h1 h2 W1
 obtain⟨z0,z1⟩:=W2.o.h0.two
 obtain⟨y0,y1⟩:=W2.o.h1.two
 obtain⟨x0,x1,x2,x3⟩:=W2.o.h2.four
 go_wp2_with fail
 refine wp_region_held_drew (S:=(fun w'=>w'.cell? ⟨w.heap.size,0,none⟩=some (.pointer (some ⟨b,0,none⟩))/\w'.cell? ⟨w.heap.size,1,none⟩=some (.int .i64 t)/\w'.cell? ⟨w.heap.size,2,none⟩=some (.int .i64 q)/\w'.cell? ⟨w.heap.size,3,none⟩=some (.int .i64 s))) qr ?_ (fun hHeld=>?_)
 ·exact MnM
 refine tkz 0 ?_
 refine tkz 2 ?_
 refine tkz 3 ?_
 refine tkz 4 ?_
 refine wpAnyH_ready (rs := [1,5]) qr (by simp) ?_
 refine AllReadyH.cons (o:=_) rfl (fun K hK=>?_) (AllReadyH.cons (o:=_) rfl (fun K hK=>?_) AllReadyH.nil)
 ·skip
  obtain⟨z0,z1⟩:=W2.o.drew.h0.two
  go_simp
  refine qk ?_ (fun hHeld=>?_)
  ·exact M4J
  clear hK K
  refine rdz 5 fun K hK=>?_
  refine RfG ?_;clear W2;intro w3 W3
  exact Mk6
 ·skip
  refine RfG ?_;clear W2;intro w3 W3
  refine qk ?_ (fun hHeld=>?_)
  ·exact MdP
  clear hK K
  refine rdz 1 fun K hK=>?_
  obtain⟨z0,z1⟩:=W3.o.h0.two
  go_simp
  exact Mk6

theorem qMG (hn:n<2^40)(hq:q<=1024)(p m:Nat)(hp:p<=1024)(hm:m<=1024)(hp0:p≠0)(f:Nat)(hf:getV n K st (pageI t q s ((p:Int)-1) 1)=f)(k1 l1 c1:Int)(o1:Bool)(hi1:infoOf n K t q s ((f:Int)-1) (getS n K st (pageI t q s ((p:Int)-1) 1))=(k1,l1,c1,o1))(hk1:k1≠1)(s1:Vst)(hs1:(getS n K (getS n K st (pageI t q s ((p:Int)-1) 1)) (pageI t q s ((f:Int)-1) 0))=s1)(hr:¬ ((p:Int)+(m:Int))<q)(h:(vOb base b n wh K).At w0 A G st w) :
  Calls Tryz.prog 85 #[.agg #[.pointer (some ⟨b,0,none⟩),.int .i64 t,.int .i64 q,.int .i64 s],.agg #[.int .i64 (p:Int),.int .i64 (m:Int)]] w fun e w'=>e = .returned (.tuple #[])/\(vOb base b n wh K).At w0 A G (putS n (getS n K (addS n K t q s (p:Int) (m:Int) s1) 0) 0 (qOO (getV n K (addS n K t q s (p:Int) (m:Int) s1) 0) (m:Int))) w'/\Stay G w w':=by
 have W0:=qh ((((WL.start h).new 110 #[.pointer (some ⟨b,0,none⟩),.int .i64 t,.int .i64 q,.int .i64 s]).new 111 #[.int .i64 (p:Int),.int .i64 (m:Int)]).new 111 #[.int .i64 (p:Int),.int .i64 (m:Int)])
 simp only[World.size_alloc] at W0
 have t0:decide ((0:Int)<(p:Int))=true:=qt
 have hf32:f<2^32:=by rw[<- hf];exact qHJ h _
 have HF:=qh hf
 have HI1:=qh hi1
 have v0:IntKind.i64.wrap ((p:Int)-1)=(p:Int)-1:=qIv qo qo
 have v1:IntKind.i64.wrap (f:Int)=(f:Int):=qIv qo qo
 have v2:IntKind.i64.wrap ((f:Int)-1)=(f:Int)-1:=qIv qo qo
 have g1:∀ w,(Instr.field 90 (.agg #[.int .i64 k1,.int .i64 l1,.int .i64 c1]) 0).run Tryz.prog w = .ok (.int .i64 k1) w:=fun _=>by kernel_rfl
 have u1:(k1==1)=false:=by simpa using hk1
 have HS1:=qh hs1
 have v4:IntKind.i64.wrap ((p:Int)+(m:Int))=((p:Int)+(m:Int)):=qIv qo qo
 have t1:decide (((p:Int)+(m:Int))<q)=false:=decide_eq_false hr
 clear h hf hi1 hs1
 go_enter Tryz.func85,Tryz.ntmps85
 obtain⟨z0,z1⟩:=W0.o.h0.two
 obtain⟨y0,y1⟩:=W0.o.h1.two
 obtain⟨x0,x1,x2,x3⟩:=W0.o.h2.four
 go_wp2_with fail
 refine wp_region_held_drew (S:=(fun w'=>w'.cell? ⟨w.heap.size,0,none⟩=some (.pointer (some ⟨b,0,none⟩))/\w'.cell? ⟨w.heap.size,1,none⟩=some (.int .i64 t)/\w'.cell? ⟨w.heap.size,2,none⟩=some (.int .i64 q)/\w'.cell? ⟨w.heap.size,3,none⟩=some (.int .i64 s))) qr ?_ (fun hHeld=>?_)
 ·exact Mue
 refine tkz 0 ?_
 refine tkz 1 ?_
 refine tkz 2 ?_
 refine tkz 3 ?_
 refine tkz 4 ?_
 refine tkz 5 ?_
 refine rdz 6 fun K hK=>?_
 go_simp
 refine(qVL t q s ((p:Int)-1) _).mono ?_;rintro e w1 ⟨rfl,hb⟩;have W1:=qh (W0.o.drew.keep hb);clear hb W0
 refine qk ?_ (fun hHeld=>?_)
 ·exact MBC
 clear hK K
 refine rdz 7 fun K hK=>?_
 go_simp
 refine(vGetA hn _ W1.o.at_).mono ?_;rintro e w2 ⟨rfl,h1,h2⟩;have W2:=qh (W1.o.call h1 h2);clear h1 h2 W1;rw[HF.o]
 refine qk ?_ (fun hHeld=>?_)
 ·exact MAW
 clear hK K
 refine tkz 8 ?_
 refine tkz 9 ?_
 refine tkz 10 ?_
 refine dnz ?_
 obtain⟨z0,z1⟩:=W2.o.h0.two
 obtain⟨y0,y1⟩:=W2.o.h1.two
 obtain⟨x0,x1,x2,x3⟩:=W2.o.h2.four
 go_wp2_with fail
 refine(qPp hn ((f:Int)-1) k1 l1 c1 o1 HI1.o W2.o.at_).mono ?_;rintro e w3 ⟨rfl,h1,h2⟩;have W3:=qh (W2.o.call h1 h2);clear h1 h2 W2;rw[HS1.o] at W3
 obtain⟨z0,z1⟩:=W3.o.h0.two
 obtain⟨y0,y1⟩:=W3.o.h1.two
 obtain⟨x0,x1,x2,x3⟩:=W3.o.h2.four
 go_wp2_with fail
 refine(qLO (p:Int) (m:Int) v4 _).mono ?_;rintro e w4 ⟨rfl,hb⟩;have W4:=qh (W3.o.keep hb);clear hb W3
 obtain⟨z0,z1⟩:=W4.o.h0.two
 obtain⟨y0,y1⟩:=W4.o.h1.two
 obtain⟨x0,x1,x2,x3⟩:=W4.o.h2.four
 go_wp2_with fail
 refine(qGD hn qo (p:Int) (m:Int) W4.o.at_).mono ?_;rintro e w5 ⟨rfl,h1,h2⟩;have W5:=qh (W4.o.call h1 h2);clear h1 h2 W4
 obtain⟨z0,z1⟩:=W5.o.h0.two
 obtain⟨y0,y1⟩:=W5.o.h1.two
 obtain⟨x0,x1,x2,x3⟩:=W5.o.h2.four
 go_wp2_with fail
 refine(qKc hn (m:Int) W5.o.at_).mono ?_;rintro e w6 ⟨rfl,h1,h2⟩;have W6:=qh (W5.o.call h1 h2);clear h1 h2 W5
 obtain⟨z0,z1⟩:=W6.o.h0.two
 obtain⟨y0,y1⟩:=W6.o.h1.two
 obtain⟨x0,x1,x2,x3⟩:=W6.o.h2.four
 go_wp2
 go_end0
 exact⟨rfl,W6.o.fin⟩

theorem qGF (hn:n<2^40)(hq:q<=1024)(p m:Nat)(hp:p<=1024)(hm:m<=1024)(hp0:p≠0)(f:Nat)(hf:getV n K st (pageI t q s ((p:Int)-1) 1)=f)(k1 l1 c1:Int)(o1:Bool)(hi1:infoOf n K t q s ((f:Int)-1) (getS n K st (pageI t q s ((p:Int)-1) 1))=(k1,l1,c1,o1))(hk1:k1≠1)(s1:Vst)(hs1:(getS n K (getS n K st (pageI t q s ((p:Int)-1) 1)) (pageI t q s ((f:Int)-1) 0))=s1)(hr:((p:Int)+(m:Int))<q)(k2 l2 c2:Int)(o2:Bool)(hi2:infoOf n K t q s ((p:Int)+(m:Int)) s1=(k2,l2,c2,o2))(hk2:k2≠1)(s2:Vst)(hs2:(getS n K s1 (pageI t q s ((p:Int)+(m:Int)) 0))=s2)(h:(vOb base b n wh K).At w0 A G st w) :
  Calls Tryz.prog 85 #[.agg #[.pointer (some ⟨b,0,none⟩),.int .i64 t,.int .i64 q,.int .i64 s],.agg #[.int .i64 (p:Int),.int .i64 (m:Int)]] w fun e w'=>e = .returned (.tuple #[])/\(vOb base b n wh K).At w0 A G (putS n (getS n K (addS n K t q s (p:Int) (m:Int) s2) 0) 0 (qOO (getV n K (addS n K t q s (p:Int) (m:Int) s2) 0) (m:Int))) w'/\Stay G w w':=by
 have W0:=qh ((((WL.start h).new 110 #[.pointer (some ⟨b,0,none⟩),.int .i64 t,.int .i64 q,.int .i64 s]).new 111 #[.int .i64 (p:Int),.int .i64 (m:Int)]).new 111 #[.int .i64 (p:Int),.int .i64 (m:Int)])
 simp only[World.size_alloc] at W0
 have t0:decide ((0:Int)<(p:Int))=true:=qt
 have hf32:f<2^32:=by rw[<- hf];exact qHJ h _
 have HF:=qh hf
 have HI1:=qh hi1
 have v0:IntKind.i64.wrap ((p:Int)-1)=(p:Int)-1:=qIv qo qo
 have v1:IntKind.i64.wrap (f:Int)=(f:Int):=qIv qo qo
 have v2:IntKind.i64.wrap ((f:Int)-1)=(f:Int)-1:=qIv qo qo
 have g1:∀ w,(Instr.field 90 (.agg #[.int .i64 k1,.int .i64 l1,.int .i64 c1]) 0).run Tryz.prog w = .ok (.int .i64 k1) w:=fun _=>by kernel_rfl
 have u1:(k1==1)=false:=by simpa using hk1
 have HS1:=qh hs1
 have v4:IntKind.i64.wrap ((p:Int)+(m:Int))=((p:Int)+(m:Int)):=qIv qo qo
 have t1:decide (((p:Int)+(m:Int))<q)=true:=decide_eq_true hr
 have HI2:=qh hi2
 have v5:IntKind.i64.wrap (((p:Int)+(m:Int))-1)=((p:Int)+(m:Int))-1:=qIv qo qo
 have g2:∀ w,(Instr.field 90 (.agg #[.int .i64 k2,.int .i64 l2,.int .i64 c2]) 0).run Tryz.prog w = .ok (.int .i64 k2) w:=fun _=>by kernel_rfl
 have u2:(k2==1)=false:=by simpa using hk2
 have HS2:=qh hs2
 clear h hf hi1 hs1 hi2 hs2
 go_enter Tryz.func85,Tryz.ntmps85
 obtain⟨z0,z1⟩:=W0.o.h0.two
 obtain⟨y0,y1⟩:=W0.o.h1.two
 obtain⟨x0,x1,x2,x3⟩:=W0.o.h2.four
 go_wp2_with fail
 refine wp_region_held_drew (S:=(fun w'=>w'.cell? ⟨w.heap.size,0,none⟩=some (.pointer (some ⟨b,0,none⟩))/\w'.cell? ⟨w.heap.size,1,none⟩=some (.int .i64 t)/\w'.cell? ⟨w.heap.size,2,none⟩=some (.int .i64 q)/\w'.cell? ⟨w.heap.size,3,none⟩=some (.int .i64 s))) qr ?_ (fun hHeld=>?_)
 ·exact Mue
 refine tkz 0 ?_
 refine tkz 1 ?_
 refine tkz 2 ?_
 refine tkz 3 ?_
 refine tkz 4 ?_
 refine tkz 5 ?_
 refine rdz 6 fun K hK=>?_
 go_simp
 refine(qVL t q s ((p:Int)-1) _).mono ?_;rintro e w1 ⟨rfl,hb⟩;have W1:=qh (W0.o.drew.keep hb);clear hb W0
 refine qk ?_ (fun hHeld=>?_)
 ·exact MBC
 clear hK K
 refine rdz 7 fun K hK=>?_
 go_simp
 refine(vGetA hn _ W1.o.at_).mono ?_;rintro e w2 ⟨rfl,h1,h2⟩;have W2:=qh (W1.o.call h1 h2);clear h1 h2 W1;rw[HF.o]
 refine qk ?_ (fun hHeld=>?_)
 ·exact MAW
 clear hK K
 refine tkz 8 ?_
 refine tkz 9 ?_
 refine tkz 10 ?_
 refine dnz ?_
 obtain⟨z0,z1⟩:=W2.o.h0.two
 obtain⟨y0,y1⟩:=W2.o.h1.two
 obtain⟨x0,x1,x2,x3⟩:=W2.o.h2.four
 go_wp2_with fail
 refine(qPp hn ((f:Int)-1) k1 l1 c1 o1 HI1.o W2.o.at_).mono ?_;rintro e w3 ⟨rfl,h1,h2⟩;have W3:=qh (W2.o.call h1 h2);clear h1 h2 W2;rw[HS1.o] at W3
 obtain⟨z0,z1⟩:=W3.o.h0.two
 obtain⟨y0,y1⟩:=W3.o.h1.two
 obtain⟨x0,x1,x2,x3⟩:=W3.o.h2.four
 go_wp2_with fail
 refine(qLO (p:Int) (m:Int) v4 _).mono ?_;rintro e w4 ⟨rfl,hb⟩;have W4:=qh (W3.o.keep hb);clear hb W3
 obtain⟨z0,z1⟩:=W4.o.h0.two
 obtain⟨y0,y1⟩:=W4.o.h1.two
 obtain⟨x0,x1,x2,x3⟩:=W4.o.h2.four
 go_wp2_with fail
 refine(qPp hn ((p:Int)+(m:Int)) k2 l2 c2 o2 HI2.o W4.o.at_).mono ?_;rintro e w5 ⟨rfl,h1,h2⟩;have W5:=qh (W4.o.call h1 h2);clear h1 h2 W4;rw[HS2.o] at W5
 obtain⟨z0,z1⟩:=W5.o.h0.two
 obtain⟨y0,y1⟩:=W5.o.h1.two
 obtain⟨x0,x1,x2,x3⟩:=W5.o.h2.four
 go_wp2_with fail
 refine(qGD hn qo (p:Int) (m:Int) W5.o.at_).mono ?_;rintro e w6 ⟨rfl,h1,h2⟩;have W6:=qh (W5.o.call h1 h2);clear h1 h2 W5
 obtain⟨z0,z1⟩:=W6.o.h0.two
 obtain⟨y0,y1⟩:=W6.o.h1.two
 obtain⟨x0,x1,x2,x3⟩:=W6.o.h2.four
 go_wp2_with fail
 refine(qKc hn (m:Int) W6.o.at_).mono ?_;rintro e w7 ⟨rfl,h1,h2⟩;have W7:=qh (W6.o.call h1 h2);clear h1 h2 W6
 obtain⟨z0,z1⟩:=W7.o.h0.two
 obtain⟨y0,y1⟩:=W7.o.h1.two
 obtain⟨x0,x1,x2,x3⟩:=W7.o.h2.four
 go_wp2
 go_end0
 exact⟨rfl,W7.o.fin⟩

theorem qB9 (hn:n<2^40)(hq:q<=1024)(p m:Nat)(hp:p<=1024)(hm:m<=1024)(hp0:p≠0)(f:Nat)(hf:getV n K st (pageI t q s ((p:Int)-1) 1)=f)(k1 l1 c1:Int)(o1:Bool)(hi1:infoOf n K t q s ((f:Int)-1) (getS n K st (pageI t q s ((p:Int)-1) 1))=(k1,l1,c1,o1))(hk1:k1≠1)(s1:Vst)(hs1:(getS n K (getS n K st (pageI t q s ((p:Int)-1) 1)) (pageI t q s ((f:Int)-1) 0))=s1)(hr:((p:Int)+(m:Int))<q)(k2 l2 c2:Int)(o2:Bool)(hi2:infoOf n K t q s ((p:Int)+(m:Int)) s1=(k2,l2,c2,o2))(hk2:k2=1)(dw:Int)(hdw:dropV n K t q s ((p:Int)+(m:Int)) (getS n K s1 (pageI t q s ((p:Int)+(m:Int)) 0))=dw)(he0:0<=dw)(he1:dw<=1024)(s2:Vst)(hs2:putS n (putS n (dropS n K t q s ((p:Int)+(m:Int)) (getS n K s1 (pageI t q s ((p:Int)+(m:Int)) 0))) (pageI t q s ((p:Int)+(m:Int)) 0) 0) (pageI t q s (((p:Int)+(m:Int))-1) 1) 0=s2)(h:(vOb base b n wh K).At w0 A G st w) :
  Calls Tryz.prog 85 #[.agg #[.pointer (some ⟨b,0,none⟩),.int .i64 t,.int .i64 q,.int .i64 s],.agg #[.int .i64 (p:Int),.int .i64 (m:Int)]] w fun e w'=>e = .returned (.tuple #[])/\(vOb base b n wh K).At w0 A G (putS n (getS n K (addS n K t q s (p:Int) ((m:Int)+dw) s2) 0) 0 (qOO (getV n K (addS n K t q s (p:Int) ((m:Int)+dw) s2) 0) (m:Int))) w'/\Stay G w w':=by
 have W0:=qh ((((WL.start h).new 110 #[.pointer (some ⟨b,0,none⟩),.int .i64 t,.int .i64 q,.int .i64 s]).new 111 #[.int .i64 (p:Int),.int .i64 (m:Int)]).new 111 #[.int .i64 (p:Int),.int .i64 (m:Int)])
 simp only[World.size_alloc] at W0
 have t0:decide ((0:Int)<(p:Int))=true:=qt
 have hf32:f<2^32:=by rw[<- hf];exact qHJ h _
 have HF:=qh hf
 have HI1:=qh hi1
 have v0:IntKind.i64.wrap ((p:Int)-1)=(p:Int)-1:=qIv qo qo
 have v1:IntKind.i64.wrap (f:Int)=(f:Int):=qIv qo qo
 have v2:IntKind.i64.wrap ((f:Int)-1)=(f:Int)-1:=qIv qo qo
 have g1:∀ w,(Instr.field 90 (.agg #[.int .i64 k1,.int .i64 l1,.int .i64 c1]) 0).run Tryz.prog w = .ok (.int .i64 k1) w:=fun _=>by kernel_rfl
 have u1:(k1==1)=false:=by simpa using hk1
 have HS1:=qh hs1
 have v4:IntKind.i64.wrap ((p:Int)+(m:Int))=((p:Int)+(m:Int)):=qIv qo qo
 have t1:decide (((p:Int)+(m:Int))<q)=true:=decide_eq_true hr
 have HI2:=qh hi2
 have v5:IntKind.i64.wrap (((p:Int)+(m:Int))-1)=((p:Int)+(m:Int))-1:=qIv qo qo
 have g2:∀ w,(Instr.field 90 (.agg #[.int .i64 k2,.int .i64 l2,.int .i64 c2]) 0).run Tryz.prog w = .ok (.int .i64 k2) w:=fun _=>by kernel_rfl
 subst hk2
 have HDW:=qh hdw
 have HS2:=qh hs2
 have v6:IntKind.i64.wrap ((m:Int)+dw)=((m:Int)+dw):=qIv qo qo
 clear h hf hi1 hs1 hi2 hs2 hdw
 go_enter Tryz.func85,Tryz.ntmps85
 obtain⟨z0,z1⟩:=W0.o.h0.two
 obtain⟨y0,y1⟩:=W0.o.h1.two
 obtain⟨x0,x1,x2,x3⟩:=W0.o.h2.four
 go_wp2_with fail
 refine wp_region_held_drew (S:=(fun w'=>w'.cell? ⟨w.heap.size,0,none⟩=some (.pointer (some ⟨b,0,none⟩))/\w'.cell? ⟨w.heap.size,1,none⟩=some (.int .i64 t)/\w'.cell? ⟨w.heap.size,2,none⟩=some (.int .i64 q)/\w'.cell? ⟨w.heap.size,3,none⟩=some (.int .i64 s))) qr ?_ (fun hHeld=>?_)
 ·exact Mue
 refine tkz 0 ?_
 refine tkz 1 ?_
 refine tkz 2 ?_
 refine tkz 3 ?_
 refine tkz 4 ?_
 refine tkz 5 ?_
 refine rdz 6 fun K hK=>?_
 go_simp
 refine(qVL t q s ((p:Int)-1) _).mono ?_;rintro e w1 ⟨rfl,hb⟩;have W1:=qh (W0.o.drew.keep hb);clear hb W0
 refine qk ?_ (fun hHeld=>?_)
 ·exact MBC
 clear hK K
 refine rdz 7 fun K hK=>?_
 go_simp
 refine(vGetA hn _ W1.o.at_).mono ?_;rintro e w2 ⟨rfl,h1,h2⟩;have W2:=qh (W1.o.call h1 h2);clear h1 h2 W1;rw[HF.o]
 refine qk ?_ (fun hHeld=>?_)
 ·exact MAW
 clear hK K
 refine tkz 8 ?_
 refine tkz 9 ?_
 refine tkz 10 ?_
 refine dnz ?_
 obtain⟨z0,z1⟩:=W2.o.h0.two
 obtain⟨y0,y1⟩:=W2.o.h1.two
 obtain⟨x0,x1,x2,x3⟩:=W2.o.h2.four
 go_wp2_with fail
 refine(qPp hn ((f:Int)-1) k1 l1 c1 o1 HI1.o W2.o.at_).mono ?_;rintro e w3 ⟨rfl,h1,h2⟩;have W3:=qh (W2.o.call h1 h2);clear h1 h2 W2;rw[HS1.o] at W3
 obtain⟨z0,z1⟩:=W3.o.h0.two
 obtain⟨y0,y1⟩:=W3.o.h1.two
 obtain⟨x0,x1,x2,x3⟩:=W3.o.h2.four
 go_wp2_with fail
 refine(qLO (p:Int) (m:Int) v4 _).mono ?_;rintro e w4 ⟨rfl,hb⟩;have W4:=qh (W3.o.keep hb);clear hb W3
 obtain⟨z0,z1⟩:=W4.o.h0.two
 obtain⟨y0,y1⟩:=W4.o.h1.two
 obtain⟨x0,x1,x2,x3⟩:=W4.o.h2.four
 go_wp2_with fail
 refine(qPp hn ((p:Int)+(m:Int)) 1 l2 c2 o2 HI2.o W4.o.at_).mono ?_;rintro e w5 ⟨rfl,h1,h2⟩;have W5:=qh (W4.o.call h1 h2);clear h1 h2 W4
 obtain⟨z0,z1⟩:=W5.o.h0.two
 obtain⟨y0,y1⟩:=W5.o.h1.two
 obtain⟨x0,x1,x2,x3⟩:=W5.o.h2.four
 go_wp2_with fail
 refine wp_region_held_drew (S:=(fun w'=>w'.cell? ⟨w.heap.size,0,none⟩=some (.pointer (some ⟨b,0,none⟩))/\w'.cell? ⟨w.heap.size,1,none⟩=some (.int .i64 t)/\w'.cell? ⟨w.heap.size,2,none⟩=some (.int .i64 q)/\w'.cell? ⟨w.heap.size,3,none⟩=some (.int .i64 s))) qr ?_ (fun hHeld=>?_)
 ·(try dsimp only)
  exact Mim
 refine tkz 0 ?_
 refine tkz 2 ?_
 refine tkz 3 ?_
 refine tkz 4 ?_
 refine wpAnyH_ready (rs := [1,5]) qr (by simp) ?_
 refine AllReadyH.cons (o:=_) rfl (fun K hK=>?_) (AllReadyH.cons (o:=_) rfl (fun K hK=>?_) AllReadyH.nil)
 ·skip
  obtain⟨z0,z1⟩:=W5.o.drew.h0.two
  go_simp
  refine qk ?_ (fun hHeld=>?_)
  ·exact Mim
  clear hK K
  refine rdz 5 fun K hK=>?_
  refine Rmw ?_;clear W5;intro w6 W6
  exact M9e
 ·skip
  refine Rmw ?_;clear W5;intro w6 W6
  refine qk ?_ (fun hHeld=>?_)
  ·exact⟨W6.o.h2.four.1,W6.o.h2.four.2.1,W6.o.h2.four.2.2.1,W6.o.h2.four.2.2.2⟩
  clear hK K
  refine rdz 1 fun K hK=>?_
  obtain⟨z0,z1⟩:=W6.o.h0.two
  go_simp
  exact M9e

theorem qCX (hn:n<2^40)(hq:q<=1024)(p m:Nat)(hp:p<=1024)(hm:m<=1024)(hp0:p≠0)(f:Nat)(hf:getV n K st (pageI t q s ((p:Int)-1) 1)=f)(k1 l1 c1:Int)(o1:Bool)(hi1:infoOf n K t q s ((f:Int)-1) (getS n K st (pageI t q s ((p:Int)-1) 1))=(k1,l1,c1,o1))(hk1:k1=1)(dv:Int)(hdv:dropV n K t q s ((f:Int)-1) (getS n K (getS n K st (pageI t q s ((p:Int)-1) 1)) (pageI t q s ((f:Int)-1) 0))=dv)(hd0:0<=dv)(hd1:dv<=1024)(s1:Vst)(hs1:putS n (putS n (dropS n K t q s ((f:Int)-1) (getS n K (getS n K st (pageI t q s ((p:Int)-1) 1)) (pageI t q s ((f:Int)-1) 0))) (pageI t q s (p:Int) 0) 0) (pageI t q s ((p:Int)-1) 1) 0=s1)(hr:¬ ((p:Int)+(m:Int))<q)(h:(vOb base b n wh K).At w0 A G st w) :
  Calls Tryz.prog 85 #[.agg #[.pointer (some ⟨b,0,none⟩),.int .i64 t,.int .i64 q,.int .i64 s],.agg #[.int .i64 (p:Int),.int .i64 (m:Int)]] w fun e w'=>e = .returned (.tuple #[])/\(vOb base b n wh K).At w0 A G (putS n (getS n K (addS n K t q s ((f:Int)-1) (dv+(m:Int)) s1) 0) 0 (qOO (getV n K (addS n K t q s ((f:Int)-1) (dv+(m:Int)) s1) 0) (m:Int))) w'/\Stay G w w':=by
 have W0:=qh ((((WL.start h).new 110 #[.pointer (some ⟨b,0,none⟩),.int .i64 t,.int .i64 q,.int .i64 s]).new 111 #[.int .i64 (p:Int),.int .i64 (m:Int)]).new 111 #[.int .i64 (p:Int),.int .i64 (m:Int)])
 simp only[World.size_alloc] at W0
 have t0:decide ((0:Int)<(p:Int))=true:=qt
 have hf32:f<2^32:=by rw[<- hf];exact qHJ h _
 have HF:=qh hf
 have HI1:=qh hi1
 have v0:IntKind.i64.wrap ((p:Int)-1)=(p:Int)-1:=qIv qo qo
 have v1:IntKind.i64.wrap (f:Int)=(f:Int):=qIv qo qo
 have v2:IntKind.i64.wrap ((f:Int)-1)=(f:Int)-1:=qIv qo qo
 have g1:∀ w,(Instr.field 90 (.agg #[.int .i64 k1,.int .i64 l1,.int .i64 c1]) 0).run Tryz.prog w = .ok (.int .i64 k1) w:=fun _=>by kernel_rfl
 subst hk1
 have HDV:=qh hdv
 have HS1:=qh hs1
 have v3:IntKind.i64.wrap (dv+(m:Int))=dv+(m:Int):=qIv qo qo
 have v4:IntKind.i64.wrap ((p:Int)+(m:Int))=((p:Int)+(m:Int)):=qIv qo qo
 have t1:decide (((p:Int)+(m:Int))<q)=false:=decide_eq_false hr
 clear h hf hi1 hs1 hdv
 go_enter Tryz.func85,Tryz.ntmps85
 obtain⟨z0,z1⟩:=W0.o.h0.two
 obtain⟨y0,y1⟩:=W0.o.h1.two
 obtain⟨x0,x1,x2,x3⟩:=W0.o.h2.four
 go_wp2_with fail
 refine wp_region_held_drew (S:=(fun w'=>w'.cell? ⟨w.heap.size,0,none⟩=some (.pointer (some ⟨b,0,none⟩))/\w'.cell? ⟨w.heap.size,1,none⟩=some (.int .i64 t)/\w'.cell? ⟨w.heap.size,2,none⟩=some (.int .i64 q)/\w'.cell? ⟨w.heap.size,3,none⟩=some (.int .i64 s))) qr ?_ (fun hHeld=>?_)
 ·exact Mue
 refine tkz 0 ?_
 refine tkz 1 ?_
 refine tkz 2 ?_
 refine tkz 3 ?_
 refine tkz 4 ?_
 refine tkz 5 ?_
 refine rdz 6 fun K hK=>?_
 go_simp
 refine(qVL t q s ((p:Int)-1) _).mono ?_;rintro e w1 ⟨rfl,hb⟩;have W1:=qh (W0.o.drew.keep hb);clear hb W0
 refine qk ?_ (fun hHeld=>?_)
 ·exact MBC
 clear hK K
 refine rdz 7 fun K hK=>?_
 go_simp
 refine(vGetA hn _ W1.o.at_).mono ?_;rintro e w2 ⟨rfl,h1,h2⟩;have W2:=qh (W1.o.call h1 h2);clear h1 h2 W1;rw[HF.o]
 refine qk ?_ (fun hHeld=>?_)
 ·exact MAW
 clear hK K
 refine tkz 8 ?_
 refine tkz 9 ?_
 refine tkz 10 ?_
 refine dnz ?_
 obtain⟨z0,z1⟩:=W2.o.h0.two
 obtain⟨y0,y1⟩:=W2.o.h1.two
 obtain⟨x0,x1,x2,x3⟩:=W2.o.h2.four
 go_wp2_with fail
 refine(qPp hn ((f:Int)-1) 1 l1 c1 o1 HI1.o W2.o.at_).mono ?_;rintro e w3 ⟨rfl,h1,h2⟩;have W3:=qh (W2.o.call h1 h2);clear h1 h2 W2
 obtain⟨z0,z1⟩:=W3.o.h0.two
 obtain⟨y0,y1⟩:=W3.o.h1.two
 obtain⟨x0,x1,x2,x3⟩:=W3.o.h2.four
 go_wp2_with fail
 refine wp_region_held_drew (S:=(fun w'=>w'.cell? ⟨w.heap.size,0,none⟩=some (.pointer (some ⟨b,0,none⟩))/\w'.cell? ⟨w.heap.size,1,none⟩=some (.int .i64 t)/\w'.cell? ⟨w.heap.size,2,none⟩=some (.int .i64 q)/\w'.cell? ⟨w.heap.size,3,none⟩=some (.int .i64 s)/\w'.cell? ⟨(w.heap.size+1),0,none⟩=some (.int .i64 (p:Int))/\w'.cell? ⟨(w.heap.size+1),1,none⟩=some (.int .i64 (m:Int)))) qr ?_ (fun hHeld=>?_)
 ·exact MH7
 refine tkz 0 ?_
 refine tkz 1 ?_
 refine tkz 2 ?_
 refine tkz 3 ?_
 refine tkz 5 ?_
 refine tkz 6 ?_
 refine rdz 4 fun K hK=>?_
 go_simp
 refine(qNv hn qo ((f:Int)-1) (p:Int) v0 W3.o.drew.at_).mono ?_;rintro e w4 ⟨rfl,h1,h2⟩;have W4:=qh (W3.o.drew.call h1 h2);clear h1 h2 W3;rw[HDV.o];rw[HS1.o] at W4
 refine qk ?_ (fun hHeld=>?_)
 ·exact MJD
 clear hK K
 refine tkz 7 ?_
 refine tkz 8 ?_
 refine rdz 9 fun K hK=>?_
 obtain⟨z0,z1⟩:=W4.o.h0.two
 have f0:=W4.o.h0.thawed 0
 have f1:=W4.o.h0.thawed 1
 go_simp
 have W5:=qh ((W4.o.put 0 (.int .i64 ((f:Int)-1))).put 1 (.int .i64 (dv+(m:Int))))
 clear W4 z0 z1 f0 f1
 refine qk ?_ (fun hHeld=>?_)
 ·exact MXP
 clear hK K
 refine dnz ?_
 obtain⟨z0,z1⟩:=W5.o.h0.two
 obtain⟨y0,y1⟩:=W5.o.h1.two
 obtain⟨x0,x1,x2,x3⟩:=W5.o.h2.four
 go_wp2_with fail
 refine(qLO (p:Int) (m:Int) v4 _).mono ?_;rintro e w6 ⟨rfl,hb⟩;have W6:=qh (W5.o.keep hb);clear hb W5
 obtain⟨z0,z1⟩:=W6.o.h0.two
 obtain⟨y0,y1⟩:=W6.o.h1.two
 obtain⟨x0,x1,x2,x3⟩:=W6.o.h2.four
 go_wp2_with fail
 refine(qGD hn qo ((f:Int)-1) (dv+(m:Int)) W6.o.at_).mono ?_;rintro e w7 ⟨rfl,h1,h2⟩;have W7:=qh (W6.o.call h1 h2);clear h1 h2 W6
 obtain⟨z0,z1⟩:=W7.o.h0.two
 obtain⟨y0,y1⟩:=W7.o.h1.two
 obtain⟨x0,x1,x2,x3⟩:=W7.o.h2.four
 go_wp2_with fail
 refine(qKc hn (m:Int) W7.o.at_).mono ?_;rintro e w8 ⟨rfl,h1,h2⟩;have W8:=qh (W7.o.call h1 h2);clear h1 h2 W7
 obtain⟨z0,z1⟩:=W8.o.h0.two
 obtain⟨y0,y1⟩:=W8.o.h1.two
 obtain⟨x0,x1,x2,x3⟩:=W8.o.h2.four
 go_wp2
 go_end0
 exact⟨rfl,W8.o.fin⟩

theorem qYS (hn:n<2^40)(hq:q<=1024)(p m:Nat)(hp:p<=1024)(hm:m<=1024)(hp0:p≠0)(f:Nat)(hf:getV n K st (pageI t q s ((p:Int)-1) 1)=f)(k1 l1 c1:Int)(o1:Bool)(hi1:infoOf n K t q s ((f:Int)-1) (getS n K st (pageI t q s ((p:Int)-1) 1))=(k1,l1,c1,o1))(hk1:k1=1)(dv:Int)(hdv:dropV n K t q s ((f:Int)-1) (getS n K (getS n K st (pageI t q s ((p:Int)-1) 1)) (pageI t q s ((f:Int)-1) 0))=dv)(hd0:0<=dv)(hd1:dv<=1024)(s1:Vst)(hs1:putS n (putS n (dropS n K t q s ((f:Int)-1) (getS n K (getS n K st (pageI t q s ((p:Int)-1) 1)) (pageI t q s ((f:Int)-1) 0))) (pageI t q s (p:Int) 0) 0) (pageI t q s ((p:Int)-1) 1) 0=s1)(hr:((p:Int)+(m:Int))<q)(k2 l2 c2:Int)(o2:Bool)(hi2:infoOf n K t q s ((p:Int)+(m:Int)) s1=(k2,l2,c2,o2))(hk2:k2≠1)(s2:Vst)(hs2:(getS n K s1 (pageI t q s ((p:Int)+(m:Int)) 0))=s2)(h:(vOb base b n wh K).At w0 A G st w) :
  Calls Tryz.prog 85 #[.agg #[.pointer (some ⟨b,0,none⟩),.int .i64 t,.int .i64 q,.int .i64 s],.agg #[.int .i64 (p:Int),.int .i64 (m:Int)]] w fun e w'=>e = .returned (.tuple #[])/\(vOb base b n wh K).At w0 A G (putS n (getS n K (addS n K t q s ((f:Int)-1) (dv+(m:Int)) s2) 0) 0 (qOO (getV n K (addS n K t q s ((f:Int)-1) (dv+(m:Int)) s2) 0) (m:Int))) w'/\Stay G w w':=by
 have W0:=qh ((((WL.start h).new 110 #[.pointer (some ⟨b,0,none⟩),.int .i64 t,.int .i64 q,.int .i64 s]).new 111 #[.int .i64 (p:Int),.int .i64 (m:Int)]).new 111 #[.int .i64 (p:Int),.int .i64 (m:Int)])
 simp only[World.size_alloc] at W0
 have t0:decide ((0:Int)<(p:Int))=true:=qt
 have hf32:f<2^32:=by rw[<- hf];exact qHJ h _
 have HF:=qh hf
 have HI1:=qh hi1
 have v0:IntKind.i64.wrap ((p:Int)-1)=(p:Int)-1:=qIv qo qo
 have v1:IntKind.i64.wrap (f:Int)=(f:Int):=qIv qo qo
 have v2:IntKind.i64.wrap ((f:Int)-1)=(f:Int)-1:=qIv qo qo
 have g1:∀ w,(Instr.field 90 (.agg #[.int .i64 k1,.int .i64 l1,.int .i64 c1]) 0).run Tryz.prog w = .ok (.int .i64 k1) w:=fun _=>by kernel_rfl
 subst hk1
 have HDV:=qh hdv
 have HS1:=qh hs1
 have v3:IntKind.i64.wrap (dv+(m:Int))=dv+(m:Int):=qIv qo qo
 have v4:IntKind.i64.wrap ((p:Int)+(m:Int))=((p:Int)+(m:Int)):=qIv qo qo
 have t1:decide (((p:Int)+(m:Int))<q)=true:=decide_eq_true hr
 have HI2:=qh hi2
 have v5:IntKind.i64.wrap (((p:Int)+(m:Int))-1)=((p:Int)+(m:Int))-1:=qIv qo qo
 have g2:∀ w,(Instr.field 90 (.agg #[.int .i64 k2,.int .i64 l2,.int .i64 c2]) 0).run Tryz.prog w = .ok (.int .i64 k2) w:=fun _=>by kernel_rfl
 have u2:(k2==1)=false:=by simpa using hk2
 have HS2:=qh hs2
 clear h hf hi1 hs1 hdv hi2 hs2
 go_enter Tryz.func85,Tryz.ntmps85
 obtain⟨z0,z1⟩:=W0.o.h0.two
 obtain⟨y0,y1⟩:=W0.o.h1.two
 obtain⟨x0,x1,x2,x3⟩:=W0.o.h2.four
 go_wp2_with fail
 refine wp_region_held_drew (S:=(fun w'=>w'.cell? ⟨w.heap.size,0,none⟩=some (.pointer (some ⟨b,0,none⟩))/\w'.cell? ⟨w.heap.size,1,none⟩=some (.int .i64 t)/\w'.cell? ⟨w.heap.size,2,none⟩=some (.int .i64 q)/\w'.cell? ⟨w.heap.size,3,none⟩=some (.int .i64 s))) qr ?_ (fun hHeld=>?_)
 ·exact Mue
 refine tkz 0 ?_
 refine tkz 1 ?_
 refine tkz 2 ?_
 refine tkz 3 ?_
 refine tkz 4 ?_
 refine tkz 5 ?_
 refine rdz 6 fun K hK=>?_
 go_simp
 refine(qVL t q s ((p:Int)-1) _).mono ?_;rintro e w1 ⟨rfl,hb⟩;have W1:=qh (W0.o.drew.keep hb);clear hb W0
 refine qk ?_ (fun hHeld=>?_)
 ·exact MBC
 clear hK K
 refine rdz 7 fun K hK=>?_
 go_simp
 refine(vGetA hn _ W1.o.at_).mono ?_;rintro e w2 ⟨rfl,h1,h2⟩;have W2:=qh (W1.o.call h1 h2);clear h1 h2 W1;rw[HF.o]
 refine qk ?_ (fun hHeld=>?_)
 ·exact MAW
 clear hK K
 refine tkz 8 ?_
 refine tkz 9 ?_
 refine tkz 10 ?_
 refine dnz ?_
 obtain⟨z0,z1⟩:=W2.o.h0.two
 obtain⟨y0,y1⟩:=W2.o.h1.two
 obtain⟨x0,x1,x2,x3⟩:=W2.o.h2.four
 go_wp2_with fail
 refine(qPp hn ((f:Int)-1) 1 l1 c1 o1 HI1.o W2.o.at_).mono ?_;rintro e w3 ⟨rfl,h1,h2⟩;have W3:=qh (W2.o.call h1 h2);clear h1 h2 W2
 obtain⟨z0,z1⟩:=W3.o.h0.two
 obtain⟨y0,y1⟩:=W3.o.h1.two
 obtain⟨x0,x1,x2,x3⟩:=W3.o.h2.four
 go_wp2_with fail
 refine wp_region_held_drew (S:=(fun w'=>w'.cell? ⟨w.heap.size,0,none⟩=some (.pointer (some ⟨b,0,none⟩))/\w'.cell? ⟨w.heap.size,1,none⟩=some (.int .i64 t)/\w'.cell? ⟨w.heap.size,2,none⟩=some (.int .i64 q)/\w'.cell? ⟨w.heap.size,3,none⟩=some (.int .i64 s)/\w'.cell? ⟨(w.heap.size+1),0,none⟩=some (.int .i64 (p:Int))/\w'.cell? ⟨(w.heap.size+1),1,none⟩=some (.int .i64 (m:Int)))) qr ?_ (fun hHeld=>?_)
 ·exact MH7
 refine tkz 0 ?_
 refine tkz 1 ?_
 refine tkz 2 ?_
 refine tkz 3 ?_
 refine tkz 5 ?_
 refine tkz 6 ?_
 refine rdz 4 fun K hK=>?_
 go_simp
 refine(qNv hn qo ((f:Int)-1) (p:Int) v0 W3.o.drew.at_).mono ?_;rintro e w4 ⟨rfl,h1,h2⟩;have W4:=qh (W3.o.drew.call h1 h2);clear h1 h2 W3;rw[HDV.o];rw[HS1.o] at W4
 refine qk ?_ (fun hHeld=>?_)
 ·exact MJD
 clear hK K
 refine tkz 7 ?_
 refine tkz 8 ?_
 refine rdz 9 fun K hK=>?_
 obtain⟨z0,z1⟩:=W4.o.h0.two
 have f0:=W4.o.h0.thawed 0
 have f1:=W4.o.h0.thawed 1
 go_simp
 have W5:=qh ((W4.o.put 0 (.int .i64 ((f:Int)-1))).put 1 (.int .i64 (dv+(m:Int))))
 clear W4 z0 z1 f0 f1
 refine qk ?_ (fun hHeld=>?_)
 ·exact MXP
 clear hK K
 refine dnz ?_
 obtain⟨z0,z1⟩:=W5.o.h0.two
 obtain⟨y0,y1⟩:=W5.o.h1.two
 obtain⟨x0,x1,x2,x3⟩:=W5.o.h2.four
 go_wp2_with fail
 refine(qLO (p:Int) (m:Int) v4 _).mono ?_;rintro e w6 ⟨rfl,hb⟩;have W6:=qh (W5.o.keep hb);clear hb W5
 obtain⟨z0,z1⟩:=W6.o.h0.two
 obtain⟨y0,y1⟩:=W6.o.h1.two
 obtain⟨x0,x1,x2,x3⟩:=W6.o.h2.four
 go_wp2_with fail
 refine(qPp hn ((p:Int)+(m:Int)) k2 l2 c2 o2 HI2.o W6.o.at_).mono ?_;rintro e w7 ⟨rfl,h1,h2⟩;have W7:=qh (W6.o.call h1 h2);clear h1 h2 W6;rw[HS2.o] at W7
 obtain⟨z0,z1⟩:=W7.o.h0.two
 obtain⟨y0,y1⟩:=W7.o.h1.two
 obtain⟨x0,x1,x2,x3⟩:=W7.o.h2.four
 go_wp2_with fail
 refine(qGD hn qo ((f:Int)-1) (dv+(m:Int)) W7.o.at_).mono ?_;rintro e w8 ⟨rfl,h1,h2⟩;have W8:=qh (W7.o.call h1 h2);clear h1 h2 W7
 obtain⟨z0,z1⟩:=W8.o.h0.two
 obtain⟨y0,y1⟩:=W8.o.h1.two
 obtain⟨x0,x1,x2,x3⟩:=W8.o.h2.four
 go_wp2_with fail
 refine(qKc hn (m:Int) W8.o.at_).mono ?_;rintro e w9 ⟨rfl,h1,h2⟩;have W9:=qh (W8.o.call h1 h2);clear h1 h2 W8
 obtain⟨z0,z1⟩:=W9.o.h0.two
 obtain⟨y0,y1⟩:=W9.o.h1.two
 obtain⟨x0,x1,x2,x3⟩:=W9.o.h2.four
 go_wp2
 go_end0
 exact⟨rfl,W9.o.fin⟩

theorem qUm (hn:n<2^40)(hq:q<=1024)(p m:Nat)(hp:p<=1024)(hm:m<=1024)(hp0:p≠0)(f:Nat)(hf:getV n K st (pageI t q s ((p:Int)-1) 1)=f)(k1 l1 c1:Int)(o1:Bool)(hi1:infoOf n K t q s ((f:Int)-1) (getS n K st (pageI t q s ((p:Int)-1) 1))=(k1,l1,c1,o1))(hk1:k1=1)(dv:Int)(hdv:dropV n K t q s ((f:Int)-1) (getS n K (getS n K st (pageI t q s ((p:Int)-1) 1)) (pageI t q s ((f:Int)-1) 0))=dv)(hd0:0<=dv)(hd1:dv<=1024)(s1:Vst)(hs1:putS n (putS n (dropS n K t q s ((f:Int)-1) (getS n K (getS n K st (pageI t q s ((p:Int)-1) 1)) (pageI t q s ((f:Int)-1) 0))) (pageI t q s (p:Int) 0) 0) (pageI t q s ((p:Int)-1) 1) 0=s1)(hr:((p:Int)+(m:Int))<q)(k2 l2 c2:Int)(o2:Bool)(hi2:infoOf n K t q s ((p:Int)+(m:Int)) s1=(k2,l2,c2,o2))(hk2:k2=1)(dw:Int)(hdw:dropV n K t q s ((p:Int)+(m:Int)) (getS n K s1 (pageI t q s ((p:Int)+(m:Int)) 0))=dw)(he0:0<=dw)(he1:dw<=1024)(s2:Vst)(hs2:putS n (putS n (dropS n K t q s ((p:Int)+(m:Int)) (getS n K s1 (pageI t q s ((p:Int)+(m:Int)) 0))) (pageI t q s ((p:Int)+(m:Int)) 0) 0) (pageI t q s (((p:Int)+(m:Int))-1) 1) 0=s2)(h:(vOb base b n wh K).At w0 A G st w) :
  Calls Tryz.prog 85 #[.agg #[.pointer (some ⟨b,0,none⟩),.int .i64 t,.int .i64 q,.int .i64 s],.agg #[.int .i64 (p:Int),.int .i64 (m:Int)]] w fun e w'=>e = .returned (.tuple #[])/\(vOb base b n wh K).At w0 A G (putS n (getS n K (addS n K t q s ((f:Int)-1) ((dv+(m:Int))+dw) s2) 0) 0 (qOO (getV n K (addS n K t q s ((f:Int)-1) ((dv+(m:Int))+dw) s2) 0) (m:Int))) w'/\Stay G w w':=by
 have W0:=qh ((((WL.start h).new 110 #[.pointer (some ⟨b,0,none⟩),.int .i64 t,.int .i64 q,.int .i64 s]).new 111 #[.int .i64 (p:Int),.int .i64 (m:Int)]).new 111 #[.int .i64 (p:Int),.int .i64 (m:Int)])
 simp only[World.size_alloc] at W0
 have t0:decide ((0:Int)<(p:Int))=true:=qt
 have hf32:f<2^32:=by rw[<- hf];exact qHJ h _
 have HF:=qh hf
 have HI1:=qh hi1
 have v0:IntKind.i64.wrap ((p:Int)-1)=(p:Int)-1:=qIv qo qo
 have v1:IntKind.i64.wrap (f:Int)=(f:Int):=qIv qo qo
 have v2:IntKind.i64.wrap ((f:Int)-1)=(f:Int)-1:=qIv qo qo
 have g1:∀ w,(Instr.field 90 (.agg #[.int .i64 k1,.int .i64 l1,.int .i64 c1]) 0).run Tryz.prog w = .ok (.int .i64 k1) w:=fun _=>by kernel_rfl
 subst hk1
 have HDV:=qh hdv
 have HS1:=qh hs1
 have v3:IntKind.i64.wrap (dv+(m:Int))=dv+(m:Int):=qIv qo qo
 have v4:IntKind.i64.wrap ((p:Int)+(m:Int))=((p:Int)+(m:Int)):=qIv qo qo
 have t1:decide (((p:Int)+(m:Int))<q)=true:=decide_eq_true hr
 have HI2:=qh hi2
 have v5:IntKind.i64.wrap (((p:Int)+(m:Int))-1)=((p:Int)+(m:Int))-1:=qIv qo qo
 have g2:∀ w,(Instr.field 90 (.agg #[.int .i64 k2,.int .i64 l2,.int .i64 c2]) 0).run Tryz.prog w = .ok (.int .i64 k2) w:=fun _=>by kernel_rfl
 subst hk2
 have HDW:=qh hdw
 have HS2:=qh hs2
 have v6:IntKind.i64.wrap ((dv+(m:Int))+dw)=((dv+(m:Int))+dw):=qIv qo qo
 clear h hf hi1 hs1 hdv hi2 hs2 hdw
 go_enter Tryz.func85,Tryz.ntmps85
 obtain⟨z0,z1⟩:=W0.o.h0.two
 obtain⟨y0,y1⟩:=W0.o.h1.two
 obtain⟨x0,x1,x2,x3⟩:=W0.o.h2.four
 go_wp2_with fail
 refine wp_region_held_drew (S:=(fun w'=>w'.cell? ⟨w.heap.size,0,none⟩=some (.pointer (some ⟨b,0,none⟩))/\w'.cell? ⟨w.heap.size,1,none⟩=some (.int .i64 t)/\w'.cell? ⟨w.heap.size,2,none⟩=some (.int .i64 q)/\w'.cell? ⟨w.heap.size,3,none⟩=some (.int .i64 s))) qr ?_ (fun hHeld=>?_)
 ·exact Mue
 refine tkz 0 ?_
 refine tkz 1 ?_
 refine tkz 2 ?_
 refine tkz 3 ?_
 refine tkz 4 ?_
 refine tkz 5 ?_
 refine rdz 6 fun K hK=>?_
 go_simp
 refine(qVL t q s ((p:Int)-1) _).mono ?_;rintro e w1 ⟨rfl,hb⟩;have W1:=qh (W0.o.drew.keep hb);clear hb W0
 refine qk ?_ (fun hHeld=>?_)
 ·exact MBC
 clear hK K
 refine rdz 7 fun K hK=>?_
 go_simp
 refine(vGetA hn _ W1.o.at_).mono ?_;rintro e w2 ⟨rfl,h1,h2⟩;have W2:=qh (W1.o.call h1 h2);clear h1 h2 W1;rw[HF.o]
 refine qk ?_ (fun hHeld=>?_)
 ·exact MAW
 clear hK K
 refine tkz 8 ?_
 refine tkz 9 ?_
 refine tkz 10 ?_
 refine dnz ?_
 obtain⟨z0,z1⟩:=W2.o.h0.two
 obtain⟨y0,y1⟩:=W2.o.h1.two
 obtain⟨x0,x1,x2,x3⟩:=W2.o.h2.four
 go_wp2_with fail
 refine(qPp hn ((f:Int)-1) 1 l1 c1 o1 HI1.o W2.o.at_).mono ?_;rintro e w3 ⟨rfl,h1,h2⟩;have W3:=qh (W2.o.call h1 h2);clear h1 h2 W2
 obtain⟨z0,z1⟩:=W3.o.h0.two
 obtain⟨y0,y1⟩:=W3.o.h1.two
 obtain⟨x0,x1,x2,x3⟩:=W3.o.h2.four
 go_wp2_with fail
 refine wp_region_held_drew (S:=(fun w'=>w'.cell? ⟨w.heap.size,0,none⟩=some (.pointer (some ⟨b,0,none⟩))/\w'.cell? ⟨w.heap.size,1,none⟩=some (.int .i64 t)/\w'.cell? ⟨w.heap.size,2,none⟩=some (.int .i64 q)/\w'.cell? ⟨w.heap.size,3,none⟩=some (.int .i64 s)/\w'.cell? ⟨(w.heap.size+1),0,none⟩=some (.int .i64 (p:Int))/\w'.cell? ⟨(w.heap.size+1),1,none⟩=some (.int .i64 (m:Int)))) qr ?_ (fun hHeld=>?_)
 ·exact MH7
 refine tkz 0 ?_
 refine tkz 1 ?_
 refine tkz 2 ?_
 refine tkz 3 ?_
 refine tkz 5 ?_
 refine tkz 6 ?_
 refine rdz 4 fun K hK=>?_
 go_simp
 refine(qNv hn qo ((f:Int)-1) (p:Int) v0 W3.o.drew.at_).mono ?_;rintro e w4 ⟨rfl,h1,h2⟩;have W4:=qh (W3.o.drew.call h1 h2);clear h1 h2 W3;rw[HDV.o];rw[HS1.o] at W4
 refine qk ?_ (fun hHeld=>?_)
 ·exact MJD
 clear hK K
 refine tkz 7 ?_
 refine tkz 8 ?_
 refine rdz 9 fun K hK=>?_
 obtain⟨z0,z1⟩:=W4.o.h0.two
 have f0:=W4.o.h0.thawed 0
 have f1:=W4.o.h0.thawed 1
 go_simp
 have W5:=qh ((W4.o.put 0 (.int .i64 ((f:Int)-1))).put 1 (.int .i64 (dv+(m:Int))))
 clear W4 z0 z1 f0 f1
 refine qk ?_ (fun hHeld=>?_)
 ·exact MXP
 clear hK K
 refine dnz ?_
 obtain⟨z0,z1⟩:=W5.o.h0.two
 obtain⟨y0,y1⟩:=W5.o.h1.two
 obtain⟨x0,x1,x2,x3⟩:=W5.o.h2.four
 go_wp2_with fail
 refine(qLO (p:Int) (m:Int) v4 _).mono ?_;rintro e w6 ⟨rfl,hb⟩;have W6:=qh (W5.o.keep hb);clear hb W5
 obtain⟨z0,z1⟩:=W6.o.h0.two
 obtain⟨y0,y1⟩:=W6.o.h1.two
 obtain⟨x0,x1,x2,x3⟩:=W6.o.h2.four
 go_wp2_with fail
 refine(qPp hn ((p:Int)+(m:Int)) 1 l2 c2 o2 HI2.o W6.o.at_).mono ?_;rintro e w7 ⟨rfl,h1,h2⟩;have W7:=qh (W6.o.call h1 h2);clear h1 h2 W6
 obtain⟨z0,z1⟩:=W7.o.h0.two
 obtain⟨y0,y1⟩:=W7.o.h1.two
 obtain⟨x0,x1,x2,x3⟩:=W7.o.h2.four
 go_wp2_with fail
 refine wp_region_held_drew (S:=(fun w'=>w'.cell? ⟨w.heap.size,0,none⟩=some (.pointer (some ⟨b,0,none⟩))/\w'.cell? ⟨w.heap.size,1,none⟩=some (.int .i64 t)/\w'.cell? ⟨w.heap.size,2,none⟩=some (.int .i64 q)/\w'.cell? ⟨w.heap.size,3,none⟩=some (.int .i64 s))) qr ?_ (fun hHeld=>?_)
 ·(try dsimp only)
  exact Muw
 refine tkz 0 ?_
 refine tkz 2 ?_
 refine tkz 3 ?_
 refine tkz 4 ?_
 refine wpAnyH_ready (rs := [1,5]) qr (by simp) ?_
 refine AllReadyH.cons (o:=_) rfl (fun K hK=>?_) (AllReadyH.cons (o:=_) rfl (fun K hK=>?_) AllReadyH.nil)
 ·skip
  obtain⟨z0,z1⟩:=W7.o.drew.h0.two
  go_simp
  refine qk ?_ (fun hHeld=>?_)
  ·exact Muw
  clear hK K
  refine rdz 5 fun K hK=>?_
  refine Rbh ?_;clear W7;intro w8 W8
  exact MR0
 ·skip
  refine Rbh ?_;clear W7;intro w8 W8
  refine qk ?_ (fun hHeld=>?_)
  ·exact⟨W8.o.h2.four.1,W8.o.h2.four.2.1,W8.o.h2.four.2.2.1,W8.o.h2.four.2.2.2⟩
  clear hK K
  refine rdz 1 fun K hK=>?_
  obtain⟨z0,z1⟩:=W8.o.h0.two
  go_simp
  exact MR0

theorem qKM (p:Int)(st:Vst):0<=dropV n K t q s p st/\dropV n K t q s p st<=1024:=by
 unfold dropV
 split
 ·obtain⟨⟨kk,l,c,ok⟩,hI⟩:∃ x,infoOf n K t q s p st=x:=⟨_,rfl⟩
  rw[hI]
  by_cases h:kk=1
  ·rw[if_pos h]
   unfold infoOf at hI
   rw[h] at hI
   exact qUX hI
  ·rw[if_neg h];omega
 ·omega
theorem qMY {p:Nat}(h:p=0):relL n K t q s p st=(st,(p:Int),0):=by unfold relL;rw[if_pos h]
theorem qIh {p:Nat}(h:p≠0){f:Nat}(hf:getV n K st (pageI t q s ((p:Int)-1) 1)=f)(hi:(infoOf n K t q s ((f:Int)-1) (getS n K st (pageI t q s ((p:Int)-1) 1))).1≠1) :
  relL n K t q s p st=(getS n K (getS n K st (pageI t q s ((p:Int)-1) 1)) (pageI t q s ((f:Int)-1) 0),(p:Int),0):=by
 unfold relL
 rw[if_neg h]
 simp only[hf]
 rw[if_neg hi]
theorem qDq {p:Nat}(h:p≠0){f:Nat}(hf:getV n K st (pageI t q s ((p:Int)-1) 1)=f)(hi:(infoOf n K t q s ((f:Int)-1) (getS n K st (pageI t q s ((p:Int)-1) 1))).1=1) :
  relL n K t q s p st=(putS n (putS n (dropS n K t q s ((f:Int)-1) (getS n K (getS n K st (pageI t q s ((p:Int)-1) 1)) (pageI t q s ((f:Int)-1) 0))) (pageI t q s (p:Int) 0) 0) (pageI t q s ((p:Int)-1) 1) 0,(f:Int)-1,dropV n K t q s ((f:Int)-1) (getS n K (getS n K st (pageI t q s ((p:Int)-1) 1)) (pageI t q s ((f:Int)-1) 0))):=by
 unfold relL
 rw[if_neg h]
 simp only[hf]
 rw[if_pos hi]
theorem qXZ {r:Nat}(h:¬ (r:Int)<q):relR n K t q s r st=(st,0):=by unfold relR;rw[if_neg h]
theorem qJk {r:Nat}(h:(r:Int)<q)(hi:(infoOf n K t q s (r:Int) st).1≠1):relR n K t q s r st=(getS n K st (pageI t q s (r:Int) 0),0):=by
 unfold relR
 rw[if_pos h]
 simp only
 rw[if_neg hi]
theorem qXa {r:Nat}(h:(r:Int)<q)(hi:(infoOf n K t q s (r:Int) st).1=1) :
  relR n K t q s r st=(putS n (putS n (dropS n K t q s (r:Int) (getS n K st (pageI t q s (r:Int) 0))) (pageI t q s (r:Int) 0) 0) (pageI t q s ((r:Int)-1) 1) 0,dropV n K t q s (r:Int) (getS n K st (pageI t q s (r:Int) 0))):=by
 unfold relR
 rw[if_pos h]
 simp only
 rw[if_pos hi]
theorem qZC {p m:Nat}{s1 s2:Vst}{a l r x:Int}(hL:relL n K t q s p st=(s1,a,l))(hR:relR n K t q s (p+m) s1=(s2,r))(hx:(m:Int)+l+r=x) :
  releaseS n K t q s p m st=putS n (getS n K (addS n K t q s a x s2) 0) 0 (qOO (getV n K (addS n K t q s a x s2) 0) (m:Int)):=by
 unfold releaseS moreS
 rw[hL]
 simp only
 rw[hR]
 simp only
 rw[hx]

theorem qQd (hn:n<2^40)(hq:q<=1024)(p m:Nat)(hp:p<=1024)(hm:m<=1024)(h:(vOb base b n wh K).At w0 A G st w) :
  Calls Tryz.prog 85 #[.agg #[.pointer (some ⟨b,0,none⟩),.int .i64 t,.int .i64 q,.int .i64 s],.agg #[.int .i64 (p:Int),.int .i64 (m:Int)]] w fun e w'=>e = .returned (.tuple #[])/\(vOb base b n wh K).At w0 A G (releaseS n K t q s p m st) w'/\Stay G w w':=by
 by_cases h0:p=0
 ·by_cases hr:((p:Int)+(m:Int))<q
  ·obtain⟨⟨k2,l2,c2,o2⟩,hi2⟩:∃ x,infoOf n K t q s ((p:Int)+(m:Int)) st=x:=⟨_,rfl⟩
   by_cases h2:k2=1
   ·have d2:=qKM (n:=n) (K:=K) (t:=t) (q:=q) (s:=s) ((p:Int)+(m:Int)) (getS n K st (pageI t q s ((p:Int)+(m:Int)) 0))
    have hR:=qXa (n:=n) (K:=K) (t:=t) (q:=q) (s:=s) (r:=p+m) (st:=st) (by rw[Int.natCast_add];exact hr) (by rw[Int.natCast_add,hi2];exact h2)
    rw[Int.natCast_add] at hR
    rw[qZC (qMY h0) hR (x:=(m:Int)+dropV n K t q s ((p:Int)+(m:Int)) (getS n K st (pageI t q s ((p:Int)+(m:Int)) 0))) qo]
    exact qH7 hn hq p m hp hm h0 hr k2 l2 c2 o2 hi2 h2 _ rfl d2.1 d2.2 _ rfl h
   ·have hR:=qJk (n:=n) (K:=K) (t:=t) (q:=q) (s:=s) (r:=p+m) (st:=st) (by rw[Int.natCast_add];exact hr) (by rw[Int.natCast_add,hi2];exact h2)
    rw[Int.natCast_add] at hR
    rw[qZC (qMY h0) hR (x:=(m:Int)) qo]
    exact qXP hn hq p m hp hm h0 hr k2 l2 c2 o2 hi2 h2 _ rfl h
  ·have hR:=qXZ (n:=n) (K:=K) (t:=t) (q:=q) (s:=s) (r:=p+m) (st:=st) (by rw[Int.natCast_add];exact hr)
   rw[qZC (qMY h0) hR (x:=(m:Int)) qo]
   exact qRH hn hq p m hp hm h0 hr h
 ·obtain⟨f,hf⟩:∃ f,getV n K st (pageI t q s ((p:Int)-1) 1)=f:=⟨_,rfl⟩
  obtain⟨⟨k1,l1,c1,o1⟩,hi1⟩:∃ x,infoOf n K t q s ((f:Int)-1) (getS n K st (pageI t q s ((p:Int)-1) 1))=x:=⟨_,rfl⟩
  by_cases h1:k1=1
  ·have d1:=qKM (n:=n) (K:=K) (t:=t) (q:=q) (s:=s) ((f:Int)-1) (getS n K (getS n K st (pageI t q s ((p:Int)-1) 1)) (pageI t q s ((f:Int)-1) 0))
   by_cases hr:((p:Int)+(m:Int))<q
   ·obtain⟨⟨k2,l2,c2,o2⟩,hi2⟩:∃ x,infoOf n K t q s ((p:Int)+(m:Int)) (putS n (putS n (dropS n K t q s ((f:Int)-1) (getS n K (getS n K st (pageI t q s ((p:Int)-1) 1)) (pageI t q s ((f:Int)-1) 0))) (pageI t q s (p:Int) 0) 0) (pageI t q s ((p:Int)-1) 1) 0)=x:=⟨_,rfl⟩
    by_cases h2:k2=1
    ·have d2:=qKM (n:=n) (K:=K) (t:=t) (q:=q) (s:=s) ((p:Int)+(m:Int)) (getS n K (putS n (putS n (dropS n K t q s ((f:Int)-1) (getS n K (getS n K st (pageI t q s ((p:Int)-1) 1)) (pageI t q s ((f:Int)-1) 0))) (pageI t q s (p:Int) 0) 0) (pageI t q s ((p:Int)-1) 1) 0) (pageI t q s ((p:Int)+(m:Int)) 0))
     have hR:=qXa (n:=n) (K:=K) (t:=t) (q:=q) (s:=s) (r:=p+m) (st:=(putS n (putS n (dropS n K t q s ((f:Int)-1) (getS n K (getS n K st (pageI t q s ((p:Int)-1) 1)) (pageI t q s ((f:Int)-1) 0))) (pageI t q s (p:Int) 0) 0) (pageI t q s ((p:Int)-1) 1) 0)) (by rw[Int.natCast_add];exact hr) (by rw[Int.natCast_add,hi2];exact h2)
     rw[Int.natCast_add] at hR
     rw[qZC (qDq h0 hf (by rw[hi1];exact h1)) hR (x:=(dropV n K t q s ((f:Int)-1) (getS n K (getS n K st (pageI t q s ((p:Int)-1) 1)) (pageI t q s ((f:Int)-1) 0))+(m:Int))+dropV n K t q s ((p:Int)+(m:Int)) (getS n K (putS n (putS n (dropS n K t q s ((f:Int)-1) (getS n K (getS n K st (pageI t q s ((p:Int)-1) 1)) (pageI t q s ((f:Int)-1) 0))) (pageI t q s (p:Int) 0) 0) (pageI t q s ((p:Int)-1) 1) 0) (pageI t q s ((p:Int)+(m:Int)) 0))) qo]
     exact qUm hn hq p m hp hm h0 f hf k1 l1 c1 o1 hi1 h1 _ rfl d1.1 d1.2 _ rfl hr k2 l2 c2 o2 hi2 h2 _ rfl d2.1 d2.2 _ rfl h
    ·have hR:=qJk (n:=n) (K:=K) (t:=t) (q:=q) (s:=s) (r:=p+m) (st:=(putS n (putS n (dropS n K t q s ((f:Int)-1) (getS n K (getS n K st (pageI t q s ((p:Int)-1) 1)) (pageI t q s ((f:Int)-1) 0))) (pageI t q s (p:Int) 0) 0) (pageI t q s ((p:Int)-1) 1) 0)) (by rw[Int.natCast_add];exact hr) (by rw[Int.natCast_add,hi2];exact h2)
     rw[Int.natCast_add] at hR
     refine RII ?_
     exact qYS hn hq p m hp hm h0 f hf k1 l1 c1 o1 hi1 h1 _ rfl d1.1 d1.2 _ rfl hr k2 l2 c2 o2 hi2 h2 _ rfl h
   ·have hR:=qXZ (n:=n) (K:=K) (t:=t) (q:=q) (s:=s) (r:=p+m) (st:=(putS n (putS n (dropS n K t q s ((f:Int)-1) (getS n K (getS n K st (pageI t q s ((p:Int)-1) 1)) (pageI t q s ((f:Int)-1) 0))) (pageI t q s (p:Int) 0) 0) (pageI t q s ((p:Int)-1) 1) 0)) (by rw[Int.natCast_add];exact hr)
    refine RII ?_
    exact qCX hn hq p m hp hm h0 f hf k1 l1 c1 o1 hi1 h1 _ rfl d1.1 d1.2 _ rfl hr h
  ·by_cases hr:((p:Int)+(m:Int))<q
   ·obtain⟨⟨k2,l2,c2,o2⟩,hi2⟩:∃ x,infoOf n K t q s ((p:Int)+(m:Int)) (getS n K (getS n K st (pageI t q s ((p:Int)-1) 1)) (pageI t q s ((f:Int)-1) 0))=x:=⟨_,rfl⟩
    by_cases h2:k2=1
    ·have d2:=qKM (n:=n) (K:=K) (t:=t) (q:=q) (s:=s) ((p:Int)+(m:Int)) (getS n K (getS n K (getS n K st (pageI t q s ((p:Int)-1) 1)) (pageI t q s ((f:Int)-1) 0)) (pageI t q s ((p:Int)+(m:Int)) 0))
     have hR:=qXa (n:=n) (K:=K) (t:=t) (q:=q) (s:=s) (r:=p+m) (st:=(getS n K (getS n K st (pageI t q s ((p:Int)-1) 1)) (pageI t q s ((f:Int)-1) 0))) (by rw[Int.natCast_add];exact hr) (by rw[Int.natCast_add,hi2];exact h2)
     rw[Int.natCast_add] at hR
     rw[qZC (qIh h0 hf (by rw[hi1];exact h1)) hR (x:=(m:Int)+dropV n K t q s ((p:Int)+(m:Int)) (getS n K (getS n K (getS n K st (pageI t q s ((p:Int)-1) 1)) (pageI t q s ((f:Int)-1) 0)) (pageI t q s ((p:Int)+(m:Int)) 0))) qo]
     exact qB9 hn hq p m hp hm h0 f hf k1 l1 c1 o1 hi1 h1 _ rfl hr k2 l2 c2 o2 hi2 h2 _ rfl d2.1 d2.2 _ rfl h
    ·have hR:=qJk (n:=n) (K:=K) (t:=t) (q:=q) (s:=s) (r:=p+m) (st:=(getS n K (getS n K st (pageI t q s ((p:Int)-1) 1)) (pageI t q s ((f:Int)-1) 0))) (by rw[Int.natCast_add];exact hr) (by rw[Int.natCast_add,hi2];exact h2)
     rw[Int.natCast_add] at hR
     rw[qZC (qIh h0 hf (by rw[hi1];exact h1)) hR (x:=(m:Int)) qo]
     exact qGF hn hq p m hp hm h0 f hf k1 l1 c1 o1 hi1 h1 _ rfl hr k2 l2 c2 o2 hi2 h2 _ rfl h
   ·have hR:=qXZ (n:=n) (K:=K) (t:=t) (q:=q) (s:=s) (r:=p+m) (st:=(getS n K (getS n K st (pageI t q s ((p:Int)-1) 1)) (pageI t q s ((f:Int)-1) 0))) (by rw[Int.natCast_add];exact hr)
    rw[qZC (qIh h0 hf (by rw[hi1];exact h1)) hR (x:=(m:Int)) qo]
    exact qMG hn hq p m hp hm h0 f hf k1 l1 c1 o1 hi1 h1 _ rfl hr h

end
end
end Go.Proofs.YtgifnhcknodekaaGreat
