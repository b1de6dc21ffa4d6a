/-
  What the document's Release does. Written by span/gen_doc.py.
-/
import Derived.Test.YtgifnhcknodekaaGreatASpanRelease
import Derived.Test.YtgifnhcknodekaaGreatA14
namespace Go.Proofs.YtgifnhcknodekaaGreat
theorem RaN {P Q:Prop}(kq:Q)(h:HQ Q->P:=by
 intro kq
 rw[qZC (qDq h0 hf (by rw[hi1];exact h1)) hR (x:=((m:Int)+dropV n K t q s ((f:Int)-1) (getS n K (getS n K st (pageI t q s ((p:Int)-1) 1)) (pageI t q s ((f:Int)-1) 0)))) qo]
 exact kq.o):P:=h ⟨kq⟩
end Go.Proofs.YtgifnhcknodekaaGreat
set_option linter.unusedVariables false
set_option linter.unusedSimpArgs false
set_option maxRecDepth 100000
set_option maxHeartbeats 25600000
namespace Go.Proofs.YtgifnhcknodekaaGreat
open Go.ChangeShapes Go.WideShapes Go.ChangeAt Go.RowKit Go.Maps
section
section
variable {base b n : Nat} {wh all : Bool} {K : Nat -> Option Nat} {st : Vst} {w w0 : World} {A G : Nat -> Prop} {t q s : Int}

theorem qVg {x:Int}(h0:0<=x)(h1:x<4294967296):IntKind.u32.wrap x=x:=by
 show x%4294967296=x
 exact Int.emod_eq_of_lt h0 h1

theorem qNH (hn:n<2^40)(hq:q<=1024)(p m:Nat)(hp:p<=1024)(hm:m<=1024)(hp0:p=0)(hr:¬ ((p:Int)+(m:Int))<q)(h:(rOb base b n all K).At w0 A G st w) :
  Calls Tryz.prog 52 #[.pointer (some ⟨b,0,none⟩),.agg #[.int .i64 t,.int .i64 q,.int .i64 s],.int .i64 (p:Int),.int .i64 (m:Int)] w fun e w'=>e = .returned (.tuple #[])/\(rOb base b n all K).At w0 A G (putS n (getS n K (addS n K t q s (p:Int) (m:Int) st) 0) 0 (qOO (getV n K (addS n K t q s (p:Int) (m:Int) st) 0) (m:Int))) w'/\Stay G w w':=by
 have W0:=qh ((WL.start h).new 23 #[.int .i64 t,.int .i64 q,.int .i64 s])
 have t0:decide ((0:Int)<(p:Int))=false:=qf
 have t0n:decide (0<p)=false:=qf
 have v4:IntKind.i64.wrap ((p:Int)+(m:Int))=((p:Int)+(m:Int)):=qIv qo qo
 have t1:decide (((p:Int)+(m:Int))<q)=false:=decide_eq_false hr
 obtain⟨x,hx⟩:∃ x,getV n K (addS n K t q s (p:Int) (m:Int) st) 0=x:=⟨_,rfl⟩
 rw[hx]
 obtain⟨y,hy⟩:∃ y,qOO x (m:Int)=y:=⟨_,rfl⟩
 rw[hy]
 have HY:qH (y<2^32):=qh (by rw[<- hy];exact qFE x _)
 have sm:IntKind.u32.wrap (m:Int)=(m:Int):=qVg qo qo
 have sa:IntKind.u32.wrap ((x:Int)+(m:Int))=(y:Int):=by have:=qN8 x (m:Int);rw[sm,hy] at this;exact this
 have HX:=qh hx
 clear hx hy
 clear h hp0
 go_enter Tryz.func52,Tryz.ntmps52
 obtain⟨x0,x1,x2⟩:=W0.o.h0.three
 go_wp2_with fail
 refine(qAc hn qo (p:Int) (m:Int) W0.o.at_).mono ?_;rintro e w1 ⟨rfl,h1,h2⟩;have W1:=qh (W0.o.call h1 h2);clear h1 h2 W0
 obtain⟨x0,x1,x2⟩:=W1.o.h0.three
 go_wp2_with fail
 refine(rGetA hn _ W1.o.at_).mono ?_;rintro e w2 ⟨rfl,h1,h2⟩;have W2:=qh (W1.o.call h1 h2);clear h1 h2 W1;rw[HX.o]
 obtain⟨x0,x1,x2⟩:=W2.o.h0.three
 go_wp2_with fail
 refine(rPutA hn _ y HY.o W2.o.at_).mono ?_;rintro e w3 ⟨rfl,h1,h2⟩;have W3:=qh (W2.o.call h1 h2);clear h1 h2 W2
 obtain⟨x0,x1,x2⟩:=W3.o.h0.three
 go_wp2
 go_end0
 exact⟨rfl,W3.o.fin⟩

theorem qAl (hn:n<2^40)(hq:q<=1024)(p m:Nat)(hp:p<=1024)(hm:m<=1024)(hp0:p=0)(hr:((p:Int)+(m:Int))<q)(k2 l2 c2:Int)(o2:Bool)(hi2:infoOf n K t q s ((p:Int)+(m:Int)) st=(k2,l2,c2,o2))(hk2:k2≠1)(s2:Vst)(hs2:(getS n K st (pageI t q s ((p:Int)+(m:Int)) 0))=s2)(h:(rOb base b n all K).At w0 A G st w) :
  Calls Tryz.prog 52 #[.pointer (some ⟨b,0,none⟩),.agg #[.int .i64 t,.int .i64 q,.int .i64 s],.int .i64 (p:Int),.int .i64 (m:Int)] w fun e w'=>e = .returned (.tuple #[])/\(rOb base b n all K).At w0 A G (putS n (getS n K (addS n K t q s (p:Int) (m:Int) s2) 0) 0 (qOO (getV n K (addS n K t q s (p:Int) (m:Int) s2) 0) (m:Int))) w'/\Stay G w w':=by
 have W0:=qh ((WL.start h).new 23 #[.int .i64 t,.int .i64 q,.int .i64 s])
 have t0:decide ((0:Int)<(p:Int))=false:=qf
 have t0n:decide (0<p)=false:=qf
 have v4:IntKind.i64.wrap ((p:Int)+(m:Int))=((p:Int)+(m:Int)):=qIv qo qo
 have t1:decide (((p:Int)+(m:Int))<q)=true:=decide_eq_true hr
 have HI2:=qh hi2
 have v5:IntKind.i64.wrap (((p:Int)+(m:Int))-1)=((p:Int)+(m:Int))-1:=qIv qo qo
 have u2:(k2==1)=false:=by simpa using hk2
 have HS2:=qh hs2
 obtain⟨x,hx⟩:∃ x,getV n K (addS n K t q s (p:Int) (m:Int) s2) 0=x:=⟨_,rfl⟩
 rw[hx]
 obtain⟨y,hy⟩:∃ y,qOO x (m:Int)=y:=⟨_,rfl⟩
 rw[hy]
 have HY:qH (y<2^32):=qh (by rw[<- hy];exact qFE x _)
 have sm:IntKind.u32.wrap (m:Int)=(m:Int):=qVg qo qo
 have sa:IntKind.u32.wrap ((x:Int)+(m:Int))=(y:Int):=by have:=qN8 x (m:Int);rw[sm,hy] at this;exact this
 have HX:=qh hx
 clear hx hy
 clear h hp0 hi2 hs2
 go_enter Tryz.func52,Tryz.ntmps52
 obtain⟨x0,x1,x2⟩:=W0.o.h0.three
 go_wp2_with fail
 refine(qHu hn ((p:Int)+(m:Int)) k2 l2 c2 o2 HI2.o W0.o.at_).mono ?_;rintro e w1 ⟨rfl,h1,h2⟩;have W1:=qh (W0.o.call h1 h2);clear h1 h2 W0;rw[HS2.o] at W1
 generalize hNJ:w1.heap.size=NJ at *
 replace W1:=qh (W1.o.new 90 #[.int .i64 k2,.int .i64 l2,.int .i64 c2])
 rw[hNJ] at W1
 obtain⟨j0,j1,j2⟩:=W1.o.h0.three
 obtain⟨x0,x1,x2⟩:=W1.o.h1.three
 go_wp2_with fail
 refine(qAc hn qo (p:Int) (m:Int) W1.o.at_).mono ?_;rintro e w2 ⟨rfl,h1,h2⟩;have W2:=qh (W1.o.call h1 h2);clear h1 h2 W1
 obtain⟨j0,j1,j2⟩:=W2.o.h0.three
 obtain⟨x0,x1,x2⟩:=W2.o.h1.three
 go_wp2_with fail
 refine(rGetA hn _ W2.o.at_).mono ?_;rintro e w3 ⟨rfl,h1,h2⟩;have W3:=qh (W2.o.call h1 h2);clear h1 h2 W2;rw[HX.o]
 obtain⟨j0,j1,j2⟩:=W3.o.h0.three
 obtain⟨x0,x1,x2⟩:=W3.o.h1.three
 go_wp2_with fail
 refine(rPutA hn _ y HY.o W3.o.at_).mono ?_;rintro e w4 ⟨rfl,h1,h2⟩;have W4:=qh (W3.o.call h1 h2);clear h1 h2 W3
 obtain⟨j0,j1,j2⟩:=W4.o.h0.three
 obtain⟨x0,x1,x2⟩:=W4.o.h1.three
 go_wp2
 go_end0
 exact⟨rfl,W4.o.fin⟩

theorem qWJ (hn:n<2^40)(hq:q<=1024)(p m:Nat)(hp:p<=1024)(hm:m<=1024)(hp0:p=0)(hr:((p:Int)+(m:Int))<q)(k2 l2 c2:Int)(o2:Bool)(hi2:infoOf n K t q s ((p:Int)+(m:Int)) st=(k2,l2,c2,o2))(hk2:k2=1)(dw:Int)(hdw:dropV n K t q s ((p:Int)+(m:Int)) (getS n K st (pageI t q s ((p:Int)+(m:Int)) 0))=dw)(he0:0<=dw)(he1:dw<=1024)(s2:Vst)(hs2:putS n (putS n (dropS n K t q s ((p:Int)+(m:Int)) (getS n K st (pageI t q s ((p:Int)+(m:Int)) 0))) (pageI t q s ((p:Int)+(m:Int)) 0) 0) (pageI t q s (((p:Int)+(m:Int))-1) 1) 0=s2)(h:(rOb base b n all K).At w0 A G st w) :
  Calls Tryz.prog 52 #[.pointer (some ⟨b,0,none⟩),.agg #[.int .i64 t,.int .i64 q,.int .i64 s],.int .i64 (p:Int),.int .i64 (m:Int)] w fun e w'=>e = .returned (.tuple #[])/\(rOb base b n all K).At w0 A G (putS n (getS n K (addS n K t q s (p:Int) ((m:Int)+dw) s2) 0) 0 (qOO (getV n K (addS n K t q s (p:Int) ((m:Int)+dw) s2) 0) (m:Int))) w'/\Stay G w w':=by
 have W0:=qh ((WL.start h).new 23 #[.int .i64 t,.int .i64 q,.int .i64 s])
 have t0:decide ((0:Int)<(p:Int))=false:=qf
 have t0n:decide (0<p)=false:=qf
 have v4:IntKind.i64.wrap ((p:Int)+(m:Int))=((p:Int)+(m:Int)):=qIv qo qo
 have t1:decide (((p:Int)+(m:Int))<q)=true:=decide_eq_true hr
 have HI2:=qh hi2
 have v5:IntKind.i64.wrap (((p:Int)+(m:Int))-1)=((p:Int)+(m:Int))-1:=qIv qo qo
 subst hk2
 have HDW:=qh hdw
 have HS2:=qh hs2
 have v6:IntKind.i64.wrap ((m:Int)+dw)=((m:Int)+dw):=qIv qo qo
 obtain⟨x,hx⟩:∃ x,getV n K (addS n K t q s (p:Int) ((m:Int)+dw) s2) 0=x:=⟨_,rfl⟩
 rw[hx]
 obtain⟨y,hy⟩:∃ y,qOO x (m:Int)=y:=⟨_,rfl⟩
 rw[hy]
 have HY:qH (y<2^32):=qh (by rw[<- hy];exact qFE x _)
 have sm:IntKind.u32.wrap (m:Int)=(m:Int):=qVg qo qo
 have sa:IntKind.u32.wrap ((x:Int)+(m:Int))=(y:Int):=by have:=qN8 x (m:Int);rw[sm,hy] at this;exact this
 have HX:=qh hx
 clear hx hy
 clear h hp0 hi2 hs2 hdw
 go_enter Tryz.func52,Tryz.ntmps52
 obtain⟨x0,x1,x2⟩:=W0.o.h0.three
 go_wp2_with fail
 refine(qHu hn ((p:Int)+(m:Int)) 1 l2 c2 o2 HI2.o W0.o.at_).mono ?_;rintro e w1 ⟨rfl,h1,h2⟩;have W1:=qh (W0.o.call h1 h2);clear h1 h2 W0
 generalize hNJ:w1.heap.size=NJ at *
 replace W1:=qh (W1.o.new 90 #[.int .i64 1,.int .i64 l2,.int .i64 c2])
 rw[hNJ] at W1
 obtain⟨j0,j1,j2⟩:=W1.o.h0.three
 obtain⟨x0,x1,x2⟩:=W1.o.h1.three
 go_wp2_with fail
 refine(qVK hn qo ((p:Int)+(m:Int)) W1.o.at_).mono ?_;rintro e w2 ⟨rfl,h1,h2⟩;have W2:=qh (W1.o.call h1 h2);clear h1 h2 W1;rw[HDW.o]
 obtain⟨j0,j1,j2⟩:=W2.o.h0.three
 obtain⟨x0,x1,x2⟩:=W2.o.h1.three
 go_wp2_with fail
 refine(qQ1 t q s ((p:Int)+(m:Int)) _).mono ?_;rintro e w3 ⟨rfl,hb⟩;have W3:=qh (W2.o.keep hb);clear hb W2
 obtain⟨j0,j1,j2⟩:=W3.o.h0.three
 obtain⟨x0,x1,x2⟩:=W3.o.h1.three
 go_wp2_with fail
 refine(rPutA hn _ 0 qo W3.o.at_).mono ?_;rintro e w4 ⟨rfl,h1,h2⟩;have W4:=qh (W3.o.call h1 h2);clear h1 h2 W3
 obtain⟨j0,j1,j2⟩:=W4.o.h0.three
 obtain⟨x0,x1,x2⟩:=W4.o.h1.three
 go_wp2_with fail
 refine(qGC t q s (((p:Int)+(m:Int))-1) _).mono ?_;rintro e w5 ⟨rfl,hb⟩;have W5:=qh (W4.o.keep hb);clear hb W4
 obtain⟨j0,j1,j2⟩:=W5.o.h0.three
 obtain⟨x0,x1,x2⟩:=W5.o.h1.three
 go_wp2_with fail
 refine(rPutA hn _ 0 qo W5.o.at_).mono ?_;rintro e w6 ⟨rfl,h1,h2⟩;have W6:=qh (W5.o.call h1 h2);clear h1 h2 W5;rw[HS2.o] at W6
 obtain⟨j0,j1,j2⟩:=W6.o.h0.three
 obtain⟨x0,x1,x2⟩:=W6.o.h1.three
 go_wp2_with fail
 refine(qAc hn qo (p:Int) ((m:Int)+dw) W6.o.at_).mono ?_;rintro e w7 ⟨rfl,h1,h2⟩;have W7:=qh (W6.o.call h1 h2);clear h1 h2 W6
 obtain⟨j0,j1,j2⟩:=W7.o.h0.three
 obtain⟨x0,x1,x2⟩:=W7.o.h1.three
 go_wp2_with fail
 refine(rGetA hn _ W7.o.at_).mono ?_;rintro e w8 ⟨rfl,h1,h2⟩;have W8:=qh (W7.o.call h1 h2);clear h1 h2 W7;rw[HX.o]
 obtain⟨j0,j1,j2⟩:=W8.o.h0.three
 obtain⟨x0,x1,x2⟩:=W8.o.h1.three
 go_wp2_with fail
 refine(rPutA hn _ y HY.o W8.o.at_).mono ?_;rintro e w9 ⟨rfl,h1,h2⟩;have W9:=qh (W8.o.call h1 h2);clear h1 h2 W8
 obtain⟨j0,j1,j2⟩:=W9.o.h0.three
 obtain⟨x0,x1,x2⟩:=W9.o.h1.three
 go_wp2
 go_end0
 exact⟨rfl,W9.o.fin⟩

theorem qXv (hn:n<2^40)(hq:q<=1024)(p m:Nat)(hp:p<=1024)(hm:m<=1024)(hp0:p≠0)(f:Nat)(hf:getV n K st (pageI t q s ((p:Int)-1) 1)=f)(k1 l1 c1:Int)(o1:Bool)(hi1:infoOf n K t q s ((f:Int)-1) (getS n K st (pageI t q s ((p:Int)-1) 1))=(k1,l1,c1,o1))(hk1:k1≠1)(s1:Vst)(hs1:(getS n K (getS n K st (pageI t q s ((p:Int)-1) 1)) (pageI t q s ((f:Int)-1) 0))=s1)(hr:¬ ((p:Int)+(m:Int))<q)(h:(rOb base b n all K).At w0 A G st w) :
  Calls Tryz.prog 52 #[.pointer (some ⟨b,0,none⟩),.agg #[.int .i64 t,.int .i64 q,.int .i64 s],.int .i64 (p:Int),.int .i64 (m:Int)] w fun e w'=>e = .returned (.tuple #[])/\(rOb base b n all K).At w0 A G (putS n (getS n K (addS n K t q s (p:Int) (m:Int) s1) 0) 0 (qOO (getV n K (addS n K t q s (p:Int) (m:Int) s1) 0) (m:Int))) w'/\Stay G w w':=by
 have W0:=qh ((WL.start h).new 23 #[.int .i64 t,.int .i64 q,.int .i64 s])
 have t0:decide ((0:Int)<(p:Int))=true:=qt
 have hf32:f<2^32:=by rw[<- hf];exact qBB h _
 have HF:=qh hf
 have HI1:=qh hi1
 have v0:IntKind.i64.wrap ((p:Int)-1)=(p:Int)-1:=qIv qo qo
 have v1:IntKind.i64.wrap (f:Int)=(f:Int):=qIv qo qo
 have v2:IntKind.i64.wrap ((f:Int)-1)=(f:Int)-1:=qIv qo qo
 have u1:(k1==1)=false:=by simpa using hk1
 have HS1:=qh hs1
 have v4:IntKind.i64.wrap ((p:Int)+(m:Int))=((p:Int)+(m:Int)):=qIv qo qo
 have t1:decide (((p:Int)+(m:Int))<q)=false:=decide_eq_false hr
 obtain⟨x,hx⟩:∃ x,getV n K (addS n K t q s (p:Int) (m:Int) s1) 0=x:=⟨_,rfl⟩
 rw[hx]
 obtain⟨y,hy⟩:∃ y,qOO x (m:Int)=y:=⟨_,rfl⟩
 rw[hy]
 have HY:qH (y<2^32):=qh (by rw[<- hy];exact qFE x _)
 have sm:IntKind.u32.wrap (m:Int)=(m:Int):=qVg qo qo
 have sa:IntKind.u32.wrap ((x:Int)+(m:Int))=(y:Int):=by have:=qN8 x (m:Int);rw[sm,hy] at this;exact this
 have HX:=qh hx
 clear hx hy
 clear h hf hi1 hs1
 go_enter Tryz.func52,Tryz.ntmps52
 obtain⟨x0,x1,x2⟩:=W0.o.h0.three
 go_wp2_with fail
 refine(qGC t q s ((p:Int)-1) _).mono ?_;rintro e w1 ⟨rfl,hb⟩;have W1:=qh (W0.o.keep hb);clear hb W0
 obtain⟨x0,x1,x2⟩:=W1.o.h0.three
 go_wp2_with fail
 refine(rGetA hn _ W1.o.at_).mono ?_;rintro e w2 ⟨rfl,h1,h2⟩;have W2:=qh (W1.o.call h1 h2);clear h1 h2 W1;rw[HF.o]
 obtain⟨x0,x1,x2⟩:=W2.o.h0.three
 go_wp2_with fail
 refine(qHu hn ((f:Int)-1) k1 l1 c1 o1 HI1.o W2.o.at_).mono ?_;rintro e w3 ⟨rfl,h1,h2⟩;have W3:=qh (W2.o.call h1 h2);clear h1 h2 W2;rw[HS1.o] at W3
 generalize hNI:w3.heap.size=NI at *
 replace W3:=qh (W3.o.new 90 #[.int .i64 k1,.int .i64 l1,.int .i64 c1])
 rw[hNI] at W3
 obtain⟨i0,i1,i2⟩:=W3.o.h0.three
 obtain⟨x0,x1,x2⟩:=W3.o.h1.three
 go_wp2_with fail
 refine(qAc hn qo (p:Int) (m:Int) W3.o.at_).mono ?_;rintro e w4 ⟨rfl,h1,h2⟩;have W4:=qh (W3.o.call h1 h2);clear h1 h2 W3
 obtain⟨i0,i1,i2⟩:=W4.o.h0.three
 obtain⟨x0,x1,x2⟩:=W4.o.h1.three
 go_wp2_with fail
 refine(rGetA hn _ W4.o.at_).mono ?_;rintro e w5 ⟨rfl,h1,h2⟩;have W5:=qh (W4.o.call h1 h2);clear h1 h2 W4;rw[HX.o]
 obtain⟨i0,i1,i2⟩:=W5.o.h0.three
 obtain⟨x0,x1,x2⟩:=W5.o.h1.three
 go_wp2_with fail
 refine(rPutA hn _ y HY.o W5.o.at_).mono ?_;rintro e w6 ⟨rfl,h1,h2⟩;have W6:=qh (W5.o.call h1 h2);clear h1 h2 W5
 obtain⟨i0,i1,i2⟩:=W6.o.h0.three
 obtain⟨x0,x1,x2⟩:=W6.o.h1.three
 go_wp2
 go_end0
 exact⟨rfl,W6.o.fin⟩

theorem qTo (hn:n<2^40)(hq:q<=1024)(p m:Nat)(hp:p<=1024)(hm:m<=1024)(hp0:p≠0)(f:Nat)(hf:getV n K st (pageI t q s ((p:Int)-1) 1)=f)(k1 l1 c1:Int)(o1:Bool)(hi1:infoOf n K t q s ((f:Int)-1) (getS n K st (pageI t q s ((p:Int)-1) 1))=(k1,l1,c1,o1))(hk1:k1≠1)(s1:Vst)(hs1:(getS n K (getS n K st (pageI t q s ((p:Int)-1) 1)) (pageI t q s ((f:Int)-1) 0))=s1)(hr:((p:Int)+(m:Int))<q)(k2 l2 c2:Int)(o2:Bool)(hi2:infoOf n K t q s ((p:Int)+(m:Int)) s1=(k2,l2,c2,o2))(hk2:k2≠1)(s2:Vst)(hs2:(getS n K s1 (pageI t q s ((p:Int)+(m:Int)) 0))=s2)(h:(rOb base b n all K).At w0 A G st w) :
  Calls Tryz.prog 52 #[.pointer (some ⟨b,0,none⟩),.agg #[.int .i64 t,.int .i64 q,.int .i64 s],.int .i64 (p:Int),.int .i64 (m:Int)] w fun e w'=>e = .returned (.tuple #[])/\(rOb base b n all K).At w0 A G (putS n (getS n K (addS n K t q s (p:Int) (m:Int) s2) 0) 0 (qOO (getV n K (addS n K t q s (p:Int) (m:Int) s2) 0) (m:Int))) w'/\Stay G w w':=by
 have W0:=qh ((WL.start h).new 23 #[.int .i64 t,.int .i64 q,.int .i64 s])
 have t0:decide ((0:Int)<(p:Int))=true:=qt
 have hf32:f<2^32:=by rw[<- hf];exact qBB h _
 have HF:=qh hf
 have HI1:=qh hi1
 have v0:IntKind.i64.wrap ((p:Int)-1)=(p:Int)-1:=qIv qo qo
 have v1:IntKind.i64.wrap (f:Int)=(f:Int):=qIv qo qo
 have v2:IntKind.i64.wrap ((f:Int)-1)=(f:Int)-1:=qIv qo qo
 have u1:(k1==1)=false:=by simpa using hk1
 have HS1:=qh hs1
 have v4:IntKind.i64.wrap ((p:Int)+(m:Int))=((p:Int)+(m:Int)):=qIv qo qo
 have t1:decide (((p:Int)+(m:Int))<q)=true:=decide_eq_true hr
 have HI2:=qh hi2
 have v5:IntKind.i64.wrap (((p:Int)+(m:Int))-1)=((p:Int)+(m:Int))-1:=qIv qo qo
 have u2:(k2==1)=false:=by simpa using hk2
 have HS2:=qh hs2
 obtain⟨x,hx⟩:∃ x,getV n K (addS n K t q s (p:Int) (m:Int) s2) 0=x:=⟨_,rfl⟩
 rw[hx]
 obtain⟨y,hy⟩:∃ y,qOO x (m:Int)=y:=⟨_,rfl⟩
 rw[hy]
 have HY:qH (y<2^32):=qh (by rw[<- hy];exact qFE x _)
 have sm:IntKind.u32.wrap (m:Int)=(m:Int):=qVg qo qo
 have sa:IntKind.u32.wrap ((x:Int)+(m:Int))=(y:Int):=by have:=qN8 x (m:Int);rw[sm,hy] at this;exact this
 have HX:=qh hx
 clear hx hy
 clear h hf hi1 hs1 hi2 hs2
 go_enter Tryz.func52,Tryz.ntmps52
 obtain⟨x0,x1,x2⟩:=W0.o.h0.three
 go_wp2_with fail
 refine(qGC t q s ((p:Int)-1) _).mono ?_;rintro e w1 ⟨rfl,hb⟩;have W1:=qh (W0.o.keep hb);clear hb W0
 obtain⟨x0,x1,x2⟩:=W1.o.h0.three
 go_wp2_with fail
 refine(rGetA hn _ W1.o.at_).mono ?_;rintro e w2 ⟨rfl,h1,h2⟩;have W2:=qh (W1.o.call h1 h2);clear h1 h2 W1;rw[HF.o]
 obtain⟨x0,x1,x2⟩:=W2.o.h0.three
 go_wp2_with fail
 refine(qHu hn ((f:Int)-1) k1 l1 c1 o1 HI1.o W2.o.at_).mono ?_;rintro e w3 ⟨rfl,h1,h2⟩;have W3:=qh (W2.o.call h1 h2);clear h1 h2 W2;rw[HS1.o] at W3
 generalize hNI:w3.heap.size=NI at *
 replace W3:=qh (W3.o.new 90 #[.int .i64 k1,.int .i64 l1,.int .i64 c1])
 rw[hNI] at W3
 obtain⟨i0,i1,i2⟩:=W3.o.h0.three
 obtain⟨x0,x1,x2⟩:=W3.o.h1.three
 go_wp2_with fail
 refine(qHu hn ((p:Int)+(m:Int)) k2 l2 c2 o2 HI2.o W3.o.at_).mono ?_;rintro e w4 ⟨rfl,h1,h2⟩;have W4:=qh (W3.o.call h1 h2);clear h1 h2 W3;rw[HS2.o] at W4
 generalize hNJ:w4.heap.size=NJ at *
 replace W4:=qh (W4.o.new 90 #[.int .i64 k2,.int .i64 l2,.int .i64 c2])
 rw[hNJ] at W4
 obtain⟨j0,j1,j2⟩:=W4.o.h0.three
 obtain⟨i0,i1,i2⟩:=W4.o.h1.three
 obtain⟨x0,x1,x2⟩:=W4.o.h2.three
 go_wp2_with fail
 refine(qAc hn qo (p:Int) (m:Int) W4.o.at_).mono ?_;rintro e w5 ⟨rfl,h1,h2⟩;have W5:=qh (W4.o.call h1 h2);clear h1 h2 W4
 obtain⟨j0,j1,j2⟩:=W5.o.h0.three
 obtain⟨i0,i1,i2⟩:=W5.o.h1.three
 obtain⟨x0,x1,x2⟩:=W5.o.h2.three
 go_wp2_with fail
 refine(rGetA hn _ W5.o.at_).mono ?_;rintro e w6 ⟨rfl,h1,h2⟩;have W6:=qh (W5.o.call h1 h2);clear h1 h2 W5;rw[HX.o]
 obtain⟨j0,j1,j2⟩:=W6.o.h0.three
 obtain⟨i0,i1,i2⟩:=W6.o.h1.three
 obtain⟨x0,x1,x2⟩:=W6.o.h2.three
 go_wp2_with fail
 refine(rPutA hn _ y HY.o W6.o.at_).mono ?_;rintro e w7 ⟨rfl,h1,h2⟩;have W7:=qh (W6.o.call h1 h2);clear h1 h2 W6
 obtain⟨j0,j1,j2⟩:=W7.o.h0.three
 obtain⟨i0,i1,i2⟩:=W7.o.h1.three
 obtain⟨x0,x1,x2⟩:=W7.o.h2.three
 go_wp2
 go_end0
 exact⟨rfl,W7.o.fin⟩

theorem qVf (hn:n<2^40)(hq:q<=1024)(p m:Nat)(hp:p<=1024)(hm:m<=1024)(hp0:p≠0)(f:Nat)(hf:getV n K st (pageI t q s ((p:Int)-1) 1)=f)(k1 l1 c1:Int)(o1:Bool)(hi1:infoOf n K t q s ((f:Int)-1) (getS n K st (pageI t q s ((p:Int)-1) 1))=(k1,l1,c1,o1))(hk1:k1≠1)(s1:Vst)(hs1:(getS n K (getS n K st (pageI t q s ((p:Int)-1) 1)) (pageI t q s ((f:Int)-1) 0))=s1)(hr:((p:Int)+(m:Int))<q)(k2 l2 c2:Int)(o2:Bool)(hi2:infoOf n K t q s ((p:Int)+(m:Int)) s1=(k2,l2,c2,o2))(hk2:k2=1)(dw:Int)(hdw:dropV n K t q s ((p:Int)+(m:Int)) (getS n K s1 (pageI t q s ((p:Int)+(m:Int)) 0))=dw)(he0:0<=dw)(he1:dw<=1024)(s2:Vst)(hs2:putS n (putS n (dropS n K t q s ((p:Int)+(m:Int)) (getS n K s1 (pageI t q s ((p:Int)+(m:Int)) 0))) (pageI t q s ((p:Int)+(m:Int)) 0) 0) (pageI t q s (((p:Int)+(m:Int))-1) 1) 0=s2)(h:(rOb base b n all K).At w0 A G st w) :
  Calls Tryz.prog 52 #[.pointer (some ⟨b,0,none⟩),.agg #[.int .i64 t,.int .i64 q,.int .i64 s],.int .i64 (p:Int),.int .i64 (m:Int)] w fun e w'=>e = .returned (.tuple #[])/\(rOb base b n all K).At w0 A G (putS n (getS n K (addS n K t q s (p:Int) ((m:Int)+dw) s2) 0) 0 (qOO (getV n K (addS n K t q s (p:Int) ((m:Int)+dw) s2) 0) (m:Int))) w'/\Stay G w w':=by
 have W0:=qh ((WL.start h).new 23 #[.int .i64 t,.int .i64 q,.int .i64 s])
 have t0:decide ((0:Int)<(p:Int))=true:=qt
 have hf32:f<2^32:=by rw[<- hf];exact qBB h _
 have HF:=qh hf
 have HI1:=qh hi1
 have v0:IntKind.i64.wrap ((p:Int)-1)=(p:Int)-1:=qIv qo qo
 have v1:IntKind.i64.wrap (f:Int)=(f:Int):=qIv qo qo
 have v2:IntKind.i64.wrap ((f:Int)-1)=(f:Int)-1:=qIv qo qo
 have u1:(k1==1)=false:=by simpa using hk1
 have HS1:=qh hs1
 have v4:IntKind.i64.wrap ((p:Int)+(m:Int))=((p:Int)+(m:Int)):=qIv qo qo
 have t1:decide (((p:Int)+(m:Int))<q)=true:=decide_eq_true hr
 have HI2:=qh hi2
 have v5:IntKind.i64.wrap (((p:Int)+(m:Int))-1)=((p:Int)+(m:Int))-1:=qIv qo qo
 subst hk2
 have HDW:=qh hdw
 have HS2:=qh hs2
 have v6:IntKind.i64.wrap ((m:Int)+dw)=((m:Int)+dw):=qIv qo qo
 obtain⟨x,hx⟩:∃ x,getV n K (addS n K t q s (p:Int) ((m:Int)+dw) s2) 0=x:=⟨_,rfl⟩
 rw[hx]
 obtain⟨y,hy⟩:∃ y,qOO x (m:Int)=y:=⟨_,rfl⟩
 rw[hy]
 have HY:qH (y<2^32):=qh (by rw[<- hy];exact qFE x _)
 have sm:IntKind.u32.wrap (m:Int)=(m:Int):=qVg qo qo
 have sa:IntKind.u32.wrap ((x:Int)+(m:Int))=(y:Int):=by have:=qN8 x (m:Int);rw[sm,hy] at this;exact this
 have HX:=qh hx
 clear hx hy
 clear h hf hi1 hs1 hi2 hs2 hdw
 go_enter Tryz.func52,Tryz.ntmps52
 obtain⟨x0,x1,x2⟩:=W0.o.h0.three
 go_wp2_with fail
 refine(qGC t q s ((p:Int)-1) _).mono ?_;rintro e w1 ⟨rfl,hb⟩;have W1:=qh (W0.o.keep hb);clear hb W0
 obtain⟨x0,x1,x2⟩:=W1.o.h0.three
 go_wp2_with fail
 refine(rGetA hn _ W1.o.at_).mono ?_;rintro e w2 ⟨rfl,h1,h2⟩;have W2:=qh (W1.o.call h1 h2);clear h1 h2 W1;rw[HF.o]
 obtain⟨x0,x1,x2⟩:=W2.o.h0.three
 go_wp2_with fail
 refine(qHu hn ((f:Int)-1) k1 l1 c1 o1 HI1.o W2.o.at_).mono ?_;rintro e w3 ⟨rfl,h1,h2⟩;have W3:=qh (W2.o.call h1 h2);clear h1 h2 W2;rw[HS1.o] at W3
 generalize hNI:w3.heap.size=NI at *
 replace W3:=qh (W3.o.new 90 #[.int .i64 k1,.int .i64 l1,.int .i64 c1])
 rw[hNI] at W3
 obtain⟨i0,i1,i2⟩:=W3.o.h0.three
 obtain⟨x0,x1,x2⟩:=W3.o.h1.three
 go_wp2_with fail
 refine(qHu hn ((p:Int)+(m:Int)) 1 l2 c2 o2 HI2.o W3.o.at_).mono ?_;rintro e w4 ⟨rfl,h1,h2⟩;have W4:=qh (W3.o.call h1 h2);clear h1 h2 W3
 generalize hNJ:w4.heap.size=NJ at *
 replace W4:=qh (W4.o.new 90 #[.int .i64 1,.int .i64 l2,.int .i64 c2])
 rw[hNJ] at W4
 obtain⟨j0,j1,j2⟩:=W4.o.h0.three
 obtain⟨i0,i1,i2⟩:=W4.o.h1.three
 obtain⟨x0,x1,x2⟩:=W4.o.h2.three
 go_wp2_with fail
 refine(qVK hn qo ((p:Int)+(m:Int)) W4.o.at_).mono ?_;rintro e w5 ⟨rfl,h1,h2⟩;have W5:=qh (W4.o.call h1 h2);clear h1 h2 W4;rw[HDW.o]
 obtain⟨j0,j1,j2⟩:=W5.o.h0.three
 obtain⟨i0,i1,i2⟩:=W5.o.h1.three
 obtain⟨x0,x1,x2⟩:=W5.o.h2.three
 go_wp2_with fail
 refine(qQ1 t q s ((p:Int)+(m:Int)) _).mono ?_;rintro e w6 ⟨rfl,hb⟩;have W6:=qh (W5.o.keep hb);clear hb W5
 obtain⟨j0,j1,j2⟩:=W6.o.h0.three
 obtain⟨i0,i1,i2⟩:=W6.o.h1.three
 obtain⟨x0,x1,x2⟩:=W6.o.h2.three
 go_wp2_with fail
 refine(rPutA hn _ 0 qo W6.o.at_).mono ?_;rintro e w7 ⟨rfl,h1,h2⟩;have W7:=qh (W6.o.call h1 h2);clear h1 h2 W6
 obtain⟨j0,j1,j2⟩:=W7.o.h0.three
 obtain⟨i0,i1,i2⟩:=W7.o.h1.three
 obtain⟨x0,x1,x2⟩:=W7.o.h2.three
 go_wp2_with fail
 refine(qGC t q s (((p:Int)+(m:Int))-1) _).mono ?_;rintro e w8 ⟨rfl,hb⟩;have W8:=qh (W7.o.keep hb);clear hb W7
 obtain⟨j0,j1,j2⟩:=W8.o.h0.three
 obtain⟨i0,i1,i2⟩:=W8.o.h1.three
 obtain⟨x0,x1,x2⟩:=W8.o.h2.three
 go_wp2_with fail
 refine(rPutA hn _ 0 qo W8.o.at_).mono ?_;rintro e w9 ⟨rfl,h1,h2⟩;have W9:=qh (W8.o.call h1 h2);clear h1 h2 W8;rw[HS2.o] at W9
 obtain⟨j0,j1,j2⟩:=W9.o.h0.three
 obtain⟨i0,i1,i2⟩:=W9.o.h1.three
 obtain⟨x0,x1,x2⟩:=W9.o.h2.three
 go_wp2_with fail
 refine(qAc hn qo (p:Int) ((m:Int)+dw) W9.o.at_).mono ?_;rintro e w10 ⟨rfl,h1,h2⟩;have W10:=qh (W9.o.call h1 h2);clear h1 h2 W9
 obtain⟨j0,j1,j2⟩:=W10.o.h0.three
 obtain⟨i0,i1,i2⟩:=W10.o.h1.three
 obtain⟨x0,x1,x2⟩:=W10.o.h2.three
 go_wp2_with fail
 refine(rGetA hn _ W10.o.at_).mono ?_;rintro e w11 ⟨rfl,h1,h2⟩;have W11:=qh (W10.o.call h1 h2);clear h1 h2 W10;rw[HX.o]
 obtain⟨j0,j1,j2⟩:=W11.o.h0.three
 obtain⟨i0,i1,i2⟩:=W11.o.h1.three
 obtain⟨x0,x1,x2⟩:=W11.o.h2.three
 go_wp2_with fail
 refine(rPutA hn _ y HY.o W11.o.at_).mono ?_;rintro e w12 ⟨rfl,h1,h2⟩;have W12:=qh (W11.o.call h1 h2);clear h1 h2 W11
 obtain⟨j0,j1,j2⟩:=W12.o.h0.three
 obtain⟨i0,i1,i2⟩:=W12.o.h1.three
 obtain⟨x0,x1,x2⟩:=W12.o.h2.three
 go_wp2
 go_end0
 exact⟨rfl,W12.o.fin⟩

theorem qQr (hn:n<2^40)(hq:q<=1024)(p m:Nat)(hp:p<=1024)(hm:m<=1024)(hp0:p≠0)(f:Nat)(hf:getV n K st (pageI t q s ((p:Int)-1) 1)=f)(k1 l1 c1:Int)(o1:Bool)(hi1:infoOf n K t q s ((f:Int)-1) (getS n K st (pageI t q s ((p:Int)-1) 1))=(k1,l1,c1,o1))(hk1:k1=1)(dv:Int)(hdv:dropV n K t q s ((f:Int)-1) (getS n K (getS n K st (pageI t q s ((p:Int)-1) 1)) (pageI t q s ((f:Int)-1) 0))=dv)(hd0:0<=dv)(hd1:dv<=1024)(s1:Vst)(hs1:putS n (putS n (dropS n K t q s ((f:Int)-1) (getS n K (getS n K st (pageI t q s ((p:Int)-1) 1)) (pageI t q s ((f:Int)-1) 0))) (pageI t q s (p:Int) 0) 0) (pageI t q s ((p:Int)-1) 1) 0=s1)(hr:¬ ((p:Int)+(m:Int))<q)(h:(rOb base b n all K).At w0 A G st w) :
  Calls Tryz.prog 52 #[.pointer (some ⟨b,0,none⟩),.agg #[.int .i64 t,.int .i64 q,.int .i64 s],.int .i64 (p:Int),.int .i64 (m:Int)] w fun e w'=>e = .returned (.tuple #[])/\(rOb base b n all K).At w0 A G (putS n (getS n K (addS n K t q s ((f:Int)-1) ((m:Int)+dv) s1) 0) 0 (qOO (getV n K (addS n K t q s ((f:Int)-1) ((m:Int)+dv) s1) 0) (m:Int))) w'/\Stay G w w':=by
 have W0:=qh ((WL.start h).new 23 #[.int .i64 t,.int .i64 q,.int .i64 s])
 have t0:decide ((0:Int)<(p:Int))=true:=qt
 have hf32:f<2^32:=by rw[<- hf];exact qBB h _
 have HF:=qh hf
 have HI1:=qh hi1
 have v0:IntKind.i64.wrap ((p:Int)-1)=(p:Int)-1:=qIv qo qo
 have v1:IntKind.i64.wrap (f:Int)=(f:Int):=qIv qo qo
 have v2:IntKind.i64.wrap ((f:Int)-1)=(f:Int)-1:=qIv qo qo
 subst hk1
 have HDV:=qh hdv
 have HS1:=qh hs1
 have v3:IntKind.i64.wrap ((m:Int)+dv)=(m:Int)+dv:=qIv qo qo
 have v4:IntKind.i64.wrap ((p:Int)+(m:Int))=((p:Int)+(m:Int)):=qIv qo qo
 have t1:decide (((p:Int)+(m:Int))<q)=false:=decide_eq_false hr
 obtain⟨x,hx⟩:∃ x,getV n K (addS n K t q s ((f:Int)-1) ((m:Int)+dv) s1) 0=x:=⟨_,rfl⟩
 rw[hx]
 obtain⟨y,hy⟩:∃ y,qOO x (m:Int)=y:=⟨_,rfl⟩
 rw[hy]
 have HY:qH (y<2^32):=qh (by rw[<- hy];exact qFE x _)
 have sm:IntKind.u32.wrap (m:Int)=(m:Int):=qVg qo qo
 have sa:IntKind.u32.wrap ((x:Int)+(m:Int))=(y:Int):=by have:=qN8 x (m:Int);rw[sm,hy] at this;exact this
 have HX:=qh hx
 clear hx hy
 clear h hf hi1 hs1 hdv
 go_enter Tryz.func52,Tryz.ntmps52
 obtain⟨x0,x1,x2⟩:=W0.o.h0.three
 go_wp2_with fail
 refine(qGC t q s ((p:Int)-1) _).mono ?_;rintro e w1 ⟨rfl,hb⟩;have W1:=qh (W0.o.keep hb);clear hb W0
 obtain⟨x0,x1,x2⟩:=W1.o.h0.three
 go_wp2_with fail
 refine(rGetA hn _ W1.o.at_).mono ?_;rintro e w2 ⟨rfl,h1,h2⟩;have W2:=qh (W1.o.call h1 h2);clear h1 h2 W1;rw[HF.o]
 obtain⟨x0,x1,x2⟩:=W2.o.h0.three
 go_wp2_with fail
 refine(qHu hn ((f:Int)-1) 1 l1 c1 o1 HI1.o W2.o.at_).mono ?_;rintro e w3 ⟨rfl,h1,h2⟩;have W3:=qh (W2.o.call h1 h2);clear h1 h2 W2
 generalize hNI:w3.heap.size=NI at *
 replace W3:=qh (W3.o.new 90 #[.int .i64 1,.int .i64 l1,.int .i64 c1])
 rw[hNI] at W3
 obtain⟨i0,i1,i2⟩:=W3.o.h0.three
 obtain⟨x0,x1,x2⟩:=W3.o.h1.three
 go_wp2_with fail
 refine(qVK hn qo ((f:Int)-1) W3.o.at_).mono ?_;rintro e w4 ⟨rfl,h1,h2⟩;have W4:=qh (W3.o.call h1 h2);clear h1 h2 W3;rw[HDV.o]
 obtain⟨i0,i1,i2⟩:=W4.o.h0.three
 obtain⟨x0,x1,x2⟩:=W4.o.h1.three
 go_wp2_with fail
 refine(qQ1 t q s (p:Int) _).mono ?_;rintro e w5 ⟨rfl,hb⟩;have W5:=qh (W4.o.keep hb);clear hb W4
 obtain⟨i0,i1,i2⟩:=W5.o.h0.three
 obtain⟨x0,x1,x2⟩:=W5.o.h1.three
 go_wp2_with fail
 refine(rPutA hn _ 0 qo W5.o.at_).mono ?_;rintro e w6 ⟨rfl,h1,h2⟩;have W6:=qh (W5.o.call h1 h2);clear h1 h2 W5
 obtain⟨i0,i1,i2⟩:=W6.o.h0.three
 obtain⟨x0,x1,x2⟩:=W6.o.h1.three
 go_wp2_with fail
 refine(qGC t q s ((p:Int)-1) _).mono ?_;rintro e w7 ⟨rfl,hb⟩;have W7:=qh (W6.o.keep hb);clear hb W6
 obtain⟨i0,i1,i2⟩:=W7.o.h0.three
 obtain⟨x0,x1,x2⟩:=W7.o.h1.three
 go_wp2_with fail
 refine(rPutA hn _ 0 qo W7.o.at_).mono ?_;rintro e w8 ⟨rfl,h1,h2⟩;have W8:=qh (W7.o.call h1 h2);clear h1 h2 W7;rw[HS1.o] at W8
 obtain⟨i0,i1,i2⟩:=W8.o.h0.three
 obtain⟨x0,x1,x2⟩:=W8.o.h1.three
 go_wp2_with fail
 refine(qAc hn qo ((f:Int)-1) ((m:Int)+dv) W8.o.at_).mono ?_;rintro e w9 ⟨rfl,h1,h2⟩;have W9:=qh (W8.o.call h1 h2);clear h1 h2 W8
 obtain⟨i0,i1,i2⟩:=W9.o.h0.three
 obtain⟨x0,x1,x2⟩:=W9.o.h1.three
 go_wp2_with fail
 refine(rGetA hn _ W9.o.at_).mono ?_;rintro e w10 ⟨rfl,h1,h2⟩;have W10:=qh (W9.o.call h1 h2);clear h1 h2 W9;rw[HX.o]
 obtain⟨i0,i1,i2⟩:=W10.o.h0.three
 obtain⟨x0,x1,x2⟩:=W10.o.h1.three
 go_wp2_with fail
 refine(rPutA hn _ y HY.o W10.o.at_).mono ?_;rintro e w11 ⟨rfl,h1,h2⟩;have W11:=qh (W10.o.call h1 h2);clear h1 h2 W10
 obtain⟨i0,i1,i2⟩:=W11.o.h0.three
 obtain⟨x0,x1,x2⟩:=W11.o.h1.three
 go_wp2
 go_end0
 exact⟨rfl,W11.o.fin⟩

theorem qVc (hn:n<2^40)(hq:q<=1024)(p m:Nat)(hp:p<=1024)(hm:m<=1024)(hp0:p≠0)(f:Nat)(hf:getV n K st (pageI t q s ((p:Int)-1) 1)=f)(k1 l1 c1:Int)(o1:Bool)(hi1:infoOf n K t q s ((f:Int)-1) (getS n K st (pageI t q s ((p:Int)-1) 1))=(k1,l1,c1,o1))(hk1:k1=1)(dv:Int)(hdv:dropV n K t q s ((f:Int)-1) (getS n K (getS n K st (pageI t q s ((p:Int)-1) 1)) (pageI t q s ((f:Int)-1) 0))=dv)(hd0:0<=dv)(hd1:dv<=1024)(s1:Vst)(hs1:putS n (putS n (dropS n K t q s ((f:Int)-1) (getS n K (getS n K st (pageI t q s ((p:Int)-1) 1)) (pageI t q s ((f:Int)-1) 0))) (pageI t q s (p:Int) 0) 0) (pageI t q s ((p:Int)-1) 1) 0=s1)(hr:((p:Int)+(m:Int))<q)(k2 l2 c2:Int)(o2:Bool)(hi2:infoOf n K t q s ((p:Int)+(m:Int)) s1=(k2,l2,c2,o2))(hk2:k2≠1)(s2:Vst)(hs2:(getS n K s1 (pageI t q s ((p:Int)+(m:Int)) 0))=s2)(h:(rOb base b n all K).At w0 A G st w) :
  Calls Tryz.prog 52 #[.pointer (some ⟨b,0,none⟩),.agg #[.int .i64 t,.int .i64 q,.int .i64 s],.int .i64 (p:Int),.int .i64 (m:Int)] w fun e w'=>e = .returned (.tuple #[])/\(rOb base b n all K).At w0 A G (putS n (getS n K (addS n K t q s ((f:Int)-1) ((m:Int)+dv) s2) 0) 0 (qOO (getV n K (addS n K t q s ((f:Int)-1) ((m:Int)+dv) s2) 0) (m:Int))) w'/\Stay G w w':=by
 have W0:=qh ((WL.start h).new 23 #[.int .i64 t,.int .i64 q,.int .i64 s])
 have t0:decide ((0:Int)<(p:Int))=true:=qt
 have hf32:f<2^32:=by rw[<- hf];exact qBB h _
 have HF:=qh hf
 have HI1:=qh hi1
 have v0:IntKind.i64.wrap ((p:Int)-1)=(p:Int)-1:=qIv qo qo
 have v1:IntKind.i64.wrap (f:Int)=(f:Int):=qIv qo qo
 have v2:IntKind.i64.wrap ((f:Int)-1)=(f:Int)-1:=qIv qo qo
 subst hk1
 have HDV:=qh hdv
 have HS1:=qh hs1
 have v3:IntKind.i64.wrap ((m:Int)+dv)=(m:Int)+dv:=qIv qo qo
 have v4:IntKind.i64.wrap ((p:Int)+(m:Int))=((p:Int)+(m:Int)):=qIv qo qo
 have t1:decide (((p:Int)+(m:Int))<q)=true:=decide_eq_true hr
 have HI2:=qh hi2
 have v5:IntKind.i64.wrap (((p:Int)+(m:Int))-1)=((p:Int)+(m:Int))-1:=qIv qo qo
 have u2:(k2==1)=false:=by simpa using hk2
 have HS2:=qh hs2
 obtain⟨x,hx⟩:∃ x,getV n K (addS n K t q s ((f:Int)-1) ((m:Int)+dv) s2) 0=x:=⟨_,rfl⟩
 rw[hx]
 obtain⟨y,hy⟩:∃ y,qOO x (m:Int)=y:=⟨_,rfl⟩
 rw[hy]
 have HY:qH (y<2^32):=qh (by rw[<- hy];exact qFE x _)
 have sm:IntKind.u32.wrap (m:Int)=(m:Int):=qVg qo qo
 have sa:IntKind.u32.wrap ((x:Int)+(m:Int))=(y:Int):=by have:=qN8 x (m:Int);rw[sm,hy] at this;exact this
 have HX:=qh hx
 clear hx hy
 clear h hf hi1 hs1 hdv hi2 hs2
 go_enter Tryz.func52,Tryz.ntmps52
 obtain⟨x0,x1,x2⟩:=W0.o.h0.three
 go_wp2_with fail
 refine(qGC t q s ((p:Int)-1) _).mono ?_;rintro e w1 ⟨rfl,hb⟩;have W1:=qh (W0.o.keep hb);clear hb W0
 obtain⟨x0,x1,x2⟩:=W1.o.h0.three
 go_wp2_with fail
 refine(rGetA hn _ W1.o.at_).mono ?_;rintro e w2 ⟨rfl,h1,h2⟩;have W2:=qh (W1.o.call h1 h2);clear h1 h2 W1;rw[HF.o]
 obtain⟨x0,x1,x2⟩:=W2.o.h0.three
 go_wp2_with fail
 refine(qHu hn ((f:Int)-1) 1 l1 c1 o1 HI1.o W2.o.at_).mono ?_;rintro e w3 ⟨rfl,h1,h2⟩;have W3:=qh (W2.o.call h1 h2);clear h1 h2 W2
 generalize hNI:w3.heap.size=NI at *
 replace W3:=qh (W3.o.new 90 #[.int .i64 1,.int .i64 l1,.int .i64 c1])
 rw[hNI] at W3
 obtain⟨i0,i1,i2⟩:=W3.o.h0.three
 obtain⟨x0,x1,x2⟩:=W3.o.h1.three
 go_wp2_with fail
 refine(qVK hn qo ((f:Int)-1) W3.o.at_).mono ?_;rintro e w4 ⟨rfl,h1,h2⟩;have W4:=qh (W3.o.call h1 h2);clear h1 h2 W3;rw[HDV.o]
 obtain⟨i0,i1,i2⟩:=W4.o.h0.three
 obtain⟨x0,x1,x2⟩:=W4.o.h1.three
 go_wp2_with fail
 refine(qQ1 t q s (p:Int) _).mono ?_;rintro e w5 ⟨rfl,hb⟩;have W5:=qh (W4.o.keep hb);clear hb W4
 obtain⟨i0,i1,i2⟩:=W5.o.h0.three
 obtain⟨x0,x1,x2⟩:=W5.o.h1.three
 go_wp2_with fail
 refine(rPutA hn _ 0 qo W5.o.at_).mono ?_;rintro e w6 ⟨rfl,h1,h2⟩;have W6:=qh (W5.o.call h1 h2);clear h1 h2 W5
 obtain⟨i0,i1,i2⟩:=W6.o.h0.three
 obtain⟨x0,x1,x2⟩:=W6.o.h1.three
 go_wp2_with fail
 refine(qGC t q s ((p:Int)-1) _).mono ?_;rintro e w7 ⟨rfl,hb⟩;have W7:=qh (W6.o.keep hb);clear hb W6
 obtain⟨i0,i1,i2⟩:=W7.o.h0.three
 obtain⟨x0,x1,x2⟩:=W7.o.h1.three
 go_wp2_with fail
 refine(rPutA hn _ 0 qo W7.o.at_).mono ?_;rintro e w8 ⟨rfl,h1,h2⟩;have W8:=qh (W7.o.call h1 h2);clear h1 h2 W7;rw[HS1.o] at W8
 obtain⟨i0,i1,i2⟩:=W8.o.h0.three
 obtain⟨x0,x1,x2⟩:=W8.o.h1.three
 go_wp2_with fail
 refine(qHu hn ((p:Int)+(m:Int)) k2 l2 c2 o2 HI2.o W8.o.at_).mono ?_;rintro e w9 ⟨rfl,h1,h2⟩;have W9:=qh (W8.o.call h1 h2);clear h1 h2 W8;rw[HS2.o] at W9
 generalize hNJ:w9.heap.size=NJ at *
 replace W9:=qh (W9.o.new 90 #[.int .i64 k2,.int .i64 l2,.int .i64 c2])
 rw[hNJ] at W9
 obtain⟨j0,j1,j2⟩:=W9.o.h0.three
 obtain⟨i0,i1,i2⟩:=W9.o.h1.three
 obtain⟨x0,x1,x2⟩:=W9.o.h2.three
 go_wp2_with fail
 refine(qAc hn qo ((f:Int)-1) ((m:Int)+dv) W9.o.at_).mono ?_;rintro e w10 ⟨rfl,h1,h2⟩;have W10:=qh (W9.o.call h1 h2);clear h1 h2 W9
 obtain⟨j0,j1,j2⟩:=W10.o.h0.three
 obtain⟨i0,i1,i2⟩:=W10.o.h1.three
 obtain⟨x0,x1,x2⟩:=W10.o.h2.three
 go_wp2_with fail
 refine(rGetA hn _ W10.o.at_).mono ?_;rintro e w11 ⟨rfl,h1,h2⟩;have W11:=qh (W10.o.call h1 h2);clear h1 h2 W10;rw[HX.o]
 obtain⟨j0,j1,j2⟩:=W11.o.h0.three
 obtain⟨i0,i1,i2⟩:=W11.o.h1.three
 obtain⟨x0,x1,x2⟩:=W11.o.h2.three
 go_wp2_with fail
 refine(rPutA hn _ y HY.o W11.o.at_).mono ?_;rintro e w12 ⟨rfl,h1,h2⟩;have W12:=qh (W11.o.call h1 h2);clear h1 h2 W11
 obtain⟨j0,j1,j2⟩:=W12.o.h0.three
 obtain⟨i0,i1,i2⟩:=W12.o.h1.three
 obtain⟨x0,x1,x2⟩:=W12.o.h2.three
 go_wp2
 go_end0
 exact⟨rfl,W12.o.fin⟩

theorem qSI (hn:n<2^40)(hq:q<=1024)(p m:Nat)(hp:p<=1024)(hm:m<=1024)(hp0:p≠0)(f:Nat)(hf:getV n K st (pageI t q s ((p:Int)-1) 1)=f)(k1 l1 c1:Int)(o1:Bool)(hi1:infoOf n K t q s ((f:Int)-1) (getS n K st (pageI t q s ((p:Int)-1) 1))=(k1,l1,c1,o1))(hk1:k1=1)(dv:Int)(hdv:dropV n K t q s ((f:Int)-1) (getS n K (getS n K st (pageI t q s ((p:Int)-1) 1)) (pageI t q s ((f:Int)-1) 0))=dv)(hd0:0<=dv)(hd1:dv<=1024)(s1:Vst)(hs1:putS n (putS n (dropS n K t q s ((f:Int)-1) (getS n K (getS n K st (pageI t q s ((p:Int)-1) 1)) (pageI t q s ((f:Int)-1) 0))) (pageI t q s (p:Int) 0) 0) (pageI t q s ((p:Int)-1) 1) 0=s1)(hr:((p:Int)+(m:Int))<q)(k2 l2 c2:Int)(o2:Bool)(hi2:infoOf n K t q s ((p:Int)+(m:Int)) s1=(k2,l2,c2,o2))(hk2:k2=1)(dw:Int)(hdw:dropV n K t q s ((p:Int)+(m:Int)) (getS n K s1 (pageI t q s ((p:Int)+(m:Int)) 0))=dw)(he0:0<=dw)(he1:dw<=1024)(s2:Vst)(hs2:putS n (putS n (dropS n K t q s ((p:Int)+(m:Int)) (getS n K s1 (pageI t q s ((p:Int)+(m:Int)) 0))) (pageI t q s ((p:Int)+(m:Int)) 0) 0) (pageI t q s (((p:Int)+(m:Int))-1) 1) 0=s2)(h:(rOb base b n all K).At w0 A G st w) :
  Calls Tryz.prog 52 #[.pointer (some ⟨b,0,none⟩),.agg #[.int .i64 t,.int .i64 q,.int .i64 s],.int .i64 (p:Int),.int .i64 (m:Int)] w fun e w'=>e = .returned (.tuple #[])/\(rOb base b n all K).At w0 A G (putS n (getS n K (addS n K t q s ((f:Int)-1) (((m:Int)+dv)+dw) s2) 0) 0 (qOO (getV n K (addS n K t q s ((f:Int)-1) (((m:Int)+dv)+dw) s2) 0) (m:Int))) w'/\Stay G w w':=by
 have W0:=qh ((WL.start h).new 23 #[.int .i64 t,.int .i64 q,.int .i64 s])
 have t0:decide ((0:Int)<(p:Int))=true:=qt
 have hf32:f<2^32:=by rw[<- hf];exact qBB h _
 have HF:=qh hf
 have HI1:=qh hi1
 have v0:IntKind.i64.wrap ((p:Int)-1)=(p:Int)-1:=qIv qo qo
 have v1:IntKind.i64.wrap (f:Int)=(f:Int):=qIv qo qo
 have v2:IntKind.i64.wrap ((f:Int)-1)=(f:Int)-1:=qIv qo qo
 subst hk1
 have HDV:=qh hdv
 have HS1:=qh hs1
 have v3:IntKind.i64.wrap ((m:Int)+dv)=(m:Int)+dv:=qIv qo qo
 have v4:IntKind.i64.wrap ((p:Int)+(m:Int))=((p:Int)+(m:Int)):=qIv qo qo
 have t1:decide (((p:Int)+(m:Int))<q)=true:=decide_eq_true hr
 have HI2:=qh hi2
 have v5:IntKind.i64.wrap (((p:Int)+(m:Int))-1)=((p:Int)+(m:Int))-1:=qIv qo qo
 subst hk2
 have HDW:=qh hdw
 have HS2:=qh hs2
 have v6:IntKind.i64.wrap (((m:Int)+dv)+dw)=(((m:Int)+dv)+dw):=qIv qo qo
 obtain⟨x,hx⟩:∃ x,getV n K (addS n K t q s ((f:Int)-1) (((m:Int)+dv)+dw) s2) 0=x:=⟨_,rfl⟩
 rw[hx]
 obtain⟨y,hy⟩:∃ y,qOO x (m:Int)=y:=⟨_,rfl⟩
 rw[hy]
 have HY:qH (y<2^32):=qh (by rw[<- hy];exact qFE x _)
 have sm:IntKind.u32.wrap (m:Int)=(m:Int):=qVg qo qo
 have sa:IntKind.u32.wrap ((x:Int)+(m:Int))=(y:Int):=by have:=qN8 x (m:Int);rw[sm,hy] at this;exact this
 have HX:=qh hx
 clear hx hy
 clear h hf hi1 hs1 hdv hi2 hs2 hdw
 go_enter Tryz.func52,Tryz.ntmps52
 obtain⟨x0,x1,x2⟩:=W0.o.h0.three
 go_wp2_with fail
 refine(qGC t q s ((p:Int)-1) _).mono ?_;rintro e w1 ⟨rfl,hb⟩;have W1:=qh (W0.o.keep hb);clear hb W0
 obtain⟨x0,x1,x2⟩:=W1.o.h0.three
 go_wp2_with fail
 refine(rGetA hn _ W1.o.at_).mono ?_;rintro e w2 ⟨rfl,h1,h2⟩;have W2:=qh (W1.o.call h1 h2);clear h1 h2 W1;rw[HF.o]
 obtain⟨x0,x1,x2⟩:=W2.o.h0.three
 go_wp2_with fail
 refine(qHu hn ((f:Int)-1) 1 l1 c1 o1 HI1.o W2.o.at_).mono ?_;rintro e w3 ⟨rfl,h1,h2⟩;have W3:=qh (W2.o.call h1 h2);clear h1 h2 W2
 generalize hNI:w3.heap.size=NI at *
 replace W3:=qh (W3.o.new 90 #[.int .i64 1,.int .i64 l1,.int .i64 c1])
 rw[hNI] at W3
 obtain⟨i0,i1,i2⟩:=W3.o.h0.three
 obtain⟨x0,x1,x2⟩:=W3.o.h1.three
 go_wp2_with fail
 refine(qVK hn qo ((f:Int)-1) W3.o.at_).mono ?_;rintro e w4 ⟨rfl,h1,h2⟩;have W4:=qh (W3.o.call h1 h2);clear h1 h2 W3;rw[HDV.o]
 obtain⟨i0,i1,i2⟩:=W4.o.h0.three
 obtain⟨x0,x1,x2⟩:=W4.o.h1.three
 go_wp2_with fail
 refine(qQ1 t q s (p:Int) _).mono ?_;rintro e w5 ⟨rfl,hb⟩;have W5:=qh (W4.o.keep hb);clear hb W4
 obtain⟨i0,i1,i2⟩:=W5.o.h0.three
 obtain⟨x0,x1,x2⟩:=W5.o.h1.three
 go_wp2_with fail
 refine(rPutA hn _ 0 qo W5.o.at_).mono ?_;rintro e w6 ⟨rfl,h1,h2⟩;have W6:=qh (W5.o.call h1 h2);clear h1 h2 W5
 obtain⟨i0,i1,i2⟩:=W6.o.h0.three
 obtain⟨x0,x1,x2⟩:=W6.o.h1.three
 go_wp2_with fail
 refine(qGC t q s ((p:Int)-1) _).mono ?_;rintro e w7 ⟨rfl,hb⟩;have W7:=qh (W6.o.keep hb);clear hb W6
 obtain⟨i0,i1,i2⟩:=W7.o.h0.three
 obtain⟨x0,x1,x2⟩:=W7.o.h1.three
 go_wp2_with fail
 refine(rPutA hn _ 0 qo W7.o.at_).mono ?_;rintro e w8 ⟨rfl,h1,h2⟩;have W8:=qh (W7.o.call h1 h2);clear h1 h2 W7;rw[HS1.o] at W8
 obtain⟨i0,i1,i2⟩:=W8.o.h0.three
 obtain⟨x0,x1,x2⟩:=W8.o.h1.three
 go_wp2_with fail
 refine(qHu hn ((p:Int)+(m:Int)) 1 l2 c2 o2 HI2.o W8.o.at_).mono ?_;rintro e w9 ⟨rfl,h1,h2⟩;have W9:=qh (W8.o.call h1 h2);clear h1 h2 W8
 generalize hNJ:w9.heap.size=NJ at *
 replace W9:=qh (W9.o.new 90 #[.int .i64 1,.int .i64 l2,.int .i64 c2])
 rw[hNJ] at W9
 obtain⟨j0,j1,j2⟩:=W9.o.h0.three
 obtain⟨i0,i1,i2⟩:=W9.o.h1.three
 obtain⟨x0,x1,x2⟩:=W9.o.h2.three
 go_wp2_with fail
 refine(qVK hn qo ((p:Int)+(m:Int)) W9.o.at_).mono ?_;rintro e w10 ⟨rfl,h1,h2⟩;have W10:=qh (W9.o.call h1 h2);clear h1 h2 W9;rw[HDW.o]
 obtain⟨j0,j1,j2⟩:=W10.o.h0.three
 obtain⟨i0,i1,i2⟩:=W10.o.h1.three
 obtain⟨x0,x1,x2⟩:=W10.o.h2.three
 go_wp2_with fail
 refine(qQ1 t q s ((p:Int)+(m:Int)) _).mono ?_;rintro e w11 ⟨rfl,hb⟩;have W11:=qh (W10.o.keep hb);clear hb W10
 obtain⟨j0,j1,j2⟩:=W11.o.h0.three
 obtain⟨i0,i1,i2⟩:=W11.o.h1.three
 obtain⟨x0,x1,x2⟩:=W11.o.h2.three
 go_wp2_with fail
 refine(rPutA hn _ 0 qo W11.o.at_).mono ?_;rintro e w12 ⟨rfl,h1,h2⟩;have W12:=qh (W11.o.call h1 h2);clear h1 h2 W11
 obtain⟨j0,j1,j2⟩:=W12.o.h0.three
 obtain⟨i0,i1,i2⟩:=W12.o.h1.three
 obtain⟨x0,x1,x2⟩:=W12.o.h2.three
 go_wp2_with fail
 refine(qGC t q s (((p:Int)+(m:Int))-1) _).mono ?_;rintro e w13 ⟨rfl,hb⟩;have W13:=qh (W12.o.keep hb);clear hb W12
 obtain⟨j0,j1,j2⟩:=W13.o.h0.three
 obtain⟨i0,i1,i2⟩:=W13.o.h1.three
 obtain⟨x0,x1,x2⟩:=W13.o.h2.three
 go_wp2_with fail
 refine(rPutA hn _ 0 qo W13.o.at_).mono ?_;rintro e w14 ⟨rfl,h1,h2⟩;have W14:=qh (W13.o.call h1 h2);clear h1 h2 W13;rw[HS2.o] at W14
 obtain⟨j0,j1,j2⟩:=W14.o.h0.three
 obtain⟨i0,i1,i2⟩:=W14.o.h1.three
 obtain⟨x0,x1,x2⟩:=W14.o.h2.three
 go_wp2_with fail
 refine(qAc hn qo ((f:Int)-1) (((m:Int)+dv)+dw) W14.o.at_).mono ?_;rintro e w15 ⟨rfl,h1,h2⟩;have W15:=qh (W14.o.call h1 h2);clear h1 h2 W14
 obtain⟨j0,j1,j2⟩:=W15.o.h0.three
 obtain⟨i0,i1,i2⟩:=W15.o.h1.three
 obtain⟨x0,x1,x2⟩:=W15.o.h2.three
 go_wp2_with fail
 refine(rGetA hn _ W15.o.at_).mono ?_;rintro e w16 ⟨rfl,h1,h2⟩;have W16:=qh (W15.o.call h1 h2);clear h1 h2 W15;rw[HX.o]
 obtain⟨j0,j1,j2⟩:=W16.o.h0.three
 obtain⟨i0,i1,i2⟩:=W16.o.h1.three
 obtain⟨x0,x1,x2⟩:=W16.o.h2.three
 go_wp2_with fail
 refine(rPutA hn _ y HY.o W16.o.at_).mono ?_;rintro e w17 ⟨rfl,h1,h2⟩;have W17:=qh (W16.o.call h1 h2);clear h1 h2 W16
 obtain⟨j0,j1,j2⟩:=W17.o.h0.three
 obtain⟨i0,i1,i2⟩:=W17.o.h1.three
 obtain⟨x0,x1,x2⟩:=W17.o.h2.three
 go_wp2
 go_end0
 exact⟨rfl,W17.o.fin⟩

theorem qR1 (hn:n<2^40)(hq:q<=1024)(p m:Nat)(hp:p<=1024)(hm:m<=1024)(h:(rOb base b n all K).At w0 A G st w) :
  Calls Tryz.prog 52 #[.pointer (some ⟨b,0,none⟩),.agg #[.int .i64 t,.int .i64 q,.int .i64 s],.int .i64 (p:Int),.int .i64 (m:Int)] w fun e w'=>e = .returned (.tuple #[])/\(rOb base b n all K).At w0 A G (releaseS n K t q s p m st) w'/\Stay G w w':=by
 by_cases h0:p=0
 ·by_cases hr:((p:Int)+(m:Int))<q
  ·obtain⟨⟨k2,l2,c2,o2⟩,hi2⟩:∃ x,infoOf n K t q s ((p:Int)+(m:Int)) st=x:=⟨_,rfl⟩
   by_cases h2:k2=1
   ·refine Rur ?_;intro d2 hR
    exact qWJ hn hq p m hp hm h0 hr k2 l2 c2 o2 hi2 h2 _ rfl d2.1 d2.2 _ rfl h
   ·refine RXP ?_;intro hR
    exact qAl hn hq p m hp hm h0 hr k2 l2 c2 o2 hi2 h2 _ rfl h
  ·refine RuB ?_;intro hR
   exact qNH hn hq p m hp hm h0 hr h
 ·obtain⟨f,hf⟩:∃ f,getV n K st (pageI t q s ((p:Int)-1) 1)=f:=⟨_,rfl⟩
  obtain⟨⟨k1,l1,c1,o1⟩,hi1⟩:∃ x,infoOf n K t q s ((f:Int)-1) (getS n K st (pageI t q s ((p:Int)-1) 1))=x:=⟨_,rfl⟩
  by_cases h1:k1=1
  ·have d1:=qKM (n:=n) (K:=K) (t:=t) (q:=q) (s:=s) ((f:Int)-1) (getS n K (getS n K st (pageI t q s ((p:Int)-1) 1)) (pageI t q s ((f:Int)-1) 0))
   by_cases hr:((p:Int)+(m:Int))<q
   ·refine Rht ?_;intro k2 l2 c2 o2 hi2
    by_cases h2:k2=1
    ·refine Rwr ?_;intro d2 hR
     rw[qZC (qDq h0 hf (by rw[hi1];exact h1)) hR (x:=((m:Int)+dropV n K t q s ((f:Int)-1) (getS n K (getS n K st (pageI t q s ((p:Int)-1) 1)) (pageI t q s ((f:Int)-1) 0)))+dropV n K t q s ((p:Int)+(m:Int)) (getS n K (putS n (putS n (dropS n K t q s ((f:Int)-1) (getS n K (getS n K st (pageI t q s ((p:Int)-1) 1)) (pageI t q s ((f:Int)-1) 0))) (pageI t q s (p:Int) 0) 0) (pageI t q s ((p:Int)-1) 1) 0) (pageI t q s ((p:Int)+(m:Int)) 0))) qo]
     exact qSI hn hq p m hp hm h0 f hf k1 l1 c1 o1 hi1 h1 _ rfl d1.1 d1.2 _ rfl hr k2 l2 c2 o2 hi2 h2 _ rfl d2.1 d2.2 _ rfl h
    ·refine RXF ?_;intro hR
     refine RaN ?_
     exact qVc hn hq p m hp hm h0 f hf k1 l1 c1 o1 hi1 h1 _ rfl d1.1 d1.2 _ rfl hr k2 l2 c2 o2 hi2 h2 _ rfl h
   ·refine RXf ?_;intro hR
    refine RaN ?_
    exact qQr hn hq p m hp hm h0 f hf k1 l1 c1 o1 hi1 h1 _ rfl d1.1 d1.2 _ rfl hr h
  ·by_cases hr:((p:Int)+(m:Int))<q
   ·obtain⟨⟨k2,l2,c2,o2⟩,hi2⟩:∃ x,infoOf n K t q s ((p:Int)+(m:Int)) (getS n K (getS n K st (pageI t q s ((p:Int)-1) 1)) (pageI t q s ((f:Int)-1) 0))=x:=⟨_,rfl⟩
    by_cases h2:k2=1
    ·refine RWO ?_;intro d2 hR
     exact qVf hn hq p m hp hm h0 f hf k1 l1 c1 o1 hi1 h1 _ rfl hr k2 l2 c2 o2 hi2 h2 _ rfl d2.1 d2.2 _ rfl h
    ·refine RbJ ?_;intro hR
     exact qTo hn hq p m hp hm h0 f hf k1 l1 c1 o1 hi1 h1 _ rfl hr k2 l2 c2 o2 hi2 h2 _ rfl h
   ·refine Rkp ?_;intro hR
    exact qXv hn hq p m hp hm h0 f hf k1 l1 c1 o1 hi1 h1 _ rfl hr h
end
end
end Go.Proofs.YtgifnhcknodekaaGreat
