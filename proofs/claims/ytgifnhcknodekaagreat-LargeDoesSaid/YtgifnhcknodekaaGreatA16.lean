/-
  What the document's Take, Shrink and Grow do. Written by span/gen_doc.py.
-/
import Derived.Test.YtgifnhcknodekaaGreatA15
import Derived.Test.YtgifnhcknodekaaGreatA07
import Derived.Test.YtgifnhcknodekaaGreatA13
set_option linter.unusedVariables false
set_option linter.unusedSimpArgs false
set_option maxRecDepth 100000
set_option maxHeartbeats 25600000
namespace Go.Proofs.YtgifnhcknodekaaGreat
open Go.ChangeShapes Go.WideShapes Go.ChangeAt Go.RowKit Go.Maps
section
section
variable {base b n : Nat} {wh all : Bool} {K : Nat -> Option Nat} {st : Vst} {w w0 : World} {A G : Nat -> Prop} {t q s : Int}

theorem qMW (hn:n<2^40)(hq:q<=1024)(P M:Int)(p m:Nat)(eP:P=(p:Int))(eM:M=(m:Int))(hp:p<=1024)(hm:m<=1024)(h:(rOb base b n all K).At w0 A G st w) :
  Calls Tryz.prog 52 #[.pointer (some ⟨b,0,none⟩),.agg #[.int .i64 t,.int .i64 q,.int .i64 s],.int .i64 P,.int .i64 M] w fun e w'=>e = .returned (.tuple #[])/\(rOb base b n all K).At w0 A G (releaseS n K t q s p m st) w'/\Stay G w w':=by
 subst eP eM
 exact qR1 hn hq p m hp hm h

theorem qX9 (hn:n<2^40)(hq:q<=1024)(nn:Int)(s1:Vst)(hf:findI n K t q s nn st=(none,s1))(h:(rOb base b n all K).At w0 A G st w) :
  Calls Tryz.prog 34 #[.pointer (some ⟨b,0,none⟩),.agg #[.int .i64 t,.int .i64 q,.int .i64 s],.int .i64 nn] w fun e w'=>e = .returned (.tuple #[.int .i64 0,.bool false])/\(rOb base b n all K).At w0 A G (s1) w'/\Stay G w w':=by
 have W0:=qh ((WL.start h).new 23 #[.int .i64 t,.int .i64 q,.int .i64 s])
 have hq2:q<=2147483648:=qo
 have HFO:=qh hf
 clear h hf
 go_enter Tryz.func34,Tryz.ntmps34
 obtain⟨x0,x1,x2⟩:=W0.o.h0.three
 go_wp2_with fail
 refine(qRA hn hq nn W0.o.at_).mono ?_;rintro e w1 ⟨rfl,h1,h2⟩;have W1:=qh (W0.o.call h1 h2);clear h1 h2 W0;rw[HFO.o] at W1 ⊢;dsimp only[foundI,Option.isSome] at W1 ⊢
 obtain⟨x0,x1,x2⟩:=W1.o.h0.three
 go_wp2
 go_ret2
 exact⟨rfl,W1.o.fin⟩

theorem qJy (hn:n<2^40)(hq:q<=1024)(p m:Nat)(hp:p<=1024)(hm:m<=1024)(l:Int)(hl0:0<=l)(hl1:l<=1024)(s1:Vst)(hf:findI n K t q s (m:Int) st=(some p,s1))(hd:dropV n K t q s (p:Int) s1=l)(hml:(m:Int)<l)(h:(rOb base b n all K).At w0 A G st w) :
  Calls Tryz.prog 34 #[.pointer (some ⟨b,0,none⟩),.agg #[.int .i64 t,.int .i64 q,.int .i64 s],.int .i64 (m:Int)] w fun e w'=>e = .returned (.tuple #[.int .i64 (p:Int),.bool true])/\(rOb base b n all K).At w0 A G (putS n (getS n K (addS n K t q s ((p:Int)+(m:Int)) (l-(m:Int)) (usedS n t q s p m (dropS n K t q s (p:Int) s1))) 0) 0 (qZB (getV n K (addS n K t q s ((p:Int)+(m:Int)) (l-(m:Int)) (usedS n t q s p m (dropS n K t q s (p:Int) s1))) 0) (m:Int))) w'/\Stay G w w':=by
 have W0:=qh ((WL.start h).new 23 #[.int .i64 t,.int .i64 q,.int .i64 s])
 have hq2:q<=2147483648:=qo
 have t1:decide ((m:Int)<l)=true:=decide_eq_true hml
 have HFO:=qh hf
 have HDV:=qh hd
 have HIV:=qh (qPM 2 (m:Int) 0)
 have sp:IntKind.u32.wrap (p:Int)=(p:Int):=qTt p qo
 have sk:IntKind.u32.wrap ((p:Int)+1)=((p+1:Nat):Int):=by have:=qTt (p+1) qo;simpa using this
 have v4:IntKind.i64.wrap ((p:Int)+(m:Int))=((p:Int)+(m:Int)):=qIv qo qo
 have v5:IntKind.i64.wrap (((p:Int)+(m:Int))-1)=(((p:Int)+(m:Int))-1):=qIv qo qo
 have v6:IntKind.i64.wrap (l-(m:Int))=(l-(m:Int)):=qIv qo qo
 have HUS:qH (putS n (putS n (dropS n K t q s (p:Int) s1) (pageI t q s (p:Int) 0) (infoV 2 (m:Int) 0)) (pageI t q s ((p:Int)+(m:Int)-1) 1) (p+1)=usedS n t q s p m (dropS n K t q s (p:Int) s1)):=qh rfl
 obtain⟨x,hx⟩:∃ x,getV n K (addS n K t q s ((p:Int)+(m:Int)) (l-(m:Int)) (usedS n t q s p m (dropS n K t q s (p:Int) s1))) 0=x:=⟨_,rfl⟩
 rw[hx]
 obtain⟨y,hy⟩:∃ y,qZB x (m:Int)=y:=⟨_,rfl⟩
 rw[hy]
 have HY:qH (y<2^32):=qh (by rw[<- hy];exact qQj x _)
 have sm:IntKind.u32.wrap (m:Int)=(m:Int):=qVg qo qo
 have sa:IntKind.u32.wrap ((x:Int)-(m:Int))=(y:Int):=by have:=qZI x (m:Int);rw[sm,hy] at this;exact this
 have HX:=qh hx
 clear hx hy
 clear h hf hd
 go_enter Tryz.func34,Tryz.ntmps34
 obtain⟨x0,x1,x2⟩:=W0.o.h0.three
 go_wp2_with fail
 refine(qRA hn hq (m:Int) W0.o.at_).mono ?_;rintro e w1 ⟨rfl,h1,h2⟩;have W1:=qh (W0.o.call h1 h2);clear h1 h2 W0;rw[HFO.o] at W1 ⊢;dsimp only[foundI,Option.isSome] at W1 ⊢
 obtain⟨x0,x1,x2⟩:=W1.o.h0.three
 go_wp2_with fail
 refine(qVK hn hq2 (p:Int) W1.o.at_).mono ?_;rintro e w2 ⟨rfl,h1,h2⟩;have W2:=qh (W1.o.call h1 h2);clear h1 h2 W1;rw[HDV.o]
 obtain⟨x0,x1,x2⟩:=W2.o.h0.three
 go_wp2_with fail
 refine(qQ1 t q s (p:Int) _).mono ?_;rintro e w3 ⟨rfl,hb⟩;have W3:=qh (W2.o.keep hb);clear hb W2
 obtain⟨x0,x1,x2⟩:=W3.o.h0.three
 go_wp2_with fail
 refine(qI0 2 (m:Int) 0 _).mono ?_;rintro e w4 ⟨rfl,hb⟩;have W4:=qh (W3.o.keep hb);clear hb W3
 obtain⟨x0,x1,x2⟩:=W4.o.h0.three
 go_wp2_with fail
 refine(rPutA hn _ _ HIV.o W4.o.at_).mono ?_;rintro e w5 ⟨rfl,h1,h2⟩;have W5:=qh (W4.o.call h1 h2);clear h1 h2 W4
 obtain⟨x0,x1,x2⟩:=W5.o.h0.three
 go_wp2_with fail
 refine(qGC t q s ((p:Int)+(m:Int)-1) _).mono ?_;rintro e w6 ⟨rfl,hb⟩;have W6:=qh (W5.o.keep hb);clear hb W5
 obtain⟨x0,x1,x2⟩:=W6.o.h0.three
 go_wp2_with fail
 refine(rPutA hn _ (p+1) qo W6.o.at_).mono ?_;rintro e w7 ⟨rfl,h1,h2⟩;have W7:=qh (W6.o.call h1 h2);clear h1 h2 W6;rw[HUS.o] at W7
 obtain⟨x0,x1,x2⟩:=W7.o.h0.three
 go_wp2_with fail
 refine(qAc hn hq2 ((p:Int)+(m:Int)) (l-(m:Int)) W7.o.at_).mono ?_;rintro e w8 ⟨rfl,h1,h2⟩;have W8:=qh (W7.o.call h1 h2);clear h1 h2 W7
 obtain⟨x0,x1,x2⟩:=W8.o.h0.three
 go_wp2_with fail
 refine(rGetA hn _ W8.o.at_).mono ?_;rintro e w9 ⟨rfl,h1,h2⟩;have W9:=qh (W8.o.call h1 h2);clear h1 h2 W8;rw[HX.o]
 obtain⟨x0,x1,x2⟩:=W9.o.h0.three
 go_wp2_with fail
 refine(rPutA hn _ y HY.o W9.o.at_).mono ?_;rintro e w10 ⟨rfl,h1,h2⟩;have W10:=qh (W9.o.call h1 h2);clear h1 h2 W9
 obtain⟨x0,x1,x2⟩:=W10.o.h0.three
 go_wp2
 go_ret2
 exact⟨rfl,W10.o.fin⟩

theorem qAG (hn:n<2^40)(hq:q<=1024)(p m:Nat)(hp:p<=1024)(hm:m<=1024)(l:Int)(hl0:0<=l)(hl1:l<=1024)(s1:Vst)(hf:findI n K t q s (m:Int) st=(some p,s1))(hd:dropV n K t q s (p:Int) s1=l)(hml:¬ (m:Int)<l)(h:(rOb base b n all K).At w0 A G st w) :
  Calls Tryz.prog 34 #[.pointer (some ⟨b,0,none⟩),.agg #[.int .i64 t,.int .i64 q,.int .i64 s],.int .i64 (m:Int)] w fun e w'=>e = .returned (.tuple #[.int .i64 (p:Int),.bool true])/\(rOb base b n all K).At w0 A G (putS n (getS n K (usedS n t q s p m (dropS n K t q s (p:Int) s1)) 0) 0 (qZB (getV n K (usedS n t q s p m (dropS n K t q s (p:Int) s1)) 0) (m:Int))) w'/\Stay G w w':=by
 have W0:=qh ((WL.start h).new 23 #[.int .i64 t,.int .i64 q,.int .i64 s])
 have hq2:q<=2147483648:=qo
 have t1:decide ((m:Int)<l)=false:=decide_eq_false hml
 have HFO:=qh hf
 have HDV:=qh hd
 have HIV:=qh (qPM 2 (m:Int) 0)
 have sp:IntKind.u32.wrap (p:Int)=(p:Int):=qTt p qo
 have sk:IntKind.u32.wrap ((p:Int)+1)=((p+1:Nat):Int):=by have:=qTt (p+1) qo;simpa using this
 have v4:IntKind.i64.wrap ((p:Int)+(m:Int))=((p:Int)+(m:Int)):=qIv qo qo
 have v5:IntKind.i64.wrap (((p:Int)+(m:Int))-1)=(((p:Int)+(m:Int))-1):=qIv qo qo
 have v6:IntKind.i64.wrap (l-(m:Int))=(l-(m:Int)):=qIv qo qo
 have HUS:qH (putS n (putS n (dropS n K t q s (p:Int) s1) (pageI t q s (p:Int) 0) (infoV 2 (m:Int) 0)) (pageI t q s ((p:Int)+(m:Int)-1) 1) (p+1)=usedS n t q s p m (dropS n K t q s (p:Int) s1)):=qh rfl
 obtain⟨x,hx⟩:∃ x,getV n K (usedS n t q s p m (dropS n K t q s (p:Int) s1)) 0=x:=⟨_,rfl⟩
 rw[hx]
 obtain⟨y,hy⟩:∃ y,qZB x (m:Int)=y:=⟨_,rfl⟩
 rw[hy]
 have HY:qH (y<2^32):=qh (by rw[<- hy];exact qQj x _)
 have sm:IntKind.u32.wrap (m:Int)=(m:Int):=qVg qo qo
 have sa:IntKind.u32.wrap ((x:Int)-(m:Int))=(y:Int):=by have:=qZI x (m:Int);rw[sm,hy] at this;exact this
 have HX:=qh hx
 clear hx hy
 clear h hf hd
 go_enter Tryz.func34,Tryz.ntmps34
 obtain⟨x0,x1,x2⟩:=W0.o.h0.three
 go_wp2_with fail
 refine(qRA hn hq (m:Int) W0.o.at_).mono ?_;rintro e w1 ⟨rfl,h1,h2⟩;have W1:=qh (W0.o.call h1 h2);clear h1 h2 W0;rw[HFO.o] at W1 ⊢;dsimp only[foundI,Option.isSome] at W1 ⊢
 obtain⟨x0,x1,x2⟩:=W1.o.h0.three
 go_wp2_with fail
 refine(qVK hn hq2 (p:Int) W1.o.at_).mono ?_;rintro e w2 ⟨rfl,h1,h2⟩;have W2:=qh (W1.o.call h1 h2);clear h1 h2 W1;rw[HDV.o]
 obtain⟨x0,x1,x2⟩:=W2.o.h0.three
 go_wp2_with fail
 refine(qQ1 t q s (p:Int) _).mono ?_;rintro e w3 ⟨rfl,hb⟩;have W3:=qh (W2.o.keep hb);clear hb W2
 obtain⟨x0,x1,x2⟩:=W3.o.h0.three
 go_wp2_with fail
 refine(qI0 2 (m:Int) 0 _).mono ?_;rintro e w4 ⟨rfl,hb⟩;have W4:=qh (W3.o.keep hb);clear hb W3
 obtain⟨x0,x1,x2⟩:=W4.o.h0.three
 go_wp2_with fail
 refine(rPutA hn _ _ HIV.o W4.o.at_).mono ?_;rintro e w5 ⟨rfl,h1,h2⟩;have W5:=qh (W4.o.call h1 h2);clear h1 h2 W4
 obtain⟨x0,x1,x2⟩:=W5.o.h0.three
 go_wp2_with fail
 refine(qGC t q s ((p:Int)+(m:Int)-1) _).mono ?_;rintro e w6 ⟨rfl,hb⟩;have W6:=qh (W5.o.keep hb);clear hb W5
 obtain⟨x0,x1,x2⟩:=W6.o.h0.three
 go_wp2_with fail
 refine(rPutA hn _ (p+1) qo W6.o.at_).mono ?_;rintro e w7 ⟨rfl,h1,h2⟩;have W7:=qh (W6.o.call h1 h2);clear h1 h2 W6;rw[HUS.o] at W7
 obtain⟨x0,x1,x2⟩:=W7.o.h0.three
 go_wp2_with fail
 refine(rGetA hn _ W7.o.at_).mono ?_;rintro e w8 ⟨rfl,h1,h2⟩;have W8:=qh (W7.o.call h1 h2);clear h1 h2 W7;rw[HX.o]
 obtain⟨x0,x1,x2⟩:=W8.o.h0.three
 go_wp2_with fail
 refine(rPutA hn _ y HY.o W8.o.at_).mono ?_;rintro e w9 ⟨rfl,h1,h2⟩;have W9:=qh (W8.o.call h1 h2);clear h1 h2 W8
 obtain⟨x0,x1,x2⟩:=W9.o.h0.three
 go_wp2
 go_ret2
 exact⟨rfl,W9.o.fin⟩

theorem qXw (hn:n<2^40)(hq:q<=1024)(p l m:Nat)(hp:p+l<=1024)(hm:m<=l)(h:(rOb base b n all K).At w0 A G st w) :
  Calls Tryz.prog 49 #[.pointer (some ⟨b,0,none⟩),.agg #[.int .i64 t,.int .i64 q,.int .i64 s],.int .i64 (p:Int),.int .i64 (l:Int),.int .i64 (m:Int)] w fun e w'=>e = .returned (.tuple #[])/\(rOb base b n all K).At w0 A G (shrinkS n K t q s p l m st) w'/\Stay G w w':=by
 have W0:=qh ((WL.start h).new 23 #[.int .i64 t,.int .i64 q,.int .i64 s])
 have hq2:q<=2147483648:=qo
 have HIV:=qh (qPM 2 (m:Int) 0)
 have sp:IntKind.u32.wrap (p:Int)=(p:Int):=qTt p qo
 have sk:IntKind.u32.wrap ((p:Int)+1)=((p+1:Nat):Int):=by have:=qTt (p+1) qo;simpa using this
 have v4:IntKind.i64.wrap ((p:Int)+(m:Int))=((p:Int)+(m:Int)):=qIv qo qo
 have v5:IntKind.i64.wrap (((p:Int)+(m:Int))-1)=(((p:Int)+(m:Int))-1):=qIv qo qo
 have v6:IntKind.i64.wrap ((l:Int)-(m:Int))=((l:Int)-(m:Int)):=qIv qo qo
 clear h 
 go_enter Tryz.func49,Tryz.ntmps49
 obtain⟨x0,x1,x2⟩:=W0.o.h0.three
 go_wp2_with fail
 refine(qQ1 t q s (p:Int) _).mono ?_;rintro e w1 ⟨rfl,hb⟩;have W1:=qh (W0.o.keep hb);clear hb W0
 obtain⟨x0,x1,x2⟩:=W1.o.h0.three
 go_wp2_with fail
 refine(qI0 2 (m:Int) 0 _).mono ?_;rintro e w2 ⟨rfl,hb⟩;have W2:=qh (W1.o.keep hb);clear hb W1
 obtain⟨x0,x1,x2⟩:=W2.o.h0.three
 go_wp2_with fail
 refine(rPutA hn _ _ HIV.o W2.o.at_).mono ?_;rintro e w3 ⟨rfl,h1,h2⟩;have W3:=qh (W2.o.call h1 h2);clear h1 h2 W2
 obtain⟨x0,x1,x2⟩:=W3.o.h0.three
 go_wp2_with fail
 refine(qGC t q s ((p:Int)+(m:Int)-1) _).mono ?_;rintro e w4 ⟨rfl,hb⟩;have W4:=qh (W3.o.keep hb);clear hb W3
 obtain⟨x0,x1,x2⟩:=W4.o.h0.three
 go_wp2_with fail
 refine(rPutA hn _ (p+1) qo W4.o.at_).mono ?_;rintro e w5 ⟨rfl,h1,h2⟩;have W5:=qh (W4.o.call h1 h2);clear h1 h2 W4
 obtain⟨x0,x1,x2⟩:=W5.o.h0.three
 go_wp2_with fail
 refine(qMW hn hq ((p:Int)+(m:Int)) ((l:Int)-(m:Int)) (p+m) (l-m) qo qo qo qo W5.o.at_).mono ?_;rintro e w6 ⟨rfl,h1,h2⟩;have W6:=qh (W5.o.call h1 h2);clear h1 h2 W5
 obtain⟨x0,x1,x2⟩:=W6.o.h0.three
 go_wp2
 go_end0
 exact⟨rfl,W6.o.fin⟩

theorem qRr (hn:n<2^40)(hq:q<=1024)(p l:Nat)(m:Int)(hp:p+l<=1024)(hm:(l:Int)<m)(hm2:m<=9223372036854775807)(hr:¬ ((p:Int)+(l:Int))<q)(h:(rOb base b n all K).At w0 A G st w) :
  Calls Tryz.prog 50 #[.pointer (some ⟨b,0,none⟩),.agg #[.int .i64 t,.int .i64 q,.int .i64 s],.int .i64 (p:Int),.int .i64 (l:Int),.int .i64 m] w fun e w'=>e = .returned (.bool false)/\(rOb base b n all K).At w0 A G (st) w'/\Stay G w w':=by
 have W0:=qh ((WL.start h).new 23 #[.int .i64 t,.int .i64 q,.int .i64 s])
 have hq2:q<=2147483648:=qo
 have v4:IntKind.i64.wrap ((p:Int)+(l:Int))=((p:Int)+(l:Int)):=qIv qo qo
 have t0:decide (q<=((p:Int)+(l:Int)))=true:=qt
 clear h 
 go_enter Tryz.func50,Tryz.ntmps50
 obtain⟨x0,x1,x2⟩:=W0.o.h0.three
 go_wp2
 go_ret
 exact⟨rfl,W0.o.fin⟩

theorem qGA (hn:n<2^40)(hq:q<=1024)(p l:Nat)(m:Int)(hp:p+l<=1024)(hm:(l:Int)<m)(hm2:m<=9223372036854775807)(hr:((p:Int)+(l:Int))<q)(k1 l1 c1:Int)(o1:Bool)(hi1:infoOf n K t q s ((p:Int)+(l:Int)) st=(k1,l1,c1,o1))(hk1:k1≠1)(h:(rOb base b n all K).At w0 A G st w) :
  Calls Tryz.prog 50 #[.pointer (some ⟨b,0,none⟩),.agg #[.int .i64 t,.int .i64 q,.int .i64 s],.int .i64 (p:Int),.int .i64 (l:Int),.int .i64 m] w fun e w'=>e = .returned (.bool false)/\(rOb base b n all K).At w0 A G (getS n K st (pageI t q s ((p:Int)+(l:Int)) 0)) w'/\Stay G w w':=by
 have W0:=qh ((WL.start h).new 23 #[.int .i64 t,.int .i64 q,.int .i64 s])
 have hq2:q<=2147483648:=qo
 have v4:IntKind.i64.wrap ((p:Int)+(l:Int))=((p:Int)+(l:Int)):=qIv qo qo
 have t0:decide (q<=((p:Int)+(l:Int)))=false:=qf
 have v5:IntKind.i64.wrap (m-(l:Int))=(m-(l:Int)):=qIv qo qo
 have HI1:=qh hi1
 have u0:(k1==1)=false:=by simpa using hk1
 have u1:(k1 != 1)=true:=by simpa using hk1
 clear h hi1
 go_enter Tryz.func50,Tryz.ntmps50
 obtain⟨x0,x1,x2⟩:=W0.o.h0.three
 go_wp2_with fail
 refine(qHu hn ((p:Int)+(l:Int)) k1 l1 c1 o1 HI1.o W0.o.at_).mono ?_;rintro e w1 ⟨rfl,h1,h2⟩;have W1:=qh (W0.o.call h1 h2);clear h1 h2 W0
 generalize hNI:w1.heap.size=NI at *
 replace W1:=qh (W1.o.new 90 #[.int .i64 k1,.int .i64 l1,.int .i64 c1])
 rw[hNI] at W1
 obtain⟨i0,i1,i2⟩:=W1.o.h0.three
 obtain⟨x0,x1,x2⟩:=W1.o.h1.three
 go_wp2
 go_ret
 exact⟨rfl,W1.o.fin⟩

theorem qW7 (hn:n<2^40)(hq:q<=1024)(p l:Nat)(m:Int)(hp:p+l<=1024)(hm:(l:Int)<m)(hm2:m<=9223372036854775807)(hr:((p:Int)+(l:Int))<q)(k1 l1 c1:Int)(o1:Bool)(hi1:infoOf n K t q s ((p:Int)+(l:Int)) st=(k1,l1,c1,o1))(hk1:k1=1)(hs:l1<m-(l:Int))(h:(rOb base b n all K).At w0 A G st w) :
  Calls Tryz.prog 50 #[.pointer (some ⟨b,0,none⟩),.agg #[.int .i64 t,.int .i64 q,.int .i64 s],.int .i64 (p:Int),.int .i64 (l:Int),.int .i64 m] w fun e w'=>e = .returned (.bool false)/\(rOb base b n all K).At w0 A G (getS n K st (pageI t q s ((p:Int)+(l:Int)) 0)) w'/\Stay G w w':=by
 have W0:=qh ((WL.start h).new 23 #[.int .i64 t,.int .i64 q,.int .i64 s])
 have hq2:q<=2147483648:=qo
 have v4:IntKind.i64.wrap ((p:Int)+(l:Int))=((p:Int)+(l:Int)):=qIv qo qo
 have t0:decide (q<=((p:Int)+(l:Int)))=false:=qf
 have v5:IntKind.i64.wrap (m-(l:Int))=(m-(l:Int)):=qIv qo qo
 subst hk1
 have HI1:=qh hi1
 have t1:decide (l1<m-(l:Int))=true:=decide_eq_true hs
 clear h hi1
 go_enter Tryz.func50,Tryz.ntmps50
 obtain⟨x0,x1,x2⟩:=W0.o.h0.three
 go_wp2_with fail
 refine(qHu hn ((p:Int)+(l:Int)) 1 l1 c1 o1 HI1.o W0.o.at_).mono ?_;rintro e w1 ⟨rfl,h1,h2⟩;have W1:=qh (W0.o.call h1 h2);clear h1 h2 W0
 generalize hNI:w1.heap.size=NI at *
 replace W1:=qh (W1.o.new 90 #[.int .i64 1,.int .i64 l1,.int .i64 c1])
 rw[hNI] at W1
 obtain⟨i0,i1,i2⟩:=W1.o.h0.three
 obtain⟨x0,x1,x2⟩:=W1.o.h1.three
 go_wp2
 go_ret
 exact⟨rfl,W1.o.fin⟩

theorem qIc (hn:n<2^40)(hq:q<=1024)(p l m:Nat)(hp:p+l<=1024)(hm:l<m)(hm2:m<=2048)(hr:((p:Int)+(l:Int))<q)(k1 l1 c1:Int)(o1:Bool)(hi1:infoOf n K t q s ((p:Int)+(l:Int)) st=(k1,l1,c1,o1))(hk1:k1=1)(hl0:0<=l1)(hl1:l1<=1024)(hs:¬ l1<((m:Int)-(l:Int)))(hml:((m:Int)-(l:Int))<l1)(h:(rOb base b n all K).At w0 A G st w) :
  Calls Tryz.prog 50 #[.pointer (some ⟨b,0,none⟩),.agg #[.int .i64 t,.int .i64 q,.int .i64 s],.int .i64 (p:Int),.int .i64 (l:Int),.int .i64 (m:Int)] w fun e w'=>e = .returned (.bool true)/\(rOb base b n all K).At w0 A G (putS n (getS n K (addS n K t q s ((p:Int)+(m:Int)) (l1-((m:Int)-(l:Int))) (usedS n t q s p m (putS n (putS n (dropS n K t q s ((p:Int)+(l:Int)) (getS n K st (pageI t q s ((p:Int)+(l:Int)) 0))) (pageI t q s ((p:Int)+(l:Int)) 0) 0) (pageI t q s (((p:Int)+(l:Int))-1) 1) 0))) 0) 0 (qZB (getV n K (addS n K t q s ((p:Int)+(m:Int)) (l1-((m:Int)-(l:Int))) (usedS n t q s p m (putS n (putS n (dropS n K t q s ((p:Int)+(l:Int)) (getS n K st (pageI t q s ((p:Int)+(l:Int)) 0))) (pageI t q s ((p:Int)+(l:Int)) 0) 0) (pageI t q s (((p:Int)+(l:Int))-1) 1) 0))) 0) ((m:Int)-(l:Int)))) w'/\Stay G w w':=by
 have W0:=qh ((WL.start h).new 23 #[.int .i64 t,.int .i64 q,.int .i64 s])
 have hq2:q<=2147483648:=qo
 have v4:IntKind.i64.wrap ((p:Int)+(l:Int))=((p:Int)+(l:Int)):=qIv qo qo
 have t0:decide (q<=((p:Int)+(l:Int)))=false:=qf
 have v5:IntKind.i64.wrap ((m:Int)-(l:Int))=((m:Int)-(l:Int)):=qIv qo qo
 subst hk1
 have HI1:=qh hi1
 have t1:decide (l1<((m:Int)-(l:Int)))=false:=decide_eq_false hs
 have t2:decide (((m:Int)-(l:Int))<l1)=true:=decide_eq_true hml
 have HIV:=qh (qPM 2 (m:Int) 0)
 have sp:IntKind.u32.wrap (p:Int)=(p:Int):=qTt p qo
 have sk:IntKind.u32.wrap ((p:Int)+1)=((p+1:Nat):Int):=by have:=qTt (p+1) qo;simpa using this
 have v6:IntKind.i64.wrap (((p:Int)+(l:Int))-1)=(((p:Int)+(l:Int))-1):=qIv qo qo
 have v7:IntKind.i64.wrap ((p:Int)+(m:Int))=((p:Int)+(m:Int)):=qIv qo qo
 have v8:IntKind.i64.wrap (((p:Int)+(m:Int))-1)=(((p:Int)+(m:Int))-1):=qIv qo qo
 have v9:IntKind.i64.wrap (l1-((m:Int)-(l:Int)))=(l1-((m:Int)-(l:Int))):=qIv qo qo
 have HUS:qH (putS n (putS n (putS n (putS n (dropS n K t q s ((p:Int)+(l:Int)) (getS n K st (pageI t q s ((p:Int)+(l:Int)) 0))) (pageI t q s ((p:Int)+(l:Int)) 0) 0) (pageI t q s (((p:Int)+(l:Int))-1) 1) 0) (pageI t q s (p:Int) 0) (infoV 2 (m:Int) 0)) (pageI t q s ((p:Int)+(m:Int)-1) 1) (p+1)=usedS n t q s p m (putS n (putS n (dropS n K t q s ((p:Int)+(l:Int)) (getS n K st (pageI t q s ((p:Int)+(l:Int)) 0))) (pageI t q s ((p:Int)+(l:Int)) 0) 0) (pageI t q s (((p:Int)+(l:Int))-1) 1) 0)):=qh rfl
 obtain⟨x,hx⟩:∃ x,getV n K (addS n K t q s ((p:Int)+(m:Int)) (l1-((m:Int)-(l:Int))) (usedS n t q s p m (putS n (putS n (dropS n K t q s ((p:Int)+(l:Int)) (getS n K st (pageI t q s ((p:Int)+(l:Int)) 0))) (pageI t q s ((p:Int)+(l:Int)) 0) 0) (pageI t q s (((p:Int)+(l:Int))-1) 1) 0))) 0=x:=⟨_,rfl⟩
 rw[hx]
 obtain⟨y,hy⟩:∃ y,qZB x ((m:Int)-(l:Int))=y:=⟨_,rfl⟩
 rw[hy]
 have HY:qH (y<2^32):=qh (by rw[<- hy];exact qQj x _)
 have sm:IntKind.u32.wrap ((m:Int)-(l:Int))=((m:Int)-(l:Int)):=qVg qo qo
 have sa:IntKind.u32.wrap ((x:Int)-((m:Int)-(l:Int)))=(y:Int):=by have:=qZI x ((m:Int)-(l:Int));rw[sm,hy] at this;exact this
 have HX:=qh hx
 clear hx hy
 clear h hi1
 go_enter Tryz.func50,Tryz.ntmps50
 obtain⟨x0,x1,x2⟩:=W0.o.h0.three
 go_wp2_with fail
 refine(qHu hn ((p:Int)+(l:Int)) 1 l1 c1 o1 HI1.o W0.o.at_).mono ?_;rintro e w1 ⟨rfl,h1,h2⟩;have W1:=qh (W0.o.call h1 h2);clear h1 h2 W0
 generalize hNI:w1.heap.size=NI at *
 replace W1:=qh (W1.o.new 90 #[.int .i64 1,.int .i64 l1,.int .i64 c1])
 rw[hNI] at W1
 obtain⟨i0,i1,i2⟩:=W1.o.h0.three
 obtain⟨x0,x1,x2⟩:=W1.o.h1.three
 go_wp2_with fail
 refine(qVK hn hq2 ((p:Int)+(l:Int)) W1.o.at_).mono ?_;rintro e w2 ⟨rfl,h1,h2⟩;have W2:=qh (W1.o.call h1 h2);clear h1 h2 W1
 obtain⟨i0,i1,i2⟩:=W2.o.h0.three
 obtain⟨x0,x1,x2⟩:=W2.o.h1.three
 go_wp2_with fail
 refine(qQ1 t q s ((p:Int)+(l:Int)) _).mono ?_;rintro e w3 ⟨rfl,hb⟩;have W3:=qh (W2.o.keep hb);clear hb W2
 obtain⟨i0,i1,i2⟩:=W3.o.h0.three
 obtain⟨x0,x1,x2⟩:=W3.o.h1.three
 go_wp2_with fail
 refine(rPutA hn _ 0 qo W3.o.at_).mono ?_;rintro e w4 ⟨rfl,h1,h2⟩;have W4:=qh (W3.o.call h1 h2);clear h1 h2 W3
 obtain⟨i0,i1,i2⟩:=W4.o.h0.three
 obtain⟨x0,x1,x2⟩:=W4.o.h1.three
 go_wp2_with fail
 refine(qGC t q s (((p:Int)+(l:Int))-1) _).mono ?_;rintro e w5 ⟨rfl,hb⟩;have W5:=qh (W4.o.keep hb);clear hb W4
 obtain⟨i0,i1,i2⟩:=W5.o.h0.three
 obtain⟨x0,x1,x2⟩:=W5.o.h1.three
 go_wp2_with fail
 refine(rPutA hn _ 0 qo W5.o.at_).mono ?_;rintro e w6 ⟨rfl,h1,h2⟩;have W6:=qh (W5.o.call h1 h2);clear h1 h2 W5
 obtain⟨i0,i1,i2⟩:=W6.o.h0.three
 obtain⟨x0,x1,x2⟩:=W6.o.h1.three
 go_wp2_with fail
 refine(qQ1 t q s (p:Int) _).mono ?_;rintro e w7 ⟨rfl,hb⟩;have W7:=qh (W6.o.keep hb);clear hb W6
 obtain⟨i0,i1,i2⟩:=W7.o.h0.three
 obtain⟨x0,x1,x2⟩:=W7.o.h1.three
 go_wp2_with fail
 refine(qI0 2 (m:Int) 0 _).mono ?_;rintro e w8 ⟨rfl,hb⟩;have W8:=qh (W7.o.keep hb);clear hb W7
 obtain⟨i0,i1,i2⟩:=W8.o.h0.three
 obtain⟨x0,x1,x2⟩:=W8.o.h1.three
 go_wp2_with fail
 refine(rPutA hn _ _ HIV.o W8.o.at_).mono ?_;rintro e w9 ⟨rfl,h1,h2⟩;have W9:=qh (W8.o.call h1 h2);clear h1 h2 W8
 obtain⟨i0,i1,i2⟩:=W9.o.h0.three
 obtain⟨x0,x1,x2⟩:=W9.o.h1.three
 go_wp2_with fail
 refine(qGC t q s ((p:Int)+(m:Int)-1) _).mono ?_;rintro e w10 ⟨rfl,hb⟩;have W10:=qh (W9.o.keep hb);clear hb W9
 obtain⟨i0,i1,i2⟩:=W10.o.h0.three
 obtain⟨x0,x1,x2⟩:=W10.o.h1.three
 go_wp2_with fail
 refine(rPutA hn _ (p+1) qo W10.o.at_).mono ?_;rintro e w11 ⟨rfl,h1,h2⟩;have W11:=qh (W10.o.call h1 h2);clear h1 h2 W10;rw[HUS.o] at W11
 obtain⟨i0,i1,i2⟩:=W11.o.h0.three
 obtain⟨x0,x1,x2⟩:=W11.o.h1.three
 go_wp2_with fail
 refine(qAc hn hq2 ((p:Int)+(m:Int)) (l1-((m:Int)-(l:Int))) W11.o.at_).mono ?_;rintro e w12 ⟨rfl,h1,h2⟩;have W12:=qh (W11.o.call h1 h2);clear h1 h2 W11
 obtain⟨i0,i1,i2⟩:=W12.o.h0.three
 obtain⟨x0,x1,x2⟩:=W12.o.h1.three
 go_wp2_with fail
 refine(rGetA hn _ W12.o.at_).mono ?_;rintro e w13 ⟨rfl,h1,h2⟩;have W13:=qh (W12.o.call h1 h2);clear h1 h2 W12;rw[HX.o]
 obtain⟨i0,i1,i2⟩:=W13.o.h0.three
 obtain⟨x0,x1,x2⟩:=W13.o.h1.three
 go_wp2_with fail
 refine(rPutA hn _ y HY.o W13.o.at_).mono ?_;rintro e w14 ⟨rfl,h1,h2⟩;have W14:=qh (W13.o.call h1 h2);clear h1 h2 W13
 obtain⟨i0,i1,i2⟩:=W14.o.h0.three
 obtain⟨x0,x1,x2⟩:=W14.o.h1.three
 go_wp2
 go_ret
 exact⟨rfl,W14.o.fin⟩

theorem qFx (hn:n<2^40)(hq:q<=1024)(p l m:Nat)(hp:p+l<=1024)(hm:l<m)(hm2:m<=2048)(hr:((p:Int)+(l:Int))<q)(k1 l1 c1:Int)(o1:Bool)(hi1:infoOf n K t q s ((p:Int)+(l:Int)) st=(k1,l1,c1,o1))(hk1:k1=1)(hl0:0<=l1)(hl1:l1<=1024)(hs:¬ l1<((m:Int)-(l:Int)))(hml:¬ ((m:Int)-(l:Int))<l1)(h:(rOb base b n all K).At w0 A G st w) :
  Calls Tryz.prog 50 #[.pointer (some ⟨b,0,none⟩),.agg #[.int .i64 t,.int .i64 q,.int .i64 s],.int .i64 (p:Int),.int .i64 (l:Int),.int .i64 (m:Int)] w fun e w'=>e = .returned (.bool true)/\(rOb base b n all K).At w0 A G (putS n (getS n K (usedS n t q s p m (putS n (putS n (dropS n K t q s ((p:Int)+(l:Int)) (getS n K st (pageI t q s ((p:Int)+(l:Int)) 0))) (pageI t q s ((p:Int)+(l:Int)) 0) 0) (pageI t q s (((p:Int)+(l:Int))-1) 1) 0)) 0) 0 (qZB (getV n K (usedS n t q s p m (putS n (putS n (dropS n K t q s ((p:Int)+(l:Int)) (getS n K st (pageI t q s ((p:Int)+(l:Int)) 0))) (pageI t q s ((p:Int)+(l:Int)) 0) 0) (pageI t q s (((p:Int)+(l:Int))-1) 1) 0)) 0) ((m:Int)-(l:Int)))) w'/\Stay G w w':=by
 have W0:=qh ((WL.start h).new 23 #[.int .i64 t,.int .i64 q,.int .i64 s])
 have hq2:q<=2147483648:=qo
 have v4:IntKind.i64.wrap ((p:Int)+(l:Int))=((p:Int)+(l:Int)):=qIv qo qo
 have t0:decide (q<=((p:Int)+(l:Int)))=false:=qf
 have v5:IntKind.i64.wrap ((m:Int)-(l:Int))=((m:Int)-(l:Int)):=qIv qo qo
 subst hk1
 have HI1:=qh hi1
 have t1:decide (l1<((m:Int)-(l:Int)))=false:=decide_eq_false hs
 have t2:decide (((m:Int)-(l:Int))<l1)=false:=decide_eq_false hml
 have HIV:=qh (qPM 2 (m:Int) 0)
 have sp:IntKind.u32.wrap (p:Int)=(p:Int):=qTt p qo
 have sk:IntKind.u32.wrap ((p:Int)+1)=((p+1:Nat):Int):=by have:=qTt (p+1) qo;simpa using this
 have v6:IntKind.i64.wrap (((p:Int)+(l:Int))-1)=(((p:Int)+(l:Int))-1):=qIv qo qo
 have v7:IntKind.i64.wrap ((p:Int)+(m:Int))=((p:Int)+(m:Int)):=qIv qo qo
 have v8:IntKind.i64.wrap (((p:Int)+(m:Int))-1)=(((p:Int)+(m:Int))-1):=qIv qo qo
 have v9:IntKind.i64.wrap (l1-((m:Int)-(l:Int)))=(l1-((m:Int)-(l:Int))):=qIv qo qo
 have HUS:qH (putS n (putS n (putS n (putS n (dropS n K t q s ((p:Int)+(l:Int)) (getS n K st (pageI t q s ((p:Int)+(l:Int)) 0))) (pageI t q s ((p:Int)+(l:Int)) 0) 0) (pageI t q s (((p:Int)+(l:Int))-1) 1) 0) (pageI t q s (p:Int) 0) (infoV 2 (m:Int) 0)) (pageI t q s ((p:Int)+(m:Int)-1) 1) (p+1)=usedS n t q s p m (putS n (putS n (dropS n K t q s ((p:Int)+(l:Int)) (getS n K st (pageI t q s ((p:Int)+(l:Int)) 0))) (pageI t q s ((p:Int)+(l:Int)) 0) 0) (pageI t q s (((p:Int)+(l:Int))-1) 1) 0)):=qh rfl
 obtain⟨x,hx⟩:∃ x,getV n K (usedS n t q s p m (putS n (putS n (dropS n K t q s ((p:Int)+(l:Int)) (getS n K st (pageI t q s ((p:Int)+(l:Int)) 0))) (pageI t q s ((p:Int)+(l:Int)) 0) 0) (pageI t q s (((p:Int)+(l:Int))-1) 1) 0)) 0=x:=⟨_,rfl⟩
 rw[hx]
 obtain⟨y,hy⟩:∃ y,qZB x ((m:Int)-(l:Int))=y:=⟨_,rfl⟩
 rw[hy]
 have HY:qH (y<2^32):=qh (by rw[<- hy];exact qQj x _)
 have sm:IntKind.u32.wrap ((m:Int)-(l:Int))=((m:Int)-(l:Int)):=qVg qo qo
 have sa:IntKind.u32.wrap ((x:Int)-((m:Int)-(l:Int)))=(y:Int):=by have:=qZI x ((m:Int)-(l:Int));rw[sm,hy] at this;exact this
 have HX:=qh hx
 clear hx hy
 clear h hi1
 go_enter Tryz.func50,Tryz.ntmps50
 obtain⟨x0,x1,x2⟩:=W0.o.h0.three
 go_wp2_with fail
 refine(qHu hn ((p:Int)+(l:Int)) 1 l1 c1 o1 HI1.o W0.o.at_).mono ?_;rintro e w1 ⟨rfl,h1,h2⟩;have W1:=qh (W0.o.call h1 h2);clear h1 h2 W0
 generalize hNI:w1.heap.size=NI at *
 replace W1:=qh (W1.o.new 90 #[.int .i64 1,.int .i64 l1,.int .i64 c1])
 rw[hNI] at W1
 obtain⟨i0,i1,i2⟩:=W1.o.h0.three
 obtain⟨x0,x1,x2⟩:=W1.o.h1.three
 go_wp2_with fail
 refine(qVK hn hq2 ((p:Int)+(l:Int)) W1.o.at_).mono ?_;rintro e w2 ⟨rfl,h1,h2⟩;have W2:=qh (W1.o.call h1 h2);clear h1 h2 W1
 obtain⟨i0,i1,i2⟩:=W2.o.h0.three
 obtain⟨x0,x1,x2⟩:=W2.o.h1.three
 go_wp2_with fail
 refine(qQ1 t q s ((p:Int)+(l:Int)) _).mono ?_;rintro e w3 ⟨rfl,hb⟩;have W3:=qh (W2.o.keep hb);clear hb W2
 obtain⟨i0,i1,i2⟩:=W3.o.h0.three
 obtain⟨x0,x1,x2⟩:=W3.o.h1.three
 go_wp2_with fail
 refine(rPutA hn _ 0 qo W3.o.at_).mono ?_;rintro e w4 ⟨rfl,h1,h2⟩;have W4:=qh (W3.o.call h1 h2);clear h1 h2 W3
 obtain⟨i0,i1,i2⟩:=W4.o.h0.three
 obtain⟨x0,x1,x2⟩:=W4.o.h1.three
 go_wp2_with fail
 refine(qGC t q s (((p:Int)+(l:Int))-1) _).mono ?_;rintro e w5 ⟨rfl,hb⟩;have W5:=qh (W4.o.keep hb);clear hb W4
 obtain⟨i0,i1,i2⟩:=W5.o.h0.three
 obtain⟨x0,x1,x2⟩:=W5.o.h1.three
 go_wp2_with fail
 refine(rPutA hn _ 0 qo W5.o.at_).mono ?_;rintro e w6 ⟨rfl,h1,h2⟩;have W6:=qh (W5.o.call h1 h2);clear h1 h2 W5
 obtain⟨i0,i1,i2⟩:=W6.o.h0.three
 obtain⟨x0,x1,x2⟩:=W6.o.h1.three
 go_wp2_with fail
 refine(qQ1 t q s (p:Int) _).mono ?_;rintro e w7 ⟨rfl,hb⟩;have W7:=qh (W6.o.keep hb);clear hb W6
 obtain⟨i0,i1,i2⟩:=W7.o.h0.three
 obtain⟨x0,x1,x2⟩:=W7.o.h1.three
 go_wp2_with fail
 refine(qI0 2 (m:Int) 0 _).mono ?_;rintro e w8 ⟨rfl,hb⟩;have W8:=qh (W7.o.keep hb);clear hb W7
 obtain⟨i0,i1,i2⟩:=W8.o.h0.three
 obtain⟨x0,x1,x2⟩:=W8.o.h1.three
 go_wp2_with fail
 refine(rPutA hn _ _ HIV.o W8.o.at_).mono ?_;rintro e w9 ⟨rfl,h1,h2⟩;have W9:=qh (W8.o.call h1 h2);clear h1 h2 W8
 obtain⟨i0,i1,i2⟩:=W9.o.h0.three
 obtain⟨x0,x1,x2⟩:=W9.o.h1.three
 go_wp2_with fail
 refine(qGC t q s ((p:Int)+(m:Int)-1) _).mono ?_;rintro e w10 ⟨rfl,hb⟩;have W10:=qh (W9.o.keep hb);clear hb W9
 obtain⟨i0,i1,i2⟩:=W10.o.h0.three
 obtain⟨x0,x1,x2⟩:=W10.o.h1.three
 go_wp2_with fail
 refine(rPutA hn _ (p+1) qo W10.o.at_).mono ?_;rintro e w11 ⟨rfl,h1,h2⟩;have W11:=qh (W10.o.call h1 h2);clear h1 h2 W10;rw[HUS.o] at W11
 obtain⟨i0,i1,i2⟩:=W11.o.h0.three
 obtain⟨x0,x1,x2⟩:=W11.o.h1.three
 go_wp2_with fail
 refine(rGetA hn _ W11.o.at_).mono ?_;rintro e w12 ⟨rfl,h1,h2⟩;have W12:=qh (W11.o.call h1 h2);clear h1 h2 W11;rw[HX.o]
 obtain⟨i0,i1,i2⟩:=W12.o.h0.three
 obtain⟨x0,x1,x2⟩:=W12.o.h1.three
 go_wp2_with fail
 refine(rPutA hn _ y HY.o W12.o.at_).mono ?_;rintro e w13 ⟨rfl,h1,h2⟩;have W13:=qh (W12.o.call h1 h2);clear h1 h2 W12
 obtain⟨i0,i1,i2⟩:=W13.o.h0.three
 obtain⟨x0,x1,x2⟩:=W13.o.h1.three
 go_wp2
 go_ret
 exact⟨rfl,W13.o.fin⟩

theorem qYn (hn:n<2^40)(hq:q<=1024)(nn:Int)(h:(rOb base b n all K).At w0 A G st w) :
  Calls Tryz.prog 34 #[.pointer (some ⟨b,0,none⟩),.agg #[.int .i64 t,.int .i64 q,.int .i64 s],.int .i64 nn] w fun e w'=>e = .returned (.tuple #[.int .i64 (foundI (takeI n K t q s nn st).1),.bool (takeI n K t q s nn st).1.isSome])/\(rOb base b n all K).At w0 A G ((takeI n K t q s nn st).2) w'/\Stay G w w':=by
 obtain⟨⟨o,s1⟩,hf⟩:∃ x,findI n K t q s nn st=x:=⟨_,rfl⟩
 cases o with
 | none =>
  rw[qKW hf]
  exact qX9 hn hq nn s1 hf h
 | some p =>
  obtain⟨h1,h2,h3⟩:=qEN hf
  obtain⟨m,rfl⟩:=Int.eq_ofNat_of_zero_le (show 0<=nn by omega)
  rw[qPz hf]
  dsimp only[foundI,Option.isSome]
  have hd:=qKM (n:=n) (K:=K) (t:=t) (q:=q) (s:=s) (p:Int) s1
  unfold takeS
  rw[qCs rfl]
  by_cases hml:(m:Int)<dropV n K t q s (p:Int) s1
  ·rw[qCk hml]
   exact qJy hn hq p m qo qo _ hd.1 hd.2 s1 hf rfl hml h
  ·rw[qLP hml]
   exact qAG hn hq p m qo qo _ hd.1 hd.2 s1 hf rfl hml h
theorem qUq (hn:n<2^40)(hq:q<=1024)(p l:Nat)(m:Int)(hp:((p:Int)+(l:Int))<=q)(hm:(l:Int)<m)(hm2:m<=9223372036854775807)(h:(rOb base b n all K).At w0 A G st w) :
  Calls Tryz.prog 50 #[.pointer (some ⟨b,0,none⟩),.agg #[.int .i64 t,.int .i64 q,.int .i64 s],.int .i64 (p:Int),.int .i64 (l:Int),.int .i64 m] w fun e w'=>e = .returned (.bool (growB n K t q s p l m st))/\(rOb base b n all K).At w0 A G (growS n K t q s p l m st) w'/\Stay G w w':=by
 by_cases hr:((p:Int)+(l:Int))<q
 ·obtain⟨⟨k1,l1,c1,o1⟩,hi1⟩:∃ x,infoOf n K t q s ((p:Int)+(l:Int)) st=x:=⟨_,rfl⟩
  have hb:=qZs (m:=m) hr hi1
  by_cases hk:k1=1
  ·have h3:0<=l1/\l1<=1024:=by
    have h4:=hi1
    unfold infoOf at h4
    rw[hk] at h4
    exact qUX h4
   by_cases hs:l1<m-(l:Int)
   ·rw[decide_eq_false (show ¬ m-(l:Int)<=l1 by omega),Bool.and_false] at hb
    rw[qYN hr hb,hb]
    exact qW7 hn hq p l m qo hm hm2 hr k1 l1 c1 o1 hi1 hk hs h
   ·rw[decide_eq_true hk,decide_eq_true (show m-(l:Int)<=l1 by omega)] at hb
    obtain⟨mm,rfl⟩:=Int.eq_ofNat_of_zero_le (show 0<=m by omega)
    rw[qWC hr qo (by rw[hi1,hk]) hb,hb]
    by_cases hml:(mm:Int)-(l:Int)<l1
    ·rw[qCk qo,show (l:Int)+l1-(mm:Int)=l1-((mm:Int)-(l:Int)) by omega]
     exact qIc hn hq p l mm qo qo qo hr k1 l1 c1 o1 hi1 hk h3.1 h3.2 hs hml h
    ·rw[qLP qo]
     exact qFx hn hq p l mm qo qo qo hr k1 l1 c1 o1 hi1 hk h3.1 h3.2 hs hml h
  ·rw[decide_eq_false hk,Bool.false_and] at hb
   rw[qYN hr hb,hb]
   exact qGA hn hq p l m qo hm hm2 hr k1 l1 c1 o1 hi1 hk h
 ·obtain⟨hb,hs⟩:=qHE (n:=n) (K:=K) (t:=t) (s:=s) (m:=m) (st:=st) hr
  rw[hb,hs]
  exact qRr hn hq p l m qo hm hm2 hr h

end
end
section
section
variable {base b n : Nat} {wh all : Bool} {K : Nat -> Option Nat} {st : Vst} {w w0 : World} {A G : Nat -> Prop} {t q s : Int}

theorem qBb (hn:n<2^40)(hq:q<=1024)(nn:Int)(hf:(takeI n K t q s nn st).1=none)(h:(rOb base b n all K).At w0 A G st w) :
  Calls Tryz.prog 12 #[.pointer (some ⟨b,0,none⟩),.agg #[.int .i64 t,.int .i64 q,.int .i64 s],.int .i64 nn] w fun e w'=>e = .returned (.tuple #[.int .i64 0,.bool false])/\(rOb base b n all K).At w0 A G ((takeI n K t q s nn st).2) w'/\Stay G w w':=by
 have W0:=qh ((WL.start h).new 23 #[.int .i64 t,.int .i64 q,.int .i64 s])
 have HF:=qh hf
 obtain⟨s1,hs⟩:∃ s1,(takeI n K t q s nn st).2=s1:=⟨_,rfl⟩
 have HS:=qh hs
 rw[hs]
 clear h hf hs
 go_enter Tryz.func12,Tryz.ntmps12
 obtain⟨x0,x1,x2⟩:=W0.o.h0.three
 go_wp2_with fail
 refine(qYn hn hq nn W0.o.at_).mono ?_;rintro e w1 ⟨rfl,h1,h2⟩;have W1:=qh (W0.o.call h1 h2);clear h1 h2 W0;rw[HS.o] at W1;rw[HF.o];dsimp only[foundI,Option.isSome]
 obtain⟨x0,x1,x2⟩:=W1.o.h0.three
 go_wp2
 go_ret2
 exact⟨rfl,W1.o.fin⟩

theorem qFW (hn:n<2^40)(hq:q<=1024)(nn:Int)(p:Nat)(hf:(takeI n K t q s nn st).1=some p)(h:(rOb base b n all K).At w0 A G st w) :
  Calls Tryz.prog 12 #[.pointer (some ⟨b,0,none⟩),.agg #[.int .i64 t,.int .i64 q,.int .i64 s],.int .i64 nn] w fun e w'=>e = .returned (.tuple #[.int .i64 (p:Int),.bool true])/\(rOb base b n all K).At w0 A G (upS n K (takeI n K t q s nn st).2) w'/\Stay G w w':=by
 have W0:=qh ((WL.start h).new 23 #[.int .i64 t,.int .i64 q,.int .i64 s])
 have HF:=qh hf
 obtain⟨s1,hs⟩:∃ s1,(takeI n K t q s nn st).2=s1:=⟨_,rfl⟩
 have HS:=qh hs
 rw[hs]
 unfold upS
 obtain⟨x,hx⟩:∃ x,getV n K s1 1=x:=⟨_,rfl⟩
 obtain⟨y,hy⟩:∃ y,qOO x 1=y:=⟨_,rfl⟩
 have HY:qH (y<2^32):=qh (by rw[<- hy];exact qFE x _)
 have sa:IntKind.u32.wrap ((x:Int)+1)=(y:Int):=by have:=qN8 x 1;rw[show IntKind.u32.wrap 1=1 by decide,hy] at this;exact this
 have HX:=qh hx
 rw[hx,hy]
 clear h hf hs hx hy
 go_enter Tryz.func12,Tryz.ntmps12
 obtain⟨x0,x1,x2⟩:=W0.o.h0.three
 go_wp2_with fail
 refine(qYn hn hq nn W0.o.at_).mono ?_;rintro e w1 ⟨rfl,h1,h2⟩;have W1:=qh (W0.o.call h1 h2);clear h1 h2 W0;rw[HS.o] at W1;rw[HF.o];dsimp only[foundI,Option.isSome]
 obtain⟨x0,x1,x2⟩:=W1.o.h0.three
 go_wp2_with fail
 refine(rGetA hn _ W1.o.at_).mono ?_;rintro e w2 ⟨rfl,h1,h2⟩;have W2:=qh (W1.o.call h1 h2);clear h1 h2 W1;rw[HX.o]
 obtain⟨x0,x1,x2⟩:=W2.o.h0.three
 go_wp2_with fail
 refine(rPutA hn _ y HY.o W2.o.at_).mono ?_;rintro e w3 ⟨rfl,h1,h2⟩;have W3:=qh (W2.o.call h1 h2);clear h1 h2 W2
 obtain⟨x0,x1,x2⟩:=W3.o.h0.three
 go_wp2
 go_ret2
 exact⟨rfl,W3.o.fin⟩

theorem qYt (hn:n<2^40)(hq:q<=1024)(nn:Int)(h:(rOb base b n all K).At w0 A G st w) :
  Calls Tryz.prog 12 #[.pointer (some ⟨b,0,none⟩),.agg #[.int .i64 t,.int .i64 q,.int .i64 s],.int .i64 nn] w fun e w'=>e = .returned (.tuple #[.int .i64 (foundI (allocL n K t q s nn st).1),.bool (allocL n K t q s nn st).1.isSome])/\(rOb base b n all K).At w0 A G ((allocL n K t q s nn st).2) w'/\Stay G w w':=by
 unfold allocL
 cases hf:(takeI n K t q s nn st).1 with
 | none=>exact qBb hn hq nn hf h
 | some p=>exact qFW hn hq nn p hf h

theorem qXc (hn:n<2^40)(hq:q<=1024)(p l:Nat)(hp:p<=1024)(hl:l<=1024)(k c:Int)(ok:Bool)(hI:infoOf n K t q s (p:Int) st=(k,(l:Int),c,ok))(h:(rOb base b n all K).At w0 A G st w) :
  Calls Tryz.prog 21 #[.pointer (some ⟨b,0,none⟩),.agg #[.int .i64 t,.int .i64 q,.int .i64 s],.int .i64 (p:Int)] w fun e w'=>e = .returned (.tuple #[])/\(rOb base b n all K).At w0 A G (freeL n K t q s p st) w'/\Stay G w w':=by
 have W0:=qh ((WL.start h).new 23 #[.int .i64 t,.int .i64 q,.int .i64 s])
 have hL:lenI n K t q s p st=l:=by unfold lenI;rw[hI];simp
 have HI:=qh hI
 have hfd:∀ w:World,(Instr.field 90 (.agg #[.int .i64 k,.int .i64 (l:Int),.int .i64 c]) 1).run Tryz.prog w = .ok (.int .i64 (l:Int)) w:=fun _=>by kernel_rfl
 unfold freeL
 rw[hL]
 unfold readS downS
 obtain⟨x,hx⟩:∃ x,getV n K (releaseS n K t q s p l (getS n K st (pageI t q s (p:Int) 0))) 1=x:=⟨_,rfl⟩
 obtain⟨y,hy⟩:∃ y,qZB x 1=y:=⟨_,rfl⟩
 have HY:qH (y<2^32):=qh (by rw[<- hy];exact qQj x _)
 have sa:IntKind.u32.wrap ((x:Int)-1)=(y:Int):=by have:=qZI x 1;rw[show IntKind.u32.wrap 1=1 by decide,hy] at this;exact this
 have HX:=qh hx
 rw[hx,hy]
 clear h hI hL hx hy
 go_enter Tryz.func21,Tryz.ntmps21
 obtain⟨x0,x1,x2⟩:=W0.o.h0.three
 go_wp2_with fail
 refine(qHu hn (p:Int) k (l:Int) c ok HI.o W0.o.at_).mono ?_;rintro e w1 ⟨rfl,h1,h2⟩;have W1:=qh (W0.o.call h1 h2);clear h1 h2 W0
 obtain⟨x0,x1,x2⟩:=W1.o.h0.three
 go_wp2_with fail
 refine(qR1 hn hq p l hp hl W1.o.at_).mono ?_;rintro e w2 ⟨rfl,h1,h2⟩;have W2:=qh (W1.o.call h1 h2);clear h1 h2 W1
 obtain⟨x0,x1,x2⟩:=W2.o.h0.three
 go_wp2_with fail
 refine(rGetA hn _ W2.o.at_).mono ?_;rintro e w3 ⟨rfl,h1,h2⟩;have W3:=qh (W2.o.call h1 h2);clear h1 h2 W2;rw[HX.o]
 obtain⟨x0,x1,x2⟩:=W3.o.h0.three
 go_wp2_with fail
 refine(rPutA hn _ y HY.o W3.o.at_).mono ?_;rintro e w4 ⟨rfl,h1,h2⟩;have W4:=qh (W3.o.call h1 h2);clear h1 h2 W3
 obtain⟨x0,x1,x2⟩:=W4.o.h0.three
 go_wp2
 go_end0
 exact⟨rfl,W4.o.fin⟩

theorem qZl (hn:n<2^40)(hq:q<=1024)(p l:Nat)(m:Int)(k c:Int)(ok:Bool)(hI:infoOf n K t q s (p:Int) st=(k,(l:Int),c,ok))(hm:m=(l:Int))(h:(rOb base b n all K).At w0 A G st w) :
  Calls Tryz.prog 19 #[.pointer (some ⟨b,0,none⟩),.agg #[.int .i64 t,.int .i64 q,.int .i64 s],.int .i64 (p:Int),.int .i64 m] w fun e w'=>e = .returned (.bool true)/\(rOb base b n all K).At w0 A G ((getS n K st (pageI t q s (p:Int) 0))) w'/\Stay G w w':=by
 have W0:=qh ((WL.start h).new 23 #[.int .i64 t,.int .i64 q,.int .i64 s])
 have HI:=qh hI
 have hfd:∀ w:World,(Instr.field 90 (.agg #[.int .i64 k,.int .i64 (l:Int),.int .i64 c]) 1).run Tryz.prog w = .ok (.int .i64 (l:Int)) w:=fun _=>by kernel_rfl
 subst hm
 have t0:((l:Int)==(l:Int))=true:=by simp
 clear h hI
 go_enter Tryz.func19,Tryz.ntmps19
 obtain⟨x0,x1,x2⟩:=W0.o.h0.three
 go_wp2_with fail
 refine(qHu hn (p:Int) k (l:Int) c ok HI.o W0.o.at_).mono ?_;rintro e w1 ⟨rfl,h1,h2⟩;have W1:=qh (W0.o.call h1 h2);clear h1 h2 W0
 obtain⟨x0,x1,x2⟩:=W1.o.h0.three
 go_wp2
 go_ret
 exact⟨rfl,W1.o.fin⟩

theorem qRt (hn:n<2^40)(hq:q<=1024)(p l:Nat)(m:Int)(k c:Int)(ok:Bool)(hI:infoOf n K t q s (p:Int) st=(k,(l:Int),c,ok))(h1:1<=m)(hm:m<(l:Int))(hp:(p:Int)+(l:Int)<=1024)(h:(rOb base b n all K).At w0 A G st w) :
  Calls Tryz.prog 19 #[.pointer (some ⟨b,0,none⟩),.agg #[.int .i64 t,.int .i64 q,.int .i64 s],.int .i64 (p:Int),.int .i64 m] w fun e w'=>e = .returned (.bool true)/\(rOb base b n all K).At w0 A G (shrinkS n K t q s p l m.toNat (getS n K st (pageI t q s (p:Int) 0))) w'/\Stay G w w':=by
 have W0:=qh ((WL.start h).new 23 #[.int .i64 t,.int .i64 q,.int .i64 s])
 have HI:=qh hI
 have hfd:∀ w:World,(Instr.field 90 (.agg #[.int .i64 k,.int .i64 (l:Int),.int .i64 c]) 1).run Tryz.prog w = .ok (.int .i64 (l:Int)) w:=fun _=>by kernel_rfl
 obtain⟨j,rfl⟩:=Int.eq_ofNat_of_zero_le (show 0<=m by omega)
 have t0:((j:Int)==(l:Int))=false:=qs
 have t0n:(j==l)=false:=qs
 have t1:decide ((1:Int)<=(j:Int))=true:=decide_eq_true h1
 have t1n:decide (1<=j)=true:=qt
 have t2:decide ((j:Int)<(l:Int))=true:=decide_eq_true hm
 have t2n:decide (j<l)=true:=qt
 rw[Int.toNat_natCast]
 have hkl:j<=l:=qo
 have hpl:p+l<=1024:=qo
 clear h hI
 go_enter Tryz.func19,Tryz.ntmps19
 obtain⟨x0,x1,x2⟩:=W0.o.h0.three
 go_wp2_with fail
 refine(qHu hn (p:Int) k (l:Int) c ok HI.o W0.o.at_).mono ?_;rintro e w1 ⟨rfl,h1,h2⟩;have W1:=qh (W0.o.call h1 h2);clear h1 h2 W0
 obtain⟨x0,x1,x2⟩:=W1.o.h0.three
 go_wp2_with fail
 refine(qXw hn hq p l j hpl hkl W1.o.at_).mono ?_;rintro e w2 ⟨rfl,h1,h2⟩;have W2:=qh (W1.o.call h1 h2);clear h1 h2 W1
 obtain⟨x0,x1,x2⟩:=W2.o.h0.three
 go_wp2
 go_ret
 exact⟨rfl,W2.o.fin⟩

theorem qBl (hn:n<2^40)(hq:q<=1024)(p l:Nat)(m:Int)(k c:Int)(ok:Bool)(hI:infoOf n K t q s (p:Int) st=(k,(l:Int),c,ok))(h1:m<1)(hm:m<(l:Int))(h:(rOb base b n all K).At w0 A G st w) :
  Calls Tryz.prog 19 #[.pointer (some ⟨b,0,none⟩),.agg #[.int .i64 t,.int .i64 q,.int .i64 s],.int .i64 (p:Int),.int .i64 m] w fun e w'=>e = .returned (.bool false)/\(rOb base b n all K).At w0 A G ((getS n K st (pageI t q s (p:Int) 0))) w'/\Stay G w w':=by
 have W0:=qh ((WL.start h).new 23 #[.int .i64 t,.int .i64 q,.int .i64 s])
 have HI:=qh hI
 have hfd:∀ w:World,(Instr.field 90 (.agg #[.int .i64 k,.int .i64 (l:Int),.int .i64 c]) 1).run Tryz.prog w = .ok (.int .i64 (l:Int)) w:=fun _=>by kernel_rfl
 have t0:(m==(l:Int))=false:=qs
 have t1:decide ((1:Int)<=m)=false:=qf
 have t3:decide ((l:Int)<m)=false:=qf
 clear h hI
 go_enter Tryz.func19,Tryz.ntmps19
 obtain⟨x0,x1,x2⟩:=W0.o.h0.three
 go_wp2_with fail
 refine(qHu hn (p:Int) k (l:Int) c ok HI.o W0.o.at_).mono ?_;rintro e w1 ⟨rfl,h1,h2⟩;have W1:=qh (W0.o.call h1 h2);clear h1 h2 W0
 obtain⟨x0,x1,x2⟩:=W1.o.h0.three
 go_wp2
 go_ret
 exact⟨rfl,W1.o.fin⟩

theorem qR9 (hn:n<2^40)(hq:q<=1024)(p l:Nat)(m:Int)(k c:Int)(ok:Bool)(hI:infoOf n K t q s (p:Int) st=(k,(l:Int),c,ok))(hm:(l:Int)<m)(h1:m<=q)(hp:(p:Int)+(l:Int)<=q)(h:(rOb base b n all K).At w0 A G st w) :
  Calls Tryz.prog 19 #[.pointer (some ⟨b,0,none⟩),.agg #[.int .i64 t,.int .i64 q,.int .i64 s],.int .i64 (p:Int),.int .i64 m] w fun e w'=>e = .returned (.bool (growB n K t q s p l m (getS n K st (pageI t q s (p:Int) 0))))/\(rOb base b n all K).At w0 A G (growS n K t q s p l m (getS n K st (pageI t q s (p:Int) 0))) w'/\Stay G w w':=by
 have W0:=qh ((WL.start h).new 23 #[.int .i64 t,.int .i64 q,.int .i64 s])
 have HI:=qh hI
 have hfd:∀ w:World,(Instr.field 90 (.agg #[.int .i64 k,.int .i64 (l:Int),.int .i64 c]) 1).run Tryz.prog w = .ok (.int .i64 (l:Int)) w:=fun _=>by kernel_rfl
 have t0:(m==(l:Int))=false:=qs
 have t1:decide ((1:Int)<=m)=true:=qt
 have t2:decide (m<(l:Int))=false:=qf
 have t3:decide ((l:Int)<m)=true:=decide_eq_true hm
 have t4:decide (m<=q)=true:=decide_eq_true h1
 obtain⟨gb,hgb⟩:∃ gb,growB n K t q s p l m (getS n K st (pageI t q s (p:Int) 0))=gb:=⟨_,rfl⟩
 have HGB:=qh hgb
 rw[hgb]
 have hm9:m<=9223372036854775807:=qo
 clear hgb
 clear h hI
 go_enter Tryz.func19,Tryz.ntmps19
 obtain⟨x0,x1,x2⟩:=W0.o.h0.three
 go_wp2_with fail
 refine(qHu hn (p:Int) k (l:Int) c ok HI.o W0.o.at_).mono ?_;rintro e w1 ⟨rfl,h1,h2⟩;have W1:=qh (W0.o.call h1 h2);clear h1 h2 W0
 obtain⟨x0,x1,x2⟩:=W1.o.h0.three
 go_wp2_with fail
 refine(qUq hn hq p l m hp hm hm9 W1.o.at_).mono ?_;rintro e w2 ⟨rfl,h1,h2⟩;have W2:=qh (W1.o.call h1 h2);clear h1 h2 W1;rw[HGB.o]
 obtain⟨x0,x1,x2⟩:=W2.o.h0.three
 go_wp2
 go_ret
 exact⟨rfl,W2.o.fin⟩

theorem qPh (hn:n<2^40)(hq:q<=1024)(p l:Nat)(m:Int)(k c:Int)(ok:Bool)(hI:infoOf n K t q s (p:Int) st=(k,(l:Int),c,ok))(hm:(l:Int)<m)(h1:q<m)(h:(rOb base b n all K).At w0 A G st w) :
  Calls Tryz.prog 19 #[.pointer (some ⟨b,0,none⟩),.agg #[.int .i64 t,.int .i64 q,.int .i64 s],.int .i64 (p:Int),.int .i64 m] w fun e w'=>e = .returned (.bool false)/\(rOb base b n all K).At w0 A G ((getS n K st (pageI t q s (p:Int) 0))) w'/\Stay G w w':=by
 have W0:=qh ((WL.start h).new 23 #[.int .i64 t,.int .i64 q,.int .i64 s])
 have HI:=qh hI
 have hfd:∀ w:World,(Instr.field 90 (.agg #[.int .i64 k,.int .i64 (l:Int),.int .i64 c]) 1).run Tryz.prog w = .ok (.int .i64 (l:Int)) w:=fun _=>by kernel_rfl
 have t0:(m==(l:Int))=false:=qs
 have t1:decide ((1:Int)<=m)=true:=qt
 have t2:decide (m<(l:Int))=false:=qf
 have t3:decide ((l:Int)<m)=true:=decide_eq_true hm
 have t4:decide (m<=q)=false:=qf
 clear h hI
 go_enter Tryz.func19,Tryz.ntmps19
 obtain⟨x0,x1,x2⟩:=W0.o.h0.three
 go_wp2_with fail
 refine(qHu hn (p:Int) k (l:Int) c ok HI.o W0.o.at_).mono ?_;rintro e w1 ⟨rfl,h1,h2⟩;have W1:=qh (W0.o.call h1 h2);clear h1 h2 W0
 obtain⟨x0,x1,x2⟩:=W1.o.h0.three
 go_wp2
 go_ret
 exact⟨rfl,W1.o.fin⟩

theorem qKt (hn:n<2^40)(hq:q<=1024)(p l:Nat)(m:Int)(k c:Int)(ok:Bool)(hI:infoOf n K t q s (p:Int) st=(k,(l:Int),c,ok))(hp:(p:Int)+(l:Int)<=q)(h:(rOb base b n all K).At w0 A G st w) :
  Calls Tryz.prog 19 #[.pointer (some ⟨b,0,none⟩),.agg #[.int .i64 t,.int .i64 q,.int .i64 s],.int .i64 (p:Int),.int .i64 m] w fun e w'=>e = .returned (.bool (resizeL n K t q s p m st).1)/\(rOb base b n all K).At w0 A G ((resizeL n K t q s p m st).2) w'/\Stay G w w':=by
 have hL:lenI n K t q s p st=l:=by unfold lenI;rw[hI];simp
 unfold resizeL
 simp only[hL]
 unfold readS
 by_cases h1:m=(l:Int)
 ·rw[if_pos h1]
  exact qZl hn hq p l m k c ok hI h1 h
 ·rw[if_neg h1]
  by_cases h2:1<=m/\m<(l:Int)
  ·rw[if_pos h2]
   exact qRt hn hq p l m k c ok hI h2.1 h2.2 qo h
  ·rw[if_neg h2]
   by_cases h3:(l:Int)<m/\m<=q
   ·rw[if_pos h3]
    exact qR9 hn hq p l m k c ok hI h3.1 h3.2 hp h
   ·rw[if_neg h3]
    by_cases h4:m<(l:Int)
    ·exact qBl hn hq p l m k c ok hI qo h4 h
    ·exact qPh hn hq p l m k c ok hI qo qo h
end
end
end Go.Proofs.YtgifnhcknodekaaGreat
