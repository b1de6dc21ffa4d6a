/-
  What the methods of small.hand do that leave the hand as it is: slotAt, class, live, dead, countLive, give. Written by small/gen_prog.py.
-/
import Derived.Test.YtjjfcaliippgpaaGreatDoorV05
import Derived.Test.YtjjfcaliippgpaaGreatDoorV13
import Derived.Test.YtjjfcaliippgpaaGreatDoorV18
import Derived.Test.YtjjfcaliippgpaaGreatDoorV06
import Derived.Test.YtjjfcaliippgpaaGreatDoorV01
import Derived.ArgAppend
namespace Go.Proofs.YtjjfcaliippgpaaGreatDoor
theorem M1P {P:Prop}(h:P:=by
 refine qk ?_ (fun hHeld=>?_)
 ·exact Mp3
 clear hK K
 refine rdz 10 fun K hK=>?_
 go_simp
 refine(vGetA hn _ W3.o.at_).mono ?_;rintro e w4 ⟨rfl,h1,h2⟩;have W4:=qh (W3.o.call h1 h2);clear h1 h2 W3;rw[HV.o]
 exact M2z):P:=h
theorem M2z {P:Prop}(h:P:=by
 refine qk ?_ (fun hHeld=>?_)
 ·exact MRw
 clear hK K
 refine rdz 11 fun K hK=>?_
 go_simp
 refine(qMJ v kk l c ok hv32 HI.o _).mono ?_;rintro e w5 ⟨rfl,hb⟩;have W5:=qh (W4.o.keep hb);clear hb W4
 refine qk ?_ (fun hHeld=>?_)
 ·exact Mtd
 clear hK K
 refine tkz 12 ?_
 refine tkz 13 ?_
 refine tkz 14 ?_
 exact Mx7):P:=h
theorem Mx7 {P:Prop}(h:P:=by
 refine rdz 16 fun K hK=>?_
 obtain⟨z0,z1,z2⟩:=W5.o.h0.three
 have f0:=W5.o.h0.thawed 0
 have f1:=W5.o.h0.thawed 1
 have f2:=W5.o.h0.thawed 2
 go_simp
 have W6:=qh (((W5.o.put 0 (.int .i64 kk)).put 1 (.int .i64 l)).put 2 (.int .i64 c))
 clear W5 z0 z1 z2 f0 f1 f2
 refine qk ?_ (fun hHeld=>?_)
 ·exact⟨(W6.o.stay.held HGG.o HHD.o).hd4.1,(W6.o.stay.held HGG.o HHD.o).hd4.2.1,(W6.o.stay.held HGG.o HHD.o).hd4.2.2.1,(W6.o.stay.held HGG.o HHD.o).hd4.2.2.2⟩
 clear hK K
 refine tkz 17 ?_
 refine dnz ?_
 obtain⟨i0,i1,i2⟩:=W6.o.h0.three
 obtain⟨x0,x1,x2,x3⟩:=(W6.o.stay.held HGG.o HHD.o).hd4
 go_wp2
 go_ret
 exact⟨rfl,W6.o.fin⟩):P:=h
theorem MF0 {P:Prop}(h:P:=by
 go_enter Tryz.func47,Tryz.ntmps47
 go_wp2
 exact bodyPost_ret (v := .tuple #[.agg (pkC U),.bool false]) (by simp[results,Tryz.results47,go_sem,y0,y1,y2,y3,y4,y5,y6,y7,y8]) rfl ⟨rfl,Bnew (Bnew (B0 w) _) _⟩):P:=h
theorem M51 {P:Prop}(h:P:=by
 rintro e w1 ⟨rfl,rfl⟩
 go_wp2
 exact bodyPost_ret (v := .tuple #[.agg (pkC U),.bool false]) (by simp[results,Tryz.results103,go_sem,y0,y1,y2,y3,y4,y5,y6,y7,y8]) rfl ⟨rfl,Bnew (Bnew (B0 w) _) _⟩):P:=h
theorem Mdg {P:Prop}(h:P:=by
 (try dsimp only)
 exact⟨(W0.o.drew.stay.held HGG.o HHD.o).hd4.1,(W0.o.drew.stay.held HGG.o HHD.o).hd4.2.1,(W0.o.drew.stay.held HGG.o HHD.o).hd4.2.2.1,(W0.o.drew.stay.held HGG.o HHD.o).hd4.2.2.2⟩):P:=h
theorem Mmy {P:Prop}(h:P:=by exact⟨(W2.o.stay.held HGG.o HHD.o).hd4.1,(W2.o.stay.held HGG.o HHD.o).hd4.2.1,(W2.o.stay.held HGG.o HHD.o).hd4.2.2.1,(W2.o.stay.held HGG.o HHD.o).hd4.2.2.2⟩):P:=h
theorem Mp3 {P:Prop}(h:P:=by exact⟨(W3.o.stay.held HGG.o HHD.o).hd4.1,(W3.o.stay.held HGG.o HHD.o).hd4.2.1,(W3.o.stay.held HGG.o HHD.o).hd4.2.2.1,(W3.o.stay.held HGG.o HHD.o).hd4.2.2.2⟩):P:=h
theorem MRw {P:Prop}(h:P:=by exact⟨(W4.o.stay.held HGG.o HHD.o).hd4.1,(W4.o.stay.held HGG.o HHD.o).hd4.2.1,(W4.o.stay.held HGG.o HHD.o).hd4.2.2.1,(W4.o.stay.held HGG.o HHD.o).hd4.2.2.2⟩):P:=h
theorem Mtd {P:Prop}(h:P:=by exact⟨(W5.o.stay.held HGG.o HHD.o).hd4.1,(W5.o.stay.held HGG.o HHD.o).hd4.2.1,(W5.o.stay.held HGG.o HHD.o).hd4.2.2.1,(W5.o.stay.held HGG.o HHD.o).hd4.2.2.2⟩):P:=h
theorem MIf {P:Prop}(h:P:=by
 rcases Nat.lt_or_ge i l.length with h1|h1
 ·exact h1
 ·rw[List.getElem?_eq_none h1] at hz;cases hz):P:=h
theorem M53 {P:Prop}(h:P:=by
  rw[qR2 _ _ e,qR2 _ _ e]
  exact(HP.o j hj).below hBF):P:=h
end Go.Proofs.YtjjfcaliippgpaaGreatDoor
set_option linter.unusedVariables false
set_option linter.unusedSimpArgs false
set_option maxRecDepth 100000
set_option maxHeartbeats 25600000
namespace Go.Proofs.YtjjfcaliippgpaaGreatDoor
open Go.ChangeShapes Go.WideShapes Go.ChangeAt Go.RowKit Go.Maps
section
theorem qOK (s:Nat)(hs:s<32)(w:World):Calls Tryz.prog 102 #[.int .i64 (s:Int)] w fun e w'=>e = .returned (.int .u32 ((2^s:Nat):Int))/\w=w':=by
 have e:=qh (qMX hs)
 have e5:s<=31:=qo
 go_enter Tryz.func102,Tryz.ntmps102
 go_wp2
 go_ret
 exact⟨qSu e.o,rfl⟩
theorem qMo {i:Nat}(hi:i<32):2^i<2^32:=Nat.pow_lt_pow_right (by decide) hi
theorem qYm {v i:Nat}(hv:v<2^32)(hi:i<32):bits .or .u32 (v:Int) ((2^i:Nat):Int)=((v ||| 2^i:Nat):Int):=u32_or_nat v (2^i) hv (qMo hi)
theorem qAL {v i:Nat}(hv:v<2^32)(hi:i<32):v ||| 2^i<2^32:=Nat.or_lt_two_pow hv (qMo hi)
theorem qHl {b:Nat}{t q s:Int}{g:Nat}{U:Nat->Sl}(k:Nat)(hk:k<9)(a:Int)(h0 : -9223372036854775808<=a)(h1:a<=9223372036854775807)(hs:spotB t q s a=true)(hr:slotB t q s (k:Int) (spotO t q s a)=true)(w:World)(hT:SlotsLaid w)(hH:Held w g 83 (hdC b t q s U)) :
  Calls Tryz.prog 77 #[.pointer (some ⟨g,0,none⟩),.int .i64 (k:Int),.int .i64 a] w fun e w'=>e = .returned (.tuple #[.int .i64 (spotP t q s a),.int .i64 (slotR t q s (k:Int) (spotO t q s a))])/\Below w.heap.size w w':=by
 have HH:=qh hH
 have HT:=qh hT
 have HB:=qh (B0 w)
 have hob:=qSv hs
 obtain⟨o,ho⟩:∃ o,spotO t q s a=o:=⟨_,rfl⟩
 rw[ho] at hr hob ⊢
 have HO:=qh ho
 have HS:=qh hs
 have HR:=qh hr
 have o0:0<=o:=hob.2.2.2.2.2.1
 have o1:o<1048576:=hob.2.2.2.2.2.2
 clear ho hs hr hH hT hob
 obtain⟨x0,x1,x2,x3⟩:=HH.o.hd4
 go_enter Tryz.func77,Tryz.ntmps77
 go_wp2_with fail
 refine(qRN t q s a h0 h1 _).mono ?_
 rintro e w2 ⟨rfl,hb⟩
 rw[HO.o,HS.o]
 replace HH:=qh (HH.o.keep hb)
 replace HB:=qh (Bgo HB.o hb)
 clear hb x0 x1 x2 x3
 obtain⟨x0,x1,x2,x3⟩:=HH.o.hd4
 go_wp2_with fail
 refine(qPv t q s (k:Int) o qo qo qo qo _ (HT.o.below HB.o)).mono ?_
 rintro e w3 ⟨rfl,hb⟩
 rw[HR.o]
 replace HB:=qh (Bgo HB.o hb)
 clear hb
 go_wp2
 go_ret2
 exact⟨rfl,HB.o⟩
section
variable {base b n : Nat} {wh all : Bool} {K : Nat -> Option Nat} {st : Vst} {w w0 : World} {A G : Nat -> Prop} {t q s k : Int}

theorem qUs (hn:n<2^40)(p:Int)(i:Nat)(hi:i<32){g:Nat}{U:Nat->Sl}(hG:G g)(hH:Held w g 83 (hdC b t q s U))(h:(vOb base b n wh K).At w0 A G st w) :
  Calls Tryz.prog 76 #[.pointer (some ⟨g,0,none⟩),.int .i64 p,.int .i64 (i:Int)] w fun e w'=>e = .returned (.tuple #[])/\(vOb base b n wh K).At w0 A G (putS n (getS n K st (pageI t q s p 4)) (pageI t q s p 4) ((getV n K st (pageI t q s p 4)) ||| 2^i)) w'/\Stay G w w':=by
 have W0:=qh (WL.start h)
 have HGG:=qh hG
 have HHD:=qh hH
 obtain⟨v,hv⟩:∃ v,getV n K st (pageI t q s p 4)=v:=⟨_,rfl⟩
 have hv32:v<2^32:=by rw[<- hv];exact qHJ h _
 have HV:=qh hv
 rw[hv]
 obtain⟨u,hu⟩:∃ u,v ||| 2^i=u:=⟨_,rfl⟩
 have HU:qH (u<2^32):=qh (by rw[<- hu];exact qAL hv32 hi)
 obtain⟨x,hx⟩:∃ x,2^i=x:=⟨_,rfl⟩
 have HX:=qh hx
 have e1:bits .or .u32 (v:Int) (x:Int)=(u:Int):=by rw[<- hu,<- hx];exact qYm hv32 hi
 rw[hu]
 clear h hv hu hv32 hx hG hH
 go_enter Tryz.func76,Tryz.ntmps76
 obtain⟨x0,x1,x2,x3⟩:=(W0.o.stay.held HGG.o HHD.o).hd4
 go_wp2_with fail
 refine(qA3 t q s p _).mono ?_;rintro e w1 ⟨rfl,hb⟩;have W1:=qh (W0.o.keep hb);clear hb W0
 obtain⟨x0,x1,x2,x3⟩:=(W1.o.stay.held HGG.o HHD.o).hd4
 go_wp2_with fail
 refine wp_region_held_drew (S:=(fun w'=>w'.cell? ⟨g,0,none⟩=some (.pointer (some ⟨b,0,none⟩)))) qr ?_ (fun hHeld=>?_)
 ·(try dsimp only)
  exact(W1.o.drew.stay.held HGG.o HHD.o).hd4.1
 refine tkz 0 ?_
 refine tkz 1 ?_
 refine tkz 2 ?_
 refine tkz 3 ?_
 refine tkz 4 ?_
 refine tkz 5 ?_
 refine tkz 6 ?_
 refine tkz 7 ?_
 refine tkz 8 ?_
 refine tkz 9 ?_
 refine tkz 11 ?_
 refine rdz 10 fun K hK=>?_
 go_simp
 refine(vGetA hn _ W1.o.drew.at_).mono ?_;rintro e w2 ⟨rfl,h1,h2⟩;have W2:=qh (W1.o.drew.call h1 h2);clear h1 h2 W1;rw[HV.o]
 refine qk ?_ (fun hHeld=>?_)
 ·exact(W2.o.stay.held HGG.o HHD.o).hd4.1
 clear hK K
 refine rdz 12 fun K hK=>?_
 go_simp
 refine(qOK i hi _).mono ?_;rintro e w9 ⟨rfl,rfl⟩;rw[HX.o]
 refine qk ?_ (fun hHeld=>?_)
 ·exact(W2.o.stay.held HGG.o HHD.o).hd4.1
 clear hK K
 refine tkz 13 ?_
 refine rdz 14 fun K hK=>?_
 go_simp
 refine(vPutA hn _ u HU.o W2.o.at_).mono ?_;rintro e w3 ⟨rfl,h1,h2⟩;have W3:=qh (W2.o.call h1 h2);clear h1 h2 W2
 refine qk ?_ (fun hHeld=>?_)
 ·exact(W3.o.stay.held HGG.o HHD.o).hd4.1
 clear hK K
 refine dnz ?_
 obtain⟨x0,x1,x2,x3⟩:=(W3.o.stay.held HGG.o HHD.o).hd4
 go_wp2
 go_end0
 exact⟨rfl,W3.o.fin⟩

theorem qRk (hn:n<2^40)(p:Int)(i:Nat)(hi:i<32){g:Nat}{U:Nat->Sl}(hG:G g)(hH:Held w g 83 (hdC b t q s U))(h:(vOb base b n wh K).At w0 A G st w) :
  Calls Tryz.prog 61 #[.pointer (some ⟨g,0,none⟩),.int .i64 p,.int .i64 (i:Int)] w fun e w'=>e = .returned (.tuple #[])/\(vOb base b n wh K).At w0 A G (putS n (getS n K st (pageI t q s p 4)) (pageI t q s p 4) (clrB (getV n K st (pageI t q s p 4)) i)) w'/\Stay G w w':=by
 have W0:=qh (WL.start h)
 have HGG:=qh hG
 have HHD:=qh hH
 obtain⟨v,hv⟩:∃ v,getV n K st (pageI t q s p 4)=v:=⟨_,rfl⟩
 have hv32:v<2^32:=by rw[<- hv];exact qHJ h _
 have HV:=qh hv
 rw[hv]
 obtain⟨u,hu⟩:∃ u,clrB v i=u:=⟨_,rfl⟩
 have HU:qH (u<2^32):=qh (by rw[<- hu];exact qGH hv32)
 obtain⟨x,hx⟩:∃ x,2^i=x:=⟨_,rfl⟩
 have HX:=qh hx
 have e1:bits .andNot .u32 (v:Int) (x:Int)=(u:Int):=by rw[<- hu,<- hx];exact qNV hv32 hi
 rw[hu]
 clear h hv hu hv32 hx hG hH
 go_enter Tryz.func61,Tryz.ntmps61
 obtain⟨x0,x1,x2,x3⟩:=(W0.o.stay.held HGG.o HHD.o).hd4
 go_wp2_with fail
 refine(qA3 t q s p _).mono ?_;rintro e w1 ⟨rfl,hb⟩;have W1:=qh (W0.o.keep hb);clear hb W0
 obtain⟨x0,x1,x2,x3⟩:=(W1.o.stay.held HGG.o HHD.o).hd4
 go_wp2_with fail
 refine wp_region_held_drew (S:=(fun w'=>w'.cell? ⟨g,0,none⟩=some (.pointer (some ⟨b,0,none⟩)))) qr ?_ (fun hHeld=>?_)
 ·(try dsimp only)
  exact(W1.o.drew.stay.held HGG.o HHD.o).hd4.1
 refine tkz 0 ?_
 refine tkz 1 ?_
 refine tkz 2 ?_
 refine tkz 3 ?_
 refine tkz 4 ?_
 refine tkz 5 ?_
 refine tkz 6 ?_
 refine tkz 7 ?_
 refine tkz 8 ?_
 refine tkz 9 ?_
 refine tkz 11 ?_
 refine rdz 10 fun K hK=>?_
 go_simp
 refine(vGetA hn _ W1.o.drew.at_).mono ?_;rintro e w2 ⟨rfl,h1,h2⟩;have W2:=qh (W1.o.drew.call h1 h2);clear h1 h2 W1;rw[HV.o]
 refine qk ?_ (fun hHeld=>?_)
 ·exact(W2.o.stay.held HGG.o HHD.o).hd4.1
 clear hK K
 refine rdz 12 fun K hK=>?_
 go_simp
 refine(qOK i hi _).mono ?_;rintro e w9 ⟨rfl,rfl⟩;rw[HX.o]
 refine qk ?_ (fun hHeld=>?_)
 ·exact(W2.o.stay.held HGG.o HHD.o).hd4.1
 clear hK K
 refine tkz 13 ?_
 refine rdz 14 fun K hK=>?_
 go_simp
 refine(vPutA hn _ u HU.o W2.o.at_).mono ?_;rintro e w3 ⟨rfl,h1,h2⟩;have W3:=qh (W2.o.call h1 h2);clear h1 h2 W2
 refine qk ?_ (fun hHeld=>?_)
 ·exact(W3.o.stay.held HGG.o HHD.o).hd4.1
 clear hK K
 refine dnz ?_
 obtain⟨x0,x1,x2,x3⟩:=(W3.o.stay.held HGG.o HHD.o).hd4
 go_wp2
 go_end0
 exact⟨rfl,W3.o.fin⟩

theorem qP9 (hn:n<2^40){g:Nat}{U:Nat->Sl}(hG:G g)(hH:Held w g 83 (hdC b t q s U))(h:(vOb base b n wh K).At w0 A G st w) :
  Calls Tryz.prog 39 #[.pointer (some ⟨g,0,none⟩),.int .i64 1] w fun e w'=>e = .returned (.tuple #[])/\(vOb base b n wh K).At w0 A G (putS n (getS n K st 1) 1 (qTk (getV n K st 1))) w'/\Stay G w w':=by
 have W0:=qh (WL.start h)
 have HGG:=qh hG
 have HHD:=qh hH
 obtain⟨v,hv⟩:∃ v,getV n K st 1=v:=⟨_,rfl⟩
 have hv32:v<2^32:=by rw[<- hv];exact qHJ h _
 have HV:=qh hv
 rw[hv]
 obtain⟨u,hu⟩:∃ u,qTk v=u:=⟨_,rfl⟩
 have HU:qH (u<2^32):=qh (by rw[<- hu];exact Nat.mod_lt _ (by decide))
 have e1:((v:Int)+1)%4294967296=(u:Int):=by rw[<- hu];unfold qTk;omega
 have e2:IntKind.u32.wrap ((v:Int)+1)=(u:Int):=by unfold IntKind.wrap;simpa [IntKind.bits,IntKind.signed] using e1
 have e3:IntKind.u32.wrap 1=1:=by decide
 rw[hu]
 clear h hv hu hv32 hG hH
 go_enter Tryz.func39,Tryz.ntmps39
 obtain⟨x0,x1,x2,x3⟩:=(W0.o.stay.held HGG.o HHD.o).hd4
 go_wp2_with fail
 refine wp_region_held_drew (S:=(fun w'=>w'.cell? ⟨g,0,none⟩=some (.pointer (some ⟨b,0,none⟩)))) qr ?_ (fun hHeld=>?_)
 ·(try dsimp only)
  exact(W0.o.drew.stay.held HGG.o HHD.o).hd4.1
 refine tkz 0 ?_
 refine tkz 1 ?_
 refine tkz 2 ?_
 refine tkz 3 ?_
 refine tkz 4 ?_
 refine tkz 5 ?_
 refine tkz 6 ?_
 refine tkz 7 ?_
 refine tkz 9 ?_
 refine tkz 10 ?_
 refine rdz 8 fun K hK=>?_
 go_simp
 refine(vGetA hn 1 W0.o.drew.at_).mono ?_;rintro e w1 ⟨rfl,h1,h2⟩;have W1:=qh (W0.o.drew.call h1 h2);clear h1 h2 W0;rw[HV.o]
 refine qk ?_ (fun hHeld=>?_)
 ·exact(W1.o.stay.held HGG.o HHD.o).hd4.1
 clear hK K
 refine tkz 11 ?_
 refine rdz 12 fun K hK=>?_
 go_simp
 refine(vPutA hn 1 u HU.o W1.o.at_).mono ?_;rintro e w2 ⟨rfl,h1,h2⟩;have W2:=qh (W1.o.call h1 h2);clear h1 h2 W1
 refine qk ?_ (fun hHeld=>?_)
 ·exact(W2.o.stay.held HGG.o HHD.o).hd4.1
 clear hK K
 refine dnz ?_
 obtain⟨x0,x1,x2,x3⟩:=(W2.o.stay.held HGG.o HHD.o).hd4
 go_wp2
 go_end0
 exact⟨rfl,W2.o.fin⟩

theorem qKI (hn:n<2^40){g:Nat}{U:Nat->Sl}(hG:G g)(hH:Held w g 83 (hdC b t q s U))(h:(vOb base b n wh K).At w0 A G st w) :
  Calls Tryz.prog 39 #[.pointer (some ⟨g,0,none⟩),.int .i64 (-1)] w fun e w'=>e = .returned (.tuple #[])/\(vOb base b n wh K).At w0 A G (putS n (getS n K st 1) 1 (qS4 (getV n K st 1))) w'/\Stay G w w':=by
 have W0:=qh (WL.start h)
 have HGG:=qh hG
 have HHD:=qh hH
 obtain⟨v,hv⟩:∃ v,getV n K st 1=v:=⟨_,rfl⟩
 have hv32:v<2^32:=by rw[<- hv];exact qHJ h _
 have HV:=qh hv
 rw[hv]
 obtain⟨u,hu⟩:∃ u,qS4 v=u:=⟨_,rfl⟩
 have HU:qH (u<2^32):=qh (by rw[<- hu];exact Nat.mod_lt _ (by decide))
 have e1:((v:Int)+4294967295)%4294967296=(u:Int):=by rw[<- hu];unfold qS4;omega
 have e2:IntKind.u32.wrap ((v:Int)+4294967295)=(u:Int):=by unfold IntKind.wrap;simpa [IntKind.bits,IntKind.signed] using e1
 have e3:IntKind.u32.wrap (-1)=4294967295:=by decide
 rw[hu]
 clear h hv hu hv32 hG hH
 go_enter Tryz.func39,Tryz.ntmps39
 obtain⟨x0,x1,x2,x3⟩:=(W0.o.stay.held HGG.o HHD.o).hd4
 go_wp2_with fail
 refine wp_region_held_drew (S:=(fun w'=>w'.cell? ⟨g,0,none⟩=some (.pointer (some ⟨b,0,none⟩)))) qr ?_ (fun hHeld=>?_)
 ·(try dsimp only)
  exact(W0.o.drew.stay.held HGG.o HHD.o).hd4.1
 refine tkz 0 ?_
 refine tkz 1 ?_
 refine tkz 2 ?_
 refine tkz 3 ?_
 refine tkz 4 ?_
 refine tkz 5 ?_
 refine tkz 6 ?_
 refine tkz 7 ?_
 refine tkz 9 ?_
 refine tkz 10 ?_
 refine rdz 8 fun K hK=>?_
 go_simp
 refine(vGetA hn 1 W0.o.drew.at_).mono ?_;rintro e w1 ⟨rfl,h1,h2⟩;have W1:=qh (W0.o.drew.call h1 h2);clear h1 h2 W0;rw[HV.o]
 refine qk ?_ (fun hHeld=>?_)
 ·exact(W1.o.stay.held HGG.o HHD.o).hd4.1
 clear hK K
 refine tkz 11 ?_
 refine rdz 12 fun K hK=>?_
 go_simp
 refine(vPutA hn 1 u HU.o W1.o.at_).mono ?_;rintro e w2 ⟨rfl,h1,h2⟩;have W2:=qh (W1.o.call h1 h2);clear h1 h2 W1
 refine qk ?_ (fun hHeld=>?_)
 ·exact(W2.o.stay.held HGG.o HHD.o).hd4.1
 clear hK K
 refine dnz ?_
 obtain⟨x0,x1,x2,x3⟩:=(W2.o.stay.held HGG.o HHD.o).hd4
 go_wp2
 go_end0
 exact⟨rfl,W2.o.fin⟩

theorem qKE (hn:n<2^40)(hq:q<=1024)(p i:Nat)(hp:p<=1024)(hi:i<32)(hT:SlotsLaid w0)(hA:¬ A 0)(c0:0<=(infoOf n K t q s p st).2.2.1)(c8:(infoOf n K t q s p st).2.2.1<=8){g:Nat}{U:Nat->Sl}(hG:G g)(hH:Held w g 83 (hdC b t q s U))(h:(vOb base b n wh K).At w0 A G st w) :
  Calls Tryz.prog 63 #[.pointer (some ⟨g,0,none⟩),.int .i64 (p:Int),.int .i64 (i:Int)] w fun e w'=>e = .returned (.tuple #[])/\(vOb base b n wh K).At w0 A G (giveS n K t q s p i st) w'/\Stay G w w':=by
 have W0:=qh (WL.start h)
 have HGG:=qh hG
 have HHD:=qh hH
 have HTL:=qh hT
 have C0:=qh c0
 have C8:=qh c8
 have HNA:=qh hA
 clear h hT c0 c8 hA hG hH
 go_enter Tryz.func63,Tryz.ntmps63
 obtain⟨x0,x1,x2,x3⟩:=(W0.o.stay.held HGG.o HHD.o).hd4
 go_wp2_with fail
 refine wp_region_held_drew (S:=(fun w'=>w'.cell? ⟨g,0,none⟩=some (.pointer (some ⟨b,0,none⟩))/\w'.cell? ⟨g,1,none⟩=some (.int .i64 t)/\w'.cell? ⟨g,2,none⟩=some (.int .i64 q)/\w'.cell? ⟨g,3,none⟩=some (.int .i64 s))) qr ?_ (fun hHeld=>?_)
 ·exact Mdg
 refine tkz 0 ?_
 refine tkz 1 ?_
 refine tkz 2 ?_
 refine tkz 3 ?_
 refine tkz 4 ?_
 refine tkz 5 ?_
 refine tkz 6 ?_
 refine tkz 7 ?_
 refine tkz 8 ?_
 refine tkz 9 ?_
 refine rdz 10 fun K hK=>?_
 go_simp
 refine(qFH hn hq p i hp hi HTL.o HNA.o C0.o C8.o W0.o.drew.at_).mono ?_;rintro e w1 ⟨rfl,h1,h2⟩;have W1:=qh (W0.o.drew.call h1 h2);clear h1 h2 W0
 refine qk ?_ (fun hHeld=>?_)
 ·exact⟨(W1.o.stay.held HGG.o HHD.o).hd4.1,(W1.o.stay.held HGG.o HHD.o).hd4.2.1,(W1.o.stay.held HGG.o HHD.o).hd4.2.2.1,(W1.o.stay.held HGG.o HHD.o).hd4.2.2.2⟩
 clear hK K
 refine dnz ?_
 obtain⟨x0,x1,x2,x3⟩:=(W1.o.stay.held HGG.o HHD.o).hd4
 go_wp2
 go_end0
 exact⟨rfl,W1.o.fin⟩

theorem qHo (hn:n<2^40)(p kk l c:Int)(ok:Bool)(hI:infoOf n K t q s p st=(kk,l,c,ok)){g:Nat}{U:Nat->Sl}(hG:G g)(hH:Held w g 83 (hdC b t q s U))(h:(vOb base b n wh K).At w0 A G st w) :
  Calls Tryz.prog 60 #[.pointer (some ⟨g,0,none⟩),.int .i64 p] w fun e w'=>e = .returned (.int .i64 c)/\(vOb base b n wh K).At w0 A G (getS n K st (pageI t q s p 0)) w'/\Stay G w w':=by
 have W0:=qh (WL.start h)
 have HGG:=qh hG
 have HHD:=qh hH
 obtain⟨v,hv⟩:∃ v,getV n K st (pageI t q s p 0)=v:=⟨_,rfl⟩
 have hv32:v<2^32:=by rw[<- hv];exact qHJ h _
 have HI:qH (infoG v=(kk,l,c,ok)):=qh (by rw[<- hv];exact hI)
 have HV:=qh hv
 clear h hI hv hG hH
 go_enter Tryz.func60,Tryz.ntmps60
 obtain⟨x0,x1,x2,x3⟩:=(W0.o.stay.held HGG.o HHD.o).hd4
 go_wp2_with fail
 refine wp_region_held_drew (S:=(fun w'=>w'.cell? ⟨g,0,none⟩=some (.pointer (some ⟨b,0,none⟩))/\w'.cell? ⟨g,1,none⟩=some (.int .i64 t)/\w'.cell? ⟨g,2,none⟩=some (.int .i64 q)/\w'.cell? ⟨g,3,none⟩=some (.int .i64 s))) qr ?_ (fun hHeld=>?_)
 ·exact Mdg
 have W1:=qh W0.o.drew
 clear W0 x0 x1 x2 x3
 generalize hwd:w.drew=w1 at *
 clear hwd
 refine tkz 0 ?_
 refine tkz 1 ?_
 refine tkz 2 ?_
 refine tkz 3 ?_
 refine tkz 4 ?_
 refine tkz 5 ?_
 refine tkz 6 ?_
 refine tkz 7 ?_
 refine tkz 8 ?_
 refine wpAnyH_ready (rs := [9,15]) qr (by simp) ?_
 refine AllReadyH.cons (o:=_) rfl (fun K hK=>?_) (AllReadyH.cons (o:=_) rfl (fun K hK=>?_) AllReadyH.nil)
 ·skip
  go_simp
  refine(qSM t q s p _).mono ?_;rintro e w2 ⟨rfl,hb⟩;have W2:=qh (W1.o.keep hb);clear hb W1
  refine qk ?_ (fun hHeld=>?_)
  ·exact Mmy
  clear hK K
  refine wpAnyH_ready (rs := [10,15]) qr (by simp) ?_
  refine AllReadyH.cons (o:=_) rfl (fun K hK=>?_) (AllReadyH.cons (o:=_) rfl (fun K hK=>?_) AllReadyH.nil)
  ·skip
   go_simp
   refine(vGetA hn _ W2.o.at_).mono ?_;rintro e w3 ⟨rfl,h1,h2⟩;have W3:=qh (W2.o.call h1 h2);clear h1 h2 W2;rw[HV.o]
   refine qk ?_ (fun hHeld=>?_)
   ·exact Mp3
   clear hK K
   refine wpAnyH_ready (rs := [11,15]) qr (by simp) ?_
   refine AllReadyH.cons (o:=_) rfl (fun K hK=>?_) (AllReadyH.cons (o:=_) rfl (fun K hK=>?_) AllReadyH.nil)
   ·skip
    go_simp
    refine(qMJ v kk l c ok hv32 HI.o _).mono ?_;rintro e w4 ⟨rfl,hb⟩;have W4:=qh (W3.o.keep hb);clear hb W3
    refine qk ?_ (fun hHeld=>?_)
    ·exact MRw
    clear hK K
    refine tkz 12 ?_
    refine tkz 13 ?_
    refine tkz 14 ?_
    refine rdz 15 fun K hK=>?_
    go_simp
    generalize hNI:w4.heap.size=NI at *
    have W5:=qh (W4.o.new 119 #[.int .i64 0,.int .i64 0,.int .i64 0])
    rw[hNI] at W5
    generalize hwn:w4.alloc (.cells #[.int .i64 0,.int .i64 0,.int .i64 0] 119)=w5 at *
    clear W4 hwn hNI
    refine qk ?_ (fun hHeld=>?_)
    ·exact Mtd
    clear hK K
    exact Mx7
   ·skip
    go_simp
    generalize hNI:w3.heap.size=NI at *
    have W4:=qh (W3.o.new 119 #[.int .i64 0,.int .i64 0,.int .i64 0])
    rw[hNI] at W4
    generalize hwn:w3.alloc (.cells #[.int .i64 0,.int .i64 0,.int .i64 0] 119)=w4 at *
    clear W3 hwn hNI
    exact M2z
  ·skip
   go_simp
   generalize hNI:w2.heap.size=NI at *
   have W3:=qh (W2.o.new 119 #[.int .i64 0,.int .i64 0,.int .i64 0])
   rw[hNI] at W3
   generalize hwn:w2.alloc (.cells #[.int .i64 0,.int .i64 0,.int .i64 0] 119)=w3 at *
   clear W2 hwn hNI
   exact M1P
 ·skip
  go_simp
  generalize hNI:w1.heap.size=NI at *
  have W2:=qh (W1.o.new 119 #[.int .i64 0,.int .i64 0,.int .i64 0])
  rw[hNI] at W2
  generalize hwn:w1.alloc (.cells #[.int .i64 0,.int .i64 0,.int .i64 0] 119)=w2 at *
  clear W1 hwn hNI
  refine qk ?_ (fun hHeld=>?_)
  ·exact Mmy
  clear hK K
  refine rdz 9 fun K hK=>?_
  go_simp
  refine(qSM t q s p _).mono ?_;rintro e w3 ⟨rfl,hb⟩;have W3:=qh (W2.o.keep hb);clear hb W2
  exact M1P

end
end
section
theorem qUL {w:World}{base:Nat}{u:Value}{l:List Int}(h:w.ownsRow base 2 1 u l.length (lgVs l))(hb:∀ z∈l,-9223372036854775808<=z/\z<=9223372036854775807):LongsAt w u l:=by
 have hx:∀ {A:Option Addr} {c:Nat},u = .slice A l.length c->A≠none->True:=fun _ _=>trivial
 rcases h.2 with ⟨hu,hn⟩|⟨g,cap,cur,hu,hbs,hg,hnc,hcm,hr⟩
 ·have hl:l = []:=List.length_eq_zero_iff.1 hn
  subst hl
  exact⟨none,0,hu,Nat.le_refl _,Nat.zero_le _,hb,fun _=>⟨rfl,rfl⟩,fun ad e=>by cases e⟩
 ·refine⟨some ⟨g,0,none⟩,cap,hu,hnc,hcm,hb,(fun e=>by cases e),fun ad e=>?_⟩
  injection e with e
  subst e
  refine⟨fun _=>(h.lt g (by rw[hu];rfl)).2,fun i z hz=>?_⟩
  have hi:i<l.length:=by
   exact MIf
  subst hu
  have h1:=h.cellAt i qo
  rw[show (⟨g,0,none⟩:Addr).add i=⟨g,i,none⟩ by unfold Addr.add;by_cases h0:i=0 <;> simp[h0]]
  rw[h1]
  unfold lgVs
  rw[List.getElem?_map,hz]
  rfl
theorem qXB {P:Program}{w:World}{ops:Array Oper}{rest:List Oper}{o:Oper}{a:Act}{Q:Exit->Act->World->Prop}(hgd:o.guard=none)(s x:Operand)(t:TypeId)
  (ho:o.op = .call { callee := .builtin .append,args:=#[s,x],argTypes:=#[t,t] })
  (base:Nat) (e:TypeId) (i:TypeInfo) (z:Value) (size bytes:Nat) (ht:P.underlying t=some (.slice e)) (hi:P.info? e=some i) (hz:i.zero=some z)
  (hsize:i.size=size) (hby:i.bytes=bytes) (hzs:z.cells.size=size) (hsz:0<size)
  (v:Value) (n:Nat) (xs:List Value) (hs:a.eval s=v) (hown:w.ownsRow base e size v n xs)
  (A:Option Addr) (m c:Nat) (news:List Value) (hx:a.eval x = .slice A m c) (hnone:A=none->m=0/\c=0) (hl:news.length=m*size) (hnews:∀ ad,A=some ad->∀ j u,news[j]?=some u->w.cell? (ad.add j)=some u) (h1:∀ u∈news,u.oneCell'=true)
  (h63:n+m<=maxLen) (hbytes:(n+m)*bytes<=140737488355328) (hbase:base<=w.heap.size)
  (h:∀ v' w',w'.ownsRow base e size v' (n+m) (xs++news)->w.grownBy w' v.ownBlock->wpList P ops Q rest (a.put o.dst v') w'):wpList P ops Q (o :: rest) a w:=by
 cases A with
 | some ad=>exact wpList_append_own _ hgd s x t ho base e i z size bytes ht hi hz hsize hby hzs hsz v n xs hs hown ad m c news hx hl (hnews ad rfl) h1 h63 hbytes hbase (fun v' w' g1 g2 _=>h v' w' g1 g2)
 | none =>
  obtain⟨rfl,rfl⟩:=hnone rfl
  obtain rfl:news = []:=List.length_eq_zero_iff.1 qo
  obtain⟨A1,c1,rfl⟩:=qKK hown
  have hcc:=qIZ hown
  refine qFT hgd s x t ho e i ht hi A1 n c1 0 hcc.1 hs hx (h _ _ (by rw[List.append_nil];exact hown) ⟨rfl,rfl,rfl,Nat.le_refl _,fun _ _ _=>rfl⟩)
end
section
def fullP (Z:Nat->List Int) (k:Int):Prop:=k<0\/8<k\/3<(Z k.toNat).length
theorem qLK (U:Nat->Sl)(Z:Nat->List Int)(k a:Int)(w:World)(h:PkV w U Z)(hn:fullP Z k) :
  Calls Tryz.prog 47 #[.agg (pkC U),.int .i64 k,.int .i64 a] w fun e w'=>e = .returned (.tuple #[.agg (pkC U),.bool false])/\Below w.heap.size w w':=by
 have HG:=qh ((Held.new w 36 (pkC U)).alloc (.cells #[.slice none 0 0,.slice none 0 0,.slice none 0 0,.slice none 0 0,.slice none 0 0,.slice none 0 0,.slice none 0 0,.slice none 0 0,.slice none 0 0] 36))
 have HR:qH (Held ((w.alloc (.cells (pkC U) 36)).alloc (.cells #[.slice none 0 0,.slice none 0 0,.slice none 0 0,.slice none 0 0,.slice none 0 0,.slice none 0 0,.slice none 0 0,.slice none 0 0,.slice none 0 0] 36)) (w.heap.size+1) 36 (pkC zeroU)):=qh (Held.new2 w (.cells (pkC U) 36) 36 #[.slice none 0 0,.slice none 0 0,.slice none 0 0,.slice none 0 0,.slice none 0 0,.slice none 0 0,.slice none 0 0,.slice none 0 0,.slice none 0 0])
 have HB:=qh (Bnew (Bnew (B0 w) (.cells (pkC U) 36)) (.cells #[.slice none 0 0,.slice none 0 0,.slice none 0 0,.slice none 0 0,.slice none 0 0,.slice none 0 0,.slice none 0 0,.slice none 0 0,.slice none 0 0] 36))
 obtain⟨x0,x1,x2,x3,x4,x5,x6,x7,x8⟩:=HG.o.nineP
 obtain⟨z0,z1,z2,z3,z4,z5,z6,z7,z8⟩:=HR.o.nineP
 obtain⟨f0,f1,f2,f3,f4,f5,f6,f7,f8⟩:=HR.o.thawP
 obtain⟨y0,y1,y2,y3,y4,y5,y6,y7,y8⟩:=(show Held ((w.alloc (.cells (pkC U) 36)).alloc (.cells (pkC U) 36)) (w.heap.size+1) 36 (pkC U) from Held.new2 w (.cells (pkC U) 36) 36 (pkC U)).nineP
 by_cases h0:k<0
 ·have t0:decide (k<0)=true:=decide_eq_true h0
  exact MF0
 ·by_cases h8:8<k
  ·have t0:decide (k<0)=false:=decide_eq_false h0
   have t1:decide (8<k)=true:=decide_eq_true h8
   exact MF0
  ·obtain⟨k,rfl⟩:=Int.eq_ofNat_of_zero_le (show 0<=k by omega)
   have hk:k<9:=qo
   have t0:decide ((k:Int)<0)=false:=decide_eq_false h0
   have t1:decide (8<(k:Int))=false:=decide_eq_false h8
   have t1n:decide (8<k)=false:=qf
   obtain⟨A,c,hu,hlc,hcm,_,hno,hcl⟩:=h k hk
   have hc:=HG.o.pk hk
   rw[hu] at hc
   obtain⟨n,hn1⟩:∃ n,(Z k).length=n:=⟨_,rfl⟩
   have h3:3<n:=by
    rcases hn with hn|hn|hn
    ·omega
    ·omega
    ·rw[Int.toNat_natCast,hn1] at hn;exact hn
   rw[hn1] at hc
   have t2:decide ((3:Int)<(n:Int))=true:=qt
   have t2n:decide (3<n)=true:=decide_eq_true h3
   clear hu hn hn1 hno hcl h0 h8
   exact MF0
theorem qQj {w w':World}{row:Option Nat}{g:Nat}{t:TypeId}{cs:Array Value}(h:Held w g t cs)(hg:w.grownBy w' row)(hr:row≠some g):Held w' g t cs:=(hg.block g h.lt (fun e=>hr e.symm)).trans h
theorem qVn (U:Nat->Sl)(Z:Nat->List Int)(k:Nat)(a:Int)(ha : -9223372036854775808<=a/\a<=9223372036854775807)(hk:k<9)(h3:(Z k).length<=3)(w:World)(h:PkV w U Z) :
    Calls Tryz.prog 47 #[.agg (pkC U),.int .i64 (k:Int),.int .i64 a] w fun e w'=>∃ x:Sl,e = .returned (.tuple #[.agg (pkC (updF U k x)),.bool true])/\(∀ ad,x.a=some ad->w.heap.size<=ad.block)/\PkV w' (updF U k x) (updF Z k (Z k ++ [a]))/\Below w.heap.size w w':=by
  have HG:=qh (((Held.new w 36 (pkC U)).alloc (.cells #[.slice none 0 0,.slice none 0 0,.slice none 0 0,.slice none 0 0,.slice none 0 0,.slice none 0 0,.slice none 0 0,.slice none 0 0,.slice none 0 0] 36)).alloc (.cells #[] 2))
  have HR:qH (Held (((w.alloc (.cells (pkC U) 36)).alloc (.cells #[.slice none 0 0,.slice none 0 0,.slice none 0 0,.slice none 0 0,.slice none 0 0,.slice none 0 0,.slice none 0 0,.slice none 0 0,.slice none 0 0] 36)).alloc (.cells #[] 2)) (w.heap.size+1) 36 (pkC zeroU)):=qh ((Held.new2 w (.cells (pkC U) 36) 36 #[.slice none 0 0,.slice none 0 0,.slice none 0 0,.slice none 0 0,.slice none 0 0,.slice none 0 0,.slice none 0 0,.slice none 0 0,.slice none 0 0]).alloc (.cells #[] 2))
  have HB:=qh (Bnew (Bnew (Bnew (B0 w) (.cells (pkC U) 36)) (.cells #[.slice none 0 0,.slice none 0 0,.slice none 0 0,.slice none 0 0,.slice none 0 0,.slice none 0 0,.slice none 0 0,.slice none 0 0,.slice none 0 0] 36)) (.cells #[] 2))
  have HO:qH ((((w.alloc (.cells (pkC U) 36)).alloc (.cells #[.slice none 0 0,.slice none 0 0,.slice none 0 0,.slice none 0 0,.slice none 0 0,.slice none 0 0,.slice none 0 0,.slice none 0 0,.slice none 0 0] 36)).alloc (.cells #[] 2)).ownsRow (w.heap.size+2) 2 1 (.slice (some ⟨w.heap.size+2,0,none⟩) 0 0) 0 []):=qh (by
    have:=World.ownsRow_lit (base:=w.heap.size+2) (e := 2) (size:=1) ((w.alloc (.cells (pkC U) 36)).alloc (.cells #[.slice none 0 0,.slice none 0 0,.slice none 0 0,.slice none 0 0,.slice none 0 0,.slice none 0 0,.slice none 0 0,.slice none 0 0,.slice none 0 0] 36)) #[] 0 (by simp) (by unfold maxLen;omega) rfl
    simpa using this)
  have HP:=qh h
  have HC1:qH (((w.alloc (.cells (pkC U) 36)).alloc (.cells #[.slice none 0 0,.slice none 0 0,.slice none 0 0,.slice none 0 0,.slice none 0 0,.slice none 0 0,.slice none 0 0,.slice none 0 0,.slice none 0 0] 36)).cell? ⟨w.heap.size,k,none⟩=some (U k).v):=qh (((Held.new w 36 (pkC U)).alloc (.cells #[.slice none 0 0,.slice none 0 0,.slice none 0 0,.slice none 0 0,.slice none 0 0,.slice none 0 0,.slice none 0 0,.slice none 0 0,.slice none 0 0] 36)).pk hk)
  have HCA:=qh (HG.o.pk hk)
  obtain⟨A,c,hu,hlc,hcm,hbd,hno,hcl⟩:=h k hk
  obtain⟨n,hn⟩:∃ n,(Z k).length=n:=⟨_,rfl⟩
  rw[hn] at hu hlc h3
  rw[hu] at HC1 HCA
  have HN:=qh hn
  have HNO:qH (A=none->n=0/\c=0):=qh (fun e=>⟨by rw[<- hn,(hno e).1];rfl,(hno e).2⟩)
  have HCL:=qh hcl
  have HBD:=qh hbd
  obtain⟨i0,hi0,hz0,hz1,hz2⟩:=info_parts longInfo
  have t0:decide ((k:Int)<0)=false:=qf
  have t1:decide (8<(k:Int))=false:=qf
  have t1n:decide (8<k)=false:=qf
  have t2:decide ((3:Int)<(n:Int))=false:=qf
  have t2n:decide (3<n)=false:=qf
  have hc1:=HC1.o
  have hca:=HCA.o
  clear h hu hn hbd hcl hno HC1 HCA
  go_enter Tryz.func47,Tryz.ntmps47
  go_wp2_with (first
    | (at_builtin
       refine qXB rfl _ _ 34 rfl (w.heap.size+2) 2 i0 (.int .i64 0) 1 8 Tryz.underlying34 hi0 hz0 hz1 hz2 rfl (by decide) _ _ _ rfl HO.o A n c (lgVs (Z k)) rfl HNO.o ?c0 ?c1 ?c2 ?c3 ?c4 ?c5 ?_
       case c0=>rw[qM7,HN.o];omega
       case c1=>intro ad hA j y hy;obtain⟨z,hz,rfl⟩:=qSW hy;exact(HB.o.cell (p:=ad.add j) (by rw[qXL];exact(HCL.o ad hA).1 (fun e=>by rw[e] at hz;simp at hz))).trans ((HCL.o ad hA).2 j z hz)
       case c2=>intro y hy;obtain⟨j,hj⟩:=List.mem_iff_getElem?.1 hy;obtain⟨z,_,rfl⟩:=qSW hj;simp[Value.oneCell']
       case c3=>unfold maxLen;omega
       case c4=>omega
       case c5=>simp
       intro u6 w6 hown6 hgrow
       obtain⟨A6,c6,hu6⟩:=qKK hown6
       subst hu6
       have hcc6:=qIZ hown6
       have HO6:qH (w6.ownsRow (w.heap.size+2) 2 1 (.slice A6 n c6) n (lgVs (Z k))):=qh (by rw[Nat.zero_add] at hown6;exact hown6)
       have hnb:∀ j,(Value.slice (some ⟨w.heap.size+2,0,none⟩) 0 0).ownBlock=some j->w.heap.size+2<=j:=fun j hj=>(HO.o.lt j hj).1
       have HB6:=qh (HB.o.grown hgrow HB.o.size (fun j hj=>by have:=hnb j hj;omega))
       have HS6:qH (w.heap.size+2<=w6.heap.size):=qh (by have h1:=hgrow.size;simp at h1;omega)
       have HG6:=qh (qQj HG.o hgrow (fun e=>by have:=hnb _ e;omega))
       have HR6:=qh (qQj HR.o hgrow (fun e=>by have:=hnb _ e;omega))
       clear hown6 hgrow hnb HO HB HG HR HCL hc1 hca)
    | (at_builtin
       refine wpList_append_own _ rfl _ _ 34 rfl (w.heap.size+2) 2 i0 (.int .i64 0) 1 8 Tryz.underlying34 hi0 hz0 hz1 hz2 rfl (by decide) _ _ _ rfl (HO6.o.alloc _) ⟨_,0,none⟩ 1 1 [.int .i64 a] rfl rfl ?c1 ?c2 ?c3 ?c4 ?c5 ?_
       case c1=>intro j y hy;rcases j with _|j;(· simp at hy;subst hy;simp[Addr.add]);(· simp at hy)
       case c2=>simp[Value.oneCell']
       case c3=>unfold maxLen;omega
       case c4=>omega
       case c5=>have:=HS6.o;simp;omega
       intro u7 w7 hown7 hgrow hat7
       obtain⟨A7,c7,hu7⟩:=qKK hown7
       subst hu7
       have hnb:∀ j,(Value.slice A6 n c6).ownBlock=some j->w.heap.size+2<=j:=fun j hj=>(HO6.o.lt j hj).1
       have HO7:qH (w7.ownsRow (w.heap.size+2) 2 1 (.slice A7 (n+1) c7) (n+1) (lgVs (Z k ++ [a]))):=qh (by unfold lgVs at hown7 ⊢;rw[List.map_append];exact hown7)
       have HB7:=qh ((Bnew HB6.o (.cells #[.int .i64 a] 2)).grown hgrow (by have:=HB6.o.size;simp;omega) (fun j hj=>by have:=hnb j hj;omega))
       have HG7:=qh (qQj (HG6.o.alloc (.cells #[.int .i64 a] 2)) hgrow (fun e=>by have:=hnb _ e;omega))
       have HR7:=qh (qQj (HR6.o.alloc (.cells #[.int .i64 a] 2)) hgrow (fun e=>by have:=hnb _ e;omega))
       have HF7:qH (∀ ad,A7=some ad->w.heap.size<=ad.block):=qh (fun ad e=>by
         subst e
         have:=(HO7.o.lt ad.block (by unfold Value.ownBlock;rfl)).1
         omega)
       clear hown7 hgrow hat7 hnb HO6 HB6 HG6 HR6
       have c0:=HG7.o.pk hk
       have g0:=HG7.o.thawed k
       obtain⟨U2,hU2⟩:∃ U2,updF U k ⟨A7,n+1,c7⟩=U2:=⟨_,rfl⟩
       have HU2:=qh hU2
       have HG8:qH (Held (w7.setCell ⟨w.heap.size,k,none⟩ (.slice A7 (n+1) c7)) w.heap.size 36 (pkC U2)):=qh (by rw[<- hU2];exact HG7.o.putP hk ⟨A7,n+1,c7⟩)
       have HR8:qH (Held (w7.setCell ⟨w.heap.size,k,none⟩ (.slice A7 (n+1) c7)) (w.heap.size+1) 36 (pkC zeroU)):=qh (HR7.o.far (p:=⟨w.heap.size,k,none⟩) (by show w.heap.size+1≠w.heap.size;omega) _)
       clear hU2
       obtain⟨x0,x1,x2,x3,x4,x5,x6,x7,x8⟩:=HG8.o.nineP
       obtain⟨z0,z1,z2,z3,z4,z5,z6,z7,z8⟩:=HR8.o.nineP
       obtain⟨f0,f1,f2,f3,f4,f5,f6,f7,f8⟩:=HR8.o.thawP)
    | fail)
  obtain⟨WF,hWF⟩:∃ WF,setP (w7.setCell ⟨w.heap.size,k,none⟩ (.slice A7 (n+1) c7)) (w.heap.size+1) U2=WF:=⟨_,rfl⟩
  have zz:=Held.setP HR8.o U2
  have hBF:=qMg (g:=w.heap.size+1) (Bput HB7.o (p:=⟨w.heap.size,k,none⟩) (Nat.le_refl _) (.slice A7 (n+1) c7)) qo U2
  have hOF:(setP (w7.setCell ⟨w.heap.size,k,none⟩ (.slice A7 (n+1) c7)) (w.heap.size+1) U2).ownsRow (w.heap.size+2) 2 1 (.slice A7 (n+1) c7) (n+1) (lgVs (Z k ++ [a])):=qWQ HO7.o (fun j hj=>by
    have:=(HO7.o.lt j hj).1
    rw[qDL qo,Below.heap_setCell _ _ _ _ (by show j≠w.heap.size;omega)])
  rw[hWF] at zz hBF hOF
  unfold setP at hWF
  rw[hWF]
  obtain⟨y0,y1,y2,y3,y4,y5,y6,y7,y8⟩:=zz.nineP
  clear x0 x1 x2 x3 x4 x5 x6 x7 x8 z0 z1 z2 z3 z4 z5 z6 z7 z8 f0 f1 f2 f3 f4 f5 f6 f7 f8
  refine bodyPost_ret (v := .tuple #[.agg (pkC U2),.bool true]) (by simp[results,Tryz.results47,go_sem,y0,y1,y2,y3,y4,y5,y6,y7,y8]) rfl ⟨⟨A7,n+1,c7⟩,by rw[HU2.o],HF7.o,fun j hj=>?_,hBF⟩
  by_cases e:j=k
  · subst e
    rw[qJN,qJN]
    have hl:(Z j ++ [a]).length=n+1:=by rw[List.length_append,HN.o];rfl
    refine qUL (base:=w.heap.size+2) (by rw[hl];exact hOF) (fun z hz=>?_)
    rcases List.mem_append.1 hz with hz|hz
    · exact HBD.o z hz
    · rw[List.mem_singleton] at hz;subst hz;exact ha
  ·exact M53
end
section
theorem qMG {k:Int}(h:0<=k/\k<=8):0<slotI k:=by
 obtain⟨k,rfl⟩:=Int.eq_ofNat_of_zero_le h.1
 rw[qPN]
 have hk:k<9:=qo
 match k,hk with
 | 0,_|1,_|2,_|3,_|4,_|5,_|6,_|7,_|8,_=>decide
theorem qDJ (k:Int)(h0 : -9223372036854775808<=k)(h1:k<=9223372036854775807)(b:Bool)(hb:b=true↔0<=k/\k<=8)(w:World)(hT:SlotsLaid w) :
  Calls Tryz.prog 129 #[.int .i64 k] w fun e w'=>e = .returned (.bool b)/\w=w':=by
 have HT:=qh hT
 obtain⟨n,hn⟩:∃ n,slotI k=n:=⟨_,rfl⟩
 have hB:b=decide (0<(n:Int)):=by
  rw[<- hn,Bool.eq_iff_iff,hb,decide_eq_true_eq]
  constructor
  ·intro h;have:=qMG h;omega
  ·intro h
   by_cases a:0<=k/\k<=8
   ·exact a
   ·rw[qXI qo] at h;omega
 subst hB
 clear hT hb
 have HN:=qh hn
 clear hn
 go_enter Tryz.func129,Tryz.ntmps129
 go_wp2_with fail
 refine(qCz k h0 h1 _ HT.o).mono ?_
 rintro e w1 ⟨rfl,rfl⟩
 rw[HN.o]
 go_wp2
 go_ret
 exact⟨by simp,rfl⟩
theorem qH1 (A:Option Addr)(n c:Nat)(hnc:n<=c)(hcm:c<=maxLen)(hno:A=none->n=0/\c=0)(w:World) :
  Calls Tryz.prog 136 #[.slice A n c] w fun e w'=>e = .returned (.slice A n n)/\w=w':=by
 have hc2:c<=9223372036854775807:=by unfold maxLen at hcm;omega
 go_enter Tryz.func136,Tryz.ntmps136
 cases A with
 | none =>
  obtain⟨rfl,rfl⟩:=hno rfl
  go_wp2
  go_ret
  exact⟨rfl,rfl⟩
 | some ad =>
  go_wp2
  go_ret
  exact⟨rfl,rfl⟩

theorem qVc (U:Nat->Sl)(Z:Nat->List Int)(k:Int)(h0 : -9223372036854775808<=k)(h1:k<=9223372036854775807)(w:World)(hT:SlotsLaid w)(h:PkV w U Z) :
  Calls Tryz.prog 94 #[.agg (pkC U),.int .i64 k] w fun e w'=>e = .returned (lastV (lastP Z k))/\Below w.heap.size w w':=by
 have HG:=qh (Held.new w 36 (pkC U))
 have HB:=qh (Bnew (B0 w) (.cells (pkC U) 36))
 have HP:=qh h
 have HT:=qh hT
 clear h hT
 by_cases hk:0<=k/\k<=8
 ·obtain⟨k,rfl⟩:=Int.eq_ofNat_of_zero_le hk.1
  have hk9:k<9:=qo
  rw[qUw hk9]
  obtain⟨A,c,hu,hlc,hcm,_,hno,hcl⟩:=HP.o k hk9
  have hc:=HG.o.pk hk9
  rw[hu] at hc
  clear hu
  rcases List.eq_nil_or_concat (Z k) with hz|⟨ys,a,hz⟩
  ·rw[hz] at hc hlc ⊢
   have t2:((([]:List Int).length:Int)==0)=true:=rfl
   go_enter Tryz.func94,Tryz.ntmps94
   go_wp2_with fail
   refine(qDJ (k:Int) qo qo true (by simp;try omega) _ (HT.o.below HB.o)).mono ?_
   rintro e w1 ⟨rfl,rfl⟩
   go_wp2
   go_ret2
   exact⟨rfl,HB.o⟩
  ·rw[hz] at hc hlc hcl hno ⊢
   obtain⟨n,hn⟩:∃ n,ys.length=n:=⟨_,rfl⟩
   have hl:(ys.concat a).length=n+1:=by rw[List.length_concat,hn]
   have hg:(ys.concat a).getLast?=some a:=by rw[List.concat_eq_append];simp
   have hx:(ys.concat a)[n]?=some a:=by rw[List.concat_eq_append,<- hn];simp
   rw[hl] at hc hlc
   rw[hg]
   cases A with
   | none=>exact absurd (hno rfl).1 (by rw[List.concat_eq_append];simp)
   | some ad =>
    have hb:=(hcl ad rfl).1 (by rw[List.concat_eq_append];simp)
    have hc2:=((hcl ad rfl).2 n a hx)
    have hc3:(w.alloc (.cells (pkC U) 36)).cell? (ad.add n)=some (.int .i64 a):=((Bnew (B0 w) (.cells (pkC U) 36)).cell (p:=ad.add n) (by rw[qXL];exact hb)).trans hc2
    have t2:(((n+1:Nat):Int)==0)=false:=by rw[beq_eq_false_iff_ne];omega
    have t3:((n+1:Nat):Int)-1=(n:Int):=qo
    have hn9:n+1<=9223372036854775807:=by unfold maxLen at hcm;omega
    clear hcl hno hz hl hg hx hn hc2
    go_enter Tryz.func94,Tryz.ntmps94
    go_wp2_with fail
    refine(qDJ (k:Int) qo qo true (by simp;try omega) _ (HT.o.below HB.o)).mono ?_
    rintro e w1 ⟨rfl,rfl⟩
    go_wp2_with fail
    go_region
    go_wp2
    go_ret2
    exact⟨rfl,Bgo HB.o (Bdrew (B0 _))⟩
 ·rw[qYq qo]
  go_enter Tryz.func94,Tryz.ntmps94
  go_wp2_with fail
  refine(qDJ k qo qo false (by simp;try omega) _ (HT.o.below HB.o)).mono ?_
  rintro e w1 ⟨rfl,rfl⟩
  go_wp2
  go_ret2
  exact⟨rfl,HB.o⟩

theorem qW6 (U:Nat->Sl)(Z:Nat->List Int)(k a:Int)(h0 : -9223372036854775808<=k)(h1:k<=9223372036854775807)(w:World)(hT:SlotsLaid w)(h:PkV w U Z)(hn:fullP Z k) :
  Calls Tryz.prog 103 #[.agg (pkC U),.int .i64 k,.int .i64 a] w fun e w'=>e = .returned (.tuple #[.agg (pkC U),.bool false])/\Below w.heap.size w w':=by
 have HG:=qh ((Held.new w 36 (pkC U)).alloc (.cells #[.slice none 0 0,.slice none 0 0,.slice none 0 0,.slice none 0 0,.slice none 0 0,.slice none 0 0,.slice none 0 0,.slice none 0 0,.slice none 0 0] 36))
 have HR:qH (Held ((w.alloc (.cells (pkC U) 36)).alloc (.cells #[.slice none 0 0,.slice none 0 0,.slice none 0 0,.slice none 0 0,.slice none 0 0,.slice none 0 0,.slice none 0 0,.slice none 0 0,.slice none 0 0] 36)) (w.heap.size+1) 36 (pkC zeroU)):=qh (Held.new2 w (.cells (pkC U) 36) 36 #[.slice none 0 0,.slice none 0 0,.slice none 0 0,.slice none 0 0,.slice none 0 0,.slice none 0 0,.slice none 0 0,.slice none 0 0,.slice none 0 0])
 have HB:=qh (Bnew (Bnew (B0 w) (.cells (pkC U) 36)) (.cells #[.slice none 0 0,.slice none 0 0,.slice none 0 0,.slice none 0 0,.slice none 0 0,.slice none 0 0,.slice none 0 0,.slice none 0 0,.slice none 0 0] 36))
 have HT:=qh hT
 obtain⟨x0,x1,x2,x3,x4,x5,x6,x7,x8⟩:=HG.o.nineP
 obtain⟨z0,z1,z2,z3,z4,z5,z6,z7,z8⟩:=HR.o.nineP
 obtain⟨f0,f1,f2,f3,f4,f5,f6,f7,f8⟩:=HR.o.thawP
 obtain⟨y0,y1,y2,y3,y4,y5,y6,y7,y8⟩:=(show Held ((w.alloc (.cells (pkC U) 36)).alloc (.cells (pkC U) 36)) (w.heap.size+1) 36 (pkC U) from Held.new2 w (.cells (pkC U) 36) 36 (pkC U)).nineP
 clear hT
 by_cases hk:0<=k/\k<=8
 ·obtain⟨k,rfl⟩:=Int.eq_ofNat_of_zero_le hk.1
  have hk9:k<9:=qo
  obtain⟨A,c,hu,hlc,hcm,_,hno,hcl⟩:=h k hk9
  have hc:=HG.o.pk hk9
  rw[hu] at hc
  obtain⟨n,hn1⟩:∃ n,(Z k).length=n:=⟨_,rfl⟩
  have h3:3<n:=by
   rcases hn with hn|hn|hn
   ·omega
   ·omega
   ·rw[Int.toNat_natCast,hn1] at hn;exact hn
  rw[hn1] at hc
  have t2:decide ((4:Int)<=(n:Int))=true:=qt
  have t2n:decide (4<=n)=true:=decide_eq_true h3
  clear hu hn hn1 hno hcl
  go_enter Tryz.func103,Tryz.ntmps103
  go_wp2_with fail
  refine(qDJ (k:Int) qo qo true (by simp;try omega) _ (HT.o.below HB.o)).mono ?_
  exact M51
 ·go_enter Tryz.func103,Tryz.ntmps103
  go_wp2_with fail
  refine(qDJ k qo qo false (by simp;try omega) _ (HT.o.below HB.o)).mono ?_
  exact M51
theorem qD8 (U:Nat->Sl)(Z:Nat->List Int)(k:Nat)(a:Int)(ha : -9223372036854775808<=a/\a<=9223372036854775807)(hk:k<9)(h3:(Z k).length<=3)(w:World)(hT:SlotsLaid w)(h:PkV w U Z) :
    Calls Tryz.prog 103 #[.agg (pkC U),.int .i64 (k:Int),.int .i64 a] w fun e w'=>∃ x:Sl,e = .returned (.tuple #[.agg (pkC (updF U k x)),.bool true])/\(∀ ad,x.a=some ad->w.heap.size<=ad.block)/\PkV w' (updF U k x) (updF Z k (Z k ++ [a]))/\Below w.heap.size w w':=by
  have HG:=qh ((Held.new w 36 (pkC U)).alloc (.cells #[.slice none 0 0,.slice none 0 0,.slice none 0 0,.slice none 0 0,.slice none 0 0,.slice none 0 0,.slice none 0 0,.slice none 0 0,.slice none 0 0] 36))
  have HR:qH (Held ((w.alloc (.cells (pkC U) 36)).alloc (.cells #[.slice none 0 0,.slice none 0 0,.slice none 0 0,.slice none 0 0,.slice none 0 0,.slice none 0 0,.slice none 0 0,.slice none 0 0,.slice none 0 0] 36)) (w.heap.size+1) 36 (pkC zeroU)):=qh (Held.new2 w (.cells (pkC U) 36) 36 #[.slice none 0 0,.slice none 0 0,.slice none 0 0,.slice none 0 0,.slice none 0 0,.slice none 0 0,.slice none 0 0,.slice none 0 0,.slice none 0 0])
  have HB:=qh (Bnew (Bnew (B0 w) (.cells (pkC U) 36)) (.cells #[.slice none 0 0,.slice none 0 0,.slice none 0 0,.slice none 0 0,.slice none 0 0,.slice none 0 0,.slice none 0 0,.slice none 0 0,.slice none 0 0] 36))
  have HP:=qh h
  have HT:=qh hT
  have hc1:=HG.o.pk hk
  obtain⟨A,c,hu,hlc,hcm,hbd,hno,hcl⟩:=h k hk
  obtain⟨n,hn⟩:∃ n,(Z k).length=n:=⟨_,rfl⟩
  rw[hn] at hu hlc h3
  rw[hu] at hc1
  have HN:=qh hn
  have HNO:qH (A=none->n=0/\c=0):=qh (fun e=>⟨by rw[<- hn,(hno e).1];rfl,(hno e).2⟩)
  have HCL:=qh hcl
  have HBD:=qh hbd
  obtain⟨i0,hi0,hz0,hz1,hz2⟩:=info_parts longInfo
  have t2:decide ((4:Int)<=(n:Int))=false:=qf
  have t2n:decide (4<=n)=false:=qf
  clear h hT hu hn hbd hcl hno
  go_enter Tryz.func103,Tryz.ntmps103
  go_wp2_with fail
  refine(qDJ (k:Int) qo qo true (by simp;try omega) _ (HT.o.below HB.o)).mono ?_
  rintro e w1 ⟨rfl,rfl⟩
  go_wp2_with fail
  refine(qH1 A n c hlc hcm HNO.o _).mono ?_
  rintro e w1 ⟨rfl,rfl⟩
  go_wp2_with (first
    | (at_builtin
       refine wpList_append_grows _ rfl _ _ 34 rfl 2 i0 (.int .i64 0) 1 8 Tryz.underlying34 hi0 hz0 hz1 hz2 rfl (by decide) A n n (lgVs (Z k)) rfl ?d0 ?d1 ?d2 ⟨_,0,none⟩ 1 1 [.int .i64 a] rfl rfl ?c1 ?c2 ?c3 ?c4 ?c5 ?_
       case d0=>intro e;exact⟨(HNO.o e).1,(HNO.o e).1⟩
       case d1=>rw[qM7,HN.o];omega
       case d2=>intro ad hA j y hy;obtain⟨z,hz,rfl⟩:=qSW hy;exact((Bnew HB.o (.cells #[.int .i64 a] 2)).cell (p:=ad.add j) (by rw[qXL];exact(HCL.o ad hA).1 (fun e=>by rw[e] at hz;simp at hz))).trans ((HCL.o ad hA).2 j z hz)
       case c1=>intro j y hy;rcases j with _|j;(· simp at hy;subst hy;have h9:=(Held.new ((w.alloc (.cells (pkC U) 36)).alloc (.cells #[.slice none 0 0,.slice none 0 0,.slice none 0 0,.slice none 0 0,.slice none 0 0,.slice none 0 0,.slice none 0 0,.slice none 0 0,.slice none 0 0] 36)) 2 #[.int .i64 a]).cell 0;simpa [Addr.add] using h9);(· simp at hy)
       case c2=>simp[Value.oneCell']
       case c3=>omega
       case c4=>unfold maxLen;omega
       case c5=>omega
       intro u7 w7 hown7 hgrow
       have HO7:qH (w7.ownsRow (w.heap.size+3) 2 1 u7 (n+1) (lgVs (Z k ++ [a]))):=qh (by
         have:((w.alloc (.cells (pkC U) 36)).alloc (.cells #[.slice none 0 0,.slice none 0 0,.slice none 0 0,.slice none 0 0,.slice none 0 0,.slice none 0 0,.slice none 0 0,.slice none 0 0,.slice none 0 0] 36)).heap.size+1=w.heap.size+3:=by simp
         unfold lgVs at hown7 ⊢
         rw[List.map_append]
         simpa using hown7)
       obtain⟨A7,c7,hu7⟩:=qKK HO7.o
       subst hu7
       have HF7:qH (∀ ad,A7=some ad->w.heap.size<=ad.block):=qh (fun ad e=>by
         subst e
         have:=(HO7.o.lt ad.block (by unfold Value.ownBlock;rfl)).1
         omega)
       have HB7:=qh ((Bnew HB.o (.cells #[.int .i64 a] 2)).grown hgrow (by have:=HB.o.size;simp;omega) (fun j hj=>by cases hj))
       have HG7:=qh (qQj (HG.o.alloc (.cells #[.int .i64 a] 2)) hgrow (fun e=>by cases e))
       have HR7:=qh (qQj (HR.o.alloc (.cells #[.int .i64 a] 2)) hgrow (fun e=>by cases e))
       clear hown7 hgrow HB HG HR HCL hc1
       have c0:=HG7.o.pk hk
       have g0:=HG7.o.thawed k
       obtain⟨U2,hU2⟩:∃ U2,updF U k ⟨A7,n+1,c7⟩=U2:=⟨_,rfl⟩
       have HU2:=qh hU2
       have HG8:qH (Held (w7.setCell ⟨w.heap.size,k,none⟩ (.slice A7 (n+1) c7)) w.heap.size 36 (pkC U2)):=qh (by rw[<- hU2];exact HG7.o.putP hk ⟨A7,n+1,c7⟩)
       have HR8:qH (Held (w7.setCell ⟨w.heap.size,k,none⟩ (.slice A7 (n+1) c7)) (w.heap.size+1) 36 (pkC zeroU)):=qh (HR7.o.far (p:=⟨w.heap.size,k,none⟩) (by show w.heap.size+1≠w.heap.size;omega) _)
       clear hU2
       obtain⟨x0,x1,x2,x3,x4,x5,x6,x7,x8⟩:=HG8.o.nineP
       obtain⟨z0,z1,z2,z3,z4,z5,z6,z7,z8⟩:=HR8.o.nineP
       obtain⟨f0,f1,f2,f3,f4,f5,f6,f7,f8⟩:=HR8.o.thawP)
    | fail)
  obtain⟨WF,hWF⟩:∃ WF,setP (w7.setCell ⟨w.heap.size,k,none⟩ (.slice A7 (n+1) c7)) (w.heap.size+1) U2=WF:=⟨_,rfl⟩
  have zz:=Held.setP HR8.o U2
  have hBF:=qMg (g:=w.heap.size+1) (Bput HB7.o (p:=⟨w.heap.size,k,none⟩) (Nat.le_refl _) (.slice A7 (n+1) c7)) qo U2
  have hOF:(setP (w7.setCell ⟨w.heap.size,k,none⟩ (.slice A7 (n+1) c7)) (w.heap.size+1) U2).ownsRow (w.heap.size+3) 2 1 (.slice A7 (n+1) c7) (n+1) (lgVs (Z k ++ [a])):=qWQ HO7.o (fun j hj=>by
    have:=(HO7.o.lt j hj).1
    rw[qDL qo,Below.heap_setCell _ _ _ _ (by show j≠w.heap.size;omega)])
  rw[hWF] at zz hBF hOF
  unfold setP at hWF
  rw[hWF]
  obtain⟨y0,y1,y2,y3,y4,y5,y6,y7,y8⟩:=zz.nineP
  clear x0 x1 x2 x3 x4 x5 x6 x7 x8 z0 z1 z2 z3 z4 z5 z6 z7 z8 f0 f1 f2 f3 f4 f5 f6 f7 f8
  refine bodyPost_ret (v := .tuple #[.agg (pkC U2),.bool true]) (by simp[results,Tryz.results103,go_sem,y0,y1,y2,y3,y4,y5,y6,y7,y8]) rfl ⟨⟨A7,n+1,c7⟩,by rw[HU2.o],HF7.o,fun j hj=>?_,hBF⟩
  by_cases e:j=k
  · subst e
    rw[qJN,qJN]
    have hl:(Z j ++ [a]).length=n+1:=by rw[List.length_append,HN.o];rfl
    refine qUL (base:=w.heap.size+3) (by rw[hl];exact hOF) (fun z hz=>?_)
    rcases List.mem_append.1 hz with hz|hz
    · exact HBD.o z hz
    · rw[List.mem_singleton] at hz;subst hz;exact ha
  ·exact M53
end
section
def onPg (t q s:Int) (p:Int) (a:Int):Bool:=spotB t q s a&&decide (spotP t q s a=p)
end
end Go.Proofs.YtjjfcaliippgpaaGreatDoor
