/-
  What bin.Find does. Written by bin/gen_find.py.
-/
import Derived.Test.YtgifnhcknodekaaGreatC04
import Derived.WalkMore
import Derived.Test.YtgifnhcknodekaaGreatC03
import Derived.RegionTactic
namespace Go.Proofs.YtgifnhcknodekaaGreat
theorem RYy {P Q:Prop}(kq:Q)(h:HQ Q->P:=by
 intro kq
 refine tkz 8 ?_
 refine tkz 9 ?_
 refine tkz 10 ?_
 exact kq.o):P:=h ⟨kq⟩
theorem MGE {P:Prop}(h:P:=by
 refine qk ?_ (fun hHeld=>?_)
 ·exact W5.o.h2.four
 clear hK K
 refine RYy ?_
 exact MLz):P:=h
theorem MLz {P:Prop}(h:P:=by
 refine rdz 12 fun K hK=>?_
 obtain⟨z0,z1,z2⟩:=W5.o.h0.three
 have f0:=W5.o.h0.thawed 0
 have f1:=W5.o.h0.thawed 1
 have f2:=W5.o.h0.thawed 2
 go_simp
 have W6:=qh (((W5.o.put 0 (.int .i64 k)).put 1 (.int .i64 l)).put 2 (.int .i64 c))
 clear W5 z0 z1 z2 f0 f1 f2
 refine qk ?_ (fun hHeld=>?_)
 ·exact W6.o.h2.four
 clear hK K
 refine tkz 13 ?_
 refine dnz ?_
 have W7:=qh (((W6.o.swap.put 0 (.int .i64 k)).put 1 (.int .i64 l)).put 2 (.int .i64 c))
 obtain⟨z0,z1,z2⟩:=W6.o.h0.three
 obtain⟨y0,y1,y2⟩:=W6.o.h1.three
 have f0:=W6.o.h1.thawed 0
 have f1:=W6.o.h1.thawed 1
 have f2:=W6.o.h1.thawed 2
 obtain⟨r0,r1,r2⟩:=W7.o.h0.three
 go_wp2
 refine bodyPost_ret (v := .agg #[.int .i64 k,.int .i64 l,.int .i64 c]) (by simp[results,Tryz.results87,go_sem,r0,r1,r2]) rfl ⟨rfl,?_⟩
 exact W7.o.fin):P:=h
theorem Mr4 {P:Prop}(h:P:=by first|exact⟨W3.o.drew.h1.four.1,W3.o.drew.h1.four.2.1,W3.o.drew.h1.four.2.2.1,W3.o.drew.h1.four.2.2.2,W3.o.drew.h0.two.1,W3.o.drew.h0.two.2⟩|exact⟨W3.o.h1.four.1,W3.o.h1.four.2.1,W3.o.h1.four.2.2.1,W3.o.h1.four.2.2.2,W3.o.h0.two.1,W3.o.h0.two.2⟩|exact⟨W4.o.h1.four.1,W4.o.h1.four.2.1,W4.o.h1.four.2.2.1,W4.o.h1.four.2.2.2,W4.o.h0.two.1,W4.o.h0.two.2⟩|exact⟨W5.o.h1.four.1,W5.o.h1.four.2.1,W5.o.h1.four.2.2.1,W5.o.h1.four.2.2.2,W5.o.h0.two.1,W5.o.h0.two.2⟩|exact⟨W6.o.h1.four.1,W6.o.h1.four.2.1,W6.o.h1.four.2.2.1,W6.o.h1.four.2.2.2,W6.o.h0.two.1,W6.o.h0.two.2⟩|exact hHeld):P:=h
theorem MWE {P:Prop}(h:P:=by first|exact⟨W1.o.drew.h1.four.1,W1.o.drew.h1.four.2.1,W1.o.drew.h1.four.2.2.1,W1.o.drew.h1.four.2.2.2,W1.o.drew.h0.two.1,W1.o.drew.h0.two.2⟩|exact⟨W1.o.h1.four.1,W1.o.h1.four.2.1,W1.o.h1.four.2.2.1,W1.o.h1.four.2.2.2,W1.o.h0.two.1,W1.o.h0.two.2⟩|exact⟨W2.o.h1.four.1,W2.o.h1.four.2.1,W2.o.h1.four.2.2.1,W2.o.h1.four.2.2.2,W2.o.h0.two.1,W2.o.h0.two.2⟩|exact⟨W3.o.h1.four.1,W3.o.h1.four.2.1,W3.o.h1.four.2.2.1,W3.o.h1.four.2.2.2,W3.o.h0.two.1,W3.o.h0.two.2⟩|exact hHeld):P:=h
theorem MyC {P:Prop}(h:P:=by
 clear x0 x1 x2
 go_wp2_with fail
 go_roundw
 case rel=>exact⟨k+1,_,rfl,rfl,qo,qo,by go_num,HNX,W4⟩
 case measure=>simp[intOf];omega):P:=h
theorem Muf {P:Prop}(h:P:=by first|exact W0.o.drew.h0.four|exact W0.o.h0.four|exact W1.o.h0.four|exact W2.o.h0.four|exact hHeld):P:=h
theorem MAQ {P:Prop}(h:P:=by first|exact W1.o.drew.h0.four|exact W1.o.h0.four|exact W2.o.h0.four|exact W3.o.h0.four|exact hHeld):P:=h
theorem MRw {P:Prop}(h:P:=by first|exact W3.o.drew.h0.four|exact W3.o.h0.four|exact W4.o.h0.four|exact W5.o.h0.four|exact hHeld):P:=h
end Go.Proofs.YtgifnhcknodekaaGreat
set_option linter.unusedVariables false
set_option linter.unusedSimpArgs false
set_option maxRecDepth 100000
set_option maxHeartbeats 25600000
namespace Go.Proofs.YtgifnhcknodekaaGreat
open Go.ChangeShapes Go.WideShapes Go.ChangeAt Go.RowKit Go.Maps
section
section
variable {base b n : Nat} {wh all : Bool} {K : Nat -> Option Nat} {st : Vst} {w w0 : World} {A G : Nat -> Prop} {t q s : Int}
theorem qEH (nn:Int)(h1:nn<1)(h:(vOb base b n wh K).At w0 A G st w) :
  Calls Tryz.prog 68 #[.pointer (some ⟨b,0,none⟩),.agg #[.int .i64 t,.int .i64 q,.int .i64 s],.int .i64 nn] w fun e w'=>e = .returned (.tuple #[.int .i64 (foundI (((none:Option Nat),st)).1),.bool (((none:Option Nat),st)).1.isSome])/\(vOb base b n wh K).At w0 A G (((none:Option Nat),st)).2 w'/\Stay G w w':=by
 have W0:=qh ((WL.start h).new 23 #[.int .i64 t,.int .i64 q,.int .i64 s])
 obtain⟨x0,x1,x2⟩:=W0.o.h0.three
 have t0:decide (nn<(1:Int))=true:=decide_eq_true h1
 clear h
 go_enter Tryz.func68,Tryz.ntmps68
 go_wp2
 go_step3
 go_wp2
 (try rw[Exit.noGoto_ret]);(try change bodyPost _ _ _ _ _ _)
 go_ret2
 exact⟨rfl,W0.o.fin⟩
theorem qMo (nn:Int)(h1:1<=nn)(h2:q<nn)(h:(vOb base b n wh K).At w0 A G st w) :
  Calls Tryz.prog 68 #[.pointer (some ⟨b,0,none⟩),.agg #[.int .i64 t,.int .i64 q,.int .i64 s],.int .i64 nn] w fun e w'=>e = .returned (.tuple #[.int .i64 (foundI (((none:Option Nat),st)).1),.bool (((none:Option Nat),st)).1.isSome])/\(vOb base b n wh K).At w0 A G (((none:Option Nat),st)).2 w'/\Stay G w w':=by
 have W0:=qh ((WL.start h).new 23 #[.int .i64 t,.int .i64 q,.int .i64 s])
 obtain⟨x0,x1,x2⟩:=W0.o.h0.three
 have t0:decide (nn<(1:Int))=false:=qf
 have t1:decide (q<nn)=true:=decide_eq_true h2
 clear h
 go_enter Tryz.func68,Tryz.ntmps68
 go_wp2
 go_step3
 go_wp2
 (try rw[Exit.noGoto_ret]);(try change bodyPost _ _ _ _ _ _)
 go_ret2
 exact⟨rfl,W0.o.fin⟩

theorem qL3 (hn:n<2^40)(hq:q<=1024)(nn:Int)(own:Nat)(ho:ofI nn=(own:Int))(ho10:own<=10)(h1:1<=nn)(h2:nn<=q)(h:(vOb base b n wh K).At w0 A G st w) :
  Calls Tryz.prog 68 #[.pointer (some ⟨b,0,none⟩),.agg #[.int .i64 t,.int .i64 q,.int .i64 s],.int .i64 nn] w fun e w'=>e = .returned (.tuple #[.int .i64 (foundI (findF n K t q s nn own st).1),.bool (findF n K t q s nn own st).1.isSome])/\(vOb base b n wh K).At w0 A G (findF n K t q s nn own st).2 w'/\Stay G w w':=by
 have W0:=qh ((WL.start h).new 23 #[.int .i64 t,.int .i64 q,.int .i64 s])
 obtain⟨x0,x1,x2⟩:=W0.o.h0.three
 have t0:decide (nn<(1:Int))=false:=qf
 have t1:decide (q<nn)=false:=qf
 have HO:=qh ho
 obtain⟨Q,hQ⟩:∃ Q,q.toNat=Q:=⟨_,rfl⟩
 have HQ:=qh hQ
 have hQ1:1<=Q/\Q<=1024:=qo
 have hqQ:∀ l:Nat,((l:Int)<q↔l<Q):=fun l=>by omega
 have hqL:∀ l:Nat,1<=l->((l:Int)<=q↔l<=Q):=fun l h1=>by omega
 clear h ho hQ
 go_enter Tryz.func68,Tryz.ntmps68
 go_wp2_with fail
 go_step3
 go_wp2_with fail
 refine(qET nn qo qo _).mono ?_
 rintro e w9 ⟨rfl,rfl⟩
 rw[HO.o]
 go_wp2_with fail
 go_step3
 go_wp2_with fail
 go_loopw [8,9,11,12,13] (fun u8 u9 u11 _ _ wr=>∃ (k:Nat) (sx:Vst),u8 = .int .i64 0/\u9 = .bool false/\own<=k/\k<=11/\u11 = .int .i64 (k:Int)/\qH ((k=own/\sx=st)\/(own<k/\findF n K t q s nn own st=nextF n K q (11-k) k sx))/\qH (WL (vOb base b n wh K) w0 A G w [⟨w.heap.size,23,#[.int .i64 t,.int .i64 q,.int .i64 s]⟩] sx wr)) (fun _ _ u11 _ _ _=>11-(intOf u11).toNat)
 case atStart=>exact⟨own,st,rfl,rfl,qo,qo,rfl,qh (.inl ⟨rfl,rfl⟩),W0⟩
 case round =>
  clear W0 x0 x1 x2
  obtain⟨k,sx,rfl,rfl,hko,hk11,rfl,HS,W1⟩:=hrel
  obtain⟨x0,x1,x2⟩:=W1.o.h0.three
  by_cases hk:k<11
  ·have t2:decide ((k:Int)<11)=true:=qt
   obtain⟨hd,hhd⟩:∃ hd:Nat,2+k=hd:=⟨_,rfl⟩
   have HHD:=qh hhd
   have HB:qH (nthI 2 11 1 (k:Int)=(hd:Int)):=qh (by rw[qLq qo qo qo];omega)
   obtain⟨l0,hl0⟩:∃ l,getV n K sx (hd:Int)=l:=⟨_,rfl⟩
   have hl32:l0<2^32:=by rw[<- hl0];exact qJe W1.o _
   have HL0:=qh hl0
   clear hl0 hhd
   go_wp2_with fail
   refine(qB1 (k:Int) _).mono ?_
   rintro e w9 ⟨rfl,rfl⟩
   rw[HB.o]
   go_wp2_with fail
   refine(vGetA hn _ W1.o.at_).mono ?_
   rintro e w2 ⟨rfl,a1,a2⟩
   rw[HL0.o]
   have W2:=qh (W1.o.call a1 a2)
   clear a1 a2 W1 x0 x1 x2
   obtain⟨x0,x1,x2⟩:=W2.o.h0.three
   by_cases hke:k=own
   ·have hsx:sx=st:=by
     rcases HS.o with ⟨_,e⟩|⟨e,_⟩
     ·exact e
     ·omega
    subst hsx
    subst hke
    have HFF:qH (findF n K t q s nn k sx=match (lookF n K t q s nn Q l0 (getS n K sx (hd:Int))).1 with
      | some p=>(some p,(lookF n K t q s nn Q l0 (getS n K sx (hd:Int))).2)
      | none=>nextF n K q (11-(k+1)) (k+1) (lookF n K t q s nn Q l0 (getS n K sx (hd:Int))).2):=qh (by unfold findF;rw[HHD.o,HL0.o,HQ.o];rfl)
    clear HS HL0 HB
    have t3:decide ((k:Int)<(k:Int))=false:=qf
    generalize getS n K sx (hd:Int)=s0 at *
    go_wp2_with fail
    clear x0 x1 x2
    go_loopw [8,9,12,13,35] (fun u8 u9 u12 _ u35 wr=>∃ (m l:Nat) (sy:Vst),u8 = .int .i64 0/\u9 = .bool false/\m<=Q/\u35 = .int .i64 (m:Int)/\u12 = .int .u32 (l:Int)/\l<2^32/\qH (lookF n K t q s nn Q l0 s0=lookF n K t q s nn (Q-m) l sy)/\qH (WL (vOb base b n wh K) w0 A G w [⟨w.heap.size,23,#[.int .i64 t,.int .i64 q,.int .i64 s]⟩] sy wr)) (fun _ _ _ _ u35 _=>Q-(intOf u35).toNat)
    case atStart=>exact⟨0,l0,_,rfl,rfl,qo,by go_num,rfl,hl32,qh rfl,W2⟩
    case round =>
     clear W2
     obtain⟨m,l,sy,rfl,rfl,hm,rfl,rfl,hl,HLK,W3⟩:=hrel
     obtain⟨x0,x1,x2⟩:=W3.o.h0.three
     by_cases hmQ:m<Q
     ·have t4:decide ((m:Int)<q)=true:=decide_eq_true ((hqQ m).2 hmQ)
      obtain⟨j,hj⟩:∃ j,Q-m=j+1:=⟨Q-m-1,qo⟩
      have HJ:qH (Q-(m+1)=j):=qh qo
      replace HLK:qH (lookF n K t q s nn Q l0 s0=lookF n K t q s nn (j+1) l sy):=qh (by rw[<- hj];exact HLK.o)
      clear hj
      by_cases hp:1<=l/\l<=Q
      ·have HPG:qH (pgB q ((l:Int)-1)=true):=qh ((qHC _ _).2 ⟨qo,by have:=(hqQ (l-1)).2 qo;omega⟩)
       have HPP:qH (1<=l/\(l:Int)<=q):=qh ⟨hp.1,(hqL l hp.1).2 hp.2⟩
       obtain⟨⟨kk,ll,cc,okk⟩,hI⟩:∃ x,infoOf n K t q s ((l:Int)-1) sy=x:=⟨_,rfl⟩
       have HI:=qh hI
       obtain⟨fb,hfb⟩:∃ fb,(decide (kk=1)&&decide (nn<=ll))=fb:=⟨_,rfl⟩
       have HFB:=qh hfb
       have HFT:qH (fitB nn (getV n K sy (pageI t q s ((l:Int)-1) 0))=fb):=qh (by
        unfold infoOf at hI
        unfold fitB
        rw[hI]
        exact hfb)
       clear hI hfb
       go_wp2_with fail
       refine(qQQ t q s ((l:Int)-1) _).mono ?_;rintro e w4 ⟨rfl,hb⟩;have W4:=qh (W3.o.keep hb);clear hb W3;rw[HPG.o]
       clear x0 x1 x2
       obtain⟨x0,x1,x2⟩:=W4.o.h0.three
       go_wp2_with fail
       refine(qXj hn ((l:Int)-1) kk ll cc okk HI.o W4.o.at_).mono ?_;rintro e w5 ⟨rfl,a1,a2⟩;have W5:=qh (W4.o.call a1 a2);clear a1 a2 W4
       clear x0 x1 x2
       obtain⟨x0,x1,x2⟩:=W5.o.h0.three
       go_wp2_with fail
       refine(qBc kk ll cc nn _).mono ?_;rintro e w6 ⟨rfl,hb⟩;have W6:=qh (W5.o.keep hb);clear hb W5;rw[HFB.o]
       clear x0 x1 x2 HFB
       obtain⟨x0,x1,x2⟩:=W6.o.h0.three
       cases fb with
       | true =>
        have HFIN:qH (findF n K t q s nn k sx=(some (l-1),getS n K sy (pageI t q s ((l:Int)-1) 0))):=qh (by rw[HFF.o,HLK.o,qVy n K t q s nn HPP.o HFT.o])
        have HPL:qH (Value.int .i64 ((l:Int)-1)=Value.int .i64 ((l-1:Nat):Int)):=qh (by congr 1;omega)
        clear HFF HLK HFT HI
        go_wp2_with fail
        (try rw[Exit.noGoto_ret]);(try change bodyPost _ _ _ _ _ _)
        go_ret2
        exact⟨by rw[HFIN.o];show Ending.returned (.tuple #[.int .i64 ((l:Int)-1),.bool true])=_;rw[HPL.o];rfl,by rw[HFIN.o];exact W6.o.fin⟩
       | false =>
        obtain⟨v,hv⟩:∃ v,getV n K (getS n K sy (pageI t q s ((l:Int)-1) 0)) (pageI t q s ((l:Int)-1) 2)=v:=⟨_,rfl⟩
        have hv32:v<2^32:=by rw[<- hv];exact qJe W6.o _
        have HV:=qh hv
        have HLK2:qH (lookF n K t q s nn Q l0 s0=lookF n K t q s nn (Q-(m+1)) v (getS n K (getS n K sy (pageI t q s ((l:Int)-1) 0)) (pageI t q s ((l:Int)-1) 2))):=qh (by rw[HLK.o,qE7 n K t q s nn HPP.o HFT.o,HV.o,HJ.o])
        clear hv HLK HFT HI
        go_wp2_with fail
        refine(qAT t q s ((l:Int)-1) _).mono ?_;rintro e w7 ⟨rfl,hb⟩;have W7:=qh (W6.o.keep hb);clear hb W6
        go_wp2_with fail
        refine(vGetA hn _ W7.o.at_).mono ?_;rintro e w8 ⟨rfl,a1,a2⟩;have W8:=qh (W7.o.call a1 a2);clear a1 a2 W7;rw[HV.o]
        clear x0 x1 x2
        go_wp2_with fail
        go_roundw
        case rel=>exact⟨m+1,v,_,rfl,rfl,qo,by go_num,by go_num,hv32,HLK2,W8⟩
        case measure=>simp[intOf];omega
      ·have HPG:qH (pgB q ((l:Int)-1)=false):=qh (by
        cases hc:pgB q ((l:Int)-1) with
        | false=>rfl
        | true =>
         have h3:=(qHC _ _).1 hc
         exact absurd (⟨qo,(hqL l qo).1 qo⟩:1<=l/\l<=Q) hp)
       have HNX:qH ((k+1=k/\sy=sx)\/(k<k+1/\findF n K t q s nn k sx=nextF n K q (11-(k+1)) (k+1) sy)):=qh (.inr ⟨qo,by
        have h3:¬ (1<=l/\(l:Int)<=q):=fun h4=>hp ⟨h4.1,(hqL l h4.1).1 h4.2⟩
        rw[HFF.o,HLK.o,qFQ n K t q s nn h3]⟩)
       clear HFF HLK
       go_wp2_with fail
       refine(qQQ t q s ((l:Int)-1) _).mono ?_;rintro e w4 ⟨rfl,hb⟩;have W4:=qh (W3.o.keep hb);clear hb W3;rw[HPG.o]
       exact MyC
     ·have t4:decide ((m:Int)<q)=false:=decide_eq_false (fun h3=>hmQ ((hqQ m).1 h3))
      have HNX:qH ((k+1=k/\sy=sx)\/(k<k+1/\findF n K t q s nn k sx=nextF n K q (11-(k+1)) (k+1) sy)):=qh (.inr ⟨qo,by
        rw[HFF.o,HLK.o,show Q-m=0 by omega]
        rfl⟩)
      clear HFF HLK
      go_wp2_with fail
      go_roundw
      case rel=>exact⟨k+1,_,rfl,rfl,qo,qo,by go_num,HNX,W3⟩
      case measure=>simp[intOf];omega
   ·have hkl:own<k:=qo
    have HFF:qH (findF n K t q s nn own st=nextF n K q (11-k) k sx):=qh (by
     rcases HS.o with ⟨e,_⟩|⟨_,e⟩
     ·omega
     ·exact e)
    obtain⟨j,hj⟩:∃ j,11-k=j+1:=⟨10-k,qo⟩
    have HJ:qH (11-(k+1)=j):=qh qo
    rw[hj] at HFF
    have t3:decide ((own:Int)<(k:Int))=true:=qt
    have t4:decide ((0:Int)<q)=true:=qt
    clear HS HB hj hke
    go_wp2_with fail
    clear x0 x1 x2
    go_loopw [8,9,12,13,35] (fun u8 u9 u12 _ u35 wr=>u8 = .int .i64 0/\u9 = .bool false/\u35 = .int .i64 0/\u12 = .int .u32 (l0:Int)/\qH (WL (vOb base b n wh K) w0 A G w [⟨w.heap.size,23,#[.int .i64 t,.int .i64 q,.int .i64 s]⟩] (getS n K sx (hd:Int)) wr)) (fun _ _ _ _ _ _=>0)
    case atStart=>exact⟨rfl,rfl,by go_num,rfl,W2⟩
    case round =>
     clear W2
     obtain⟨rfl,rfl,rfl,rfl,W3⟩:=hrel
     obtain⟨x0,x1,x2⟩:=W3.o.h0.three
     by_cases hp:1<=l0/\l0<=Q
     ·have HPG:qH (pgB q ((l0:Int)-1)=true):=qh ((qHC _ _).2 ⟨qo,by have:=(hqQ (l0-1)).2 qo;omega⟩)
      have HFIN:qH (findF n K t q s nn own st=(some (l0-1),getS n K sx (hd:Int))):=qh (by rw[HFF.o,qRa n K q (by rw[HHD.o,HL0.o];exact⟨hp.1,(hqL l0 hp.1).2 hp.2⟩),HHD.o,HL0.o])
      have HPL:qH (Value.int .i64 ((l0:Int)-1)=Value.int .i64 ((l0-1:Nat):Int)):=qh (by congr 1;omega)
      clear HFF HL0
      go_wp2_with fail
      refine(qQQ t q s ((l0:Int)-1) _).mono ?_;rintro e w4 ⟨rfl,hb⟩;have W4:=qh (W3.o.keep hb);clear hb W3;rw[HPG.o]
      clear x0 x1 x2
      go_wp2_with fail
      (try rw[Exit.noGoto_ret]);(try change bodyPost _ _ _ _ _ _)
      go_ret2
      exact⟨by rw[HFIN.o];show Ending.returned (.tuple #[.int .i64 ((l0:Int)-1),.bool true])=_;rw[HPL.o];rfl,by rw[HFIN.o];exact W4.o.fin⟩
     ·have HPG:qH (pgB q ((l0:Int)-1)=false):=qh (by
       cases hc:pgB q ((l0:Int)-1) with
       | false=>rfl
       | true =>
        have h3:=(qHC _ _).1 hc
        exact absurd (⟨qo,(hqL l0 qo).1 qo⟩:1<=l0/\l0<=Q) hp)
      have HNX:qH ((k+1=own/\getS n K sx (hd:Int)=st)\/(own<k+1/\findF n K t q s nn own st=nextF n K q (11-(k+1)) (k+1) (getS n K sx (hd:Int)))):=qh (.inr ⟨qo,by
       rw[HFF.o,qXY n K q (by rw[HHD.o,HL0.o];exact fun h4=>hp ⟨h4.1,(hqL l0 h4.1).1 h4.2⟩),HHD.o,HJ.o]⟩)
      clear HFF HL0
      go_wp2_with fail
      refine(qQQ t q s ((l0:Int)-1) _).mono ?_;rintro e w4 ⟨rfl,hb⟩;have W4:=qh (W3.o.keep hb);clear hb W3;rw[HPG.o]
      exact MyC
  ·have t2:decide ((k:Int)<11)=false:=qf
   have HFIN:qH (findF n K t q s nn own st=(none,sx)):=qh (by
    rcases HS.o with ⟨e,_⟩|⟨_,e⟩
    ·omega
    ·rw[e,show 11-k=0 by omega]
     rfl)
   go_wp2_with fail
   (try rw[Exit.noGoto_ret]);(try change bodyPost _ _ _ _ _ _)
   go_ret2
   exact⟨by rw[HFIN.o];rfl,by rw[HFIN.o];exact W1.o.fin⟩

theorem qUz (hn:n<2^40)(hq:q<=1024)(nn:Int)(h:(vOb base b n wh K).At w0 A G st w) :
  Calls Tryz.prog 68 #[.pointer (some ⟨b,0,none⟩),.agg #[.int .i64 t,.int .i64 q,.int .i64 s],.int .i64 nn] w fun e w'=>e = .returned (.tuple #[.int .i64 (foundI (findI n K t q s nn st).1),.bool (findI n K t q s nn st).1.isSome])/\(vOb base b n wh K).At w0 A G (findI n K t q s nn st).2 w'/\Stay G w w':=by
 by_cases h1:nn<1
 ·rw[qYH qo];exact qEH nn h1 h
 ·by_cases h2:q<nn
  ·rw[qYH qo];exact qMo nn qo h2 h
  ·obtain⟨m,rfl⟩:=Int.eq_ofNat_of_zero_le (show 0<=nn by omega)
   obtain⟨own,ho,ho10,_⟩:=qIH (n:=m) qo qo
   rw[qSw ho qo qo]
   exact qL3 hn hq (m:Int) own ho ho10 qo qo h
end
end
section
def qOO (a:Nat) (m:Int):Nat:=(((a:Int)+m)%4294967296).toNat
def qZB (a:Nat) (m:Int):Nat:=(((a:Int)-m)%4294967296).toNat
theorem qCG (a:Nat)(m:Int):qOO a m<2^32:=by unfold qOO;have:=Int.emod_lt_of_pos ((a:Int)+m) (show (0:Int)<4294967296 by omega);have:=Int.emod_nonneg ((a:Int)+m) (show (4294967296:Int)≠0 by omega);omega
theorem qLA {a m:Nat}(h:a+m<4294967296):qOO a m=a+m:=by unfold qOO;rw[Int.emod_eq_of_lt qo qo];omega
theorem qCv {a m:Nat}(h:m<=a)(h2:a<4294967296):qZB a m=a-m:=by unfold qZB;rw[Int.emod_eq_of_lt qo qo];omega
section
variable (n : Nat) (K : Nat -> Option Nat) (t q s : Int)
def usedS (p m:Nat) (st:Vst):Vst:=putS n (putS n st (pageI t q s p 0) (infoV 2 (m:Int) 0)) (pageI t q s ((p:Int)+(m:Int)-1) 1) (p+1)
def restS (p m:Nat) (l:Int) (st:Vst):Vst:=if (m:Int)<l then addS n K t q s ((p:Int)+(m:Int)) (l-(m:Int)) st else st
def lessS (m:Nat) (st:Vst):Vst:=putS n (getS n K st 0) 0 (qZB (getV n K st 0) (m:Int))
def moreS (m:Nat) (st:Vst):Vst:=putS n (getS n K st 0) 0 (qOO (getV n K st 0) (m:Int))
def takeS (p m:Nat) (st:Vst):Vst:=lessS n K m (restS n K t q s p m (dropV n K t q s p st) (usedS n t q s p m (dropS n K t q s p st)))
def takeI (m:Int) (st:Vst):Option Nat × Vst:=match (findI n K t q s m st).1 with
 | some p=>(some p,takeS n K t q s p m.toNat (findI n K t q s m st).2)
 | none=>(none,(findI n K t q s m st).2)
def relL (p:Nat) (st:Vst):Vst × Int × Int:=if p=0 then (st,(p:Int),0) else
  (let f:Int:=((getV n K st (pageI t q s ((p:Int)-1) 1):Nat):Int)
   let st1:=getS n K st (pageI t q s ((p:Int)-1) 1)
   let st2:=getS n K st1 (pageI t q s (f-1) 0)
   if (infoOf n K t q s (f-1) st1).1=1 then (putS n (putS n (dropS n K t q s (f-1) st2) (pageI t q s p 0) 0) (pageI t q s ((p:Int)-1) 1) 0,f-1,dropV n K t q s (f-1) st2)
   else (st2,(p:Int),0))
def relR (r:Nat) (st:Vst):Vst × Int:=if (r:Int)<q then
  (let st1:=getS n K st (pageI t q s r 0)
   if (infoOf n K t q s r st).1=1 then (putS n (putS n (dropS n K t q s r st1) (pageI t q s r 0) 0) (pageI t q s ((r:Int)-1) 1) 0,dropV n K t q s r st1)
   else (st1,0))
  else (st,0)
def releaseS (p m:Nat) (st:Vst):Vst :=
 moreS n K m (addS n K t q s (relL n K t q s p st).2.1 ((m:Int)+(relL n K t q s p st).2.2+(relR n K t q s (p+m) (relL n K t q s p st).1).2) (relR n K t q s (p+m) (relL n K t q s p st).1).1)
def shrinkS (p l m:Nat) (st:Vst):Vst:=releaseS n K t q s (p+m) (l-m) (usedS n t q s p m st)
def growB (p l:Nat) (m:Int) (st:Vst):Bool:=decide (((p+l:Nat):Int)<q)&&decide ((infoOf n K t q s ((p+l:Nat):Int) st).1=1)&&decide (m-(l:Int)<=(infoOf n K t q s ((p+l:Nat):Int) st).2.1)
def growS (p l:Nat) (m:Int) (st:Vst):Vst :=
  let r:Nat:=p+l
  if ((r:Nat):Int)<q then
    (let st1:=getS n K st (pageI t q s r 0)
     if growB n K t q s p l m st=true then
       lessS n K (m.toNat-l) (restS n K t q s p m.toNat ((l:Int)+(infoOf n K t q s r st).2.1) (usedS n t q s p m.toNat (putS n (putS n (dropS n K t q s r st1) (pageI t q s r 0) 0) (pageI t q s ((r:Int)-1) 1) 0)))
     else st1)
  else st
end
end
section
theorem qN8 (a:Nat)(m:Int):IntKind.u32.wrap ((a:Int)+IntKind.u32.wrap m)=((qOO a m:Nat):Int):=by
 unfold qOO
 have h0:=Int.emod_nonneg ((a:Int)+m) (show (4294967296:Int)≠0 by omega)
 rw[Int.toNat_of_nonneg h0]
 show ((a:Int)+m%4294967296)%4294967296=_
 omega
theorem qZR (a:Nat)(m:Int):qOO a (-m)=qZB a m:=by unfold qOO qZB;rw[<- Int.sub_eq_add_neg]

theorem qLO (p n:Int)(h:IntKind.i64.wrap (p+n)=p+n)(w:World) :
  Calls Tryz.prog 86 #[.agg #[.int .i64 p,.int .i64 n]] w fun e w'=>e = .returned (.int .i64 (p+n))/\Below w.heap.size w w':=by
 obtain⟨x0,x1⟩:=(Held.new w 111 #[.int .i64 p,.int .i64 n]).two
 go_enter Tryz.func86,Tryz.ntmps86
 go_wp2
 go_ret
 exact⟨rfl,Bnew (B0 _) _⟩
theorem qR0 (p l m:Int)(h1:IntKind.i64.wrap (p+m)=p+m)(h2:IntKind.i64.wrap (l-m)=l-m)(w:World) :
  Calls Tryz.prog 70 #[.agg #[.int .i64 p,.int .i64 l],.int .i64 m] w fun e w'=>e = .returned (.tuple #[.agg #[.int .i64 p,.int .i64 m],.agg #[.int .i64 (p+m),.int .i64 (l-m)]])/\Below w.heap.size w w':=by
 have hc:=((Held.new w 111 #[.int .i64 p,.int .i64 l]).alloc (.cells #[.int .i64 0,.int .i64 0] 111)).alloc (.cells #[.int .i64 0,.int .i64 0] 111)
 have hz:=(Held.new2 w (.cells #[.int .i64 p,.int .i64 l] 111) 111 #[.int .i64 0,.int .i64 0]).alloc (.cells #[.int .i64 0,.int .i64 0] 111)
 have hy:=Held.new2 (w.alloc (.cells #[.int .i64 p,.int .i64 l] 111)) (.cells #[.int .i64 0,.int .i64 0] 111) 111 #[.int .i64 0,.int .i64 0]
 rw[World.size_alloc] at hy
 obtain⟨x0,x1⟩:=hc.two
 obtain⟨z0,z1⟩:=hz.two
 obtain⟨y0,y1⟩:=hy.two
 have f0:=hz.thawed 0
 have f1:=hz.thawed 1
 have g0:=hy.thawed 0
 have g1:=hy.thawed 1
 go_enter Tryz.func70,Tryz.ntmps70
 go_wp2
 go_region
 go_wp2
 refine bodyPost_ret (v := .tuple #[.agg #[.int .i64 p,.int .i64 m],.agg #[.int .i64 (p+m),.int .i64 (l-m)]]) (by simp[results,Tryz.results70,go_sem,z0,z1,y0,y1]) rfl ⟨rfl,?_⟩
 all_goals exact blz
end
section
section
variable {base b n : Nat} {wh all : Bool} {K : Nat -> Option Nat} {st : Vst} {w w0 : World} {A G : Nat -> Prop} {t q s : Int}

theorem qGD (hn:n<2^40)(hq:q<=2147483648)(p m:Int)(h:(vOb base b n wh K).At w0 A G st w) :
  Calls Tryz.prog 72 #[.agg #[.pointer (some ⟨b,0,none⟩),.int .i64 t,.int .i64 q,.int .i64 s],.agg #[.int .i64 p,.int .i64 m]] w fun e w'=>e = .returned (.tuple #[])/\(vOb base b n wh K).At w0 A G (addS n K t q s p m st) w'/\Stay G w w':=by
 have W0:=qh (((WL.start h).new 110 #[.pointer (some ⟨b,0,none⟩),.int .i64 t,.int .i64 q,.int .i64 s]).new 111 #[.int .i64 p,.int .i64 m])
 rw[World.size_alloc] at W0
 clear h
 go_enter Tryz.func72,Tryz.ntmps72
 obtain⟨x0,x1,x2,x3⟩:=W0.o.h1.four
 obtain⟨y0,y1⟩:=W0.o.h0.two
 go_wp2_with fail
 refine(qWG hn hq p m W0.o.at_).mono ?_;rintro e w1 ⟨rfl,h1,h2⟩;have W1:=qh (W0.o.call h1 h2);clear h1 h2 W0
 obtain⟨x0,x1,x2,x3⟩:=W1.o.h1.four
 obtain⟨y0,y1⟩:=W1.o.h0.two
 go_wp2
 go_end0
 exact⟨rfl,W1.o.fin⟩

theorem qKc (hn:n<2^40)(m:Int)(h:(vOb base b n wh K).At w0 A G st w) :
  Calls Tryz.prog 73 #[.agg #[.pointer (some ⟨b,0,none⟩),.int .i64 t,.int .i64 q,.int .i64 s],.int .i64 m] w fun e w'=>e = .returned (.tuple #[])/\(vOb base b n wh K).At w0 A G (putS n (getS n K st 0) 0 (qOO (getV n K st 0) m)) w'/\Stay G w w':=by
 have W0:=qh ((WL.start h).new 110 #[.pointer (some ⟨b,0,none⟩),.int .i64 t,.int .i64 q,.int .i64 s])
 obtain⟨v,hv⟩:∃ v,getV n K st 0=v:=⟨_,rfl⟩
 have hv32:v<2^32:=by rw[<- hv];exact qHJ h _
 have HV:=qh hv
 rw[hv]
 have HA:=qN8 v m
 have HL:=qCG v m
 obtain⟨x,hx⟩:∃ x,qOO v m=x:=⟨_,rfl⟩
 rw[hx] at HA HL ⊢
 have HX:=qh HL
 clear hv hx HL
 clear h
 go_enter Tryz.func73,Tryz.ntmps73
 obtain⟨x0,x1,x2,x3⟩:=W0.o.h0.four
 go_wp2_with fail
 refine wp_region_held_drew (S:=(fun w'=>w'.cell? ⟨w.heap.size,0,none⟩=some (.pointer (some ⟨b,0,none⟩))/\w'.cell? ⟨w.heap.size,1,none⟩=some (.int .i64 t)/\w'.cell? ⟨w.heap.size,2,none⟩=some (.int .i64 q)/\w'.cell? ⟨w.heap.size,3,none⟩=some (.int .i64 s))) qr ?_ (fun hHeld=>?_)
 ·(try dsimp only)
  exact Muf
 refine tkz 0 ?_
 refine tkz 1 ?_
 refine tkz 2 ?_
 refine tkz 3 ?_
 refine tkz 5 ?_
 refine tkz 6 ?_
 refine rdz 4 fun K hK=>?_
 go_simp
 refine(vGetA hn _ W0.o.drew.at_).mono ?_;rintro e w1 ⟨rfl,h1,h2⟩;have W1:=qh (W0.o.drew.call h1 h2);clear h1 h2 W0;rw[HV.o]
 refine qk ?_ (fun hHeld=>?_)
 ·exact Muf
 clear hK K
 refine tkz 7 ?_
 refine rdz 8 fun K hK=>?_
 go_simp
 refine(vPutA hn _ _ HX.o W1.o.at_).mono ?_;rintro e w2 ⟨rfl,h1,h2⟩;have W2:=qh (W1.o.call h1 h2);clear h1 h2 W1
 refine qk ?_ (fun hHeld=>?_)
 ·exact Muf
 clear hK K
 refine dnz ?_
 obtain⟨x0,x1,x2,x3⟩:=W2.o.h0.four
 go_wp2
 go_end0
 exact⟨rfl,W2.o.fin⟩

theorem qNv (hn:n<2^40)(hq:q<=2147483648)(p r:Int)(hr:IntKind.i64.wrap (r-1)=r-1)(h:(vOb base b n wh K).At w0 A G st w) :
  Calls Tryz.prog 88 #[.agg #[.pointer (some ⟨b,0,none⟩),.int .i64 t,.int .i64 q,.int .i64 s],.int .i64 p,.int .i64 r] w fun e w'=>e = .returned (.int .i64 (dropV n K t q s p st))/\(vOb base b n wh K).At w0 A G (putS n (putS n (dropS n K t q s p st) (pageI t q s r 0) 0) (pageI t q s (r-1) 1) 0) w'/\Stay G w w':=by
 have W0:=qh ((WL.start h).new 110 #[.pointer (some ⟨b,0,none⟩),.int .i64 t,.int .i64 q,.int .i64 s])
 clear h
 go_enter Tryz.func88,Tryz.ntmps88
 obtain⟨x0,x1,x2,x3⟩:=W0.o.h0.four
 go_wp2_with fail
 refine(qAQ hn hq p W0.o.at_).mono ?_;rintro e w1 ⟨rfl,h1,h2⟩;have W1:=qh (W0.o.call h1 h2);clear h1 h2 W0
 obtain⟨x0,x1,x2,x3⟩:=W1.o.h0.four
 go_wp2_with fail
 refine wp_region_held_drew (S:=(fun w'=>w'.cell? ⟨w.heap.size,0,none⟩=some (.pointer (some ⟨b,0,none⟩))/\w'.cell? ⟨w.heap.size,1,none⟩=some (.int .i64 t)/\w'.cell? ⟨w.heap.size,2,none⟩=some (.int .i64 q)/\w'.cell? ⟨w.heap.size,3,none⟩=some (.int .i64 s))) qr ?_ (fun hHeld=>?_)
 ·(try dsimp only)
  exact MAQ
 refine tkz 0 ?_
 refine tkz 1 ?_
 refine tkz 2 ?_
 refine tkz 3 ?_
 refine tkz 4 ?_
 refine rdz 5 fun K hK=>?_
 go_simp
 refine(qSM t q s r _).mono ?_;rintro e w2 ⟨rfl,hb⟩;have W2:=qh (W1.o.drew.keep hb);clear hb W1
 refine qk ?_ (fun hHeld=>?_)
 ·exact MAQ
 clear hK K
 refine rdz 6 fun K hK=>?_
 go_simp
 refine(vPutA hn _ 0 qo W2.o.at_).mono ?_;rintro e w3 ⟨rfl,h1,h2⟩;have W3:=qh (W2.o.call h1 h2);clear h1 h2 W2
 refine qk ?_ (fun hHeld=>?_)
 ·exact MAQ
 clear hK K
 refine dnz ?_
 obtain⟨x0,x1,x2,x3⟩:=W3.o.h0.four
 go_wp2_with fail
 refine wp_region_held_drew (S:=(fun w'=>w'.cell? ⟨w.heap.size,0,none⟩=some (.pointer (some ⟨b,0,none⟩))/\w'.cell? ⟨w.heap.size,1,none⟩=some (.int .i64 t)/\w'.cell? ⟨w.heap.size,2,none⟩=some (.int .i64 q)/\w'.cell? ⟨w.heap.size,3,none⟩=some (.int .i64 s))) qr ?_ (fun hHeld=>?_)
 ·(try dsimp only)
  exact MRw
 refine tkz 0 ?_
 refine tkz 1 ?_
 refine tkz 2 ?_
 refine tkz 3 ?_
 refine tkz 4 ?_
 refine tkz 5 ?_
 refine rdz 6 fun K hK=>?_
 go_simp
 refine(qVL t q s (r-1) _).mono ?_;rintro e w4 ⟨rfl,hb⟩;have W4:=qh (W3.o.drew.keep hb);clear hb W3
 refine qk ?_ (fun hHeld=>?_)
 ·exact MRw
 clear hK K
 refine rdz 7 fun K hK=>?_
 go_simp
 refine(vPutA hn _ 0 qo W4.o.at_).mono ?_;rintro e w5 ⟨rfl,h1,h2⟩;have W5:=qh (W4.o.call h1 h2);clear h1 h2 W4
 refine qk ?_ (fun hHeld=>?_)
 ·exact MRw
 clear hK K
 refine dnz ?_
 obtain⟨x0,x1,x2,x3⟩:=W5.o.h0.four
 go_wp2
 go_ret
 exact⟨rfl,W5.o.fin⟩

theorem qN3 (hn:n<2^40)(p m:Nat)(hp:p<=2147483648)(hm:m<=2147483648)(h:(vOb base b n wh K).At w0 A G st w) :
  Calls Tryz.prog 71 #[.agg #[.pointer (some ⟨b,0,none⟩),.int .i64 t,.int .i64 q,.int .i64 s],.agg #[.int .i64 (p:Int),.int .i64 (m:Int)]] w fun e w'=>e = .returned (.tuple #[])/\(vOb base b n wh K).At w0 A G (usedS n t q s p m st) w'/\Stay G w w':=by
 have W0:=qh (((WL.start h).new 110 #[.pointer (some ⟨b,0,none⟩),.int .i64 t,.int .i64 q,.int .i64 s]).new 111 #[.int .i64 (p:Int),.int .i64 (m:Int)])
 rw[World.size_alloc] at W0
 have sk:IntKind.u32.wrap ((p:Int)+1)=((p+1:Nat):Int):=by have:=qTt (p+1) qo;simpa using this
 have sp:IntKind.u32.wrap (p:Int)=(p:Int):=qTt p qo
 have HIV:=qh (qGm 2 (m:Int) 0)
 have s1:IntKind.i64.wrap ((p:Int)+(m:Int))=(p:Int)+(m:Int):=qIv qo qo
 have s2:IntKind.i64.wrap ((p:Int)+(m:Int)-1)=(p:Int)+(m:Int)-1:=qIv qo qo
 clear h
 go_enter Tryz.func71,Tryz.ntmps71
 obtain⟨x0,x1,x2,x3⟩:=W0.o.h1.four
 obtain⟨y0,y1⟩:=W0.o.h0.two
 go_wp2_with fail
 refine(qA4 2 (m:Int) 0 _).mono ?_;rintro e w1 ⟨rfl,hb⟩;have W1:=qh (W0.o.keep hb);clear hb W0
 obtain⟨x0,x1,x2,x3⟩:=W1.o.h1.four
 obtain⟨y0,y1⟩:=W1.o.h0.two
 go_wp2_with fail
 refine wp_region_held_drew (S:=(fun w'=>w'.cell? ⟨w.heap.size,0,none⟩=some (.pointer (some ⟨b,0,none⟩))/\w'.cell? ⟨w.heap.size,1,none⟩=some (.int .i64 t)/\w'.cell? ⟨w.heap.size,2,none⟩=some (.int .i64 q)/\w'.cell? ⟨w.heap.size,3,none⟩=some (.int .i64 s)/\w'.cell? ⟨(w.heap.size+1),0,none⟩=some (.int .i64 (p:Int))/\w'.cell? ⟨(w.heap.size+1),1,none⟩=some (.int .i64 (m:Int)))) qr ?_ (fun hHeld=>?_)
 ·(try dsimp only)
  exact MWE
 refine tkz 0 ?_
 refine tkz 1 ?_
 refine tkz 2 ?_
 refine tkz 3 ?_
 refine tkz 4 ?_
 refine tkz 5 ?_
 refine tkz 7 ?_
 refine rdz 6 fun K hK=>?_
 go_simp
 refine(qSM t q s (p:Int) _).mono ?_;rintro e w2 ⟨rfl,hb⟩;have W2:=qh (W1.o.drew.keep hb);clear hb W1
 refine qk ?_ (fun hHeld=>?_)
 ·exact MWE
 clear hK K
 refine rdz 8 fun K hK=>?_
 go_simp
 refine(vPutA hn _ _ HIV.o W2.o.at_).mono ?_;rintro e w3 ⟨rfl,h1,h2⟩;have W3:=qh (W2.o.call h1 h2);clear h1 h2 W2
 refine qk ?_ (fun hHeld=>?_)
 ·exact MWE
 clear hK K
 refine dnz ?_
 obtain⟨x0,x1,x2,x3⟩:=W3.o.h1.four
 obtain⟨y0,y1⟩:=W3.o.h0.two
 go_wp2_with fail
 refine wp_region_held_drew (S:=(fun w'=>w'.cell? ⟨w.heap.size,0,none⟩=some (.pointer (some ⟨b,0,none⟩))/\w'.cell? ⟨w.heap.size,1,none⟩=some (.int .i64 t)/\w'.cell? ⟨w.heap.size,2,none⟩=some (.int .i64 q)/\w'.cell? ⟨w.heap.size,3,none⟩=some (.int .i64 s)/\w'.cell? ⟨(w.heap.size+1),0,none⟩=some (.int .i64 (p:Int))/\w'.cell? ⟨(w.heap.size+1),1,none⟩=some (.int .i64 (m:Int)))) qr ?_ (fun hHeld=>?_)
 ·(try dsimp only)
  exact Mr4
 refine tkz 0 ?_
 refine tkz 1 ?_
 refine tkz 2 ?_
 refine tkz 3 ?_
 refine tkz 4 ?_
 refine tkz 8 ?_
 refine tkz 9 ?_
 refine tkz 10 ?_
 refine tkz 11 ?_
 refine rdz 5 fun K hK=>?_
 go_simp
 refine(qLO (p:Int) (m:Int) s1 _).mono ?_;rintro e w4 ⟨rfl,hb⟩;have W4:=qh (W3.o.drew.keep hb);clear hb W3
 refine qk ?_ (fun hHeld=>?_)
 ·exact Mr4
 clear hK K
 refine tkz 6 ?_
 refine rdz 7 fun K hK=>?_
 go_simp
 refine(qVL t q s ((p:Int)+(m:Int)-1) _).mono ?_;rintro e w5 ⟨rfl,hb⟩;have W5:=qh (W4.o.keep hb);clear hb W4
 refine qk ?_ (fun hHeld=>?_)
 ·exact Mr4
 clear hK K
 refine rdz 12 fun K hK=>?_
 go_simp
 refine(vPutA hn _ (p+1) qo W5.o.at_).mono ?_;rintro e w6 ⟨rfl,h1,h2⟩;have W6:=qh (W5.o.call h1 h2);clear h1 h2 W5
 refine qk ?_ (fun hHeld=>?_)
 ·exact Mr4
 clear hK K
 refine dnz ?_
 obtain⟨x0,x1,x2,x3⟩:=W6.o.h1.four
 obtain⟨y0,y1⟩:=W6.o.h0.two
 go_wp2
 go_end0
 exact⟨rfl,W6.o.fin⟩

theorem qPp (hn:n<2^40)(p k l c:Int)(ok:Bool)(hI:infoOf n K t q s p st=(k,l,c,ok))(h:(vOb base b n wh K).At w0 A G st w) :
  Calls Tryz.prog 87 #[.agg #[.pointer (some ⟨b,0,none⟩),.int .i64 t,.int .i64 q,.int .i64 s],.int .i64 p] w fun e w'=>e = .returned (.agg #[.int .i64 k,.int .i64 l,.int .i64 c])/\(vOb base b n wh K).At w0 A G (getS n K st (pageI t q s p 0)) w'/\Stay G w w':=by
 have W0:=qh (((WL.start h).new 110 #[.pointer (some ⟨b,0,none⟩),.int .i64 t,.int .i64 q,.int .i64 s]).new 90 #[.int .i64 0,.int .i64 0,.int .i64 0])
 rw[World.size_alloc] at W0
 obtain⟨v,hv⟩:∃ v,getV n K st (pageI t q s p 0)=v:=⟨_,rfl⟩
 have hv32:v<2^32:=by rw[<- hv];exact qHJ h _
 have HI:qH (infoG v=(k,l,c,ok)):=qh (by rw[<- hv];exact hI)
 have HV:=qh hv
 clear hI hv
 clear h
 go_enter Tryz.func87,Tryz.ntmps87
 obtain⟨x0,x1,x2,x3⟩:=W0.o.h1.four
 go_wp2_with fail
 refine wp_region_held_drew (S:=(fun w'=>w'.cell? ⟨w.heap.size,0,none⟩=some (.pointer (some ⟨b,0,none⟩))/\w'.cell? ⟨w.heap.size,1,none⟩=some (.int .i64 t)/\w'.cell? ⟨w.heap.size,2,none⟩=some (.int .i64 q)/\w'.cell? ⟨w.heap.size,3,none⟩=some (.int .i64 s))) qr ?_ (fun hHeld=>?_)
 ·(try dsimp only)
  exact W0.o.drew.h1.four
 have W1:=qh W0.o.drew
 clear W0 x0 x1 x2 x3
 generalize hq0:World.drew _=q0 at W1 hHeld ⊢
 clear hq0
 refine tkz 0 ?_
 refine tkz 1 ?_
 refine tkz 2 ?_
 refine tkz 3 ?_
 refine tkz 4 ?_
 refine wpAnyH_ready (rs := [5,11]) qr (by simp) ?_
 refine AllReadyH.cons (o:=_) rfl (fun K hK=>?_) (AllReadyH.cons (o:=_) rfl (fun K hK=>?_) AllReadyH.nil)
 ·skip
  go_simp
  refine(qSM t q s p _).mono ?_;rintro e q1 ⟨rfl,hb⟩;have W2:=qh (W1.o.keep hb);clear hb W1
  refine qk ?_ (fun hHeld=>?_)
  ·exact W2.o.h1.four
  clear hK K
  refine wpAnyH_ready (rs := [6,11]) qr (by simp) ?_
  refine AllReadyH.cons (o:=_) rfl (fun K hK=>?_) (AllReadyH.cons (o:=_) rfl (fun K hK=>?_) AllReadyH.nil)
  ·skip
   go_simp
   refine(vGetA hn _ W2.o.at_).mono ?_;rintro e q2 ⟨rfl,h1,h2⟩;have W3:=qh (W2.o.call h1 h2);clear h1 h2 W2;rw[HV.o]
   refine qk ?_ (fun hHeld=>?_)
   ·exact W3.o.h1.four
   clear hK K
   refine wpAnyH_ready (rs := [7,11]) qr (by simp) ?_
   refine AllReadyH.cons (o:=_) rfl (fun K hK=>?_) (AllReadyH.cons (o:=_) rfl (fun K hK=>?_) AllReadyH.nil)
   ·skip
    go_simp
    refine(qMJ v k l c ok hv32 HI.o _).mono ?_;rintro e q3 ⟨rfl,hb⟩;have W4:=qh (W3.o.keep hb);clear hb W3
    refine qk ?_ (fun hHeld=>?_)
    ·exact W4.o.h1.four
    clear hK K
    refine RYy ?_
    refine rdz 11 fun K hK=>?_
    go_simp
    have W5:=qh (W4.o.new 90 #[.int .i64 0,.int .i64 0,.int .i64 0])
    clear W4
    generalize hwq4:(q3).alloc (.cells #[.int .i64 0,.int .i64 0,.int .i64 0] 90)=q4 at W5 ⊢
    clear hwq4
    refine qk ?_ (fun hHeld=>?_)
    ·exact W5.o.h2.four
    clear hK K
    exact MLz
   ·skip
    go_simp
    have W4:=qh (W3.o.new 90 #[.int .i64 0,.int .i64 0,.int .i64 0])
    clear W3
    generalize hwq5:(q2).alloc (.cells #[.int .i64 0,.int .i64 0,.int .i64 0] 90)=q5 at W4 ⊢
    clear hwq5
    refine qk ?_ (fun hHeld=>?_)
    ·exact W4.o.h2.four
    clear hK K
    refine rdz 7 fun K hK=>?_
    go_simp
    refine(qMJ v k l c ok hv32 HI.o _).mono ?_;rintro e q6 ⟨rfl,hb⟩;have W5:=qh (W4.o.keep hb);clear hb W4
    exact MGE
  ·skip
   go_simp
   have W3:=qh (W2.o.new 90 #[.int .i64 0,.int .i64 0,.int .i64 0])
   clear W2
   generalize hwq7:(q1).alloc (.cells #[.int .i64 0,.int .i64 0,.int .i64 0] 90)=q7 at W3 ⊢
   clear hwq7
   refine qk ?_ (fun hHeld=>?_)
   ·exact W3.o.h2.four
   clear hK K
   refine rdz 6 fun K hK=>?_
   go_simp
   refine(vGetA hn _ W3.o.at_).mono ?_;rintro e q8 ⟨rfl,h1,h2⟩;have W4:=qh (W3.o.call h1 h2);clear h1 h2 W3;rw[HV.o]
   refine qk ?_ (fun hHeld=>?_)
   ·exact W4.o.h2.four
   clear hK K
   refine rdz 7 fun K hK=>?_
   go_simp
   refine(qMJ v k l c ok hv32 HI.o _).mono ?_;rintro e q9 ⟨rfl,hb⟩;have W5:=qh (W4.o.keep hb);clear hb W4
   exact MGE
 ·skip
  go_simp
  have W2:=qh (W1.o.new 90 #[.int .i64 0,.int .i64 0,.int .i64 0])
  clear W1
  generalize hwq10:(q0).alloc (.cells #[.int .i64 0,.int .i64 0,.int .i64 0] 90)=q10 at W2 ⊢
  clear hwq10
  refine qk ?_ (fun hHeld=>?_)
  ·exact W2.o.h2.four
  clear hK K
  refine rdz 5 fun K hK=>?_
  go_simp
  refine(qSM t q s p _).mono ?_;rintro e q11 ⟨rfl,hb⟩;have W3:=qh (W2.o.keep hb);clear hb W2
  refine qk ?_ (fun hHeld=>?_)
  ·exact W3.o.h2.four
  clear hK K
  refine rdz 6 fun K hK=>?_
  go_simp
  refine(vGetA hn _ W3.o.at_).mono ?_;rintro e q12 ⟨rfl,h1,h2⟩;have W4:=qh (W3.o.call h1 h2);clear h1 h2 W3;rw[HV.o]
  refine qk ?_ (fun hHeld=>?_)
  ·exact W4.o.h2.four
  clear hK K
  refine rdz 7 fun K hK=>?_
  go_simp
  refine(qMJ v k l c ok hv32 HI.o _).mono ?_;rintro e q13 ⟨rfl,hb⟩;have W5:=qh (W4.o.keep hb);clear hb W4
  exact MGE
end
end
end Go.Proofs.YtgifnhcknodekaaGreat
