/-
  The document's rule 9. Written by doc12/gen_counts.py.
-/
import Derived.Test.YtjjfcaliippgpaaGreatDoorX12
import Derived.Test.YtjjfcaliippgpaaGreatDoorX05
import Derived.Test.YtjjfcaliippgpaaGreatDoorX14
import Derived.Test.YtjjfcaliippgpaaGreatDoorX06
import Derived.Deep.AppendLies
namespace Go.Proofs.YtjjfcaliippgpaaGreatDoor
theorem Rq3 {P Q:Prop}(kq:Q)(h:HQ Q->P:=by
 intro kq
 rw[AuH.slotsTo_succ,qHW,HSP.o i,qKz,<- HYY.o]
 exact kq.o):P:=h ⟨kq⟩
theorem R5J {P Q:Prop}(kq:Q)(h:HQ Q->P:=by
 intro kq
 go_at_call 59
 refine(qVC HV ad hlt _ (HVL.o.below HB2.o)).mono ?_
 rintro e w3 ⟨rfl,hb3⟩
 rw[HSV.o]
 have HB3:=qh (Bgo HB2.o hb3)
 have HX3:=qh (HX2.o.keep hb3)
 clear hb3
 revert w3 HB3 HX3
 exact kq.o):P:=h ⟨kq⟩
theorem RlZ {P Q:Prop}(kq:Q)(h:HQ Q->P:=by
 intro kq
 go_at_call 128
 refine(qTN sv hs32 _).mono ?_
 rintro e w4 ⟨rfl,rfl⟩
 rw[HON.o]
 exact kq.o):P:=h ⟨kq⟩
theorem Rj2 {P Q:Prop}(kq:Q)(h:HQ Q->P:=by
 intro kq
 go_at_call 46
 refine(HATI.o _).mono ?_
 rintro e w2 ⟨rfl,hb2⟩
 have HB2:=qh (Bgo HB.o hb2)
 have HX2:=qh (HX.o.keep hb2)
 have HO2:=qh (qEc HO.o hb2)
 clear hb2
 obtain⟨c0,c1,c2,c3⟩:=HX2.o.four
 revert w2 HB2 HX2 HO2 c0 c1 c2 c3
 exact kq.o):P:=h ⟨kq⟩
theorem RN4 {P Q:Prop}(kq:Q)(h:HQ Q->P:=by
 intro kq
 go_at_call 176
 refine(qXi HV ad hq _ (HVL.o.below HB2.o)).mono ?_
 rintro e w3 ⟨rfl,hb3⟩
 rw[HTV.o]
 have HB3:=qh (Bgo HB2.o hb3)
 have HX3:=qh (HX2.o.keep hb3)
 have HO3:=qh (qEc HO2.o hb3)
 clear hb3
 obtain⟨c0,c1,c2,c3⟩:=HX3.o.four
 revert w3 HB3 HX3 HO3 c0 c1 c2 c3
 exact kq.o):P:=h ⟨kq⟩
theorem RNt {P Q:Prop}(kq:Q)(h:HQ Q->P:=by
 intro kq
 go_at_call 59
 refine(qVC HV ad hq _ (HVL.o.below HB3.o)).mono ?_
 rintro e w4 ⟨rfl,hb4⟩
 rw[HSV.o]
 have HB4:=qh (Bgo HB3.o hb4)
 have HX4:=qh (HX3.o.keep hb4)
 have HO4:=qh (qEc HO3.o hb4)
 clear hb4
 obtain⟨c0,c1,c2,c3⟩:=HX4.o.four
 have hb4s:=HX4.o.lt
 revert w4 HB4 HX4 HO4 c0 c1 c2 c3 hb4s
 exact kq.o):P:=h ⟨kq⟩
theorem RgI {P Q:Prop}(kq:Q)(h:HQ Q->P:=by
 intro kq
 go_at_call 71
 refine(HPG.o _).mono ?_
 rintro e w2 ⟨rfl,hb2⟩
 have HB2:=qh (Bgo HB.o hb2)
 have HX2:=qh (HX.o.keep hb2)
 have HO2:=qh (qEc HO.o hb2)
 clear hb2
 obtain⟨c0,c1,c2,c3⟩:=HX2.o.four
 revert w2 HB2 HX2 HO2 c0 c1 c2 c3
 exact kq.o):P:=h ⟨kq⟩
theorem MWT {P:Prop}(h:P:=by
 have hB:=qWw (t:=t) (p:=(q:Int)) (s:=s) (i:=i) (o:=o) qo
 have HA:=qh (qZ3 hB)
 have HB:=qh hB
 clear hr hg hb hB
 go_enter Tryz.func93,Tryz.ntmps93
 go_wp2_with fail
 refine(qDP t q s _).mono ?_
 exact MDg):P:=h
theorem M8e {P:Prop}(h:P:=by
 go_roundw
 case rel=>exact⟨p+1,H.freeF p+f,H.liveF p+v,qo,by go_num,by have h:=HFR.o;simp only[h];first|rfl|(congr 1;omega),by have h:=HLI.o;simp only[h];first|rfl|(congr 1;omega),qh (by have:=HSF.o;show AuH.sumTo H.freeF p+H.freeF p=_;omega),qh (by have:=HSL.o;show AuH.sumTo H.liveF p+H.liveF p=_;omega),HX3,HB3⟩
 case measure=>simp[intOf];omega):P:=h
theorem MDg {P:Prop}(h:P:=by
 rintro e w1 ⟨rfl,hb1⟩
 rw[HR.o]
 have hc1:=hc.keep hb1
 obtain⟨x0,x1,x2⟩:=hc1.three
 exact MF4):P:=h
theorem M1X {P:Prop}(h:P:=by
 (try dsimp only)
 exact MFk):P:=h
theorem MFk {P:Prop}(h:P:=by (first|exact⟨c3.1,c3.2.1,c3.2.2⟩|go_keep|exact⟨hst _ _ (by assumption),hst _ _ (by assumption),hst _ _ (by assumption)⟩)):P:=h
theorem M6r {P:Prop}(h:P:=by
  (try dsimp only)
  first|exact HX2.o.drew.four|exact HX3.o.four|exact HX4.o.four|exact hHeld):P:=h
theorem MF4 {P:Prop}(h:P:=by
 go_wp2
 go_ret2
 refine⟨by rw[HA.o,HB.o];rfl,?_⟩
 all_goals exact blz):P:=h
end Go.Proofs.YtjjfcaliippgpaaGreatDoor
set_option linter.unusedVariables false
set_option linter.unusedSimpArgs false
set_option maxRecDepth 100000
set_option maxHeartbeats 25600000
namespace Go.Proofs.YtjjfcaliippgpaaGreatDoor
open Go.ChangeShapes Go.WideShapes Go.ChangeAt Go.RowKit Go.Shelf
section
theorem qBB {H:AuH}{n c:Nat}(HV:HeapV H n c)(h5:H.R5)(ad:Addr)(b:Bool)(hb:b=true↔H.R9)(w:World)(hv:IsVals w ad n H.V) :
  Calls Tryz.prog 147 #[hpV H ad n c] w fun e w'=>e = .returned (.bool b)/\Below w.heap.size w w':=by
 have HVL:=qh hv
 have HX0:=qh (Held.new w 114 #[.int .i64 (H.t:Int),.int .i64 (H.p:Int),.int .i64 (H.s:Int),.slice (some ad) n c])
 obtain⟨c0,c1,c2,c3⟩:=HX0.o.four
 have HBW:=qh (Bnew (B0 w) (.cells #[.int .i64 (H.t:Int),.int .i64 (H.p:Int),.int .i64 (H.s:Int),.slice (some ad) n c] 114))
 have hn:=HV.nums
 have hcx:c<=9223372036854775807:=hn.2.2.2.2.2.2.2.2
 have hni:n<=6238:=hn.2.2.2.2.2.2.1
 have hnc:=HV.cap
 have hp1:=hn.2.2.2.1
 have hn30:30<=n:=by have:=HV.len;omega
 have HBC:=qh hb
 have HR5:=qh h5
 clear hv hn hb h5
 unfold hpV
 go_enter Tryz.func147,Tryz.ntmps147
 go_wp2_with fail
 go_loopw [3,4,5] (fun u3 u4 u5 wr=>∃ (p f v:Nat),p<=H.p/\u5 = .int .i64 (p:Int)/\u3 = .int .i64 (f:Int)/\u4 = .int .i64 (v:Int)/\qH (AuH.sumTo H.freeF p=f)/\qH (AuH.sumTo H.liveF p=v)/\qH (Held wr w.heap.size 114 #[.int .i64 (H.t:Int),.int .i64 (H.p:Int),.int .i64 (H.s:Int),.slice (some ad) n c])/\qH (Below w.heap.size w wr)) (fun _ _ u5 _=>H.p-(intOf u5).toNat)
 case atStart=>exact⟨0,0,0,qo,rfl,rfl,rfl,qh rfl,qh rfl,HX0,HBW⟩
 case round =>
  clear c0 c1 c2 c3 HX0 HBW
  obtain⟨p,f,v,hp,rfl,rfl,rfl,HSF,HSL,HX,HB⟩:=hrel
  obtain⟨c0,c1,c2,c3⟩:=HX.o.four
  have hsum:=AuH.sums_le (H:=H) p qo
  rw[HSF.o,HSL.o] at hsum
  obtain⟨hf,hl⟩:=hsum
  by_cases hlt:p<H.p
  ·refine RKO ?_;intro t0 HVR
   have h4:=HR5.o p hlt
   obtain⟨sv,hsv⟩:∃ v,H.cel p 4=v:=⟨_,rfl⟩
   have HSV:=qh hsv
   have hs32:=HV.cel_lt hlt (show 4<6 by omega)
   rw[hsv] at hs32
   obtain⟨o,ho⟩:∃ o,HM.onesTo sv 32=o:=⟨_,rfl⟩
   have HON:=qh ho
   have ho32:o<=32:=by rw[<- ho];exact HM.onesTo_le _ _
   refine ROE ?_;intro hkc kk hkk m hmm cl hcl HK HM HCL
   have hff:H.freeF p=if kk=1 then m else 0:=by unfold AuH.freeF;rw[hkk,hmm]
   have hlf:H.liveF p=if kk=2 then 1 else if kk=3 then o else 0:=by unfold AuH.liveF;rw[hkk,hsv,ho]
   have ho0:kk≠3->o=0:=fun h=>by
    have:=(h4.2 (by rw[hkk];exact h)).2
    rw[<- ho,<- hsv,this]
    decide
   rw[hkk,hmm,hcl] at hkc
   clear ho hsv
   rcases(by omega:kk=0\/kk=1\/kk=2\/kk=3) with hk|hk|hk|hk
   ·have HFR:qH (H.freeF p=0):=qh (by rw[hff,if_neg qo])
    have HLI:qH (H.liveF p=0):=qh (by rw[hlf,if_neg qo,if_neg qo])
    have hoz:=ho0 qo
    subst hoz
    have s1:IntKind.i64.wrap ((v:Int)+((0:Nat):Int))=(v:Int):=by rw[qIv qo qo];omega
    clear hff hlf ho0
    subst hk
    clear hkc h4 hkk hmm hcl
    go_wp2_with (first
     | (go_at_call 149;refine(qMU HV ad hlt _ HVR.o).mono ?_;rintro e w2 ⟨rfl,hb2⟩;rw[HK.o,HM.o,HCL.o];have HB2:=qh (Bnew (Bgo HB.o hb2) (.cells #[.int .i64 0,.int .i64 (m:Int),.int .i64 cl] 119));have HX2:=qh ((HX.o.keep hb2).alloc (.cells #[.int .i64 0,.int .i64 (m:Int),.int .i64 cl] 119));clear hb2 c0 c1 c2 c3;obtain⟨c0,c1,c2,c3⟩:=HX2.o.four;obtain⟨d0,d1,d2⟩:=(Held.new w2 119 #[.int .i64 0,.int .i64 (m:Int),.int .i64 cl]).three)
     | (refine R5J ?_;intro w3 HB3 HX3)
     | (refine RlZ ?_)
     | fail)
    exact M8e
   ·have HFR:qH (H.freeF p=m):=qh (by rw[hff,if_pos hk])
    have HLI:qH (H.liveF p=0):=qh (by rw[hlf,if_neg qo,if_neg qo])
    have hoz:=ho0 qo
    subst hoz
    have hmb:m<=1024:=qo
    have s0:IntKind.i64.wrap ((f:Int)+(m:Int))=((m+f:Nat):Int):=by rw[qIv qo qo];omega
    have s1:IntKind.i64.wrap ((v:Int)+((0:Nat):Int))=(v:Int):=by rw[qIv qo qo];omega
    clear hff hlf ho0
    subst hk
    clear hkc h4 hkk hmm hcl
    go_wp2_with (first
     | (go_at_call 149;refine(qMU HV ad hlt _ HVR.o).mono ?_;rintro e w2 ⟨rfl,hb2⟩;rw[HK.o,HM.o,HCL.o];have HB2:=qh (Bnew (Bgo HB.o hb2) (.cells #[.int .i64 1,.int .i64 (m:Int),.int .i64 cl] 119));have HX2:=qh ((HX.o.keep hb2).alloc (.cells #[.int .i64 1,.int .i64 (m:Int),.int .i64 cl] 119));clear hb2 c0 c1 c2 c3;obtain⟨c0,c1,c2,c3⟩:=HX2.o.four;obtain⟨d0,d1,d2⟩:=(Held.new w2 119 #[.int .i64 1,.int .i64 (m:Int),.int .i64 cl]).three)
     | (refine R5J ?_;intro w3 HB3 HX3)
     | (refine RlZ ?_)
     | fail)
    exact M8e
   ·have HFR:qH (H.freeF p=0):=qh (by rw[hff,if_neg qo])
    have HLI:qH (H.liveF p=1):=qh (by rw[hlf,if_pos qo])
    have hoz:=ho0 qo
    subst hoz
    have s0:IntKind.i64.wrap ((v:Int)+1)=((1+v:Nat):Int):=by rw[qIv qo qo];omega
    have s1:IntKind.i64.wrap (((1+v:Nat):Int)+((0:Nat):Int))=((1+v:Nat):Int):=by rw[qIv qo qo];omega
    clear hff hlf ho0
    subst hk
    clear hkc h4 hkk hmm hcl
    go_wp2_with (first
     | (go_at_call 149;refine(qMU HV ad hlt _ HVR.o).mono ?_;rintro e w2 ⟨rfl,hb2⟩;rw[HK.o,HM.o,HCL.o];have HB2:=qh (Bnew (Bgo HB.o hb2) (.cells #[.int .i64 2,.int .i64 (m:Int),.int .i64 cl] 119));have HX2:=qh ((HX.o.keep hb2).alloc (.cells #[.int .i64 2,.int .i64 (m:Int),.int .i64 cl] 119));clear hb2 c0 c1 c2 c3;obtain⟨c0,c1,c2,c3⟩:=HX2.o.four;obtain⟨d0,d1,d2⟩:=(Held.new w2 119 #[.int .i64 2,.int .i64 (m:Int),.int .i64 cl]).three)
     | (refine R5J ?_;intro w3 HB3 HX3)
     | (refine RlZ ?_)
     | fail)
    exact M8e
   ·have HFR:qH (H.freeF p=0):=qh (by rw[hff,if_neg qo])
    have HLI:qH (H.liveF p=o):=qh (by rw[hlf,if_neg qo,if_pos hk])
    have s1:IntKind.i64.wrap ((v:Int)+(o:Int))=((o+v:Nat):Int):=by rw[qIv qo qo];omega
    clear hff hlf ho0
    subst hk
    clear hkc h4 hkk hmm hcl
    go_wp2_with (first
     | (go_at_call 149;refine(qMU HV ad hlt _ HVR.o).mono ?_;rintro e w2 ⟨rfl,hb2⟩;rw[HK.o,HM.o,HCL.o];have HB2:=qh (Bnew (Bgo HB.o hb2) (.cells #[.int .i64 3,.int .i64 (m:Int),.int .i64 cl] 119));have HX2:=qh ((HX.o.keep hb2).alloc (.cells #[.int .i64 3,.int .i64 (m:Int),.int .i64 cl] 119));clear hb2 c0 c1 c2 c3;obtain⟨c0,c1,c2,c3⟩:=HX2.o.four;obtain⟨d0,d1,d2⟩:=(Held.new w2 119 #[.int .i64 3,.int .i64 (m:Int),.int .i64 cl]).three)
     | (refine R5J ?_;intro w3 HB3 HX3)
     | (refine RlZ ?_)
     | fail)
    exact M8e
  ·have t0:decide ((p:Int)<H.p)=false:=qf
   have hpe:p=H.p:=qo
   have HVR:=qh (HVL.o.below HB.o)
   have e0:=HVR.o.2 0 qo
   have e1:=HVR.o.2 1 qo
   have e0z:ad.add 0=ad:=by simp[Addr.add]
   rw[e0z] at e0
   have i0:(0:Int)<n:=qo
   have i1:(1:Int)<n:=qo
   have hv0:=HV.lt 0 qo
   have hv1:=HV.lt 1 qo
   have HR:qH (H.R9↔H.V 0=f/\H.V 1=v):=qh (by
    have h1:=HSF.o
    have h2:=HSL.o
    rw[hpe] at h1 h2
    unfold AuH.R9
    rw[h1,h2,Nat.mod_eq_of_lt qo,Nat.mod_eq_of_lt qo])
   obtain⟨x0,hx0⟩:∃ x,H.V 0=x:=⟨_,rfl⟩
   obtain⟨x1,hx1⟩:∃ x,H.V 1=x:=⟨_,rfl⟩
   rw[hx0] at e0 hv0 HR
   rw[hx1] at e1 hv1 HR
   have e1b:wr.cell? { block:=ad.block,off:=ad.off+1 }=some (.int .u32 (x1:Int)):=e1
   have u0:IntKind.u32.wrap (f:Int)=(f:Int):=qTt _ qo
   have u1:IntKind.u32.wrap (v:Int)=(v:Int):=qTt _ qo
   clear hpe hx0 hx1
   by_cases g0:x0=f
   ·have q0:((x0:Int)==(f:Int))=true:=qs
    have q1:((x1:Int)==(v:Int))=b:=by
     have h:=HBC.o
     rw[HR.o] at h
     by_cases g1:x1=v
     ·rw[qPA h ⟨g0,g1⟩];simp;omega
     ·rw[qE5 h (fun h=>g1 h.2)];simp;omega
    clear g0
    go_wp2_with fail
    go_ret
    exact⟨rfl,HB.o⟩
   ·have q0:((x0:Int)==(f:Int))=false:=qs
    have HBF:qH (b=false):=qh (qE5 HBC.o (fun h=>g0 (HR.o.1 h).1))
    clear g0
    go_wp2_with fail
    go_ret
    exact⟨by rw[HBF.o];rfl,HB.o⟩
end
section
theorem qWw {t p s i o:Int}(h:¬ (rightB t p s=true/\(0<=i/\i<p)/\0<=o/\o<(pageN t p s:Int))):addrB t p s i o=false:=by
 cases hb:addrB t p s i o
 ·rfl
 ·exact absurd (qRw hb) h
theorem qF7 {t p s a:Int}(h:¬ ((pageN t p s:Int)<=a/\a-pageN t p s<(bytesN t p s:Int))):spotB t p s a=false:=by unfold spotB;rw[decide_eq_false_iff_not];exact h

theorem qNN (t p s i o:Int)(w:World) :
  Calls Tryz.prog 93 #[.agg #[.int .i64 t,.int .i64 p,.int .i64 s],.int .i64 i,.int .i64 o] w fun e w'=>e = .returned (.tuple #[.int .i64 (addrI t p s i o),.bool (addrB t p s i o)])/\Below w.heap.size w w':=by
 have hc:=Held.new w 23 #[.int .i64 t,.int .i64 p,.int .i64 s]
 cases hr:rightB t p s
 ·have HR:=qh hr
  have hB:addrB t p s i o=false:=by unfold addrB;rw[hr];rfl
  have HA:=qh (qZ3 hB)
  have HB:=qh hB
  clear hr hB
  go_enter Tryz.func93,Tryz.ntmps93
  go_wp2_with fail
  refine(qDP t p s _).mono ?_
  exact MDg
 ·have HR:=qh hr
  obtain⟨g,q,hg,rfl,hb,q1,q2,g1,g2,-,-,-,qg⟩:=qNo hr
  by_cases c1:i<0
  ·exact MWT
  ·by_cases c2:(q:Int)<=i
   ·exact MWT
   ·by_cases c3:o<0
    ·exact MWT
    ·by_cases c4:(g:Int)<=o
     ·have hB:=qWw (t:=t) (p:=(q:Int)) (s:=s) (i:=i) (o:=o) (by rw[hg];omega)
      have HA:=qh (qZ3 hB)
      have HB:=qh hB
      have HG:=qh hg
      clear hr hg hb hB
      go_enter Tryz.func93,Tryz.ntmps93
      go_wp2_with fail
      refine(qDP t q s _).mono ?_
      rintro e w1 ⟨rfl,hb1⟩
      rw[HR.o]
      have hc1:=hc.keep hb1
      obtain⟨x0,x1,x2⟩:=hc1.three
      go_wp2_with fail
      refine(qQQ t q s _).mono ?_
      rintro e w2 ⟨rfl,hb2⟩
      rw[HG.o]
      clear x0 x1 x2
      obtain⟨x0,x1,x2⟩:=(hc1.keep hb2).three
      exact MF4
     ·have hB:addrB t q s i o=true:=by unfold addrB;rw[hr,hg,Bool.true_and,decide_eq_true_iff];omega
      have hA:addrI t q s i o=(i+1)*(g:Int)+o:=by unfold addrI;rw[if_pos hB,hg]
      have hm:=qF1 (i:=i) (q:=(q:Int)) (g:=(g:Int)) qo qo qo
      have hqg:((q*g:Nat):Int)=(q:Int)*(g:Int):=by push_cast;rfl
      rw[<- hqg] at hm
      obtain⟨y,hy⟩:∃ y,(i+1)*(g:Int)=y:=⟨_,rfl⟩
      rw[hy] at hA hm
      obtain⟨y1,y2⟩:=hm
      have y3:y<=1073741824:=qo
      have HA:=qh hA
      have HB:=qh hB
      have HG:=qh hg
      clear hr hg hb hB hA hqg y2
      go_enter Tryz.func93,Tryz.ntmps93
      go_wp2_with fail
      refine(qDP t q s _).mono ?_
      rintro e w1 ⟨rfl,hb1⟩
      rw[HR.o]
      have hc1:=hc.keep hb1
      obtain⟨x0,x1,x2⟩:=hc1.three
      go_wp2_with fail
      refine(qQQ t q s _).mono ?_
      rintro e w2 ⟨rfl,hb2⟩
      rw[HG.o]
      clear x0 x1 x2
      obtain⟨x0,x1,x2⟩:=(hc1.keep hb2).three
      go_wp2_with fail
      refine(qQQ t q s _).mono ?_
      rintro e w3 ⟨rfl,hb3⟩
      rw[HG.o]
      exact MF4

theorem qYR (t p s a:Int)(hr:rightB t p s=false)(w:World) :
  Calls Tryz.prog 73 #[.agg #[.int .i64 t,.int .i64 p,.int .i64 s],.int .i64 a] w fun e w'=>e = .returned (.tuple #[.int .i64 (spotP t p s a),.int .i64 (spotO t p s a),.bool (spotB t p s a)])/\Below w.heap.size w w':=by
 have hc:=Held.new w 23 #[.int .i64 t,.int .i64 p,.int .i64 s]
 have HR:=qh hr
 have hB:spotB t p s a=false:=by
  cases hb:spotB t p s a
  ·rfl
  ·rw[qG1 hb] at hr;cases hr
 obtain⟨z1,z2⟩:=qXE hB
 have HB:=qh hB
 have HP:=qh z1
 have HO:=qh z2
 clear hr hB z1 z2
 go_enter Tryz.func73,Tryz.ntmps73
 go_wp2_with fail
 have c3:=hc.three
 refine wp_region_held_drew (S:=(fun w'=>w'.cell? ⟨w.heap.size,0,none⟩=some (.int .i64 t)/\w'.cell? ⟨w.heap.size,1,none⟩=some (.int .i64 p)/\w'.cell? ⟨w.heap.size,2,none⟩=some (.int .i64 s))) qr ?_ (fun hHeld=>?_)
 ·exact M1X
 refine tkz 0 ?_
 refine rdz 1 fun K hK=>?_
 go_simp
 (go_at_call 109;refine(qDP t p s _).mono ?_;rintro e w1 ⟨rfl,hb1⟩;rw[HR.o];have hst:=qE1 hb1)
 refine qk ?_ (fun hHeld=>?_)
 ·exact MFk
 clear hK K
 refine tkz 2 ?_
 refine tkz 3 ?_
 refine skz 4 ?_
 refine skz 5 ?_
 refine tkz 6 ?_
 refine tkz 7 ?_
 refine skz 8 ?_
 refine skz 9 ?_
 refine skz 10 ?_
 refine skz 11 ?_
 refine skz 12 ?_
 refine tkz 13 ?_
 refine tkz 14 ?_
 refine skz 15 ?_
 refine skz 16 ?_
 refine skz 17 ?_
 refine skz 18 ?_
 refine skz 19 ?_
 refine skz 20 ?_
 refine skz 21 ?_
 refine tkz 22 ?_
 refine dnz ?_
 go_wp2
 refine bodyPost_ret (v := .tuple #[.int .i64 0,.int .i64 0,.bool false]) (by simp[results,Tryz.results73,go_sem]) rfl ⟨?_,?_⟩
 ·rw[HP.o,HO.o,HB.o]
 all_goals exact blz

theorem qMp (t p s a:Int)(hr:rightB t p s=true)(ha:a<0)(w:World) :
  Calls Tryz.prog 73 #[.agg #[.int .i64 t,.int .i64 p,.int .i64 s],.int .i64 a] w fun e w'=>e = .returned (.tuple #[.int .i64 (spotP t p s a),.int .i64 (spotO t p s a),.bool (spotB t p s a)])/\Below w.heap.size w w':=by
 have hc:=Held.new w 23 #[.int .i64 t,.int .i64 p,.int .i64 s]
 have HR:=qh hr
 have hB:spotB t p s a=false:=qF7 qo
 obtain⟨z1,z2⟩:=qXE hB
 have HB:=qh hB
 have HP:=qh z1
 have HO:=qh z2
 have q0:decide (a<0)=true:=by simpa using ha
 clear hr hB z1 z2
 go_enter Tryz.func73,Tryz.ntmps73
 go_wp2_with fail
 have c3:=hc.three
 refine wp_region_held_drew (S:=(fun w'=>w'.cell? ⟨w.heap.size,0,none⟩=some (.int .i64 t)/\w'.cell? ⟨w.heap.size,1,none⟩=some (.int .i64 p)/\w'.cell? ⟨w.heap.size,2,none⟩=some (.int .i64 s))) qr ?_ (fun hHeld=>?_)
 ·exact M1X
 refine tkz 0 ?_
 refine rdz 1 fun K hK=>?_
 go_simp
 (go_at_call 109;refine(qDP t p s _).mono ?_;rintro e w1 ⟨rfl,hb1⟩;rw[HR.o];have hst:=qE1 hb1)
 refine qk ?_ (fun hHeld=>?_)
 ·exact MFk
 clear hK K
 refine tkz 2 ?_
 refine tkz 3 ?_
 refine tkz 4 ?_
 refine tkz 5 ?_
 refine tkz 6 ?_
 refine tkz 7 ?_
 refine skz 8 ?_
 refine skz 9 ?_
 refine skz 10 ?_
 refine skz 11 ?_
 refine skz 12 ?_
 refine tkz 13 ?_
 refine tkz 14 ?_
 refine skz 15 ?_
 refine skz 16 ?_
 refine skz 17 ?_
 refine skz 18 ?_
 refine skz 19 ?_
 refine skz 20 ?_
 refine skz 21 ?_
 refine tkz 22 ?_
 refine dnz ?_
 go_wp2
 refine bodyPost_ret (v := .tuple #[.int .i64 0,.int .i64 0,.bool false]) (by simp[results,Tryz.results73,go_sem]) rfl ⟨?_,?_⟩
 ·rw[HP.o,HO.o,HB.o]
 all_goals exact blz

theorem qXc {t p s a:Int}(hr:rightB t p s=true)(ha:0<=a)(ha1:a<=9223372036854775807):∃ (g q:Nat) (d m:Int),pageN t p s=g/\p=q/\a.tdiv (g:Int)=d/\a.tmod (g:Int)=m/\0<=d/\d<=a/\0<=m/\m<(g:Int)/\1024<=g/\g<=1048576/\4<=q/\q<=1024 /\
  spotB t p s a=decide (1<=d/\d<=(q:Int))/\(spotB t p s a=true->spotP t p s a=d-1/\spotO t p s a=m):=by
 obtain⟨g,q,hg,rfl,hb,q1,q2,g1,g2,-,-,-,qg⟩:=qNo hr
 refine⟨g,q,a / (g:Int),a%(g:Int),hg,rfl,Int.tdiv_eq_ediv_of_nonneg qo,Int.tmod_eq_emod_of_nonneg qo,Int.ediv_nonneg qo qo,Int.ediv_le_self _ qo,
  Int.emod_nonneg _ qo,Int.emod_lt_of_pos _ qo,g1,g2,q1,q2,?_,fun h=>⟨by unfold spotP;rw[if_pos h,hg],by unfold spotO;rw[if_pos h,hg]⟩⟩
 have hqg:((q*g:Nat):Int)=(q:Int)*(g:Int):=by push_cast;rfl
 unfold spotB
 rw[hg,hb,hqg,decide_eq_decide]
 have e1:1<=a / (g:Int)↔(g:Int)<=a:=by rw[Int.le_ediv_iff_mul_le qo];omega
 have e2:a / (g:Int)<(q:Int)+1↔a<((q:Int)+1)*g:=Int.ediv_lt_iff_lt_mul qo
 rw[Int.add_mul] at e2
 omega

theorem qWn (t s a d m:Int)(g q:Nat)(h0:0<=a)(h1:a<=9223372036854775807)(hr:rightB t q s=true)(hg:pageN t q s=g)(hd:a.tdiv (g:Int)=d)(hm:a.tmod (g:Int)=m)(d0:0<=d)(d1:d<=a)(m0:0<=m)(m1:m<(g:Int))(g1:1024<=g)(g2:g<=1048576)(q1:4<=q)(q2:q<=1024)(hB:spotB t q s a=false)(hx:d<1)(w:World) :
  Calls Tryz.prog 73 #[.agg #[.int .i64 t,.int .i64 (q:Int),.int .i64 s],.int .i64 a] w fun e w'=>e = .returned (.tuple #[.int .i64 (spotP t q s a),.int .i64 (spotO t q s a),.bool (spotB t q s a)])/\Below w.heap.size w w':=by
 have hc:=Held.new w 23 #[.int .i64 t,.int .i64 (q:Int),.int .i64 s]
 have HR:=qh hr
 have HG:=qh hg
 have g3:¬ g=0:=qo
 have g4:((g:Int)==0)=false:=qs
 have a1:decide (a<0)=false:=by simpa using h0
 have dw:IntKind.i64.wrap d=d:=qIv qo qo
 obtain⟨z1,z2⟩:=qXE hB
 have HB:=qh hB
 have HP:=qh z1
 have HO:=qh z2
 have q3:decide (d<1)=true:=by simpa using hx
 clear hB z1 z2
 clear hr hg
 go_enter Tryz.func73,Tryz.ntmps73
 go_wp2_with fail
 have c3:=hc.three
 refine wp_region_held_drew (S:=(fun w'=>w'.cell? ⟨w.heap.size,0,none⟩=some (.int .i64 t)/\w'.cell? ⟨w.heap.size,1,none⟩=some (.int .i64 (q:Int))/\w'.cell? ⟨w.heap.size,2,none⟩=some (.int .i64 s))) qr ?_ (fun hHeld=>?_)
 ·exact M1X
 refine tkz 0 ?_
 refine rdz 1 fun K hK=>?_
 go_simp
 (go_at_call 109;refine(qDP t q s _).mono ?_;rintro e w1 ⟨rfl,hb1⟩;rw[HR.o];have hst:=qE1 hb1)
 refine qk ?_ (fun hHeld=>?_)
 ·exact MFk
 clear hK K
 refine tkz 2 ?_
 refine tkz 3 ?_
 refine tkz 4 ?_
 refine tkz 5 ?_
 refine tkz 6 ?_
 refine tkz 7 ?_
 refine tkz 8 ?_
 refine tkz 9 ?_
 refine rdz 10 fun K hK=>?_
 go_simp
 (go_at_call 71;refine(qQQ t q s _).mono ?_;rintro e w2 ⟨rfl,hb2⟩;rw[HG.o];clear hst;have hst:=qE1 hb2)
 refine qk ?_ (fun hHeld=>?_)
 ·exact MFk
 clear hK K
 refine tkz 11 ?_
 refine tkz 12 ?_
 refine tkz 13 ?_
 refine tkz 14 ?_
 refine skz 15 ?_
 refine skz 16 ?_
 refine skz 17 ?_
 refine skz 18 ?_
 refine skz 19 ?_
 refine skz 20 ?_
 refine skz 21 ?_
 refine tkz 22 ?_
 refine dnz ?_
 go_wp2
 refine bodyPost_ret (v := .tuple #[.int .i64 0,.int .i64 0,.bool false]) (by simp[results,Tryz.results73,go_sem]) rfl ⟨?_,?_⟩
 ·rw[HP.o,HO.o,HB.o]
 all_goals exact blz

theorem qPH (t s a d m:Int)(g q:Nat)(h0:0<=a)(h1:a<=9223372036854775807)(hr:rightB t q s=true)(hg:pageN t q s=g)(hd:a.tdiv (g:Int)=d)(hm:a.tmod (g:Int)=m)(d0:0<=d)(d1:d<=a)(m0:0<=m)(m1:m<(g:Int))(g1:1024<=g)(g2:g<=1048576)(q1:4<=q)(q2:q<=1024)(hB:spotB t q s a=false)(hx:1<=d)(hy:(q:Int)<d)(w:World) :
  Calls Tryz.prog 73 #[.agg #[.int .i64 t,.int .i64 (q:Int),.int .i64 s],.int .i64 a] w fun e w'=>e = .returned (.tuple #[.int .i64 (spotP t q s a),.int .i64 (spotO t q s a),.bool (spotB t q s a)])/\Below w.heap.size w w':=by
 have hc:=Held.new w 23 #[.int .i64 t,.int .i64 (q:Int),.int .i64 s]
 have HR:=qh hr
 have HG:=qh hg
 have g3:¬ g=0:=qo
 have g4:((g:Int)==0)=false:=qs
 have a1:decide (a<0)=false:=by simpa using h0
 have dw:IntKind.i64.wrap d=d:=qIv qo qo
 obtain⟨z1,z2⟩:=qXE hB
 have HB:=qh hB
 have HP:=qh z1
 have HO:=qh z2
 have q3:decide (d<1)=false:=qs
 have q4:decide ((q:Int)<d)=true:=by simpa using hy
 clear hB z1 z2
 clear hr hg
 go_enter Tryz.func73,Tryz.ntmps73
 go_wp2_with fail
 have c3:=hc.three
 refine wp_region_held_drew (S:=(fun w'=>w'.cell? ⟨w.heap.size,0,none⟩=some (.int .i64 t)/\w'.cell? ⟨w.heap.size,1,none⟩=some (.int .i64 (q:Int))/\w'.cell? ⟨w.heap.size,2,none⟩=some (.int .i64 s))) qr ?_ (fun hHeld=>?_)
 ·exact M1X
 refine tkz 0 ?_
 refine rdz 1 fun K hK=>?_
 go_simp
 (go_at_call 109;refine(qDP t q s _).mono ?_;rintro e w1 ⟨rfl,hb1⟩;rw[HR.o];have hst:=qE1 hb1)
 refine qk ?_ (fun hHeld=>?_)
 ·exact MFk
 clear hK K
 refine tkz 2 ?_
 refine tkz 3 ?_
 refine tkz 4 ?_
 refine tkz 5 ?_
 refine tkz 6 ?_
 refine tkz 7 ?_
 refine tkz 8 ?_
 refine tkz 9 ?_
 refine rdz 10 fun K hK=>?_
 go_simp
 (go_at_call 71;refine(qQQ t q s _).mono ?_;rintro e w2 ⟨rfl,hb2⟩;rw[HG.o];clear hst;have hst:=qE1 hb2)
 refine qk ?_ (fun hHeld=>?_)
 ·exact MFk
 clear hK K
 refine tkz 11 ?_
 refine tkz 12 ?_
 refine tkz 13 ?_
 refine tkz 14 ?_
 refine tkz 15 ?_
 refine tkz 16 ?_
 refine tkz 19 ?_
 refine tkz 20 ?_
 refine rdz 17 fun K hK=>?_
 go_simp
 (go_at_call 71;refine(qQQ t q s _).mono ?_;rintro e w3 ⟨rfl,hb3⟩;rw[HG.o];clear hst;have hst:=qE1 hb3)
 refine qk ?_ (fun hHeld=>?_)
 ·exact MFk
 clear hK K
 refine tkz 18 ?_
 refine tkz 21 ?_
 refine tkz 22 ?_
 refine dnz ?_
 go_wp2
 refine bodyPost_ret (v := .tuple #[.int .i64 0,.int .i64 0,.bool false]) (by simp[results,Tryz.results73,go_sem]) rfl ⟨?_,?_⟩
 ·rw[HP.o,HO.o,HB.o]
 all_goals exact blz

theorem qDp (t s a d m:Int)(g q:Nat)(h0:0<=a)(h1:a<=9223372036854775807)(hr:rightB t q s=true)(hg:pageN t q s=g)(hd:a.tdiv (g:Int)=d)(hm:a.tmod (g:Int)=m)(d0:0<=d)(d1:d<=a)(m0:0<=m)(m1:m<(g:Int))(g1:1024<=g)(g2:g<=1048576)(q1:4<=q)(q2:q<=1024)(hB:spotB t q s a=true)(hP:spotP t q s a=d-1)(hO:spotO t q s a=m)(hx:1<=d)(hy:d<=(q:Int))(w:World) :
  Calls Tryz.prog 73 #[.agg #[.int .i64 t,.int .i64 (q:Int),.int .i64 s],.int .i64 a] w fun e w'=>e = .returned (.tuple #[.int .i64 (spotP t q s a),.int .i64 (spotO t q s a),.bool (spotB t q s a)])/\Below w.heap.size w w':=by
 have hc:=Held.new w 23 #[.int .i64 t,.int .i64 (q:Int),.int .i64 s]
 have HR:=qh hr
 have HG:=qh hg
 have g3:¬ g=0:=qo
 have g4:((g:Int)==0)=false:=qs
 have a1:decide (a<0)=false:=by simpa using h0
 have dw:IntKind.i64.wrap d=d:=qIv qo qo
 have dw2:IntKind.i64.wrap (d-1)=d-1:=qIv qo qo
 have q3:decide (d<1)=false:=qs
 have q4:decide ((q:Int)<d)=false:=qs
 have HB:=qh hB
 have HP:=qh hP
 have HO:=qh hO
 clear hr hg hB hP hO
 go_enter Tryz.func73,Tryz.ntmps73
 go_wp2_with fail
 have c3:=hc.three
 refine wp_region_held_drew (S:=(fun w'=>w'.cell? ⟨w.heap.size,0,none⟩=some (.int .i64 t)/\w'.cell? ⟨w.heap.size,1,none⟩=some (.int .i64 (q:Int))/\w'.cell? ⟨w.heap.size,2,none⟩=some (.int .i64 s))) qr ?_ (fun hHeld=>?_)
 ·exact M1X
 refine tkz 0 ?_
 refine rdz 1 fun K hK=>?_
 go_simp
 (go_at_call 109;refine(qDP t q s _).mono ?_;rintro e w1 ⟨rfl,hb1⟩;rw[HR.o];have hst:=qE1 hb1)
 refine qk ?_ (fun hHeld=>?_)
 ·exact MFk
 clear hK K
 refine tkz 2 ?_
 refine tkz 3 ?_
 refine tkz 4 ?_
 refine tkz 5 ?_
 refine tkz 6 ?_
 refine tkz 7 ?_
 refine tkz 8 ?_
 refine tkz 9 ?_
 refine rdz 10 fun K hK=>?_
 go_simp
 (go_at_call 71;refine(qQQ t q s _).mono ?_;rintro e w2 ⟨rfl,hb2⟩;rw[HG.o];clear hst;have hst:=qE1 hb2)
 refine qk ?_ (fun hHeld=>?_)
 ·exact MFk
 clear hK K
 refine tkz 11 ?_
 refine tkz 12 ?_
 refine tkz 13 ?_
 refine tkz 14 ?_
 refine tkz 15 ?_
 refine tkz 16 ?_
 refine tkz 19 ?_
 refine tkz 20 ?_
 refine rdz 17 fun K hK=>?_
 go_simp
 (go_at_call 71;refine(qQQ t q s _).mono ?_;rintro e w3 ⟨rfl,hb3⟩;rw[HG.o];clear hst;have hst:=qE1 hb3)
 refine qk ?_ (fun hHeld=>?_)
 ·exact MFk
 clear hK K
 refine tkz 18 ?_
 refine tkz 21 ?_
 refine tkz 22 ?_
 refine dnz ?_
 go_wp2_with fail
 go_region_held3 (fun w'=>w'.cell? ⟨w.heap.size,0,none⟩=some (.int .i64 t)/\w'.cell? ⟨w.heap.size,1,none⟩=some (.int .i64 (q:Int))/\w'.cell? ⟨w.heap.size,2,none⟩=some (.int .i64 s))
  (first|exact⟨c3.1,c3.2.1,c3.2.2⟩|go_keep|exact⟨hst _ _ (by assumption),hst _ _ (by assumption),hst _ _ (by assumption)⟩)
  (first
   | (go_at_call 71;refine(qQQ t q s _).mono ?_;rintro e w' ⟨rfl,hbl⟩;rw[HG.o];have hst:=qE1 hbl))
 all_goals
  go_wp2
  refine bodyPost_ret (v := .tuple #[.int .i64 (d-1),.int .i64 m,.bool true]) (by simp[results,Tryz.results73,go_sem]) rfl ⟨?_,?_⟩
  ·rw[HP.o,HO.o,HB.o]
  all_goals exact blz

theorem qRm (t p s a:Int)(h0 : -9223372036854775808<=a)(h1:a<=9223372036854775807)(w:World) :
  Calls Tryz.prog 73 #[.agg #[.int .i64 t,.int .i64 p,.int .i64 s],.int .i64 a] w fun e w'=>e = .returned (.tuple #[.int .i64 (spotP t p s a),.int .i64 (spotO t p s a),.bool (spotB t p s a)])/\Below w.heap.size w w':=by
 cases hr:rightB t p s
 ·exact qYR t p s a hr w
 ·by_cases ha:a<0
  ·exact qMp t p s a hr ha w
  ·obtain⟨g,q,d,m,hg,rfl,hd,hm,d0,d1,m0,m1,g1,g2,q1,q2,hB,hPO⟩:=qXc hr (show 0<=a by omega) h1
   by_cases hx:d<1
   ·have hB2:spotB t q s a=false:=by rw[hB,decide_eq_false_iff_not];omega
    exact qWn t s a d m g q qo h1 hr hg hd hm d0 d1 m0 m1 g1 g2 q1 q2 hB2 hx w
   ·by_cases hy:(q:Int)<d
    ·have hB2:spotB t q s a=false:=by rw[hB,decide_eq_false_iff_not];omega
     exact qPH t s a d m g q qo h1 hr hg hd hm d0 d1 m0 m1 g1 g2 q1 q2 hB2 qo hy w
    ·have hB2:spotB t q s a=true:=by rw[hB,decide_eq_true_iff];omega
     exact qDp t s a d m g q qo h1 hr hg hd hm d0 d1 m0 m1 g1 g2 q1 q2 hB2 (hPO hB2).1 (hPO hB2).2 qo qo w
end
section
theorem qJf (t p s k o:Int)(hk0 : -9223372036854775808<=k)(hk1:k<=9223372036854775807)(w:World) :
  Calls Tryz.prog 74 #[.agg #[.int .i64 t,.int .i64 p,.int .i64 s],.int .i64 k,.int .i64 o] w fun e w'=>e = .returned (.tuple #[.int .i64 (slotR t p s k o),.bool (slotB t p s k o)])/\Below w.heap.size w w':=by
 have hc:=Held.new w 23 #[.int .i64 t,.int .i64 p,.int .i64 s]
 cases hr:rightB t p s
 ·have HR:=qh hr
  have hB:slotB t p s k o=false:=by unfold slotB;rw[hr];rfl
  have HZ:=qh (qMc hB)
  have HB:=qh hB
  clear hr hB
  go_enter Tryz.func74,Tryz.ntmps74
  go_wp2_with fail
  refine RBB ?_;intro w1 hb1
  go_wp2
  go_ret2
  refine⟨by rw[HZ.o,HB.o];rfl,?_⟩
  all_goals exact blz
 ·obtain⟨z,hz⟩:∃ z,sizeN s k=z:=⟨_,rfl⟩
  obtain⟨n,hn⟩:∃ n,slotI k=n:=⟨_,rfl⟩
  have hz2:=hz ▸ qHU s k
  have hn2:=hn ▸ qWU k
  have HR:=qh hr
  have HZ:=qh hz
  have HN:=qh hn
  have HAT:=qh (fun (i:Nat) (hi:i<n) (h:o=(i:Int)*(z:Int))=>qF9 (k:=k) (o:=o) hr i (hn ▸ hi) (hz ▸ h))
  have HNO:=qh (fun (h:∀ i:Nat,i<n->o≠(i:Int)*(z:Int))=>qMR (t:=t) (p:=p) (s:=s) (k:=k) (o:=o) (fun i hi=>hz ▸ h i (hn ▸ hi)))
  clear hr hz hn
  go_enter Tryz.func74,Tryz.ntmps74
  go_wp2_with fail
  refine RBB ?_;intro w1 hb1
  have hc1:=hc.keep hb1
  go_wp2_with fail
  have HC:=qh hc1
  have HBL:qH (Below w.heap.size w w1):=qh (Bgo (Bnew (B0 _) _) hb1)
  clear hc hc1 hb1
  go_loopw [8] (fun i wr=>∃ j:Nat,j<=n/\i = .int .i64 j/\(∀ l:Nat,l<j->o≠(l:Int)*(z:Int))/\Held wr w.heap.size 23 #[.int .i64 t,.int .i64 p,.int .i64 s]/\Below w.heap.size w wr) (fun i _=>32-(intOf i).toNat)
  case atStart=>exact⟨0,qo,rfl,fun l hl=>absurd hl qo,HC.o,HBL.o⟩
  case round =>
   obtain⟨j,hj,rfl,hall,hh,hb⟩:=hrel
   have HA:=qh hall
   have HH:=qh hh
   have HB:=qh hb
   clear hall hh hb
   by_cases hlt:j<n
   ·have h3:(j:Int)*(z:Int)<=32*1048576:=Int.mul_le_mul qo qo qo qo
    have h4:0<=(j:Int)*(z:Int):=Int.mul_nonneg qo qo
    obtain⟨y,hy⟩:∃ y,(j:Int)*(z:Int)=y:=⟨_,rfl⟩
    rw[hy] at h3 h4
    have HY:=qh hy
    by_cases hoy:o=y
    ·subst hoy
     have HR2:=qh (HAT.o j hlt HY.o.symm)
     go_wp2_with fail
     refine(qML k hk0 hk1 _).mono ?_
     rintro e w2 ⟨rfl,rfl⟩
     rw[HN.o]
     obtain⟨x0,x1,x2⟩:=HH.o.three
     go_wp2_with fail
     refine(qBj s k hk0 hk1 _).mono ?_
     rintro e w3 ⟨rfl,hb3⟩
     rw[HZ.o]
     go_wp2
     go_ret2
     refine⟨by rw[HR2.o.1,HR2.o.2];rfl,Bgo HB.o hb3⟩
    ·have t1:(o==y)=false:=by simpa using hoy
     go_wp2_with fail
     refine(qML k hk0 hk1 _).mono ?_
     rintro e w2 ⟨rfl,rfl⟩
     rw[HN.o]
     obtain⟨x0,x1,x2⟩:=HH.o.three
     go_wp2_with fail
     refine(qBj s k hk0 hk1 _).mono ?_
     rintro e w3 ⟨rfl,hb3⟩
     rw[HZ.o]
     go_wp2
     go_roundw
     case rel =>
      refine⟨j+1,qo,by go_num,fun l hl=>?_,HH.o.keep hb3,Bgo HB.o hb3⟩
      rcases Nat.lt_or_ge l j with h|h
      ·exact HA.o l h
      ·obtain rfl:l=j:=qo
       rw[HY.o];exact hoy
     case measure=>simp[intOf];omega
   ·obtain rfl:j=n:=qo
    have HB2:=qh (HNO.o HA.o)
    have HZ2:=qh (qMc HB2.o)
    go_wp2_with fail
    refine(qML k hk0 hk1 _).mono ?_
    rintro e w2 ⟨rfl,rfl⟩
    rw[HN.o]
    go_wp2
    go_ret2
    exact⟨by rw[HZ2.o,HB2.o];rfl,HB.o⟩

theorem qD4 (t p s k i j:Int)(hk0 : -9223372036854775808<=k)(hk1:k<=9223372036854775807)(w:World) :
  Calls Tryz.prog 46 #[.agg #[.int .i64 t,.int .i64 p,.int .i64 s],.int .i64 k,.int .i64 i,.int .i64 j] w fun e w'=>e = .returned (.tuple #[.int .i64 (atI t p s k i j),.bool (atB t p s k i j)])/\Below w.heap.size w w':=by
 have hc:=Held.new w 23 #[.int .i64 t,.int .i64 p,.int .i64 s]
 obtain⟨n,hn⟩:∃ n,slotI k=n:=⟨_,rfl⟩
 have hn2:=hn ▸ qWU k
 have HN:=qh hn
 by_cases c1:j<0
 ·refine RQf ?_;intro HB
  clear hn
  go_enter Tryz.func46,Tryz.ntmps46
  exact M8V
 ·by_cases c2:j<(n:Int)
  ·refine RLK ?_;intro z hz hz2 h3 h4 hA y hy
   rw[hy] at h3 h4 hA
   have HA:=qh hA
   have HY:=qh hy
   have HZ:=qh hz
   have HWR:=qh (qIv (x:=y) qo qo)
   clear hz hy hA hn
   go_enter Tryz.func46,Tryz.ntmps46
   go_wp2_with fail
   refine(qML k hk0 hk1 _).mono ?_
   rintro e w1 ⟨rfl,rfl⟩
   rw[HN.o]
   have c3:=hc.three
   go_wp2_with fail
   go_region_held3 (fun w'=>w'.cell? ⟨w.heap.size,0,none⟩=some (.int .i64 t)/\w'.cell? ⟨w.heap.size,1,none⟩=some (.int .i64 p)/\w'.cell? ⟨w.heap.size,2,none⟩=some (.int .i64 s))
    (first|exact⟨c3.1,c3.2.1,c3.2.2⟩|go_keep|exact⟨hst _ _ (by assumption),hst _ _ (by assumption),hst _ _ (by assumption)⟩)
    (first
     | (go_at_call 28;refine(qBj s k hk0 hk1 _).mono ?_;rintro e w' ⟨rfl,hbl⟩;rw[HZ.o];have hst:=qE1 hbl)
     | (go_at_call 93;rw[HY.o,HWR.o];refine(qNN t p s i y _).mono ?_;rintro e w'' ⟨rfl,hbl2⟩;have hst:=qE1 hbl2))
   go_wp2
   go_ret2
   refine⟨by rw[HA.o.1,HA.o.2];rfl,?_⟩
   all_goals exact blz
  ·refine RQf ?_;intro HB
   clear hn
   go_enter Tryz.func46,Tryz.ntmps46
   go_wp2_with fail
   refine(qML k hk0 hk1 _).mono ?_
   exact MxG
end
section
theorem qNa {H:AuH}{n c:Nat}(HV:HeapV H n c)(ad:Addr){q:Nat}(hq:q<H.p)(hk:H.K q=3)(w:World)(hv:IsVals w ad n H.V) :
    Calls Tryz.prog 150 #[hpV H ad n c,.int .i64 (q:Int),.int .i64 (H.Cl q)] w fun e w'=>∃ u,e = .returned u/\w'.ownsRow w.heap.size 128 3 u (H.partsAt q).length (ptVs (H.partsAt q))/\Below w.heap.size w w':=by
  have HVL:=qh hv
  have hs:=HV.nums
  have hg:=qMQ HV
  have hf:=qFR HV hq
  have hkc:=H.K_cases q
  have hcl:0<=H.Cl q/\H.Cl q<=8:=qo
  have hsf:0<sizeN (H.s:Int) (H.Cl q)/\slotI (H.Cl q)*sizeN (H.s:Int) (H.Cl q)<=H.pg:=by
    obtain⟨kc,hkc2⟩:∃ kc:Nat,H.Cl q=kc:=⟨(H.Cl q).toNat,qo⟩
    have:=qRy (s:=(H.s:Int)) qo (k:=kc) qo
    rw[hg.2.2.1,hkc2,qPN]
    refine⟨?_,by have h:=this.2.2.1;rwa [Nat.mul_comm] at h⟩
    have h:=this
    omega
  have hz16:sizeN (H.s:Int) (H.Cl q)<=1048576:=qHU _ _
  have hpa:H.partsAt q=H.slotsTo q (H.sl q)++H.slack q:=by unfold AuH.partsAt;rw[if_neg qo,if_neg qo,if_pos hk]
  have hs32':=qWU (H.Cl q)
  have hslk:H.slack q=if H.sl q*H.zs q<H.pg then [(5,H.first q+((H.sl q*H.zs q:Nat):Int),(H.pg:Int)-((H.sl q*H.zs q:Nat):Int))] else []:=rfl
  have hsp:∀ i:Nat,H.slotPart q i=(((slotKd (H.cel q 5) (H.cel q 4) i:Nat):Int),H.first q+(i:Int)*(H.zs q:Int),(H.zs q:Int)):=fun i=>rfl
  have hsl:H.sl q=slotI (H.Cl q):=rfl
  have hzs:H.zs q=sizeN (H.s:Int) (H.Cl q):=rfl
  rw[hsl,hzs] at hslk
  rw[hsl] at hpa
  rw[hzs] at hsp
  have hOF:∀ o:Nat,o<H.pg->addrI H.t H.p H.s q o=H.first q+(o:Int)/\addrB H.t H.p H.s q o=true:=fun o ho=>by
    have hB:addrB H.t H.p H.s q o=true:=by unfold addrB;rw[HV.right,hg.2.2.2,Bool.true_and,decide_eq_true_iff];omega
    refine⟨?_,hB⟩
    unfold addrI
    rw[if_pos hB,hg.2.2.2]
    rfl
  have hAT:∀ i:Nat,i<slotI (H.Cl q)->∀ W:World,Calls Tryz.prog 46 #[(.agg #[.int .i64 (H.t:Int),.int .i64 (H.p:Int),.int .i64 (H.s:Int)]),.int .i64 (H.Cl q),.int .i64 (q:Int),.int .i64 (i:Int)] W fun e w'=>e = .returned (.tuple #[.int .i64 (H.first q+((i*sizeN (H.s:Int) (H.Cl q):Nat):Int)),.bool true])/\Below W.heap.size W w':=fun i hi W=>by
    have h1:(i+1)*sizeN (H.s:Int) (H.Cl q)<=slotI (H.Cl q)*sizeN (H.s:Int) (H.Cl q):=Nat.mul_le_mul_right _ hi
    rw[Nat.succ_mul] at h1
    have h2:=hOF (i*sizeN (H.s:Int) (H.Cl q)) qo
    have h3:((i*sizeN (H.s:Int) (H.Cl q):Nat):Int)=(i:Int)*(sizeN (H.s:Int) (H.Cl q):Int):=by push_cast;rfl
    rw[h3] at h2
    have hB:atB H.t H.p H.s (H.Cl q) q i=true:=by unfold atB;rw[h2.2,Bool.and_true,decide_eq_true_iff];omega
    have h:=qD4 H.t H.p H.s (H.Cl q) q i qo qo W
    rw[show atI H.t H.p H.s (H.Cl q) q i=H.first q+((i*sizeN (H.s:Int) (H.Cl q):Nat):Int) by unfold atI;rw[if_pos hB,h2.1,h3],hB] at h
    exact h
  obtain⟨tk,htk⟩:∃ tk,H.cel q 5=tk:=⟨_,rfl⟩
  obtain⟨sv,hsv⟩:∃ sv,H.cel q 4=sv:=⟨_,rfl⟩
  have HTV:=qh htk
  have HSV:=qh hsv
  have ht32:=HV.cel_lt hq (show 5<6 by omega)
  have hs32:=HV.cel_lt hq (show 4<6 by omega)
  rw[htk] at ht32
  rw[hsv] at hs32
  rw[htk,hsv] at hsp
  have HPA:=qh hpa
  have HSK:=qh hslk
  have HSP:=qh hsp
  have HAT:=qh hAT
  have HOF0:=qh hOF
  have HPG:qH (∀ W:World,Calls Tryz.prog 71 #[(.agg #[.int .i64 (H.t:Int),.int .i64 (H.p:Int),.int .i64 (H.s:Int)])] W fun e w'=>e = .returned (.int .i64 ((H.pg:Nat):Int))/\Below W.heap.size W w'):=qh (fun W=>by have h:=qQQ H.t H.p H.s W;rwa [hg.2.2.2] at h)
  have hfq:=hf.2.2
  obtain⟨fq,hfqq⟩:∃ fq,H.first q=fq:=⟨_,rfl⟩
  rw[hfqq] at hfq HAT HOF0 HSK HSP
  obtain⟨pg,hpg⟩:∃ pg,H.pg=pg:=⟨_,rfl⟩
  rw[hpg] at hg hsf HPG HSK HOF0
  obtain⟨m,hmm⟩:∃ m,slotI (H.Cl q)=m:=⟨_,rfl⟩
  have HSL:=qh hmm
  rw[hmm] at hsf hs32' HSK HAT HPA
  obtain⟨z,hzz⟩:∃ z,sizeN (H.s:Int) (H.Cl q)=z:=⟨_,rfl⟩
  have HZ:=qh hzz
  rw[hzz] at hsf hz16 HSK HAT HSP
  obtain⟨cl,hcll⟩:∃ k,H.Cl q=k:=⟨_,rfl⟩
  rw[hcll] at HSL HZ HAT hcl ⊢
  obtain⟨j0,hjn,hjz0,hjz1,hjz2⟩:=info_parts partInfo
  have hpgb:=hg.2.1
  obtain⟨hz0,hfit⟩:=hsf
  have HX0:=qh ((Held.new w 114 #[.int .i64 (H.t:Int),.int .i64 (H.p:Int),.int .i64 (H.s:Int),.slice (some ad) n c]).alloc (.cells #[] 128))
  obtain⟨c0,c1,c2,c3⟩:=HX0.o.four
  have HBW:=qh (Bnew (Bnew (B0 w) (.cells #[.int .i64 (H.t:Int),.int .i64 (H.p:Int),.int .i64 (H.s:Int),.slice (some ad) n c] 114)) (.cells #[] 128))
  have HOW:qH (((w.alloc (.cells #[.int .i64 (H.t:Int),.int .i64 (H.p:Int),.int .i64 (H.s:Int),.slice (some ad) n c] 114)).alloc (.cells #[] 128)).ownsRow (w.heap.size+1) 128 3 (.slice (some ⟨(w.alloc (.cells #[.int .i64 (H.t:Int),.int .i64 (H.p:Int),.int .i64 (H.s:Int),.slice (some ad) n c] 114)).heap.size,0,none⟩) 0 0) 0 []):=qh (World.ownsRow_lit (base:=(w.heap.size+1)) (e := 128) (size:=3) (w.alloc (.cells #[.int .i64 (H.t:Int),.int .i64 (H.p:Int),.int .i64 (H.s:Int),.slice (some ad) n c] 114)) #[] 0 (by simp) (by unfold maxLen;omega) rfl)
  rw[World.size_alloc] at HOW
  clear hv hf hkc hk hfqq hpg htk hsv hs hg hmm hzz hcll hpa hslk hsp hOF hAT hsl hzs
  unfold hpV
  go_enter Tryz.func150,Tryz.ntmps150
  go_wp2_with (first
    | (go_at_call 28;refine(qBj (H.s:Int) cl qo qo _).mono ?_;rintro e w2 ⟨rfl,hb2⟩;rw[HZ.o];have HB2:=qh (Bgo HBW.o hb2);have HX2:=qh (HX0.o.keep hb2);have HO2:=qh (qEc HOW.o hb2);clear hb2 c0 c1 c2 c3)
    | fail)
  go_loopw [7,9] (fun u7 u9 wr=>∃ (i:Nat),i<=m/\u9 = .int .i64 (i:Int)/\qH (wr.ownsRow (w.heap.size+1) 128 3 u7 i (ptVs (H.slotsTo q i)))/\qH (Held wr w.heap.size 114 #[.int .i64 (H.t:Int),.int .i64 (H.p:Int),.int .i64 (H.s:Int),.slice (some ad) n c])/\qH (Below w.heap.size w wr)) (fun _ u9 _=>m-(intOf u9).toNat)
  case atStart=>exact⟨0,qo,rfl,qh (by rw[show H.slotsTo q 0 = [] from rfl];exact HO2.o),HX2,HB2⟩
  case round =>
    clear HX2 HB2 HO2 HX0 HBW HOW
    obtain⟨i,hi,rfl,HO,HX,HB⟩:=hrel
    obtain⟨c0,c1,c2,c3⟩:=HX.o.four
    by_cases hlt:i<m
    · have t0:decide ((i:Int)<m)=true:=qt
      have t0n:decide (i<m)=true:=decide_eq_true hlt
      obtain⟨y,hy⟩:∃ y,fq+((i*z:Nat):Int)=y:=⟨_,rfl⟩
      have HATI:=qh (HAT.o i hlt)
      rw[hy] at HATI
      have HYY:qH (y=fq+(i:Int)*(z:Int)):=qh (by rw[<- hy];push_cast;rfl)
      obtain⟨bt,hbt⟩:∃ x,tk.testBit ((i:Int)).toNat=x:=⟨_,rfl⟩
      obtain⟨bl,hbl⟩:∃ x,sv.testBit ((i:Int)).toNat=x:=⟨_,rfl⟩
      have HBT:=qh hbt
      have HBL:=qh hbl
      have HBT1:qH (tk.testBit i=bt):=qh (by rw[<- hbt,Int.toNat_natCast])
      have HBL1:qH (sv.testBit i=bl):=qh (by rw[<- hbl,Int.toNat_natCast])
      have HT1:qH True:=qh trivial
      clear hbt hbl hy
      cases bt
      · cases bl
        · have HSN1:qH (ptVs (H.slotsTo q (i+1))=ptVs (H.slotsTo q i) ++ [.int .i64 3,.int .i64 y,.int .i64 (z:Int)]):=qh (by
            refine Rq3 ?_
            simp only[slotKd]
            rw[HBT1.o,HBL1.o]
            push_cast
            rfl)
          go_wp2_with (first
            | (refine RC9 ?_)
            | (refine Rj2 ?_;clear c0 c1 c2 c3;intro w2 HB2 HX2 HO2 c0 c1 c2 c3)
            | (refine RN4 ?_;clear c0 c1 c2 c3;intro w3 HB3 HX3 HO3 c0 c1 c2 c3)
            | (have hz9:=HT1.o;clear hz9 HT1;go_at_call 58;refine(qA0 tk (i:Int) false ht32 qo qo HBT.o _).mono ?_;rintro e w9 ⟨rfl,rfl⟩)
            | (refine RNt ?_;clear c0 c1 c2 c3;intro w4 HB4 HX4 HO4 c0 c1 c2 c3 hb4s)
            | (go_at_call 58;refine(qA0 sv (i:Int) false hs32 qo qo HBL.o _).mono ?_;rintro e w9 ⟨rfl,rfl⟩)
            | (at_builtin
               refine wpList_append_lies _ rfl _ _ 124 rfl (w.heap.size+1) 128 j0 (.agg #[.int .i64 0,.int .i64 0,.int .i64 0]) 3 24 Tryz.underlying124 hjn hjz0 hjz1 hjz2 rfl (by decide) u7 i (ptVs (H.slotsTo q i)) rfl (HO4.o.alloc _) ⟨_,0,none⟩ 1 1 [.int .i64 3,.int .i64 y,.int .i64 (z:Int)] rfl rfl ?c1 ?c2 qo ?c3 ?c4 ?c5 _ rfl ?_
               case c1=>exact fun jj yy hyy=>World.news_of_block (w:=w4.alloc (.cells #[.int .i64 3,.int .i64 y,.int .i64 (z:Int)] 128)) (heap_alloc_new w4 _) jj yy (by simpa using hyy)
               case c2=>simp[Value.oneCell']
               case c3=>unfold maxLen;omega
               case c4=>omega
               case c5=>simp;omega
               intro g cap w8 hown8 hgrow8 hat8 hlt8)
            | fail)
          have HX8:=qh (qLO (HX4.o.alloc (.cells #[.int .i64 3,.int .i64 y,.int .i64 (z:Int)] 128)) hgrow8 (fun e=>by have:=(HO4.o.lt _ e).1;omega))
          have HB8:=qh ((Bnew HB4.o (.cells #[.int .i64 3,.int .i64 y,.int .i64 (z:Int)] 128)).grown hgrow8 (by have:=HB4.o.size;simp;omega) (fun j hj=>by have:=(HO4.o.lt j hj).1;omega))
          have HO8:=qh hown8
          clear hown8 hgrow8 hat8 hlt8
          have HO9:qH (w8.ownsRow (w.heap.size+1) 128 3 (.slice (some ⟨g,0,none⟩) (i+1) cap) (i+1) (ptVs (H.slotsTo q (i+1)))):=qh (by rw[HSN1.o];exact HO8.o)
          clear HO8
          go_wp2_with fail
          go_roundw
          case rel=>exact⟨i+1,qo,by go_num,HO9,HX8,HB8⟩
          case measure=>simp[intOf];omega
        · have HSN1:qH (ptVs (H.slotsTo q (i+1))=ptVs (H.slotsTo q i) ++ [.int .i64 2,.int .i64 y,.int .i64 (z:Int)]):=qh (by
            refine Rq3 ?_
            simp only[slotKd]
            rw[HBT1.o,HBL1.o]
            push_cast
            rfl)
          go_wp2_with (first
            | (refine RC9 ?_)
            | (refine Rj2 ?_;clear c0 c1 c2 c3;intro w2 HB2 HX2 HO2 c0 c1 c2 c3)
            | (refine RN4 ?_;clear c0 c1 c2 c3;intro w3 HB3 HX3 HO3 c0 c1 c2 c3)
            | (have hz9:=HT1.o;clear hz9 HT1;go_at_call 58;refine(qA0 tk (i:Int) false ht32 qo qo HBT.o _).mono ?_;rintro e w9 ⟨rfl,rfl⟩)
            | (refine RNt ?_;clear c0 c1 c2 c3;intro w4 HB4 HX4 HO4 c0 c1 c2 c3 hb4s)
            | (go_at_call 58;refine(qA0 sv (i:Int) true hs32 qo qo HBL.o _).mono ?_;rintro e w9 ⟨rfl,rfl⟩)
            | (at_builtin
               refine wpList_append_lies _ rfl _ _ 124 rfl (w.heap.size+1) 128 j0 (.agg #[.int .i64 0,.int .i64 0,.int .i64 0]) 3 24 Tryz.underlying124 hjn hjz0 hjz1 hjz2 rfl (by decide) u7 i (ptVs (H.slotsTo q i)) rfl (HO4.o.alloc _) ⟨_,0,none⟩ 1 1 [.int .i64 2,.int .i64 y,.int .i64 (z:Int)] rfl rfl ?c1 ?c2 qo ?c3 ?c4 ?c5 _ rfl ?_
               case c1=>exact fun jj yy hyy=>World.news_of_block (w:=w4.alloc (.cells #[.int .i64 2,.int .i64 y,.int .i64 (z:Int)] 128)) (heap_alloc_new w4 _) jj yy (by simpa using hyy)
               case c2=>simp[Value.oneCell']
               case c3=>unfold maxLen;omega
               case c4=>omega
               case c5=>simp;omega
               intro g cap w8 hown8 hgrow8 hat8 hlt8)
            | fail)
          have HX8:=qh (qLO (HX4.o.alloc (.cells #[.int .i64 2,.int .i64 y,.int .i64 (z:Int)] 128)) hgrow8 (fun e=>by have:=(HO4.o.lt _ e).1;omega))
          have HB8:=qh ((Bnew HB4.o (.cells #[.int .i64 2,.int .i64 y,.int .i64 (z:Int)] 128)).grown hgrow8 (by have:=HB4.o.size;simp;omega) (fun j hj=>by have:=(HO4.o.lt j hj).1;omega))
          have HO8:=qh hown8
          clear hown8 hgrow8 hat8 hlt8
          have HO9:qH (w8.ownsRow (w.heap.size+1) 128 3 (.slice (some ⟨g,0,none⟩) (i+1) cap) (i+1) (ptVs (H.slotsTo q (i+1)))):=qh (by rw[HSN1.o];exact HO8.o)
          clear HO8
          go_wp2_with fail
          go_roundw
          case rel=>exact⟨i+1,qo,by go_num,HO9,HX8,HB8⟩
          case measure=>simp[intOf];omega
      · cases bl
        · have HSN1:qH (ptVs (H.slotsTo q (i+1))=ptVs (H.slotsTo q i) ++ [.int .i64 4,.int .i64 y,.int .i64 (z:Int)]):=qh (by
            refine Rq3 ?_
            simp only[slotKd]
            rw[HBT1.o,HBL1.o]
            push_cast
            rfl)
          go_wp2_with (first
            | (refine RC9 ?_)
            | (refine Rj2 ?_;clear c0 c1 c2 c3;intro w2 HB2 HX2 HO2 c0 c1 c2 c3)
            | (refine RN4 ?_;clear c0 c1 c2 c3;intro w3 HB3 HX3 HO3 c0 c1 c2 c3)
            | (have hz9:=HT1.o;clear hz9 HT1;go_at_call 58;refine(qA0 tk (i:Int) true ht32 qo qo HBT.o _).mono ?_;rintro e w9 ⟨rfl,rfl⟩)
            | (refine RNt ?_;clear c0 c1 c2 c3;intro w4 HB4 HX4 HO4 c0 c1 c2 c3 hb4s)
            | (go_at_call 58;refine(qA0 sv (i:Int) false hs32 qo qo HBL.o _).mono ?_;rintro e w9 ⟨rfl,rfl⟩)
            | (at_builtin
               refine wpList_append_lies _ rfl _ _ 124 rfl (w.heap.size+1) 128 j0 (.agg #[.int .i64 0,.int .i64 0,.int .i64 0]) 3 24 Tryz.underlying124 hjn hjz0 hjz1 hjz2 rfl (by decide) u7 i (ptVs (H.slotsTo q i)) rfl (HO4.o.alloc _) ⟨_,0,none⟩ 1 1 [.int .i64 4,.int .i64 y,.int .i64 (z:Int)] rfl rfl ?c1 ?c2 qo ?c3 ?c4 ?c5 _ rfl ?_
               case c1=>exact fun jj yy hyy=>World.news_of_block (w:=w4.alloc (.cells #[.int .i64 4,.int .i64 y,.int .i64 (z:Int)] 128)) (heap_alloc_new w4 _) jj yy (by simpa using hyy)
               case c2=>simp[Value.oneCell']
               case c3=>unfold maxLen;omega
               case c4=>omega
               case c5=>simp;omega
               intro g cap w8 hown8 hgrow8 hat8 hlt8)
            | fail)
          have HX8:=qh (qLO (HX4.o.alloc (.cells #[.int .i64 4,.int .i64 y,.int .i64 (z:Int)] 128)) hgrow8 (fun e=>by have:=(HO4.o.lt _ e).1;omega))
          have HB8:=qh ((Bnew HB4.o (.cells #[.int .i64 4,.int .i64 y,.int .i64 (z:Int)] 128)).grown hgrow8 (by have:=HB4.o.size;simp;omega) (fun j hj=>by have:=(HO4.o.lt j hj).1;omega))
          have HO8:=qh hown8
          clear hown8 hgrow8 hat8 hlt8
          have HO9:qH (w8.ownsRow (w.heap.size+1) 128 3 (.slice (some ⟨g,0,none⟩) (i+1) cap) (i+1) (ptVs (H.slotsTo q (i+1)))):=qh (by rw[HSN1.o];exact HO8.o)
          clear HO8
          go_wp2_with fail
          go_roundw
          case rel=>exact⟨i+1,qo,by go_num,HO9,HX8,HB8⟩
          case measure=>simp[intOf];omega
        · have HSN1:qH (ptVs (H.slotsTo q (i+1))=ptVs (H.slotsTo q i) ++ [.int .i64 2,.int .i64 y,.int .i64 (z:Int)]):=qh (by
            refine Rq3 ?_
            simp only[slotKd]
            rw[HBT1.o,HBL1.o]
            push_cast
            rfl)
          go_wp2_with (first
            | (refine RC9 ?_)
            | (refine Rj2 ?_;clear c0 c1 c2 c3;intro w2 HB2 HX2 HO2 c0 c1 c2 c3)
            | (refine RN4 ?_;clear c0 c1 c2 c3;intro w3 HB3 HX3 HO3 c0 c1 c2 c3)
            | (have hz9:=HT1.o;clear hz9 HT1;go_at_call 58;refine(qA0 tk (i:Int) true ht32 qo qo HBT.o _).mono ?_;rintro e w9 ⟨rfl,rfl⟩)
            | (refine RNt ?_;clear c0 c1 c2 c3;intro w4 HB4 HX4 HO4 c0 c1 c2 c3 hb4s)
            | (go_at_call 58;refine(qA0 sv (i:Int) true hs32 qo qo HBL.o _).mono ?_;rintro e w9 ⟨rfl,rfl⟩)
            | (at_builtin
               refine wpList_append_lies _ rfl _ _ 124 rfl (w.heap.size+1) 128 j0 (.agg #[.int .i64 0,.int .i64 0,.int .i64 0]) 3 24 Tryz.underlying124 hjn hjz0 hjz1 hjz2 rfl (by decide) u7 i (ptVs (H.slotsTo q i)) rfl (HO4.o.alloc _) ⟨_,0,none⟩ 1 1 [.int .i64 2,.int .i64 y,.int .i64 (z:Int)] rfl rfl ?c1 ?c2 qo ?c3 ?c4 ?c5 _ rfl ?_
               case c1=>exact fun jj yy hyy=>World.news_of_block (w:=w4.alloc (.cells #[.int .i64 2,.int .i64 y,.int .i64 (z:Int)] 128)) (heap_alloc_new w4 _) jj yy (by simpa using hyy)
               case c2=>simp[Value.oneCell']
               case c3=>unfold maxLen;omega
               case c4=>omega
               case c5=>simp;omega
               intro g cap w8 hown8 hgrow8 hat8 hlt8)
            | fail)
          have HX8:=qh (qLO (HX4.o.alloc (.cells #[.int .i64 2,.int .i64 y,.int .i64 (z:Int)] 128)) hgrow8 (fun e=>by have:=(HO4.o.lt _ e).1;omega))
          have HB8:=qh ((Bnew HB4.o (.cells #[.int .i64 2,.int .i64 y,.int .i64 (z:Int)] 128)).grown hgrow8 (by have:=HB4.o.size;simp;omega) (fun j hj=>by have:=(HO4.o.lt j hj).1;omega))
          have HO8:=qh hown8
          clear hown8 hgrow8 hat8 hlt8
          have HO9:qH (w8.ownsRow (w.heap.size+1) 128 3 (.slice (some ⟨g,0,none⟩) (i+1) cap) (i+1) (ptVs (H.slotsTo q (i+1)))):=qh (by rw[HSN1.o];exact HO8.o)
          clear HO8
          go_wp2_with fail
          go_roundw
          case rel=>exact⟨i+1,qo,by go_num,HO9,HX8,HB8⟩
          case measure=>simp[intOf];omega
    · have t0:decide ((i:Int)<m)=false:=qf
      have t0n:decide (i<m)=false:=decide_eq_false hlt
      have him:i=m:=qo
      subst him
      obtain⟨M,hM⟩:∃ M,i*z=M:=⟨_,rfl⟩
      rw[hM] at hfit HSK
      have hzm:(z:Int)*(i:Int)=(M:Int):=by rw[<- hM];push_cast;rw[Int.mul_comm]
      have sw1:IntKind.i64.wrap ((z:Int)*(i:Int))=(M:Int):=by rw[hzm];exact qIv qo qo
      obtain⟨r,hr⟩:∃ r:Int,(pg:Int)-(M:Int)=r:=⟨_,rfl⟩
      have sw2:IntKind.i64.wrap ((pg:Int)-(M:Int))=r:=by rw[qIv qo qo];exact hr
      have sw3:IntKind.i64.wrap ((pg:Int)-r)=(M:Int):=by rw[qIv qo qo];omega
      by_cases hMp:M<pg
      · have hrp:decide ((0:Int)<r)=true:=qt
        obtain⟨ye,hye⟩:∃ ye,fq+(M:Int)=ye:=⟨_,rfl⟩
        have HOF:qH (∀ W:World,Calls Tryz.prog 93 #[(.agg #[.int .i64 (H.t:Int),.int .i64 (H.p:Int),.int .i64 (H.s:Int)]),.int .i64 (q:Int),.int .i64 (M:Int)] W fun e w'=>e = .returned (.tuple #[.int .i64 ye,.bool true])/\Below W.heap.size W w'):=qh (fun W=>by
          have h:=qNN H.t H.p H.s q M W
          have h2:=HOF0.o M hMp
          rwa [h2.1,h2.2,hye] at h)
        have HPB:qH (H.partsAt q=H.slotsTo q i ++ [(5,ye,r)]):=qh (by rw[HPA.o,HSK.o,if_pos hMp,hr,hye])
        clear hzm hr hM hye hMp HAT
        go_wp2_with (first
          | (refine RC9 ?_)
          | (refine RgI ?_;clear c0 c1 c2 c3;intro w2 HB2 HX2 HO2 c0 c1 c2 c3)
          | fail)
        refine wp_region_held_drew (S:=(fun w'=>w'.cell? ⟨w.heap.size,0,none⟩=some (.int .i64 (H.t:Int))/\w'.cell? ⟨w.heap.size,1,none⟩=some (.int .i64 (H.p:Int))/\w'.cell? ⟨w.heap.size,2,none⟩=some (.int .i64 (H.s:Int))/\w'.cell? ⟨w.heap.size,3,none⟩=some (.slice (some ad) n c))) qr ?_ (fun hHeld=>?_)
        ·exact M6r
        refine tkz 0 ?_
        refine tkz 1 ?_
        refine tkz 2 ?_
        refine tkz 3 ?_
        refine tkz 4 ?_
        refine tkz 6 ?_
        refine rdz 5 fun K hK=>?_
        go_simp
        (go_at_call 71;refine(HPG.o _).mono ?_;rintro e w3 ⟨rfl,hb3⟩;have HB3:=qh (Bgo (Bdrew HB2.o) hb3);have HX3:=qh (HX2.o.drew.keep hb3);have HO3:=qh (qEc (w:=w2.drew) HO2.o hb3);clear hb3)
        refine hK.out _ _ ?_ (fun hHeld=>?_)
        ·exact M6r
        clear hK K
        (try simp only[Act.put,gA,gB,gC,sA,sB,sC])
        refine tkz 7 ?_
        refine rdz 8 fun K hK=>?_
        go_simp
        (go_at_call 93;refine(HOF.o _).mono ?_;rintro e w4 ⟨rfl,hb4⟩;have HB4:=qh (Bgo HB3.o hb4);have HX4:=qh (HX3.o.keep hb4);have HO4:=qh (qEc HO3.o hb4);clear hb4)
        refine hK.out _ _ ?_ (fun hHeld=>?_)
        ·exact M6r
        clear hK K
        (try simp only[Act.put,gA,gB,gC,sA,sB,sC])
        refine tkz 9 ?_
        refine tkz 10 ?_
        refine tkz 11 ?_
        refine tkz 12 ?_
        refine tkz 13 ?_
        refine dnz ?_
        have hb4s:=HX4.o.lt
        go_wp2_with (first
          | (at_builtin
             refine wpList_append_lies _ rfl _ _ 124 rfl (w.heap.size+1) 128 j0 (.agg #[.int .i64 0,.int .i64 0,.int .i64 0]) 3 24 Tryz.underlying124 hjn hjz0 hjz1 hjz2 rfl (by decide) u7 i (ptVs (H.slotsTo q i)) rfl (HO4.o.alloc _) ⟨_,0,none⟩ 1 1 [.int .i64 5,.int .i64 ye,.int .i64 r] rfl rfl ?c1 ?c2 qo ?c3 ?c4 ?c5 _ rfl ?_
             case c1=>exact fun jj yy hyy=>World.news_of_block (w:=w4.alloc (.cells #[.int .i64 5,.int .i64 ye,.int .i64 r] 128)) (heap_alloc_new w4 _) jj yy (by simpa using hyy)
             case c2=>simp[Value.oneCell']
             case c3=>unfold maxLen;omega
             case c4=>omega
             case c5=>simp;omega
             intro g cap w8 hown8 hgrow8 hat8 hlt8)
          | fail)
        have HX8:=qh (qLO (HX4.o.alloc (.cells #[.int .i64 5,.int .i64 ye,.int .i64 r] 128)) hgrow8 (fun e=>by have:=(HO4.o.lt _ e).1;omega))
        have HB8:=qh ((Bnew HB4.o (.cells #[.int .i64 5,.int .i64 ye,.int .i64 r] 128)).grown hgrow8 (by have:=HB4.o.size;simp;omega) (fun j hj=>by have:=(HO4.o.lt j hj).1;omega))
        have HO8:=qh hown8
        clear hown8 hgrow8 hat8 hlt8
        go_ret
        refine⟨_,rfl,qIX (base:=(w.heap.size+1)) ?_ qo,HB8.o⟩
        have e:(H.partsAt q).length=i+1:=by rw[HPB.o];simp[AuH.slotsTo_len]
        rw[e,HPB.o,qHW,qKz]
        exact HO8.o
      · have hrp:decide ((0:Int)<r)=false:=qf
        have HPB:qH (H.partsAt q=H.slotsTo q i):=qh (by rw[HPA.o,HSK.o,if_neg hMp,List.append_nil])
        clear hzm hr hM hMp HAT
        go_wp2_with (first
          | (refine RC9 ?_)
          | (refine RgI ?_;clear c0 c1 c2 c3;intro w2 HB2 HX2 HO2 c0 c1 c2 c3)
          | fail)
        go_ret
        refine⟨_,rfl,qIX (base:=(w.heap.size+1)) ?_ qo,HB2.o⟩
        have e:(H.partsAt q).length=i:=by rw[HPB.o,AuH.slotsTo_len]
        rw[e,HPB.o]
        exact HO2.o
end
end Go.Proofs.YtjjfcaliippgpaaGreatDoor
