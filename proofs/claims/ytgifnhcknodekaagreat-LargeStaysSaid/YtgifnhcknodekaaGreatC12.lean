/-
  The document's rule 9. Written by doc12/gen_counts.py.
-/
import Derived.Test.YtgifnhcknodekaaGreatC09
import Derived.Test.YtgifnhcknodekaaGreatC07
import Derived.Test.YtgifnhcknodekaaGreatC06
import Derived.Test.YtgifnhcknodekaaGreatC03
import Derived.RegionTactic
import Derived.ChangeAlike
import Derived.BigQuiet
import Derived.Test.YtgifnhcknodekaaGreatC11
import Derived.Deep.AppendLies
namespace Go.Proofs.YtgifnhcknodekaaGreat
theorem Rq3 {P Q:Prop}(kq:Q)(h:HQ Q->P:=by
 intro kq
 rw[AuH.slotsTo_succ,qHW,HSP.o i,qKz,<- HYY.o]
 exact kq.o):P:=h ⟨kq⟩
theorem R5J {P Q:Prop}(kq:Q)(h:HQ Q->P:=by
 intro kq
 go_at_call 93
 refine(qVC HV ad hlt _ (HVL.o.below HB2.o)).mono ?_
 rintro e w3 ⟨rfl,hb3⟩
 rw[HSV.o]
 have HB3:=qh (Bgo HB2.o hb3)
 have HX3:=qh (HX2.o.keep hb3)
 clear hb3
 revert w3 HB3 HX3
 exact kq.o):P:=h ⟨kq⟩
theorem RlZ {P Q:Prop}(kq:Q)(h:HQ Q->P:=by
 intro kq
 go_at_call 105
 refine(qTN sv hs32 _).mono ?_
 rintro e w4 ⟨rfl,rfl⟩
 rw[HON.o]
 exact kq.o):P:=h ⟨kq⟩
theorem Rj2 {P Q:Prop}(kq:Q)(h:HQ Q->P:=by
 intro kq
 go_at_call 155
 refine(HATI.o _).mono ?_
 rintro e w2 ⟨rfl,hb2⟩
 have HB2:=qh (Bgo HB.o hb2)
 have HX2:=qh (HX.o.keep hb2)
 have HO2:=qh (qEc HO.o hb2)
 clear hb2
 obtain⟨c0,c1,c2,c3⟩:=HX2.o.four
 revert w2 HB2 HX2 HO2 c0 c1 c2 c3
 exact kq.o):P:=h ⟨kq⟩
theorem RN4 {P Q:Prop}(kq:Q)(h:HQ Q->P:=by
 intro kq
 go_at_call 94
 refine(qXi HV ad hq _ (HVL.o.below HB2.o)).mono ?_
 rintro e w3 ⟨rfl,hb3⟩
 rw[HTV.o]
 have HB3:=qh (Bgo HB2.o hb3)
 have HX3:=qh (HX2.o.keep hb3)
 have HO3:=qh (qEc HO2.o hb3)
 clear hb3
 obtain⟨c0,c1,c2,c3⟩:=HX3.o.four
 revert w3 HB3 HX3 HO3 c0 c1 c2 c3
 exact kq.o):P:=h ⟨kq⟩
theorem RNt {P Q:Prop}(kq:Q)(h:HQ Q->P:=by
 intro kq
 go_at_call 93
 refine(qVC HV ad hq _ (HVL.o.below HB3.o)).mono ?_
 rintro e w4 ⟨rfl,hb4⟩
 rw[HSV.o]
 have HB4:=qh (Bgo HB3.o hb4)
 have HX4:=qh (HX3.o.keep hb4)
 have HO4:=qh (qEc HO3.o hb4)
 clear hb4
 obtain⟨c0,c1,c2,c3⟩:=HX4.o.four
 have hb4s:=HX4.o.lt
 revert w4 HB4 HX4 HO4 c0 c1 c2 c3 hb4s
 exact kq.o):P:=h ⟨kq⟩
theorem RgI {P Q:Prop}(kq:Q)(h:HQ Q->P:=by
 intro kq
 go_at_call 147
 refine(HPG.o _).mono ?_
 rintro e w2 ⟨rfl,hb2⟩
 have HB2:=qh (Bgo HB.o hb2)
 have HX2:=qh (HX.o.keep hb2)
 have HO2:=qh (qEc HO.o hb2)
 clear hb2
 obtain⟨c0,c1,c2,c3⟩:=HX2.o.four
 revert w2 HB2 HX2 HO2 c0 c1 c2 c3
 exact kq.o):P:=h ⟨kq⟩
theorem Rh9 {P Q:Prop}(kq:Q)(h:HQ Q->P:=by
 intro kq
 go_at_call 146
 refine(HOF.o _).mono ?_
 rintro e w4 ⟨rfl,hb4⟩
 have HB4:=qh (Bgo HB3.o hb4)
 have HX4:=qh (HX3.o.keep hb4)
 have HO4:=qh (qEc HO3.o hb4)
 have HI4:=qh (HI3.o.keep hb4)
 clear hb4
 obtain⟨c0,c1,c2,c3⟩:=HX4.o.four
 obtain⟨d0,d1,d2⟩:=HI4.o.three
 revert w4 HB4 HX4 HO4 HI4 c0 c1 c2 c3 d0 d1 d2
 exact kq.o):P:=h ⟨kq⟩
theorem MWT {P:Prop}(h:P:=by
 have hB:=qWw (t:=t) (p:=(q:Int)) (s:=s) (i:=i) (o:=o) qo
 have HA:=qh (qZ3 hB)
 have HB:=qh hB
 clear hr hg hb hB
 go_enter Tryz.func146,Tryz.ntmps146
 go_wp2_with fail
 refine(qDP t q s _).mono ?_
 exact MDg):P:=h
theorem M8e {P:Prop}(h:P:=by
 go_roundw
 case rel=>exact⟨p+1,H.freeF p+f,H.liveF p+v,qo,by go_num,by have h:=HFR.o;simp only[h];first|rfl|(congr 1;omega),by have h:=HLI.o;simp only[h];first|rfl|(congr 1;omega),qh (by have:=HSF.o;show AuH.sumTo H.freeF p+H.freeF p=_;omega),qh (by have:=HSL.o;show AuH.sumTo H.liveF p+H.liveF p=_;omega),HX3,HB3⟩
 case measure=>simp[intOf];omega):P:=h
theorem M03 {P:Prop}(h:P:=by
  (try dsimp only)
  first|exact HSH.o _ HX4.o.drew HI4.o.drew|exact HSH.o _ HX5.o HI5.o|exact HSH.o _ (HX5.o.alloc _) (HI5.o.alloc _)|exact HSH.o _ HX8.o HI8.o|exact hHeld):P:=h
theorem MDg {P:Prop}(h:P:=by
 refine RPH ?_;intro w1 hb1 hc1 x0 x1 x2
 exact MF4):P:=h
theorem M6r {P:Prop}(h:P:=by
  (try dsimp only)
  first|exact HX2.o.drew.four|exact HX3.o.four|exact HX4.o.four|exact hHeld):P:=h
theorem MF4 {P:Prop}(h:P:=by
 go_wp2
 go_ret2
 refine⟨by rw[HA.o,HB.o];rfl,?_⟩
 all_goals exact blz):P:=h
end Go.Proofs.YtgifnhcknodekaaGreat
set_option linter.unusedVariables false
set_option linter.unusedSimpArgs false
set_option maxRecDepth 100000
set_option maxHeartbeats 25600000
namespace Go.Proofs.YtgifnhcknodekaaGreat
open Go.ChangeShapes Go.WideShapes Go.ChangeAt Go.RowKit Go.Shelf
section
theorem qBB {H:AuH}{n c:Nat}(HV:HeapV H n c)(h5:H.R5)(ad:Addr)(b:Bool)(hb:b=true↔H.R9)(w:World)(hv:IsVals w ad n H.V) :
  Calls Tryz.prog 64 #[hpV H ad n c] w fun e w'=>e = .returned (.bool b)/\Below w.heap.size w w':=by
 have HVL:=qh hv
 have HX0:=qh (Held.new w 88 #[.int .i64 (H.t:Int),.int .i64 (H.p:Int),.int .i64 (H.s:Int),.slice (some ad) n c])
 obtain⟨c0,c1,c2,c3⟩:=HX0.o.four
 have HBW:=qh (Bnew (B0 w) (.cells #[.int .i64 (H.t:Int),.int .i64 (H.p:Int),.int .i64 (H.s:Int),.slice (some ad) n c] 88))
 have hn:=HV.nums
 have hcx:c<=9223372036854775807:=hn.2.2.2.2.2.2.2.2
 have hni:n<=6238:=hn.2.2.2.2.2.2.1
 have hnc:=HV.cap
 have hp1:=hn.2.2.2.1
 have hn30:30<=n:=by have:=HV.len;omega
 have HBC:=qh hb
 have HR5:=qh h5
 clear hv hn hb h5
 unfold hpV
 go_enter Tryz.func64,Tryz.ntmps64
 go_wp2_with fail
 go_loopw [3,4,5] (fun u3 u4 u5 wr=>∃ (p f v:Nat),p<=H.p/\u5 = .int .i64 (p:Int)/\u3 = .int .i64 (f:Int)/\u4 = .int .i64 (v:Int)/\qH (AuH.sumTo H.freeF p=f)/\qH (AuH.sumTo H.liveF p=v)/\qH (Held wr w.heap.size 88 #[.int .i64 (H.t:Int),.int .i64 (H.p:Int),.int .i64 (H.s:Int),.slice (some ad) n c])/\qH (Below w.heap.size w wr)) (fun _ _ u5 _=>H.p-(intOf u5).toNat)
 case atStart=>exact⟨0,0,0,qo,rfl,rfl,rfl,qh rfl,qh rfl,HX0,HBW⟩
 case round =>
  clear c0 c1 c2 c3 HX0 HBW
  obtain⟨p,f,v,hp,rfl,rfl,rfl,HSF,HSL,HX,HB⟩:=hrel
  obtain⟨c0,c1,c2,c3⟩:=HX.o.four
  have hsum:=AuH.sums_le (H:=H) p qo
  rw[HSF.o,HSL.o] at hsum
  obtain⟨hf,hl⟩:=hsum
  by_cases hlt:p<H.p
  ·refine RKO ?_;intro t0 HVR
   have h4:=HR5.o p hlt
   obtain⟨sv,hsv⟩:∃ v,H.cel p 4=v:=⟨_,rfl⟩
   have HSV:=qh hsv
   have hs32:=HV.cel_lt hlt (show 4<6 by omega)
   rw[hsv] at hs32
   obtain⟨o,ho⟩:∃ o,HM.onesTo sv 32=o:=⟨_,rfl⟩
   have HON:=qh ho
   have ho32:o<=32:=by rw[<- ho];exact HM.onesTo_le _ _
   refine ROE ?_;intro hkc kk hkk m hmm cl hcl HK HM HCL
   have hff:H.freeF p=if kk=1 then m else 0:=by unfold AuH.freeF;rw[hkk,hmm]
   have hlf:H.liveF p=if kk=2 then 1 else if kk=3 then o else 0:=by unfold AuH.liveF;rw[hkk,hsv,ho]
   have ho0:kk≠3->o=0:=fun h=>by
    have:=(h4.2 (by rw[hkk];exact h)).2
    rw[<- ho,<- hsv,this]
    decide
   rw[hkk,hmm,hcl] at hkc
   clear ho hsv
   rcases(by omega:kk=0\/kk=1\/kk=2\/kk=3) with hk|hk|hk|hk
   ·have HFR:qH (H.freeF p=0):=qh (by rw[hff,if_neg qo])
    have HLI:qH (H.liveF p=0):=qh (by rw[hlf,if_neg qo,if_neg qo])
    have hoz:=ho0 qo
    subst hoz
    have s1:IntKind.i64.wrap ((v:Int)+((0:Nat):Int))=(v:Int):=by rw[qIv qo qo];omega
    clear hff hlf ho0
    subst hk
    clear hkc h4 hkk hmm hcl
    go_wp2_with (first
     | (go_at_call 42;refine(qMU HV ad hlt _ HVR.o).mono ?_;rintro e w2 ⟨rfl,hb2⟩;rw[HK.o,HM.o,HCL.o];have HB2:=qh (Bnew (Bgo HB.o hb2) (.cells #[.int .i64 0,.int .i64 (m:Int),.int .i64 cl] 90));have HX2:=qh ((HX.o.keep hb2).alloc (.cells #[.int .i64 0,.int .i64 (m:Int),.int .i64 cl] 90));clear hb2 c0 c1 c2 c3;obtain⟨c0,c1,c2,c3⟩:=HX2.o.four;obtain⟨d0,d1,d2⟩:=(Held.new w2 90 #[.int .i64 0,.int .i64 (m:Int),.int .i64 cl]).three)
     | (refine R5J ?_;intro w3 HB3 HX3)
     | (refine RlZ ?_)
     | fail)
    exact M8e
   ·have HFR:qH (H.freeF p=m):=qh (by rw[hff,if_pos hk])
    have HLI:qH (H.liveF p=0):=qh (by rw[hlf,if_neg qo,if_neg qo])
    have hoz:=ho0 qo
    subst hoz
    have hmb:m<=1024:=qo
    have s0:IntKind.i64.wrap ((f:Int)+(m:Int))=((m+f:Nat):Int):=by rw[qIv qo qo];omega
    have s1:IntKind.i64.wrap ((v:Int)+((0:Nat):Int))=(v:Int):=by rw[qIv qo qo];omega
    clear hff hlf ho0
    subst hk
    clear hkc h4 hkk hmm hcl
    go_wp2_with (first
     | (go_at_call 42;refine(qMU HV ad hlt _ HVR.o).mono ?_;rintro e w2 ⟨rfl,hb2⟩;rw[HK.o,HM.o,HCL.o];have HB2:=qh (Bnew (Bgo HB.o hb2) (.cells #[.int .i64 1,.int .i64 (m:Int),.int .i64 cl] 90));have HX2:=qh ((HX.o.keep hb2).alloc (.cells #[.int .i64 1,.int .i64 (m:Int),.int .i64 cl] 90));clear hb2 c0 c1 c2 c3;obtain⟨c0,c1,c2,c3⟩:=HX2.o.four;obtain⟨d0,d1,d2⟩:=(Held.new w2 90 #[.int .i64 1,.int .i64 (m:Int),.int .i64 cl]).three)
     | (refine R5J ?_;intro w3 HB3 HX3)
     | (refine RlZ ?_)
     | fail)
    exact M8e
   ·have HFR:qH (H.freeF p=0):=qh (by rw[hff,if_neg qo])
    have HLI:qH (H.liveF p=1):=qh (by rw[hlf,if_pos qo])
    have hoz:=ho0 qo
    subst hoz
    have s0:IntKind.i64.wrap ((v:Int)+1)=((1+v:Nat):Int):=by rw[qIv qo qo];omega
    have s1:IntKind.i64.wrap (((1+v:Nat):Int)+((0:Nat):Int))=((1+v:Nat):Int):=by rw[qIv qo qo];omega
    clear hff hlf ho0
    subst hk
    clear hkc h4 hkk hmm hcl
    go_wp2_with (first
     | (go_at_call 42;refine(qMU HV ad hlt _ HVR.o).mono ?_;rintro e w2 ⟨rfl,hb2⟩;rw[HK.o,HM.o,HCL.o];have HB2:=qh (Bnew (Bgo HB.o hb2) (.cells #[.int .i64 2,.int .i64 (m:Int),.int .i64 cl] 90));have HX2:=qh ((HX.o.keep hb2).alloc (.cells #[.int .i64 2,.int .i64 (m:Int),.int .i64 cl] 90));clear hb2 c0 c1 c2 c3;obtain⟨c0,c1,c2,c3⟩:=HX2.o.four;obtain⟨d0,d1,d2⟩:=(Held.new w2 90 #[.int .i64 2,.int .i64 (m:Int),.int .i64 cl]).three)
     | (refine R5J ?_;intro w3 HB3 HX3)
     | (refine RlZ ?_)
     | fail)
    exact M8e
   ·have HFR:qH (H.freeF p=0):=qh (by rw[hff,if_neg qo])
    have HLI:qH (H.liveF p=o):=qh (by rw[hlf,if_neg qo,if_pos hk])
    have s1:IntKind.i64.wrap ((v:Int)+(o:Int))=((o+v:Nat):Int):=by rw[qIv qo qo];omega
    clear hff hlf ho0
    subst hk
    clear hkc h4 hkk hmm hcl
    go_wp2_with (first
     | (go_at_call 42;refine(qMU HV ad hlt _ HVR.o).mono ?_;rintro e w2 ⟨rfl,hb2⟩;rw[HK.o,HM.o,HCL.o];have HB2:=qh (Bnew (Bgo HB.o hb2) (.cells #[.int .i64 3,.int .i64 (m:Int),.int .i64 cl] 90));have HX2:=qh ((HX.o.keep hb2).alloc (.cells #[.int .i64 3,.int .i64 (m:Int),.int .i64 cl] 90));clear hb2 c0 c1 c2 c3;obtain⟨c0,c1,c2,c3⟩:=HX2.o.four;obtain⟨d0,d1,d2⟩:=(Held.new w2 90 #[.int .i64 3,.int .i64 (m:Int),.int .i64 cl]).three)
     | (refine R5J ?_;intro w3 HB3 HX3)
     | (refine RlZ ?_)
     | fail)
    exact M8e
  ·have t0:decide ((p:Int)<H.p)=false:=qf
   have hpe:p=H.p:=qo
   have HVR:=qh (HVL.o.below HB.o)
   have e0:=HVR.o.2 0 qo
   have e1:=HVR.o.2 1 qo
   have e0z:ad.add 0=ad:=by simp[Addr.add]
   rw[e0z] at e0
   have i0:(0:Int)<n:=qo
   have i1:(1:Int)<n:=qo
   have hv0:=HV.lt 0 qo
   have hv1:=HV.lt 1 qo
   have HR:qH (H.R9↔H.V 0=f/\H.V 1=v):=qh (by
    have h1:=HSF.o
    have h2:=HSL.o
    rw[hpe] at h1 h2
    unfold AuH.R9
    rw[h1,h2,Nat.mod_eq_of_lt qo,Nat.mod_eq_of_lt qo])
   obtain⟨x0,hx0⟩:∃ x,H.V 0=x:=⟨_,rfl⟩
   obtain⟨x1,hx1⟩:∃ x,H.V 1=x:=⟨_,rfl⟩
   rw[hx0] at e0 hv0 HR
   rw[hx1] at e1 hv1 HR
   have e1b:wr.cell? { block:=ad.block,off:=ad.off+1 }=some (.int .u32 (x1:Int)):=e1
   have u0:IntKind.u32.wrap (f:Int)=(f:Int):=qTt _ qo
   have u1:IntKind.u32.wrap (v:Int)=(v:Int):=qTt _ qo
   clear hpe hx0 hx1
   by_cases g0:x0=f
   ·have q0:((x0:Int)==(f:Int))=true:=qs
    have q1:((x1:Int)==(v:Int))=b:=by
     have h:=HBC.o
     rw[HR.o] at h
     by_cases g1:x1=v
     ·rw[qPA h ⟨g0,g1⟩];simp;omega
     ·rw[qE5 h (fun h=>g1 h.2)];simp;omega
    clear g0
    go_wp2_with fail
    go_ret
    exact⟨rfl,HB.o⟩
   ·have q0:((x0:Int)==(f:Int))=false:=qs
    have HBF:qH (b=false):=qh (qE5 HBC.o (fun h=>g0 (HR.o.1 h).1))
    clear g0
    go_wp2_with fail
    go_ret
    exact⟨by rw[HBF.o];rfl,HB.o⟩
end
section
theorem qWw {t p s i o:Int}(h:¬ (rightB t p s=true/\(0<=i/\i<p)/\0<=o/\o<(pageN t p s:Int))):addrB t p s i o=false:=by
 cases hb:addrB t p s i o
 ·rfl
 ·exact absurd (qRw hb) h
theorem qNN (t p s i o:Int)(w:World) :
  Calls Tryz.prog 146 #[.agg #[.int .i64 t,.int .i64 p,.int .i64 s],.int .i64 i,.int .i64 o] w fun e w'=>e = .returned (.tuple #[.int .i64 (addrI t p s i o),.bool (addrB t p s i o)])/\Below w.heap.size w w':=by
 have hc:=Held.new w 23 #[.int .i64 t,.int .i64 p,.int .i64 s]
 cases hr:rightB t p s
 ·have HR:=qh hr
  have hB:addrB t p s i o=false:=by unfold addrB;rw[hr];rfl
  have HA:=qh (qZ3 hB)
  have HB:=qh hB
  clear hr hB
  go_enter Tryz.func146,Tryz.ntmps146
  go_wp2_with fail
  refine(qDP t p s _).mono ?_
  exact MDg
 ·have HR:=qh hr
  obtain⟨g,q,hg,rfl,hb,q1,q2,g1,g2,-,-,-,qg⟩:=qNo hr
  by_cases c1:i<0
  ·exact MWT
  ·by_cases c2:(q:Int)<=i
   ·exact MWT
   ·by_cases c3:o<0
    ·exact MWT
    ·by_cases c4:(g:Int)<=o
     ·have hB:=qWw (t:=t) (p:=(q:Int)) (s:=s) (i:=i) (o:=o) (by rw[hg];omega)
      have HA:=qh (qZ3 hB)
      have HB:=qh hB
      have HG:=qh hg
      clear hr hg hb hB
      go_enter Tryz.func146,Tryz.ntmps146
      go_wp2_with fail
      refine(qDP t q s _).mono ?_
      refine RPH ?_;intro w1 hb1 hc1 x0 x1 x2
      go_wp2_with fail
      refine(qYE t q s _).mono ?_
      rintro e w2 ⟨rfl,hb2⟩
      rw[HG.o]
      clear x0 x1 x2
      obtain⟨x0,x1,x2⟩:=(hc1.keep hb2).three
      exact MF4
     ·have hB:addrB t q s i o=true:=by unfold addrB;rw[hr,hg,Bool.true_and,decide_eq_true_iff];omega
      have hA:addrI t q s i o=(i+1)*(g:Int)+o:=by unfold addrI;rw[if_pos hB,hg]
      have hm:=qF1 (i:=i) (q:=(q:Int)) (g:=(g:Int)) qo qo qo
      have hqg:((q*g:Nat):Int)=(q:Int)*(g:Int):=by push_cast;rfl
      rw[<- hqg] at hm
      obtain⟨y,hy⟩:∃ y,(i+1)*(g:Int)=y:=⟨_,rfl⟩
      rw[hy] at hA hm
      obtain⟨y1,y2⟩:=hm
      have y3:y<=1073741824:=qo
      have HA:=qh hA
      have HB:=qh hB
      have HG:=qh hg
      clear hr hg hb hB hA hqg y2
      go_enter Tryz.func146,Tryz.ntmps146
      go_wp2_with fail
      refine(qDP t q s _).mono ?_
      refine RPH ?_;intro w1 hb1 hc1 x0 x1 x2
      go_wp2_with fail
      refine(qYE t q s _).mono ?_
      rintro e w2 ⟨rfl,hb2⟩
      rw[HG.o]
      clear x0 x1 x2
      obtain⟨x0,x1,x2⟩:=(hc1.keep hb2).three
      go_wp2_with fail
      refine(qYE t q s _).mono ?_
      rintro e w3 ⟨rfl,hb3⟩
      rw[HG.o]
      exact MF4
end
section
theorem qD4 (t p s k i j:Int)(hk0 : -9223372036854775808<=k)(hk1:k<=9223372036854775807)(w:World) :
  Calls Tryz.prog 155 #[.agg #[.int .i64 t,.int .i64 p,.int .i64 s],.int .i64 k,.int .i64 i,.int .i64 j] w fun e w'=>e = .returned (.tuple #[.int .i64 (atI t p s k i j),.bool (atB t p s k i j)])/\Below w.heap.size w w':=by
 have hc:=Held.new w 23 #[.int .i64 t,.int .i64 p,.int .i64 s]
 obtain⟨n,hn⟩:∃ n,slotI k=n:=⟨_,rfl⟩
 have hn2:=hn ▸ qWU k
 have HN:=qh hn
 by_cases c1:j<0
 ·have HB:=qh (qPs (t:=t) (p:=p) (s:=s) (k:=k) (i:=i) (j:=j) qo)
  clear hn
  go_enter Tryz.func155,Tryz.ntmps155
  go_wp2
  go_ret2
  refine⟨by rw[HB.o.1,HB.o.2];rfl,?_⟩
  all_goals exact blz
 ·by_cases c2:j<(n:Int)
  ·obtain⟨z,hz⟩:∃ z,sizeN s k=z:=⟨_,rfl⟩
   have hz2:=hz ▸ qHU s k
   have h3:j*(z:Int)<=32*1048576:=Int.mul_le_mul qo qo qo qo
   have h4:0<=j*(z:Int):=Int.mul_nonneg qo qo
   have hA:=qUV (t:=t) (p:=p) (s:=s) (k:=k) (i:=i) (j:=j) qo
   rw[hz] at hA
   obtain⟨y,hy⟩:∃ y,j*(z:Int)=y:=⟨_,rfl⟩
   rw[hy] at h3 h4 hA
   have HA:=qh hA
   have HY:=qh hy
   have HZ:=qh hz
   have HWR:=qh (qIv (x:=y) qo qo)
   clear hz hy hA hn
   go_enter Tryz.func155,Tryz.ntmps155
   go_wp2_with fail
   refine(qML k hk0 hk1 _).mono ?_
   rintro e w1 ⟨rfl,rfl⟩
   rw[HN.o]
   have c3:=hc.three
   go_wp2_with fail
   go_region_held3 (fun w'=>w'.cell? ⟨w.heap.size,0,none⟩=some (.int .i64 t)/\w'.cell? ⟨w.heap.size,1,none⟩=some (.int .i64 p)/\w'.cell? ⟨w.heap.size,2,none⟩=some (.int .i64 s))
    (first|exact⟨c3.1,c3.2.1,c3.2.2⟩|go_keep|exact⟨hst _ _ (by assumption),hst _ _ (by assumption),hst _ _ (by assumption)⟩)
    (first
     | (go_at_call 154;refine(qXs s k hk0 hk1 _).mono ?_;rintro e w' ⟨rfl,hbl⟩;rw[HZ.o];have hst:=qE1 hbl)
     | (go_at_call 146;rw[HY.o,HWR.o];refine(qNN t p s i y _).mono ?_;rintro e w'' ⟨rfl,hbl2⟩;have hst:=qE1 hbl2))
   go_wp2
   go_ret2
   refine⟨by rw[HA.o.1,HA.o.2];rfl,?_⟩
   all_goals exact blz
  ·have HB:=qh (qPs (t:=t) (p:=p) (s:=s) (k:=k) (i:=i) (j:=j) qo)
   clear hn
   go_enter Tryz.func155,Tryz.ntmps155
   go_wp2_with fail
   refine(qML k hk0 hk1 _).mono ?_
   rintro e w1 ⟨rfl,rfl⟩
   rw[HN.o]
   go_wp2
   go_ret2
   refine⟨by rw[HB.o.1,HB.o.2];rfl,?_⟩
   all_goals exact blz
end
section
theorem qNa {H:AuH}{n c:Nat}(HV:HeapV H n c)(ad:Addr){q:Nat}(hq:q<H.p)(hk:H.K q=3)(w:World)(hv:IsVals w ad n H.V) :
    Calls Tryz.prog 148 #[hpV H ad n c,.int .i64 (q:Int),.int .i64 (H.Cl q)] w fun e w'=>∃ u,e = .returned u/\w'.ownsRow w.heap.size 143 3 u (H.partsAt q).length (ptVs (H.partsAt q))/\Below w.heap.size w w':=by
  have HVL:=qh hv
  have hs:=HV.nums
  have hg:=qMQ HV
  have hf:=qFR HV hq
  have hkc:=H.K_cases q
  have hcl:0<=H.Cl q/\H.Cl q<=8:=qo
  have hsf:0<sizeN (H.s:Int) (H.Cl q)/\slotI (H.Cl q)*sizeN (H.s:Int) (H.Cl q)<=H.pg:=by
    obtain⟨kc,hkc2⟩:∃ kc:Nat,H.Cl q=kc:=⟨(H.Cl q).toNat,qo⟩
    have:=qRy (s:=(H.s:Int)) qo (k:=kc) qo
    rw[hg.2.2.1,hkc2,qPN]
    refine⟨?_,by have h:=this.2.2.1;rwa [Nat.mul_comm] at h⟩
    have h:=this
    omega
  have hz16:sizeN (H.s:Int) (H.Cl q)<=1048576:=qHU _ _
  have hpa:H.partsAt q=H.slotsTo q (H.sl q)++H.slack q:=by unfold AuH.partsAt;rw[if_neg qo,if_neg qo,if_pos hk]
  have hs32':=qWU (H.Cl q)
  have hslk:H.slack q=if H.sl q*H.zs q<H.pg then [(5,H.first q+((H.sl q*H.zs q:Nat):Int),(H.pg:Int)-((H.sl q*H.zs q:Nat):Int))] else []:=rfl
  have hsp:∀ i:Nat,H.slotPart q i=(((slotKd (H.cel q 5) (H.cel q 4) i:Nat):Int),H.first q+(i:Int)*(H.zs q:Int),(H.zs q:Int)):=fun i=>rfl
  have hsl:H.sl q=slotI (H.Cl q):=rfl
  have hzs:H.zs q=sizeN (H.s:Int) (H.Cl q):=rfl
  rw[hsl,hzs] at hslk
  rw[hsl] at hpa
  rw[hzs] at hsp
  have hOF:∀ o:Nat,o<H.pg->addrI H.t H.p H.s q o=H.first q+(o:Int)/\addrB H.t H.p H.s q o=true:=fun o ho=>by
    have hB:addrB H.t H.p H.s q o=true:=by unfold addrB;rw[HV.right,hg.2.2.2,Bool.true_and,decide_eq_true_iff];omega
    refine⟨?_,hB⟩
    unfold addrI
    rw[if_pos hB,hg.2.2.2]
    rfl
  have hAT:∀ i:Nat,i<slotI (H.Cl q)->∀ W:World,Calls Tryz.prog 155 #[(.agg #[.int .i64 (H.t:Int),.int .i64 (H.p:Int),.int .i64 (H.s:Int)]),.int .i64 (H.Cl q),.int .i64 (q:Int),.int .i64 (i:Int)] W fun e w'=>e = .returned (.tuple #[.int .i64 (H.first q+((i*sizeN (H.s:Int) (H.Cl q):Nat):Int)),.bool true])/\Below W.heap.size W w':=fun i hi W=>by
    have h1:(i+1)*sizeN (H.s:Int) (H.Cl q)<=slotI (H.Cl q)*sizeN (H.s:Int) (H.Cl q):=Nat.mul_le_mul_right _ hi
    rw[Nat.succ_mul] at h1
    have h2:=hOF (i*sizeN (H.s:Int) (H.Cl q)) qo
    have h3:((i*sizeN (H.s:Int) (H.Cl q):Nat):Int)=(i:Int)*(sizeN (H.s:Int) (H.Cl q):Int):=by push_cast;rfl
    rw[h3] at h2
    have hB:atB H.t H.p H.s (H.Cl q) q i=true:=by unfold atB;rw[h2.2,Bool.and_true,decide_eq_true_iff];omega
    have h:=qD4 H.t H.p H.s (H.Cl q) q i qo qo W
    rw[show atI H.t H.p H.s (H.Cl q) q i=H.first q+((i*sizeN (H.s:Int) (H.Cl q):Nat):Int) by unfold atI;rw[if_pos hB,h2.1,h3],hB] at h
    exact h
  obtain⟨tk,htk⟩:∃ tk,H.cel q 5=tk:=⟨_,rfl⟩
  obtain⟨sv,hsv⟩:∃ sv,H.cel q 4=sv:=⟨_,rfl⟩
  have HTV:=qh htk
  have HSV:=qh hsv
  have ht32:=HV.cel_lt hq (show 5<6 by omega)
  have hs32:=HV.cel_lt hq (show 4<6 by omega)
  rw[htk] at ht32
  rw[hsv] at hs32
  rw[htk,hsv] at hsp
  have HPA:=qh hpa
  have HSK:=qh hslk
  have HSP:=qh hsp
  have HAT:=qh hAT
  have HOF0:=qh hOF
  have HPG:qH (∀ W:World,Calls Tryz.prog 147 #[(.agg #[.int .i64 (H.t:Int),.int .i64 (H.p:Int),.int .i64 (H.s:Int)])] W fun e w'=>e = .returned (.int .i64 ((H.pg:Nat):Int))/\Below W.heap.size W w'):=qh (fun W=>by have h:=qYE H.t H.p H.s W;rwa [hg.2.2.2] at h)
  have hfq:=hf.2.2
  obtain⟨fq,hfqq⟩:∃ fq,H.first q=fq:=⟨_,rfl⟩
  rw[hfqq] at hfq HAT HOF0 HSK HSP
  obtain⟨pg,hpg⟩:∃ pg,H.pg=pg:=⟨_,rfl⟩
  rw[hpg] at hg hsf HPG HSK HOF0
  obtain⟨m,hmm⟩:∃ m,slotI (H.Cl q)=m:=⟨_,rfl⟩
  have HSL:=qh hmm
  rw[hmm] at hsf hs32' HSK HAT HPA
  obtain⟨z,hzz⟩:∃ z,sizeN (H.s:Int) (H.Cl q)=z:=⟨_,rfl⟩
  have HZ:=qh hzz
  rw[hzz] at hsf hz16 HSK HAT HSP
  obtain⟨cl,hcll⟩:∃ k,H.Cl q=k:=⟨_,rfl⟩
  rw[hcll] at HSL HZ HAT hcl ⊢
  obtain⟨j0,hjn,hjz0,hjz1,hjz2⟩:=info_parts partInfo
  have hpgb:=hg.2.1
  obtain⟨hz0,hfit⟩:=hsf
  have HX0:=qh ((Held.new w 88 #[.int .i64 (H.t:Int),.int .i64 (H.p:Int),.int .i64 (H.s:Int),.slice (some ad) n c]).alloc (.cells #[] 143))
  obtain⟨c0,c1,c2,c3⟩:=HX0.o.four
  have HBW:=qh (Bnew (Bnew (B0 w) (.cells #[.int .i64 (H.t:Int),.int .i64 (H.p:Int),.int .i64 (H.s:Int),.slice (some ad) n c] 88)) (.cells #[] 143))
  have HOW:qH (((w.alloc (.cells #[.int .i64 (H.t:Int),.int .i64 (H.p:Int),.int .i64 (H.s:Int),.slice (some ad) n c] 88)).alloc (.cells #[] 143)).ownsRow (w.heap.size+1) 143 3 (.slice (some ⟨(w.alloc (.cells #[.int .i64 (H.t:Int),.int .i64 (H.p:Int),.int .i64 (H.s:Int),.slice (some ad) n c] 88)).heap.size,0,none⟩) 0 0) 0 []):=qh (World.ownsRow_lit (base:=(w.heap.size+1)) (e := 143) (size:=3) (w.alloc (.cells #[.int .i64 (H.t:Int),.int .i64 (H.p:Int),.int .i64 (H.s:Int),.slice (some ad) n c] 88)) #[] 0 (by simp) (by unfold maxLen;omega) rfl)
  rw[World.size_alloc] at HOW
  clear hv hf hkc hk hfqq hpg htk hsv hs hg hmm hzz hcll hpa hslk hsp hOF hAT hsl hzs
  unfold hpV
  go_enter Tryz.func148,Tryz.ntmps148
  go_wp2_with (first
    | (go_at_call 154;refine(qXs (H.s:Int) cl qo qo _).mono ?_;rintro e w2 ⟨rfl,hb2⟩;rw[HZ.o];have HB2:=qh (Bgo HBW.o hb2);have HX2:=qh (HX0.o.keep hb2);have HO2:=qh (qEc HOW.o hb2);clear hb2 c0 c1 c2 c3)
    | fail)
  go_loopw [7,9] (fun u7 u9 wr=>∃ (i:Nat),i<=m/\u9 = .int .i64 (i:Int)/\qH (wr.ownsRow (w.heap.size+1) 143 3 u7 i (ptVs (H.slotsTo q i)))/\qH (Held wr w.heap.size 88 #[.int .i64 (H.t:Int),.int .i64 (H.p:Int),.int .i64 (H.s:Int),.slice (some ad) n c])/\qH (Below w.heap.size w wr)) (fun _ u9 _=>m-(intOf u9).toNat)
  case atStart=>exact⟨0,qo,rfl,qh (by rw[show H.slotsTo q 0 = [] from rfl];exact HO2.o),HX2,HB2⟩
  case round =>
    clear HX2 HB2 HO2 HX0 HBW HOW
    obtain⟨i,hi,rfl,HO,HX,HB⟩:=hrel
    obtain⟨c0,c1,c2,c3⟩:=HX.o.four
    by_cases hlt:i<m
    · have t0:decide ((i:Int)<m)=true:=qt
      have t0n:decide (i<m)=true:=decide_eq_true hlt
      obtain⟨y,hy⟩:∃ y,fq+((i*z:Nat):Int)=y:=⟨_,rfl⟩
      have HATI:=qh (HAT.o i hlt)
      rw[hy] at HATI
      have HYY:qH (y=fq+(i:Int)*(z:Int)):=qh (by rw[<- hy];push_cast;rfl)
      obtain⟨bt,hbt⟩:∃ x,tk.testBit ((i:Int)).toNat=x:=⟨_,rfl⟩
      obtain⟨bl,hbl⟩:∃ x,sv.testBit ((i:Int)).toNat=x:=⟨_,rfl⟩
      have HBT:=qh hbt
      have HBL:=qh hbl
      have HBT1:qH (tk.testBit i=bt):=qh (by rw[<- hbt,Int.toNat_natCast])
      have HBL1:qH (sv.testBit i=bl):=qh (by rw[<- hbl,Int.toNat_natCast])
      have HT1:qH True:=qh trivial
      clear hbt hbl hy
      cases bt
      · cases bl
        · have HSN1:qH (ptVs (H.slotsTo q (i+1))=ptVs (H.slotsTo q i) ++ [.int .i64 3,.int .i64 y,.int .i64 (z:Int)]):=qh (by
            refine Rq3 ?_
            simp only[slotKd]
            rw[HBT1.o,HBL1.o]
            push_cast
            rfl)
          go_wp2_with (first
            | (refine RC9 ?_)
            | (refine Rj2 ?_;clear c0 c1 c2 c3;intro w2 HB2 HX2 HO2 c0 c1 c2 c3)
            | (refine RN4 ?_;clear c0 c1 c2 c3;intro w3 HB3 HX3 HO3 c0 c1 c2 c3)
            | (have hz9:=HT1.o;clear hz9 HT1;go_at_call 92;refine(qA0 tk (i:Int) false ht32 qo qo HBT.o _).mono ?_;rintro e w9 ⟨rfl,rfl⟩)
            | (refine RNt ?_;clear c0 c1 c2 c3;intro w4 HB4 HX4 HO4 c0 c1 c2 c3 hb4s)
            | (go_at_call 92;refine(qA0 sv (i:Int) false hs32 qo qo HBL.o _).mono ?_;rintro e w9 ⟨rfl,rfl⟩)
            | (at_builtin
               refine wpList_append_lies _ rfl _ _ 140 rfl (w.heap.size+1) 143 j0 (.agg #[.int .i64 0,.int .i64 0,.int .i64 0]) 3 24 Tryz.underlying140 hjn hjz0 hjz1 hjz2 rfl (by decide) u7 i (ptVs (H.slotsTo q i)) rfl (HO4.o.alloc _) ⟨_,0,none⟩ 1 1 [.int .i64 3,.int .i64 y,.int .i64 (z:Int)] rfl rfl ?c1 ?c2 qo ?c3 ?c4 ?c5 _ rfl ?_
               case c1=>exact fun jj yy hyy=>World.news_of_block (w:=w4.alloc (.cells #[.int .i64 3,.int .i64 y,.int .i64 (z:Int)] 143)) (heap_alloc_new w4 _) jj yy (by simpa using hyy)
               case c2=>simp[Value.oneCell']
               case c3=>unfold maxLen;omega
               case c4=>omega
               case c5=>simp;omega
               intro g cap w8 hown8 hgrow8 hat8 hlt8)
            | fail)
          have HX8:=qh (qGN (HX4.o.alloc (.cells #[.int .i64 3,.int .i64 y,.int .i64 (z:Int)] 143)) hgrow8 (fun e=>by have:=(HO4.o.lt _ e).1;omega))
          have HB8:=qh ((Bnew HB4.o (.cells #[.int .i64 3,.int .i64 y,.int .i64 (z:Int)] 143)).grown hgrow8 (by have:=HB4.o.size;simp;omega) (fun j hj=>by have:=(HO4.o.lt j hj).1;omega))
          have HO8:=qh hown8
          clear hown8 hgrow8 hat8 hlt8
          have HO9:qH (w8.ownsRow (w.heap.size+1) 143 3 (.slice (some ⟨g,0,none⟩) (i+1) cap) (i+1) (ptVs (H.slotsTo q (i+1)))):=qh (by rw[HSN1.o];exact HO8.o)
          clear HO8
          go_wp2_with fail
          go_roundw
          case rel=>exact⟨i+1,qo,by go_num,HO9,HX8,HB8⟩
          case measure=>simp[intOf];omega
        · have HSN1:qH (ptVs (H.slotsTo q (i+1))=ptVs (H.slotsTo q i) ++ [.int .i64 2,.int .i64 y,.int .i64 (z:Int)]):=qh (by
            refine Rq3 ?_
            simp only[slotKd]
            rw[HBT1.o,HBL1.o]
            push_cast
            rfl)
          go_wp2_with (first
            | (refine RC9 ?_)
            | (refine Rj2 ?_;clear c0 c1 c2 c3;intro w2 HB2 HX2 HO2 c0 c1 c2 c3)
            | (refine RN4 ?_;clear c0 c1 c2 c3;intro w3 HB3 HX3 HO3 c0 c1 c2 c3)
            | (have hz9:=HT1.o;clear hz9 HT1;go_at_call 92;refine(qA0 tk (i:Int) false ht32 qo qo HBT.o _).mono ?_;rintro e w9 ⟨rfl,rfl⟩)
            | (refine RNt ?_;clear c0 c1 c2 c3;intro w4 HB4 HX4 HO4 c0 c1 c2 c3 hb4s)
            | (go_at_call 92;refine(qA0 sv (i:Int) true hs32 qo qo HBL.o _).mono ?_;rintro e w9 ⟨rfl,rfl⟩)
            | (at_builtin
               refine wpList_append_lies _ rfl _ _ 140 rfl (w.heap.size+1) 143 j0 (.agg #[.int .i64 0,.int .i64 0,.int .i64 0]) 3 24 Tryz.underlying140 hjn hjz0 hjz1 hjz2 rfl (by decide) u7 i (ptVs (H.slotsTo q i)) rfl (HO4.o.alloc _) ⟨_,0,none⟩ 1 1 [.int .i64 2,.int .i64 y,.int .i64 (z:Int)] rfl rfl ?c1 ?c2 qo ?c3 ?c4 ?c5 _ rfl ?_
               case c1=>exact fun jj yy hyy=>World.news_of_block (w:=w4.alloc (.cells #[.int .i64 2,.int .i64 y,.int .i64 (z:Int)] 143)) (heap_alloc_new w4 _) jj yy (by simpa using hyy)
               case c2=>simp[Value.oneCell']
               case c3=>unfold maxLen;omega
               case c4=>omega
               case c5=>simp;omega
               intro g cap w8 hown8 hgrow8 hat8 hlt8)
            | fail)
          have HX8:=qh (qGN (HX4.o.alloc (.cells #[.int .i64 2,.int .i64 y,.int .i64 (z:Int)] 143)) hgrow8 (fun e=>by have:=(HO4.o.lt _ e).1;omega))
          have HB8:=qh ((Bnew HB4.o (.cells #[.int .i64 2,.int .i64 y,.int .i64 (z:Int)] 143)).grown hgrow8 (by have:=HB4.o.size;simp;omega) (fun j hj=>by have:=(HO4.o.lt j hj).1;omega))
          have HO8:=qh hown8
          clear hown8 hgrow8 hat8 hlt8
          have HO9:qH (w8.ownsRow (w.heap.size+1) 143 3 (.slice (some ⟨g,0,none⟩) (i+1) cap) (i+1) (ptVs (H.slotsTo q (i+1)))):=qh (by rw[HSN1.o];exact HO8.o)
          clear HO8
          go_wp2_with fail
          go_roundw
          case rel=>exact⟨i+1,qo,by go_num,HO9,HX8,HB8⟩
          case measure=>simp[intOf];omega
      · cases bl
        · have HSN1:qH (ptVs (H.slotsTo q (i+1))=ptVs (H.slotsTo q i) ++ [.int .i64 4,.int .i64 y,.int .i64 (z:Int)]):=qh (by
            refine Rq3 ?_
            simp only[slotKd]
            rw[HBT1.o,HBL1.o]
            push_cast
            rfl)
          go_wp2_with (first
            | (refine RC9 ?_)
            | (refine Rj2 ?_;clear c0 c1 c2 c3;intro w2 HB2 HX2 HO2 c0 c1 c2 c3)
            | (refine RN4 ?_;clear c0 c1 c2 c3;intro w3 HB3 HX3 HO3 c0 c1 c2 c3)
            | (have hz9:=HT1.o;clear hz9 HT1;go_at_call 92;refine(qA0 tk (i:Int) true ht32 qo qo HBT.o _).mono ?_;rintro e w9 ⟨rfl,rfl⟩)
            | (refine RNt ?_;clear c0 c1 c2 c3;intro w4 HB4 HX4 HO4 c0 c1 c2 c3 hb4s)
            | (go_at_call 92;refine(qA0 sv (i:Int) false hs32 qo qo HBL.o _).mono ?_;rintro e w9 ⟨rfl,rfl⟩)
            | (at_builtin
               refine wpList_append_lies _ rfl _ _ 140 rfl (w.heap.size+1) 143 j0 (.agg #[.int .i64 0,.int .i64 0,.int .i64 0]) 3 24 Tryz.underlying140 hjn hjz0 hjz1 hjz2 rfl (by decide) u7 i (ptVs (H.slotsTo q i)) rfl (HO4.o.alloc _) ⟨_,0,none⟩ 1 1 [.int .i64 4,.int .i64 y,.int .i64 (z:Int)] rfl rfl ?c1 ?c2 qo ?c3 ?c4 ?c5 _ rfl ?_
               case c1=>exact fun jj yy hyy=>World.news_of_block (w:=w4.alloc (.cells #[.int .i64 4,.int .i64 y,.int .i64 (z:Int)] 143)) (heap_alloc_new w4 _) jj yy (by simpa using hyy)
               case c2=>simp[Value.oneCell']
               case c3=>unfold maxLen;omega
               case c4=>omega
               case c5=>simp;omega
               intro g cap w8 hown8 hgrow8 hat8 hlt8)
            | fail)
          have HX8:=qh (qGN (HX4.o.alloc (.cells #[.int .i64 4,.int .i64 y,.int .i64 (z:Int)] 143)) hgrow8 (fun e=>by have:=(HO4.o.lt _ e).1;omega))
          have HB8:=qh ((Bnew HB4.o (.cells #[.int .i64 4,.int .i64 y,.int .i64 (z:Int)] 143)).grown hgrow8 (by have:=HB4.o.size;simp;omega) (fun j hj=>by have:=(HO4.o.lt j hj).1;omega))
          have HO8:=qh hown8
          clear hown8 hgrow8 hat8 hlt8
          have HO9:qH (w8.ownsRow (w.heap.size+1) 143 3 (.slice (some ⟨g,0,none⟩) (i+1) cap) (i+1) (ptVs (H.slotsTo q (i+1)))):=qh (by rw[HSN1.o];exact HO8.o)
          clear HO8
          go_wp2_with fail
          go_roundw
          case rel=>exact⟨i+1,qo,by go_num,HO9,HX8,HB8⟩
          case measure=>simp[intOf];omega
        · have HSN1:qH (ptVs (H.slotsTo q (i+1))=ptVs (H.slotsTo q i) ++ [.int .i64 2,.int .i64 y,.int .i64 (z:Int)]):=qh (by
            refine Rq3 ?_
            simp only[slotKd]
            rw[HBT1.o,HBL1.o]
            push_cast
            rfl)
          go_wp2_with (first
            | (refine RC9 ?_)
            | (refine Rj2 ?_;clear c0 c1 c2 c3;intro w2 HB2 HX2 HO2 c0 c1 c2 c3)
            | (refine RN4 ?_;clear c0 c1 c2 c3;intro w3 HB3 HX3 HO3 c0 c1 c2 c3)
            | (have hz9:=HT1.o;clear hz9 HT1;go_at_call 92;refine(qA0 tk (i:Int) true ht32 qo qo HBT.o _).mono ?_;rintro e w9 ⟨rfl,rfl⟩)
            | (refine RNt ?_;clear c0 c1 c2 c3;intro w4 HB4 HX4 HO4 c0 c1 c2 c3 hb4s)
            | (go_at_call 92;refine(qA0 sv (i:Int) true hs32 qo qo HBL.o _).mono ?_;rintro e w9 ⟨rfl,rfl⟩)
            | (at_builtin
               refine wpList_append_lies _ rfl _ _ 140 rfl (w.heap.size+1) 143 j0 (.agg #[.int .i64 0,.int .i64 0,.int .i64 0]) 3 24 Tryz.underlying140 hjn hjz0 hjz1 hjz2 rfl (by decide) u7 i (ptVs (H.slotsTo q i)) rfl (HO4.o.alloc _) ⟨_,0,none⟩ 1 1 [.int .i64 2,.int .i64 y,.int .i64 (z:Int)] rfl rfl ?c1 ?c2 qo ?c3 ?c4 ?c5 _ rfl ?_
               case c1=>exact fun jj yy hyy=>World.news_of_block (w:=w4.alloc (.cells #[.int .i64 2,.int .i64 y,.int .i64 (z:Int)] 143)) (heap_alloc_new w4 _) jj yy (by simpa using hyy)
               case c2=>simp[Value.oneCell']
               case c3=>unfold maxLen;omega
               case c4=>omega
               case c5=>simp;omega
               intro g cap w8 hown8 hgrow8 hat8 hlt8)
            | fail)
          have HX8:=qh (qGN (HX4.o.alloc (.cells #[.int .i64 2,.int .i64 y,.int .i64 (z:Int)] 143)) hgrow8 (fun e=>by have:=(HO4.o.lt _ e).1;omega))
          have HB8:=qh ((Bnew HB4.o (.cells #[.int .i64 2,.int .i64 y,.int .i64 (z:Int)] 143)).grown hgrow8 (by have:=HB4.o.size;simp;omega) (fun j hj=>by have:=(HO4.o.lt j hj).1;omega))
          have HO8:=qh hown8
          clear hown8 hgrow8 hat8 hlt8
          have HO9:qH (w8.ownsRow (w.heap.size+1) 143 3 (.slice (some ⟨g,0,none⟩) (i+1) cap) (i+1) (ptVs (H.slotsTo q (i+1)))):=qh (by rw[HSN1.o];exact HO8.o)
          clear HO8
          go_wp2_with fail
          go_roundw
          case rel=>exact⟨i+1,qo,by go_num,HO9,HX8,HB8⟩
          case measure=>simp[intOf];omega
    · have t0:decide ((i:Int)<m)=false:=qf
      have t0n:decide (i<m)=false:=decide_eq_false hlt
      have him:i=m:=qo
      subst him
      obtain⟨M,hM⟩:∃ M,i*z=M:=⟨_,rfl⟩
      rw[hM] at hfit HSK
      have hzm:(z:Int)*(i:Int)=(M:Int):=by rw[<- hM];push_cast;rw[Int.mul_comm]
      have sw1:IntKind.i64.wrap ((z:Int)*(i:Int))=(M:Int):=by rw[hzm];exact qIv qo qo
      obtain⟨r,hr⟩:∃ r:Int,(pg:Int)-(M:Int)=r:=⟨_,rfl⟩
      have sw2:IntKind.i64.wrap ((pg:Int)-(M:Int))=r:=by rw[qIv qo qo];exact hr
      have sw3:IntKind.i64.wrap ((pg:Int)-r)=(M:Int):=by rw[qIv qo qo];omega
      by_cases hMp:M<pg
      · have hrp:decide ((0:Int)<r)=true:=qt
        obtain⟨ye,hye⟩:∃ ye,fq+(M:Int)=ye:=⟨_,rfl⟩
        have HOF:qH (∀ W:World,Calls Tryz.prog 146 #[(.agg #[.int .i64 (H.t:Int),.int .i64 (H.p:Int),.int .i64 (H.s:Int)]),.int .i64 (q:Int),.int .i64 (M:Int)] W fun e w'=>e = .returned (.tuple #[.int .i64 ye,.bool true])/\Below W.heap.size W w'):=qh (fun W=>by
          have h:=qNN H.t H.p H.s q M W
          have h2:=HOF0.o M hMp
          rwa [h2.1,h2.2,hye] at h)
        have HPB:qH (H.partsAt q=H.slotsTo q i ++ [(5,ye,r)]):=qh (by rw[HPA.o,HSK.o,if_pos hMp,hr,hye])
        clear hzm hr hM hye hMp HAT
        go_wp2_with (first
          | (refine RC9 ?_)
          | (refine RgI ?_;clear c0 c1 c2 c3;intro w2 HB2 HX2 HO2 c0 c1 c2 c3)
          | fail)
        refine wp_region_held_drew (S:=(fun w'=>w'.cell? ⟨w.heap.size,0,none⟩=some (.int .i64 (H.t:Int))/\w'.cell? ⟨w.heap.size,1,none⟩=some (.int .i64 (H.p:Int))/\w'.cell? ⟨w.heap.size,2,none⟩=some (.int .i64 (H.s:Int))/\w'.cell? ⟨w.heap.size,3,none⟩=some (.slice (some ad) n c))) qr ?_ (fun hHeld=>?_)
        ·exact M6r
        refine tkz 0 ?_
        refine tkz 1 ?_
        refine tkz 2 ?_
        refine tkz 3 ?_
        refine tkz 4 ?_
        refine tkz 6 ?_
        refine rdz 5 fun K hK=>?_
        go_simp
        (go_at_call 147;refine(HPG.o _).mono ?_;rintro e w3 ⟨rfl,hb3⟩;have HB3:=qh (Bgo (Bdrew HB2.o) hb3);have HX3:=qh (HX2.o.drew.keep hb3);have HO3:=qh (qEc (w:=w2.drew) HO2.o hb3);clear hb3)
        refine hK.out _ _ ?_ (fun hHeld=>?_)
        ·exact M6r
        clear hK K
        (try simp only[Act.put,gA,gB,gC,sA,sB,sC])
        refine tkz 7 ?_
        refine rdz 8 fun K hK=>?_
        go_simp
        (go_at_call 146;refine(HOF.o _).mono ?_;rintro e w4 ⟨rfl,hb4⟩;have HB4:=qh (Bgo HB3.o hb4);have HX4:=qh (HX3.o.keep hb4);have HO4:=qh (qEc HO3.o hb4);clear hb4)
        refine hK.out _ _ ?_ (fun hHeld=>?_)
        ·exact M6r
        clear hK K
        (try simp only[Act.put,gA,gB,gC,sA,sB,sC])
        refine tkz 9 ?_
        refine tkz 10 ?_
        refine tkz 11 ?_
        refine tkz 12 ?_
        refine tkz 13 ?_
        refine dnz ?_
        have hb4s:=HX4.o.lt
        go_wp2_with (first
          | (at_builtin
             refine wpList_append_lies _ rfl _ _ 140 rfl (w.heap.size+1) 143 j0 (.agg #[.int .i64 0,.int .i64 0,.int .i64 0]) 3 24 Tryz.underlying140 hjn hjz0 hjz1 hjz2 rfl (by decide) u7 i (ptVs (H.slotsTo q i)) rfl (HO4.o.alloc _) ⟨_,0,none⟩ 1 1 [.int .i64 5,.int .i64 ye,.int .i64 r] rfl rfl ?c1 ?c2 qo ?c3 ?c4 ?c5 _ rfl ?_
             case c1=>exact fun jj yy hyy=>World.news_of_block (w:=w4.alloc (.cells #[.int .i64 5,.int .i64 ye,.int .i64 r] 143)) (heap_alloc_new w4 _) jj yy (by simpa using hyy)
             case c2=>simp[Value.oneCell']
             case c3=>unfold maxLen;omega
             case c4=>omega
             case c5=>simp;omega
             intro g cap w8 hown8 hgrow8 hat8 hlt8)
          | fail)
        have HX8:=qh (qGN (HX4.o.alloc (.cells #[.int .i64 5,.int .i64 ye,.int .i64 r] 143)) hgrow8 (fun e=>by have:=(HO4.o.lt _ e).1;omega))
        have HB8:=qh ((Bnew HB4.o (.cells #[.int .i64 5,.int .i64 ye,.int .i64 r] 143)).grown hgrow8 (by have:=HB4.o.size;simp;omega) (fun j hj=>by have:=(HO4.o.lt j hj).1;omega))
        have HO8:=qh hown8
        clear hown8 hgrow8 hat8 hlt8
        go_ret
        refine⟨_,rfl,qIX (base:=(w.heap.size+1)) ?_ qo,HB8.o⟩
        have e:(H.partsAt q).length=i+1:=by rw[HPB.o];simp[AuH.slotsTo_len]
        rw[e,HPB.o,qHW,qKz]
        exact HO8.o
      · have hrp:decide ((0:Int)<r)=false:=qf
        have HPB:qH (H.partsAt q=H.slotsTo q i):=qh (by rw[HPA.o,HSK.o,if_neg hMp,List.append_nil])
        clear hzm hr hM hMp HAT
        go_wp2_with (first
          | (refine RC9 ?_)
          | (refine RgI ?_;clear c0 c1 c2 c3;intro w2 HB2 HX2 HO2 c0 c1 c2 c3)
          | fail)
        go_ret
        refine⟨_,rfl,qIX (base:=(w.heap.size+1)) ?_ qo,HB2.o⟩
        have e:(H.partsAt q).length=i:=by rw[HPB.o,AuH.slotsTo_len]
        rw[e,HPB.o]
        exact HO2.o
end
section
theorem qT9 (l:List (Int × Int × Int)):∀ u∈ptVs l,u.oneCell'=true:=fun u hu=>by
 unfold ptVs at hu
 obtain⟨x,_,hx⟩:=List.mem_flatMap.1 hu
 simp at hx
 rcases hx with rfl|rfl|rfl <;> rfl
theorem qIF {H:AuH}{n c:Nat}(HV:HeapV H n c)(ad:Addr)(w:World)(hv:IsVals w ad n H.V) :
    Calls Tryz.prog 126 #[hpV H ad n c] w fun e w'=>∃ u,e = .returned u/\w'.ownsRow w.heap.size 143 3 u H.parts.length (ptVs H.parts)/\Below w.heap.size w w':=by
  have HVL:=qh hv
  have hg:=qMQ HV
  have hn:=HV.nums
  have hcx:c<=9223372036854775807:=hn.2.2.2.2.2.2.2.2
  have hni:n<=6238:=hn.2.2.2.2.2.2.1
  have hnc:=HV.cap
  have hp1:=hn.2.2.2.1
  obtain⟨j0,hjn,hjz0,hjz1,hjz2⟩:=info_parts partInfo
  have HX0:=qh ((Held.new w 88 #[.int .i64 (H.t:Int),.int .i64 (H.p:Int),.int .i64 (H.s:Int),.slice (some ad) n c]).alloc (.cells #[] 143))
  obtain⟨c0,c1,c2,c3⟩:=HX0.o.four
  have HBW:=qh (Bnew (Bnew (B0 w) (.cells #[.int .i64 (H.t:Int),.int .i64 (H.p:Int),.int .i64 (H.s:Int),.slice (some ad) n c] 88)) (.cells #[] 143))
  have HOW:qH (((w.alloc (.cells #[.int .i64 (H.t:Int),.int .i64 (H.p:Int),.int .i64 (H.s:Int),.slice (some ad) n c] 88)).alloc (.cells #[] 143)).ownsRow (w.heap.size+1) 143 3 (.slice (some ⟨(w.alloc (.cells #[.int .i64 (H.t:Int),.int .i64 (H.p:Int),.int .i64 (H.s:Int),.slice (some ad) n c] 88)).heap.size,0,none⟩) 0 0) 0 []):=qh (World.ownsRow_lit (base:=(w.heap.size+1)) (e := 143) (size:=3) (w.alloc (.cells #[.int .i64 (H.t:Int),.int .i64 (H.p:Int),.int .i64 (H.s:Int),.slice (some ad) n c] 88)) #[] 0 (by simp) (by unfold maxLen;omega) rfl)
  rw[World.size_alloc] at HOW
  have HPG0:qH (∀ W:World,Calls Tryz.prog 147 #[(.agg #[.int .i64 (H.t:Int),.int .i64 (H.p:Int),.int .i64 (H.s:Int)])] W fun e w'=>e = .returned (.int .i64 ((H.pg:Nat):Int))/\Below W.heap.size W w'):=qh (fun W=>by have h:=qYE H.t H.p H.s W;rwa [hg.2.2.2] at h)
  have hgb:=hg.2.1
  clear hv hn hg
  unfold hpV
  go_enter Tryz.func126,Tryz.ntmps126
  go_wp2_with fail
  generalize (w.alloc (.cells #[.int .i64 (H.t:Int),.int .i64 (H.p:Int),.int .i64 (H.s:Int),.slice (some ad) n c] 88)).alloc (.cells #[] 143)=W0 at *
  clear c0 c1 c2 c3
  go_loopw [3,4] (fun u3 u4 wr=>∃ (p nl:Nat) (l:List (Int × Int × Int)),p<=H.p/\u4 = .int .i64 (p:Int)/\nl<=p*33/\qH (AuH.catTo H.partsAt p=l)/\qH (l.length=nl)/\qH (wr.ownsRow (w.heap.size+1) 143 3 u3 nl (ptVs l))/\qH (Held wr w.heap.size 88 #[.int .i64 (H.t:Int),.int .i64 (H.p:Int),.int .i64 (H.s:Int),.slice (some ad) n c])/\qH (Below w.heap.size w wr)) (fun _ u4 _=>H.p-(intOf u4).toNat)
  case atStart=>exact⟨0,0,[],qo,rfl,qo,qh rfl,qh rfl,HOW,HX0,HBW⟩
  case round =>
    clear HX0 HBW HOW
    obtain⟨p,nl,l,hp,rfl,hnl,HCT,HLN,HO,HX,HB⟩:=hrel
    obtain⟨c0,c1,c2,c3⟩:=HX.o.four
    by_cases hlt:p<H.p
    · have t0:decide ((p:Int)<H.p)=true:=qt
      have hnl9:nl<=100000:=qo
      have hf:=qFR HV hlt
      have HOF:qH (∀ W:World,Calls Tryz.prog 146 #[(.agg #[.int .i64 (H.t:Int),.int .i64 (H.p:Int),.int .i64 (H.s:Int)]),.int .i64 (p:Int),.int .i64 0] W fun e w'=>e = .returned (.tuple #[.int .i64 (H.first p),.bool true])/\Below W.heap.size W w'):=qh (fun W=>by
        have h:=qNN H.t H.p H.s p 0 W
        rwa [hf.1,hf.2.1] at h)
      have hkc:=H.K_cases p
      obtain⟨kk,hkk⟩:∃ k,H.K p=k:=⟨_,rfl⟩
      obtain⟨m,hmm⟩:∃ m,H.ln p=m:=⟨_,rfl⟩
      obtain⟨cl,hcl⟩:∃ k,H.Cl p=k:=⟨_,rfl⟩
      have HK:=qh hkk
      have HM:=qh hmm
      have HCL:=qh hcl
      rw[hkk,hmm,hcl] at hkc
      obtain⟨fp,hfp⟩:∃ x,H.first p=x:=⟨_,rfl⟩
      rw[hfp] at HOF
      obtain⟨pg,hpg⟩:∃ x,H.pg=x:=⟨_,rfl⟩
      have HPG:=qh HPG0.o
      rw[hpg] at HPG hgb
      obtain⟨zz,hzz⟩:∃ z:Int,(m:Int)*(pg:Int)=z:=⟨_,rfl⟩
      have hmz:m*pg<=1024*1048576:=Nat.mul_le_mul qo hgb
      have sw:IntKind.i64.wrap ((m:Int)*(pg:Int))=zz:=by
        rw[<- hzz]
        have hc:((m*pg:Nat):Int)=(m:Int)*(pg:Int):=by push_cast;rfl
        rw[<- hc]
        exact qIv qo qo
      clear hf
      rcases(by omega:H.K p=0\/H.K p=1\/H.K p=2\/H.K p=3) with hk|hk|hk|hk
      · have HCT1:qH (AuH.catTo H.partsAt (p+1)=l):=qh (by
          rw[<- HCT.o]
          show AuH.catTo H.partsAt p++H.partsAt p=_
          rw[AuH.partsAt_no hk,List.append_nil])
        rw[hkk] at hk
        subst hk
        clear hkk hmm hcl hkc hfp hpg hzz hmz
        go_wp2_with (first
          | (go_at_call 42;refine(qMU HV ad hlt _ (HVL.o.below HB.o)).mono ?_;rintro e w2 ⟨rfl,hb2⟩;rw[HK.o,HM.o,HCL.o];have HGN:qH (∀ g,u3.ownBlock=some g->g<w2.heap.size):=qh (fun g h=>by have h1:=(HO.o.lt g h).2;have h2:=hb2.size;omega);have HB3:=qh (Bnew (Bgo HB.o hb2) (.cells #[.int .i64 0,.int .i64 (m:Int),.int .i64 cl] 90));have HX3:=qh ((HX.o.keep hb2).alloc (.cells #[.int .i64 0,.int .i64 (m:Int),.int .i64 cl] 90));have HO3:=qh ((qEc HO.o hb2).alloc (.cells #[.int .i64 0,.int .i64 (m:Int),.int .i64 cl] 90));have HI3:=qh (Held.new w2 90 #[.int .i64 0,.int .i64 (m:Int),.int .i64 cl]);have HG2:=qh (rfl:w2.heap.size=w2.heap.size);clear hb2 c0 c1 c2 c3;obtain⟨c0,c1,c2,c3⟩:=HX3.o.four;obtain⟨d0,d1,d2⟩:=HI3.o.three)
          | (refine Rh9 ?_;clear c0 c1 c2 c3 d0 d1 d2;intro w4 HB4 HX4 HO4 HI4 c0 c1 c2 c3 d0 d1 d2)
          | fail)
        go_roundw
        case rel=>exact⟨p+1,nl,l,qo,by go_num,qo,HCT1,HLN,HO4,HX4,HB4⟩
        case measure=>simp[intOf];omega
      · have HPA:qH (H.partsAt p = [(1,fp,zz)]):=qh (by rw[<- hfp,<- hzz,<- hmm,<- hpg];unfold AuH.partsAt;rw[if_pos hk])
        have HCT1:qH (AuH.catTo H.partsAt (p+1)=l ++ [(1,fp,zz)]):=qh (by rw[<- HPA.o,<- HCT.o];rfl)
        rw[hkk] at hk
        subst hk
        clear hkk hmm hcl hkc hfp hpg hzz hmz
        go_wp2_with (first
          | (go_at_call 42;refine(qMU HV ad hlt _ (HVL.o.below HB.o)).mono ?_;rintro e w2 ⟨rfl,hb2⟩;rw[HK.o,HM.o,HCL.o];have HGN:qH (∀ g,u3.ownBlock=some g->g<w2.heap.size):=qh (fun g h=>by have h1:=(HO.o.lt g h).2;have h2:=hb2.size;omega);have HB3:=qh (Bnew (Bgo HB.o hb2) (.cells #[.int .i64 1,.int .i64 (m:Int),.int .i64 cl] 90));have HX3:=qh ((HX.o.keep hb2).alloc (.cells #[.int .i64 1,.int .i64 (m:Int),.int .i64 cl] 90));have HO3:=qh ((qEc HO.o hb2).alloc (.cells #[.int .i64 1,.int .i64 (m:Int),.int .i64 cl] 90));have HI3:=qh (Held.new w2 90 #[.int .i64 1,.int .i64 (m:Int),.int .i64 cl]);have HG2:=qh (rfl:w2.heap.size=w2.heap.size);clear hb2 c0 c1 c2 c3;obtain⟨c0,c1,c2,c3⟩:=HX3.o.four;obtain⟨d0,d1,d2⟩:=HI3.o.three)
          | (refine Rh9 ?_;clear c0 c1 c2 c3 d0 d1 d2;intro w4 HB4 HX4 HO4 HI4 c0 c1 c2 c3 d0 d1 d2)
          | fail)
        generalize hg2:w2.heap.size=g2 at *
        have HSH:qH (∀ w',Held w' w.heap.size 88 #[.int .i64 (H.t:Int),.int .i64 (H.p:Int),.int .i64 (H.s:Int),.slice (some ad) n c]->Held w' g2 90 #[.int .i64 1,.int .i64 (m:Int),.int .i64 cl]->(fun w'=>w'.cell? ⟨w.heap.size,0,none⟩=some (.int .i64 (H.t:Int))/\w'.cell? ⟨w.heap.size,1,none⟩=some (.int .i64 (H.p:Int))/\w'.cell? ⟨w.heap.size,2,none⟩=some (.int .i64 (H.s:Int))/\w'.cell? ⟨w.heap.size,3,none⟩=some (.slice (some ad) n c)/\w'.cell? ⟨g2,0,none⟩=some (.int .i64 1)/\w'.cell? ⟨g2,1,none⟩=some (.int .i64 (m:Int))) w'):=qh (fun w' h1 h2=>⟨h1.four.1,h1.four.2.1,h1.four.2.2.1,h1.four.2.2.2,h2.three.1,h2.three.2.1⟩)
        clear c2 c3 d2 HG2
        refine wp_region_held_drew (S:=(fun w'=>w'.cell? ⟨w.heap.size,0,none⟩=some (.int .i64 (H.t:Int))/\w'.cell? ⟨w.heap.size,1,none⟩=some (.int .i64 (H.p:Int))/\w'.cell? ⟨w.heap.size,2,none⟩=some (.int .i64 (H.s:Int))/\w'.cell? ⟨w.heap.size,3,none⟩=some (.slice (some ad) n c)/\w'.cell? ⟨g2,0,none⟩=some (.int .i64 1)/\w'.cell? ⟨g2,1,none⟩=some (.int .i64 (m:Int)))) qr ?_ (fun hHeld=>?_)
        ·exact M03
        refine tkz 0 ?_
        refine tkz 1 ?_
        refine tkz 2 ?_
        refine tkz 3 ?_
        refine tkz 4 ?_
        refine tkz 5 ?_
        refine tkz 6 ?_
        refine tkz 7 ?_
        refine rdz 8 fun K hK=>?_
        go_simp
        (go_at_call 147;refine(HPG.o _).mono ?_;rintro e w5 ⟨rfl,hb5⟩;have HB5:=qh (Bgo (Bdrew HB4.o) hb5);have HX5:=qh (HX4.o.drew.keep hb5);have HI5:=qh (HI4.o.drew.keep hb5);have HO5:=qh (qEc (w:=w4.drew) HO4.o hb5);have hb5s:=HX5.o.lt;clear hb5)
        refine hK.out _ _ ?_ (fun hHeld=>?_)
        ·exact M03
        clear hK K
        (try simp only[Act.put,gA,gB,gC,sA,sB,sC])
        refine tkz 9 ?_
        refine tkz 10 ?_
        refine rdz 11 fun K hK=>?_
        go_simp
        skip
        refine hK.out _ _ ?_ (fun hHeld=>?_)
        ·exact M03
        clear hK K
        (try simp only[Act.put,gA,gB,gC,sA,sB,sC])
        refine rdz 12 fun K hK=>?_
        (refine step_append_lies _ (by rfl) _ _ 140 (by rfl) (w.heap.size+1) 143 j0 (.agg #[.int .i64 0,.int .i64 0,.int .i64 0]) 3 24 Tryz.underlying140 hjn hjz0 hjz1 hjz2 rfl (by decide) u3 nl (ptVs l) (by rfl) (HO5.o.alloc _) ⟨_,0,none⟩ 1 1 [.int .i64 1,.int .i64 fp,.int .i64 zz] (by rfl) rfl (fun jj yy hyy=>World.news_of_block (w:=w5.alloc (.cells #[.int .i64 1,.int .i64 fp,.int .i64 zz] 143)) (heap_alloc_new w5 _) jj yy (by simpa using hyy)) (by simp[Value.oneCell']) qo (by unfold maxLen;omega) qo qs _ rfl ?_;intro g cap w8 hown8 hgrow8 hat8 hlt8;have HX8:=qh (qGN (HX5.o.alloc (.cells #[.int .i64 1,.int .i64 fp,.int .i64 zz] 143)) hgrow8 (fun e=>by have:=(HO5.o.lt _ e).1;omega));have HI8:=qh (qGN (HI5.o.alloc (.cells #[.int .i64 1,.int .i64 fp,.int .i64 zz] 143)) hgrow8 (fun e=>by have:=HGN.o _ e;omega));have HB8:=qh ((Bnew HB5.o (.cells #[.int .i64 1,.int .i64 fp,.int .i64 zz] 143)).grown hgrow8 (by have:=HB5.o.size;simp;omega) (fun j hj=>by have:=(HO5.o.lt j hj).1;omega));have HO8:=qh hown8;clear hown8 hgrow8 hat8 hlt8)
        refine hK.out _ _ ?_ (fun hHeld=>?_)
        ·exact M03
        clear hK K
        (try simp only[Act.put,gA,gB,gC,sA,sB,sC])
        refine tkz 13 ?_
        refine dnz ?_
        go_wp2_with fail
        go_roundw
        case rel=>exact⟨p+1,nl+1,_,qo,by go_num,qo,HCT1,qh (by rw[List.length_append,HLN.o];rfl),qh (by rw[qHW,qKz];exact HO8.o),HX8,HB8⟩
        case measure=>simp[intOf];omega
      · have HPA:qH (H.partsAt p = [(2,fp,zz)]):=qh (by rw[<- hfp,<- hzz,<- hmm,<- hpg];unfold AuH.partsAt;rw[if_neg qo,if_pos hk])
        have HCT1:qH (AuH.catTo H.partsAt (p+1)=l ++ [(2,fp,zz)]):=qh (by rw[<- HPA.o,<- HCT.o];rfl)
        rw[hkk] at hk
        subst hk
        clear hkk hmm hcl hkc hfp hpg hzz hmz
        go_wp2_with (first
          | (go_at_call 42;refine(qMU HV ad hlt _ (HVL.o.below HB.o)).mono ?_;rintro e w2 ⟨rfl,hb2⟩;rw[HK.o,HM.o,HCL.o];have HGN:qH (∀ g,u3.ownBlock=some g->g<w2.heap.size):=qh (fun g h=>by have h1:=(HO.o.lt g h).2;have h2:=hb2.size;omega);have HB3:=qh (Bnew (Bgo HB.o hb2) (.cells #[.int .i64 2,.int .i64 (m:Int),.int .i64 cl] 90));have HX3:=qh ((HX.o.keep hb2).alloc (.cells #[.int .i64 2,.int .i64 (m:Int),.int .i64 cl] 90));have HO3:=qh ((qEc HO.o hb2).alloc (.cells #[.int .i64 2,.int .i64 (m:Int),.int .i64 cl] 90));have HI3:=qh (Held.new w2 90 #[.int .i64 2,.int .i64 (m:Int),.int .i64 cl]);have HG2:=qh (rfl:w2.heap.size=w2.heap.size);clear hb2 c0 c1 c2 c3;obtain⟨c0,c1,c2,c3⟩:=HX3.o.four;obtain⟨d0,d1,d2⟩:=HI3.o.three)
          | (refine Rh9 ?_;clear c0 c1 c2 c3 d0 d1 d2;intro w4 HB4 HX4 HO4 HI4 c0 c1 c2 c3 d0 d1 d2)
          | fail)
        generalize hg2:w2.heap.size=g2 at *
        have HSH:qH (∀ w',Held w' w.heap.size 88 #[.int .i64 (H.t:Int),.int .i64 (H.p:Int),.int .i64 (H.s:Int),.slice (some ad) n c]->Held w' g2 90 #[.int .i64 2,.int .i64 (m:Int),.int .i64 cl]->(fun w'=>w'.cell? ⟨w.heap.size,0,none⟩=some (.int .i64 (H.t:Int))/\w'.cell? ⟨w.heap.size,1,none⟩=some (.int .i64 (H.p:Int))/\w'.cell? ⟨w.heap.size,2,none⟩=some (.int .i64 (H.s:Int))/\w'.cell? ⟨w.heap.size,3,none⟩=some (.slice (some ad) n c)/\w'.cell? ⟨g2,0,none⟩=some (.int .i64 2)/\w'.cell? ⟨g2,1,none⟩=some (.int .i64 (m:Int))) w'):=qh (fun w' h1 h2=>⟨h1.four.1,h1.four.2.1,h1.four.2.2.1,h1.four.2.2.2,h2.three.1,h2.three.2.1⟩)
        clear c2 c3 d2 HG2
        refine wp_region_held_drew (S:=(fun w'=>w'.cell? ⟨w.heap.size,0,none⟩=some (.int .i64 (H.t:Int))/\w'.cell? ⟨w.heap.size,1,none⟩=some (.int .i64 (H.p:Int))/\w'.cell? ⟨w.heap.size,2,none⟩=some (.int .i64 (H.s:Int))/\w'.cell? ⟨w.heap.size,3,none⟩=some (.slice (some ad) n c)/\w'.cell? ⟨g2,0,none⟩=some (.int .i64 2)/\w'.cell? ⟨g2,1,none⟩=some (.int .i64 (m:Int)))) qr ?_ (fun hHeld=>?_)
        ·exact M03
        refine tkz 0 ?_
        refine tkz 1 ?_
        refine tkz 2 ?_
        refine tkz 3 ?_
        refine tkz 4 ?_
        refine tkz 5 ?_
        refine tkz 6 ?_
        refine tkz 7 ?_
        refine rdz 8 fun K hK=>?_
        go_simp
        (go_at_call 147;refine(HPG.o _).mono ?_;rintro e w5 ⟨rfl,hb5⟩;have HB5:=qh (Bgo (Bdrew HB4.o) hb5);have HX5:=qh (HX4.o.drew.keep hb5);have HI5:=qh (HI4.o.drew.keep hb5);have HO5:=qh (qEc (w:=w4.drew) HO4.o hb5);have hb5s:=HX5.o.lt;clear hb5)
        refine hK.out _ _ ?_ (fun hHeld=>?_)
        ·exact M03
        clear hK K
        (try simp only[Act.put,gA,gB,gC,sA,sB,sC])
        refine tkz 9 ?_
        refine tkz 10 ?_
        refine rdz 11 fun K hK=>?_
        go_simp
        skip
        refine hK.out _ _ ?_ (fun hHeld=>?_)
        ·exact M03
        clear hK K
        (try simp only[Act.put,gA,gB,gC,sA,sB,sC])
        refine rdz 12 fun K hK=>?_
        (refine step_append_lies _ (by rfl) _ _ 140 (by rfl) (w.heap.size+1) 143 j0 (.agg #[.int .i64 0,.int .i64 0,.int .i64 0]) 3 24 Tryz.underlying140 hjn hjz0 hjz1 hjz2 rfl (by decide) u3 nl (ptVs l) (by rfl) (HO5.o.alloc _) ⟨_,0,none⟩ 1 1 [.int .i64 2,.int .i64 fp,.int .i64 zz] (by rfl) rfl (fun jj yy hyy=>World.news_of_block (w:=w5.alloc (.cells #[.int .i64 2,.int .i64 fp,.int .i64 zz] 143)) (heap_alloc_new w5 _) jj yy (by simpa using hyy)) (by simp[Value.oneCell']) qo (by unfold maxLen;omega) qo qs _ rfl ?_;intro g cap w8 hown8 hgrow8 hat8 hlt8;have HX8:=qh (qGN (HX5.o.alloc (.cells #[.int .i64 2,.int .i64 fp,.int .i64 zz] 143)) hgrow8 (fun e=>by have:=(HO5.o.lt _ e).1;omega));have HI8:=qh (qGN (HI5.o.alloc (.cells #[.int .i64 2,.int .i64 fp,.int .i64 zz] 143)) hgrow8 (fun e=>by have:=HGN.o _ e;omega));have HB8:=qh ((Bnew HB5.o (.cells #[.int .i64 2,.int .i64 fp,.int .i64 zz] 143)).grown hgrow8 (by have:=HB5.o.size;simp;omega) (fun j hj=>by have:=(HO5.o.lt j hj).1;omega));have HO8:=qh hown8;clear hown8 hgrow8 hat8 hlt8)
        refine hK.out _ _ ?_ (fun hHeld=>?_)
        ·exact M03
        clear hK K
        (try simp only[Act.put,gA,gB,gC,sA,sB,sC])
        refine tkz 13 ?_
        refine dnz ?_
        go_wp2_with fail
        go_roundw
        case rel=>exact⟨p+1,nl+1,_,qo,by go_num,qo,HCT1,qh (by rw[List.length_append,HLN.o];rfl),qh (by rw[qHW,qKz];exact HO8.o),HX8,HB8⟩
        case measure=>simp[intOf];omega
      · have hlq:=AuH.partsAt_len (H:=H) p
        have hlq0:0<(H.partsAt p).length:=by
          unfold AuH.partsAt
          rw[if_neg qo,if_neg qo,if_pos hk,List.length_append,AuH.slotsTo_len]
          have:0<H.sl p:=by
            unfold AuH.sl
            have:=mt (qFH (k:=H.Cl p)).1 qo
            omega
          omega
        obtain⟨lq,hlqq⟩:∃ x,(H.partsAt p).length=x:=⟨_,rfl⟩
        rw[hlqq] at hlq hlq0
        have HLQ:=qh hlqq
        have HSLB:qH (∀ W:World,IsVals W ad n H.V->Calls Tryz.prog 148 #[.agg #[.int .i64 (H.t:Int),.int .i64 (H.p:Int),.int .i64 (H.s:Int),.slice (some ad) n c],.int .i64 (p:Int),.int .i64 cl] W fun e w'=>∃ u,e = .returned u/\w'.ownsRow W.heap.size 143 3 u (H.partsAt p).length (ptVs (H.partsAt p))/\Below W.heap.size W w'):=qh (fun W hv=>by
          have h:=qNa HV ad hlt hk W hv
          rwa [hcl] at h)
        have HCT1:qH (AuH.catTo H.partsAt (p+1)=l++H.partsAt p):=qh (by rw[<- HCT.o];rfl)
        rw[hkk] at hk
        subst hk
        clear hkk hmm hcl hkc hfp hpg hzz hmz hlqq
        go_wp2_with (first
          | (go_at_call 42;refine(qMU HV ad hlt _ (HVL.o.below HB.o)).mono ?_;rintro e w2 ⟨rfl,hb2⟩;rw[HK.o,HM.o,HCL.o];have HGN:qH (∀ g,u3.ownBlock=some g->g<w2.heap.size):=qh (fun g h=>by have h1:=(HO.o.lt g h).2;have h2:=hb2.size;omega);have HB3:=qh (Bnew (Bgo HB.o hb2) (.cells #[.int .i64 3,.int .i64 (m:Int),.int .i64 cl] 90));have HX3:=qh ((HX.o.keep hb2).alloc (.cells #[.int .i64 3,.int .i64 (m:Int),.int .i64 cl] 90));have HO3:=qh ((qEc HO.o hb2).alloc (.cells #[.int .i64 3,.int .i64 (m:Int),.int .i64 cl] 90));have HI3:=qh (Held.new w2 90 #[.int .i64 3,.int .i64 (m:Int),.int .i64 cl]);have HG2:=qh (rfl:w2.heap.size=w2.heap.size);clear hb2 c0 c1 c2 c3;obtain⟨c0,c1,c2,c3⟩:=HX3.o.four;obtain⟨d0,d1,d2⟩:=HI3.o.three)
          | (refine Rh9 ?_;clear c0 c1 c2 c3 d0 d1 d2;intro w4 HB4 HX4 HO4 HI4 c0 c1 c2 c3 d0 d1 d2)
          | (go_at_call 148;refine(HSLB.o _ (HVL.o.below HB4.o)).mono ?_;rintro e w5 ⟨u2,rfl,hown5,hb5⟩;have HB5:=qh (Bgo HB4.o hb5);have HX5:=qh (HX4.o.keep hb5);have HI5:=qh (HI4.o.keep hb5);have HO5:=qh (qEc HO4.o hb5);have hb5s:=HX5.o.lt;clear hb5 c0 c1 c2 c3 d0 d1 d2;rw[HLQ.o] at hown5;obtain⟨As,cs,rfl⟩:=qKK hown5;obtain⟨asl,rfl,_,hnw⟩:=(Reads.of_own hown5).2 hlq0;have HNW:=qh hnw;clear hown5 hnw)
          | (at_builtin
             refine wpList_append_lies _ rfl _ _ 140 rfl (w.heap.size+1) 143 j0 (.agg #[.int .i64 0,.int .i64 0,.int .i64 0]) 3 24 Tryz.underlying140 hjn hjz0 hjz1 hjz2 rfl (by decide) u3 nl (ptVs l) rfl HO5.o asl lq cs (ptVs (H.partsAt p)) rfl ?c0 HNW.o ?c1 hlq0 ?c3 ?c4 ?c5 _ rfl ?_
             case c0=>rw[qNP,HLQ.o]
             case c1=>exact qT9 _
             case c3=>unfold maxLen;omega
             case c4=>omega
             case c5=>omega
             intro g cap w8 hown8 hgrow8 hat8 hlt8)
          | fail)
        have HX8:=qh (qGN HX5.o hgrow8 (fun e=>by have:=(HO5.o.lt _ e).1;omega))
        have HB8:=qh (HB5.o.grown hgrow8 (by have:=HB5.o.size;omega) (fun j hj=>by have:=(HO5.o.lt j hj).1;omega))
        have HO8:=qh hown8
        clear hown8 hgrow8 hat8 hlt8
        go_wp2_with fail
        go_roundw
        case rel=>exact⟨p+1,nl+lq,_,qo,by go_num,qo,HCT1,qh (by rw[List.length_append,HLN.o,HLQ.o]),qh (by rw[qHW];exact HO8.o),HX8,HB8⟩
        case measure=>simp[intOf];omega
    · have t0:decide ((p:Int)<H.p)=false:=qf
      have hpe:p=H.p:=qo
      have HOE:qH (wr.ownsRow (w.heap.size+1) 143 3 u3 H.parts.length (ptVs H.parts)):=qh (by
        have h:=HO.o
        unfold AuH.parts
        rw[<- hpe,HCT.o,HLN.o]
        exact h)
      clear hpe
      go_wp2_with fail
      go_ret
      exact⟨_,rfl,qIX HOE.o qo,HB.o⟩
end
end Go.Proofs.YtgifnhcknodekaaGreat
