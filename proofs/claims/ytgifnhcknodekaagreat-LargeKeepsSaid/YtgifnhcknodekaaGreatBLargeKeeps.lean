/-
  The law LargeKeeps: the walk. Written by large/gen_keeps.py.
-/
import Derived.Test.YtgifnhcknodekaaGreatB14
import Derived.Test.YtgifnhcknodekaaGreatB15
import Derived.Test.YtgifnhcknodekaaGreatB13
import Derived.Test.YtgifnhcknodekaaGreatB02
import Derived.Deep.RegionHeld3
import Derived.Deep.CutRange
namespace Go.Proofs.YtgifnhcknodekaaGreat
theorem RG1 {P Q:Prop}(kq:Q)(h:HQ Q->P:=by
 intro kq
 replace HO1:=qh (qEc HO1.o hb)
 replace HD:=qh (HD.o.keep hb)
 refine qk ?_ (fun hHeld=>?_)
 ·first|exact HC.o.three|exact hHeld
 revert HO1 HD hHeld
 exact kq.o):P:=h ⟨kq⟩
theorem RCW {P Q:Prop}(kq:Q)(h:HQ Q->P:=by
 intro kq
 skip
 go_simp
 have hb:=Bnew (B0 v2) (.cells #[.slice none 0 0,.int .i64 0,.int .i64 0,.int .i64 0,.int .i64 0,.int .i64 0,.int .i64 0,.int .i64 0,.int .i64 0] 51)
 have HN:=qh (Held.new v2 51 #[.slice none 0 0,.int .i64 0,.int .i64 0,.int .i64 0,.int .i64 0,.int .i64 0,.int .i64 0,.int .i64 0,.int .i64 0])
 have HLE:=qh HD.o.bel.size
 have HLT:qH (W.heap.size<v2.heap.size/\NW<v2.heap.size):=qh ⟨HC.o.lt,HS.o.lt⟩
 have HNA:qH (¬ A4 v2.heap.size):=qh (fun x=>by have:=Ob.lt (vOb z1 b1 n true (qPX vals)) HD.o.i1 _ x;omega)
 replace HC:=qh (HC.o.keep hb)
 replace HS:=qh (HS.o.keep hb)
 replace HO1:=qh (qEc HO1.o hb)
 replace HO2:=qh (qEc HO2.o hb)
 replace HD:=qh (HD.o.keep hb)
 clear hb
 revert HN HLE HLT HNA HC HS HO1 HO2 HD
 exact kq.o):P:=h ⟨kq⟩
theorem RCg {P Q:Prop}(kq:Q)(h:HQ Q->P:=by
 intro kq
 skip
 go_simp
 have hb:=Bnew (B0 v1) (.cells #[.slice none 0 0,.int .i64 0,.int .i64 0,.int .i64 0,.int .i64 0,.int .i64 0,.int .i64 0,.int .i64 0,.int .i64 0] 51)
 have HN:=qh (Held.new v1 51 #[.slice none 0 0,.int .i64 0,.int .i64 0,.int .i64 0,.int .i64 0,.int .i64 0,.int .i64 0,.int .i64 0,.int .i64 0])
 have HLE:=qh HD.o.bel.size
 have HLT:qH (W.heap.size<v1.heap.size/\NW<v1.heap.size):=qh ⟨HC.o.lt,HS.o.lt⟩
 have HNA:qH (¬ A4 v1.heap.size):=qh (fun x=>by have:=Ob.lt (vOb z1 b1 n true (qPX vals)) HD.o.i1 _ x;omega)
 replace HC:=qh (HC.o.keep hb)
 replace HS:=qh (HS.o.keep hb)
 replace HO1:=qh (qEc HO1.o hb)
 replace HD:=qh (HD.o.keep hb)
 replace HRF:=qh (HRF.o.keep hb)
 clear hb
 revert HN HLE HLT HNA HC HS HO1 HD HRF
 exact kq.o):P:=h ⟨kq⟩
theorem R0z {P Q:Prop}(kq:Q)(h:HQ Q->P:=by
 intro kq
 skip
 go_simp
 have hb:=Bnew (B0 q0) (.cells #[.slice none 0 0,.int .i64 0,.int .i64 0,.int .i64 0,.int .i64 0,.int .i64 0,.int .i64 0,.int .i64 0,.int .i64 0] 51)
 have HN:=qh (Held.new q0 51 #[.slice none 0 0,.int .i64 0,.int .i64 0,.int .i64 0,.int .i64 0,.int .i64 0,.int .i64 0,.int .i64 0,.int .i64 0])
 have HLE:=qh HD.o.bel.size
 have HLT:qH (W.heap.size<q0.heap.size/\NW<q0.heap.size):=qh ⟨HC.o.lt,HS.o.lt⟩
 have HNA:qH (¬ A4 q0.heap.size):=qh (fun x=>by have:=Ob.lt (vOb z1 b1 n true (qPX vals)) HD.o.i1 _ x;omega)
 replace HC:=qh (HC.o.keep hb)
 replace HS:=qh (HS.o.keep hb)
 replace HO1:=qh (qEc HO1.o hb)
 replace HD:=qh (HD.o.keep hb)
 clear hb
 revert HN HLE HLT HNA HC HS HO1 HD
 exact kq.o):P:=h ⟨kq⟩
theorem Rwx {P Q:Prop}(kq:Q)(h:HQ Q->P:=by
 intro kq
 replace HC:=qh HC.o.drw
 replace HS:=qh HS.o.drw
 replace HO1:=qh (qEc HO1.o (Bdrew (B0 _)))
 replace HD:=qh (HD.o.keep (Bdrew (B0 _)))
 refine wp_region_held_drew (S:=(fun w'=>w'.cell? ⟨W.heap.size,0,none⟩=some (.int .i64 (H.t:Int))/\w'.cell? ⟨W.heap.size,1,none⟩=some (.int .i64 (H.p:Int))/\w'.cell? ⟨W.heap.size,2,none⟩=some (.int .i64 (H.s:Int)))) qr ?_ (fun hHeld=>?_)
 ·(try dsimp only)
  first|exact HC.o.three|exact hHeld
 revert HC HS HO1 HD hHeld
 exact kq.o):P:=h ⟨kq⟩
theorem Riv {P Q:Prop}(kq:Q)(h:HQ Q->P:=by
 intro kq
 replace HC:=qh (HC.o.keep hb)
 replace HS:=qh (HS.o.keep hb)
 revert HC HS
 exact kq.o):P:=h ⟨kq⟩
theorem Rlb {P Q:Prop}(kq:Q)(h:HQ Q->P:=by
 intro kq
 refine(qKm hn0 (by have:=hI9.ok.few;omega) _ hI9).mono ?_
 exact kq.o):P:=h ⟨kq⟩
theorem Rhb {P Q:Prop}(kq:Q)(h:HQ Q->P:=by
 intro kq
 refine rdz 8 fun K hK=>?_
 obtain⟨z0,z1',z2,z3,z4,z5',z6,z7,z8⟩:=HN.o.nine
 obtain⟨f0,f1,f2,f3,f4,f5,f6,f7,f8⟩:=HN.o.thawed9
 go_simp
 revert K hK z0 z1' z2 z3 z4 z5' z6 z7 z8 f0 f1 f2 f3 f4 f5 f6 f7 f8
 exact kq.o):P:=h ⟨kq⟩
theorem Rte {P Q:Prop}(kq:Q)(h:HQ Q->P:=by
 intro kq
 refine qk ?_ (fun hHeld=>?_)
 ·first|exact HC.o.three|exact hHeld
 revert hHeld
 exact kq.o):P:=h ⟨kq⟩
theorem Rw3 {P Q:Prop}(kq:Q)(h:HQ Q->P:=by
 intro kq
 refine tkz 4 ?_
 refine tkz 5 ?_
 refine tkz 6 ?_
 exact kq.o):P:=h ⟨kq⟩
theorem RDS {P Q:Prop}(kq:Q)(h:HQ Q->P:=by
 intro kq
 have HC:=qh (Held.new W 23 #[.int .i64 t,.int .i64 q,.int .i64 s])
 have HB:=qh (Bnew (B0 W) (.cells #[.int .i64 t,.int .i64 q,.int .i64 s] 23))
 obtain⟨x0,x1,x2⟩:=HC.o.three
 revert HC HB x0 x1 x2
 exact kq.o):P:=h ⟨kq⟩
theorem Rqf {P Q:Prop}(kq:Q)(h:HQ Q->P:=by
 intro kq
 replace HNS:=qh (HNS.o.keep hb)
 replace HO1:=qh (qEc HO1.o hb)
 replace HO2:=qh (qEc HO2.o hb)
 replace HD:=qh (HD.o.keep hb)
 revert HNS HO1 HO2 HD
 exact kq.o):P:=h ⟨kq⟩
theorem Mtd {P:Prop}(h:P:=by
 replace HO1:=qh (own9 hWF (qLg HN.o HO1.o (by decide)) HO1.o)
 replace HO2:=qh (own9 hWF (qLg HN.o HO2.o (by decide)) HO2.o)
 replace HC:=qh (far9 hWF (by have:=HLT.o;omega) HC.o)
 replace HS:=qh (far9 hWF (by have:=HLT.o;omega) HS.o)
 replace HD:=qh (duo9 hWF HNA.o (fun x=>x) HLE.o HD.o)
 replace HN:=qh (qXJ hWF HN.o)
 unfold wr9 set9 at hWF
 rw[hWF]
 clear hWF z0 z1' z2 z3 z4 z5' z6 z7 z8 f0 f1 f2 f3 f4 f5 f6 f7 f8
 refine Rte ?_;intro hHeld
 clear hK K
 refine tkz 9 ?_
 refine dnz ?_
 go_wp2_with fail
 go_meet
 case rel=>exact⟨_,_,_,_,rfl,rfl,HN.o,HO2.o,HC.o,HS.o,HO1.o,HD.o⟩):P:=h
theorem MCF {P:Prop}(h:P:=by
 replace HC:=qh (HC.o.keep hb)
 replace HB:=qh (Bgo HB.o hb)
 clear hb
 clear x0 x1 x2
 obtain⟨x0,x1,x2⟩:=HC.o.three
 go_wp2_with fail
 refine(qVa _).mono ?_
 rintro e w19 ⟨rfl,hb⟩
 have HBL:=qh (Bgo HB.o hb)
 clear hb
 go_wp2
 go_ret
 exact⟨rfl,HBL.o⟩):P:=h
theorem MDw {P:Prop}(h:P:=by
 unfold qPX
 rw[hVK i,List.getElem?_eq_getElem (by rw[HNN.o];exact hi)]
 simp[List.getD,List.getElem?_eq_getElem (show i<vals.length by rw[HNN.o];exact hi)]):P:=h
theorem M0h {P:Prop}(h:P:=by first|exact⟨by have h:=HS.o.nine.1;rw[HE.o] at h;exact h,HNS.o.nine.1,HBK.o _ HOW.o⟩|exact hHeld):P:=h
theorem MJ4 {P:Prop}(h:P:=by first|exact⟨HC.o.three,HS.o.nine.1,HNS.o.nine.1,HVZ.o _ HD.o.bel⟩|exact hHeld):P:=h
theorem MqV {P:Prop}(h:P:=by first|exact⟨HNS.o.nine,HS.o.nine,HVZ.o _ HD.o.bel⟩|exact hHeld):P:=h
end Go.Proofs.YtgifnhcknodekaaGreat
set_option linter.unusedVariables false
set_option linter.unusedSimpArgs false
set_option maxRecDepth 100000
set_option maxHeartbeats 25600000
namespace Go.Proofs.YtgifnhcknodekaaGreat
open Go.ChangeShapes Go.WideShapes Go.ChangeAt Go.RowKit Go.Maps
section
def qPX (vals:List Nat):Nat->Option Nat:=fun i=>vals[i]?
theorem qN7 (t q s nn:Int)(A:Option Addr)(n c m:Nat)(hq:64<q)(W:World)  : Calls Tryz.prog 4 #[.agg #[.int .i64 t,.int .i64 q,.int .i64 s],.slice A n c,.int .i64 nn] W (Keeps W):=by
 have t2:decide (q<=(64:Int))=false:=qf
 refine RDS ?_;intro HC HB x0 x1 x2
 go_enter Tryz.func4,Tryz.ntmps4
 go_wp2_with fail
 refine(qYU t q s _).mono ?_
 rintro e w1 ⟨rfl,hb⟩
 rw[t2]
 exact MCF

theorem qQK (t q s nn:Int)(A:Option Addr)(n c m:Nat)(hq:q<=64)(W:World)(hX:qH (XCheckIs W t q s A n c m false)):Calls Tryz.prog 4 #[.agg #[.int .i64 t,.int .i64 q,.int .i64 s],.slice A n c,.int .i64 nn] W (Keeps W):=by
 have t2:decide (q<=(64:Int))=true:=qt
 refine RDS ?_;intro HC HB x0 x1 x2
 go_enter Tryz.func4,Tryz.ntmps4
 go_wp2_with fail
 refine(qYU t q s _).mono ?_
 rintro e w1 ⟨rfl,hb⟩
 rw[t2]
 replace HC:=qh (HC.o.keep hb)
 replace HB:=qh (Bgo HB.o hb)
 clear hb
 clear x0 x1 x2
 obtain⟨x0,x1,x2⟩:=HC.o.three
 go_wp2_with fail
 refine(qHm t q s A n c m false _ (hX.o.grown HB.o)).mono ?_
 rintro e w2 ⟨rfl,hb⟩
 exact MCF

theorem qFw {H:AuH}{n c:Nat}{K:Nat->Option Nat}(HV:HeapV H n c){st:Vst}(hok:VOk n st)(h32:∀ i x,K i=some x->x<2^32)(hvw:VW n K st){p m:Nat}(hp:p<H.p)(hk:(nowH H n K st).K p=2)(hl:(nowH H n K st).ln p=m)(w:World)(g cp:Nat)(hrow:RowF w g 57 n cp (valF (nowV K st.wr))) :
  Calls Tryz.prog 17 #[.agg #[.int .i64 (H.t:Int),.int .i64 (H.p:Int),.int .i64 (H.s:Int)],.slice (some ⟨g,0,none⟩) n cp,.int .i64 (p:Int)] w fun e w'=>e = .returned (.int .i64 (m:Int))/\Below w.heap.size w w':=by
 have HV':=qN5 HV hok h32 (cp:=cp) hrow.le hrow.max
 have hv':IsVals w ⟨g,0,none⟩ n (nowH H n K st).V:=⟨hrow.lt,fun i hi=>by
  have e:(⟨g,0,none⟩:Addr).add i=⟨g,i,none⟩:=by
   unfold Addr.add
   by_cases hz:i=0
   ·rw[if_pos hz,hz]
   ·rw[if_neg hz];simp
  have e2:nowV K st.wr i=(nowH H n K st).V i:=by
   show _=curV n (getV n K st) H.V i
   rw[qG7 hi,hvw.at_ hi]
   rfl
  rw[e,hrow.cell hi]
  unfold valF
  rw[e2]⟩
 have h:=qHy HV' ⟨g,0,none⟩ (p:=p) hp w hv'
 unfold usedN at h
 rw[if_pos hk,hl] at h
 exact h

theorem qPL {H:AuH}(ad:Addr)(n c m:Nat)(HV:HeapV H n c)(nn:Int)(vals:List Nat)(HNN:qH (vals.length=n))(H32:qH (∀ x∈vals,x<2^32))(hVK:∀ i,H.V i=vals.getD i 0)(hq:H.p<=64)(hr:∀ i,i<10->H.rule i)(s2:Vst)(htk:allocL n (qPX vals) H.t H.p H.s nn freshS=(none,s2))(hwr:s2.wr = [])
  (W:World) (HR:qH (Reads W W.heap.size 1 (some ad) n (valVs vals))) (hv:qH (IsVals W ad n H.V)) (hX:qH (XCheckIs W H.t H.p H.s (some ad) n c m true)) :
  Calls Tryz.prog 4 #[.agg #[.int .i64 (H.t:Int),.int .i64 (H.p:Int),.int .i64 (H.s:Int)],.slice (some ad) n c,.int .i64 nn] W (Keeps W):=by
 have t2:decide ((H.p:Int)<=(64:Int))=true:=qt
 have hnb:n<=6238:=by have:=HV.nums;omega
 have hn0:0<n:=by have:=HV.len;omega
 have hcm:c<=maxLen:=HV.max
 have hcm2:c<=9223372036854775807:=hcm
 have hn40:n<2^40:=qo
 have hq10:(H.p:Int)<=1024:=qo
 have hK:∀ i,i<n->qPX vals i=some (H.V i):=fun i hi=>by
  exact MDw
 have h32K:∀ i x,qPX vals i=some x->x<2^32:=fun i x h=>H32.o x (List.mem_of_getElem? h)
 have HTK:=qh htk
 have HWR:=qh hwr
 obtain⟨L,hL⟩:∃ L,blocksOf H.parts=L:=⟨_,rfl⟩
 obtain⟨r0,hr0⟩:∃ r,H.V 22=r:=⟨_,rfl⟩
 obtain⟨r1,hr1⟩:∃ r,H.V 23=r:=⟨_,rfl⟩
 obtain⟨r2,hr2⟩:∃ r,H.V 24=r:=⟨_,rfl⟩
 obtain⟨r3,hr3⟩:∃ r,H.V 25=r:=⟨_,rfl⟩
 obtain⟨r4,hr4⟩:∃ r,H.V 26=r:=⟨_,rfl⟩
 obtain⟨r5,hr5⟩:∃ r,H.V 27=r:=⟨_,rfl⟩
 obtain⟨r6,hr6⟩:∃ r,H.V 28=r:=⟨_,rfl⟩
 obtain⟨r7,hr7⟩:∃ r,H.V 29=r:=⟨_,rfl⟩
 obtain⟨nl,hnl⟩:∃ nl,L.length=nl:=⟨_,rfl⟩
 have HNL:=qh hnl
 have hnlb:nl<=60000:=by rw[<- hnl,<- hL];exact qXC HV
 have hnlb2:nl<=100000:=qo
 have HRS:qH (H.V 22=r0/\H.V 23=r1/\H.V 24=r2/\H.V 25=r3/\H.V 26=r4/\H.V 27=r5/\H.V 28=r6/\H.V 29=r7/\blocksOf H.parts=L):=qh ⟨hr0,hr1,hr2,hr3,hr4,hr5,hr6,hr7,hL⟩
 clear htk hwr hr hVK hK h32K hr0 hr1 hr2 hr3 hr4 hr5 hr6 hr7 hL hnl
 have HC:=qh (Held.new W 23 #[.int .i64 (H.t:Int),.int .i64 (H.p:Int),.int .i64 (H.s:Int)])
 have HB:=qh (Bnew (B0 W) (.cells #[.int .i64 (H.t:Int),.int .i64 (H.p:Int),.int .i64 (H.s:Int)] 23))
 obtain⟨x0,x1,x2⟩:=HC.o.three
 go_enter Tryz.func4,Tryz.ntmps4
 go_wp2_with fail
 refine(qYU H.t H.p H.s _).mono ?_
 rintro e w1 ⟨rfl,hb⟩
 rw[t2]
 replace HC:=qh (HC.o.keep hb)
 replace HB:=qh (Bgo HB.o hb)
 clear hb
 clear x0 x1 x2
 obtain⟨x0,x1,x2⟩:=HC.o.three
 go_wp2_with fail
 refine(qHm H.t H.p H.s (some ad) n c m true _ (hX.o.grown HB.o)).mono ?_
 rintro e w2 ⟨rfl,hb⟩
 replace HC:=qh (HC.o.keep hb)
 replace HB:=qh (Bgo HB.o hb)
 clear hb
 clear x0 x1 x2
 obtain⟨x0,x1,x2⟩:=HC.o.three
 go_wp2_with fail
 refine(qJ4 HV ad m _ (hv.o.below HB.o) (hX.o.grown HB.o)).mono ?_
 rintro e w3 ⟨u1,rfl,hown,hb⟩
 obtain⟨hr0,hr1,hr2,hr3,hr4,hr5,hr6,hr7,hL⟩:=HRS.o
 rw[hr0,hr1,hr2,hr3,hr4,hr5,hr6,hr7]
 rw[hL,HNL.o] at hown
 obtain⟨A1,k1,hu1⟩:=qKK hown
 subst hu1
 have HO1:qH ((w3.alloc (.cells #[.slice A1 nl k1,.int .i64 (r0:Int),.int .i64 (r1:Int),.int .i64 (r2:Int),.int .i64 (r3:Int),.int .i64 (r4:Int),.int .i64 (r5:Int),.int .i64 (r6:Int),.int .i64 (r7:Int)] 51)).ownsRow 0 59 2 (.slice A1 nl k1) nl (bkVs L)):=qh (qEc (qXO hown (Nat.zero_le _)) (Bnew (B0 _) _))
 have HS:=qh (Held.new w3 51 #[.slice A1 nl k1,.int .i64 (r0:Int),.int .i64 (r1:Int),.int .i64 (r2:Int),.int .i64 (r3:Int),.int .i64 (r4:Int),.int .i64 (r5:Int),.int .i64 (r6:Int),.int .i64 (r7:Int)])
 replace HC:=qh ((HC.o.keep hb).alloc (.cells #[.slice A1 nl k1,.int .i64 (r0:Int),.int .i64 (r1:Int),.int .i64 (r2:Int),.int .i64 (r3:Int),.int .i64 (r4:Int),.int .i64 (r5:Int),.int .i64 (r6:Int),.int .i64 (r7:Int)] 51))
 replace HB:=qh (Bnew (Bgo HB.o hb) (.cells #[.slice A1 nl k1,.int .i64 (r0:Int),.int .i64 (r1:Int),.int .i64 (r2:Int),.int .i64 (r3:Int),.int .i64 (r4:Int),.int .i64 (r5:Int),.int .i64 (r6:Int),.int .i64 (r7:Int)] 51))
 clear hb hown HRS hr0 hr1 hr2 hr3 hr4 hr5 hr6 hr7 hL x0 x1 x2
 go_wp2_with fail
 generalize hN11:w3.heap.size=NW at *
 generalize hw11:w3.alloc (.cells #[.slice A1 nl k1,.int .i64 (r0:Int),.int .i64 (r1:Int),.int .i64 (r2:Int),.int .i64 (r3:Int),.int .i64 (r4:Int),.int .i64 (r5:Int),.int .i64 (r6:Int),.int .i64 (r7:Int)] 51)=w4 at *
 clear hN11 hw11
 have HRw:qH (Reads w4 w4.heap.size 1 (some ad) n (valVs vals)):=qh ((HR.o.below HB.o).more HB.o.size)
 refine(qWm (some ad) c vals n HNN.o qo H32.o _ (by
  intro h0
  obtain⟨ad',e,_,hc⟩:=HRw.o.2 h0
  exact⟨ad',e,hc⟩)).mono ?_
 rintro e w5 ⟨b1,o1,rfl,hI,hB⟩
 have HZC:qH (W.heap.size<w4.heap.size):=qh HC.o.lt
 have HZS:qH (NW<w4.heap.size):=qh HS.o.lt
 have HZR:qH (∀ g,(Value.slice A1 nl k1).ownBlock=some g->g<w4.heap.size):=qh (fun g e=>(HO1.o.lt g e).2)
 have HD:=qh (qAg (W:=W) (G:=fun g=>g<w4.heap.size) hI HB.o.size (Bgo HB.o hB) (fun g hg=>⟨Nat.lt_of_lt_of_le hg hB.size,fun x=>by have:=hI.ge _ x;omega⟩))
 replace HC:=qh (HC.o.keep hB)
 replace HS:=qh (HS.o.keep hB)
 replace HO1:=qh (qEc HO1.o hB)
 clear hI hB HRw HB
 generalize hz1:w4.heap.size=z1 at *
 clear hz1
 rw[show (fun i=>vals[i]?)=qPX vals from rfl] at HD
 obtain⟨x0,x1,x2⟩:=HC.o.three
 go_wp2_with fail
 refine(qHr hn40 hq10 nn HD.o.at1).mono ?_
 rintro e w6 ⟨rfl,h1,_⟩
 obtain⟨A4,h2,h3⟩:=HD.o.left1 h1.left
 rw[HTK.o] at h2 ⊢
 dsimp only[foundI,Option.isSome] at h2 ⊢
 replace HC:=qh (h3.held HZC.o HC.o)
 replace HS:=qh (h3.held HZS.o HS.o)
 replace HO1:=qh (h3.own HZR.o HO1.o)
 replace HD:=qh h2
 clear h1 h2 h3 x0 x1 x2
 obtain⟨x0,x1,x2⟩:=HC.o.three
 obtain⟨o5,hI5,_⟩:=HD.o.i1
 have HI5:=qh hI5
 have HB5:=qh HD.o.bel
 clear hI5 HD
 go_wp2_with fail
 refine(qD3 (by rw[HWR.o];simp) _ HI5.o).mono ?_
 rintro e w7 ⟨u7,rfl,ho,hb⟩
 rw[HWR.o] at ho
 obtain⟨A7,c7,hu7⟩:=qKK ho
 subst hu7
 have HB:=qh (Bgo HB5.o hb)
 clear hb ho HI5 HB5
 go_wp2_with fail
 refine(qVa _).mono ?_
 rintro e w19 ⟨rfl,hb⟩
 have HBL:=qh (Bgo HB.o hb)
 clear hb
 go_wp2
 go_ret
 exact⟨rfl,HBL.o⟩

theorem qX7 {H:AuH}(ad:Addr)(n c m:Nat)(HV:HeapV H n c)(p mm:Nat)(vals:List Nat)(HNN:qH (vals.length=n))(H32:qH (∀ x∈vals,x<2^32))(hVK:∀ i,H.V i=vals.getD i 0)(hq:H.p<=64)(hr:∀ i,i<10->H.rule i)(s1:Vst)(hfi:findI n (qPX vals) H.t H.p H.s (mm:Int) freshS=(some p,s1))(hlk:Looked n (qPX vals) freshS s1)(hp:p<H.p)(hk:H.K p=1)(hm1:1<=mm)(hm2:mm<=H.ln p)
  (W:World) (HR:qH (Reads W W.heap.size 1 (some ad) n (valVs vals))) (hv:qH (IsVals W ad n H.V)) (hX:qH (XCheckIs W H.t H.p H.s (some ad) n c m true)) :
  Calls Tryz.prog 4 #[.agg #[.int .i64 (H.t:Int),.int .i64 (H.p:Int),.int .i64 (H.s:Int)],.slice (some ad) n c,.int .i64 (mm:Int)] W (Keeps W):=by
 have t2:decide ((H.p:Int)<=(64:Int))=true:=qt
 have hnb:n<=6238:=by have:=HV.nums;omega
 have hn0:0<n:=by have:=HV.len;omega
 have hcm:c<=maxLen:=HV.max
 have hcm2:c<=9223372036854775807:=hcm
 have hn40:n<2^40:=qo
 have hq10:(H.p:Int)<=1024:=qo
 have hK:∀ i,i<n->qPX vals i=some (H.V i):=fun i hi=>by
  exact MDw
 have h32K:∀ i x,qPX vals i=some x->x<2^32:=fun i x h=>H32.o x (List.mem_of_getElem? h)
 obtain⟨LL,hok⟩:=AuH.okL_of qo hr
 have hsp:=qRA hok hp qo qo
 have hpm:p+mm<=H.p:=qo
 have hW1:=(Work.of_ok hok HV hK).looked hlk
 have T:=qWb HV hok hW1 hp hk hm1 hm2
 obtain⟨s3,hs3⟩:∃ s3,upS n (qPX vals) (takeS n (qPX vals) H.t H.p H.s p mm s1)=s3:=⟨_,rfl⟩
 rw[hs3] at T
 have HAL:qH (allocL n (qPX vals) H.t H.p H.s (mm:Int) freshS=(some p,s3)):=qh (by
  have h:=qPz (t:=H.t) (q:=H.p) (s:=H.s) hfi
  unfold allocL
  rw[h,<- hs3])
 obtain⟨s5,hs5⟩:∃ s5,freeL n (qPX vals) H.t H.p H.s p s3=s5:=⟨_,rfl⟩
 have HS5:=qh hs5
 have HINFO:qH (VOk n s3->infoOf n (qPX vals) H.t H.p H.s (p:Int) s3=(2,(mm:Int),0,true)):=qh (fun h=>(T.lenI HV h h32K hp).1)
 obtain⟨L,hL⟩:∃ L,blocksOf H.parts=L:=⟨_,rfl⟩
 obtain⟨pgn,hpg⟩:∃ g:Nat,H.pg=g:=⟨_,rfl⟩
 obtain⟨fa,hfa⟩:∃ f:Int,((p:Int)+1)*(pgn:Int)=f:=⟨_,rfl⟩
 obtain⟨LB,hLB⟩:∃ LB,blocksOf (nowH H n (qPX vals) s3).parts=LB:=⟨_,rfl⟩
 have hpg2:pgn=2^H.s:=by rw[<- hpg];rfl
 have hsb:=HV.fit.nums
 have hsr:=HV.right
 obtain⟨q1,q2,q3⟩:=T.some
 have efa:H.first p=fa:=by rw[<- hfa,<- hpg];rfl
 rw[hL,efa] at q1
 rw[hL,hLB] at q2 q3
 have HNOT:qH (¬ ∃ x∈L,x.1=fa):=qh (fun ⟨x,h1,h2⟩=>q1 x h1 h2)
 have HEACH:=qh q3
 obtain⟨r0,hr0⟩:∃ r,H.V 22=r:=⟨_,rfl⟩
 obtain⟨r1,hr1⟩:∃ r,H.V 23=r:=⟨_,rfl⟩
 obtain⟨r2,hr2⟩:∃ r,H.V 24=r:=⟨_,rfl⟩
 obtain⟨r3,hr3⟩:∃ r,H.V 25=r:=⟨_,rfl⟩
 obtain⟨r4,hr4⟩:∃ r,H.V 26=r:=⟨_,rfl⟩
 obtain⟨r5,hr5⟩:∃ r,H.V 27=r:=⟨_,rfl⟩
 obtain⟨r6,hr6⟩:∃ r,H.V 28=r:=⟨_,rfl⟩
 obtain⟨r7,hr7⟩:∃ r,H.V 29=r:=⟨_,rfl⟩
 have HNOW3:=qh (fun hok3=>qNU HV (st:=s3) hok3 h32K T.lists.choose_spec.2.vw T.lists.choose_spec.1.rules T.roots LB hLB r0 r1 r2 r3 r4 r5 r6 r7 hr0 hr1 hr2 hr3 hr4 hr5 hr6 hr7)
 have HUSED:=qh (fun (hok3:VOk n s3)=>qFw HV hok3 h32K T.lists.choose_spec.2.vw hp T.kind T.len)
 have HNOW5:qH (∀ (hok3:VOk n s3) (hok5:VOk n s5),(∀ (w:World) (g cp:Nat),RowF w g 57 n cp (valF (nowV (qPX vals) s5.wr))->Calls Tryz.prog 22 #[.agg #[.int .i64 (H.t:Int),.int .i64 (H.p:Int),.int .i64 (H.s:Int)],.slice (some ⟨g,0,none⟩) n cp] w fun e w'=>∃ u,e = .returned (.tuple #[.agg #[u,.int .i64 (r0:Int),.int .i64 (r1:Int),.int .i64 (r2:Int),.int .i64 (r3:Int),.int .i64 (r4:Int),.int .i64 (r5:Int),.int .i64 (r6:Int),.int .i64 (r7:Int)],.bool true])/\w'.ownsRow w.heap.size 59 2 u L.length (bkVs L)/\Below w.heap.size w w')/\nowV (qPX vals) s5.wr 0=H.V 0):=qh (fun hok3 hok5=>by
  have hl3:=(T.lenI HV hok3 h32K hp).2
  obtain⟨f1,f2,f3,f4,f5⟩:=(T.get (pageI H.t H.p H.s (p:Int) 0)).done HV hok hp hk hm2 hok3.get h32K
  have e5:downS n (qPX vals) (releaseS n (qPX vals) H.t H.p H.s p mm (getS n (qPX vals) s3 (pageI H.t H.p H.s (p:Int) 0)))=s5:=by
   rw[<- hs5]
   unfold freeL
   rw[hl3]
   rfl
  rw[e5] at f1 f2 f3 f4 f5
  exact⟨fun w g cp hrow=>qNU HV hok5 h32K f5 f1 f2 L (f4.trans hL) r0 r1 r2 r3 r4 r5 r6 r7 hr0 hr1 hr2 hr3 hr4 hr5 hr6 hr7 w g cp hrow,(qZb hn0 f5).trans f3⟩)
 obtain⟨nl,hnl⟩:∃ nl,L.length=nl:=⟨_,rfl⟩
 have HNL:=qh hnl
 have hnlb:nl<=60000:=by rw[<- hnl,<- hL];exact qXC HV
 have hnlb2:nl<=100000:=qo
 have HRS:qH (H.V 22=r0/\H.V 23=r1/\H.V 24=r2/\H.V 25=r3/\H.V 26=r4/\H.V 27=r5/\H.V 28=r6/\H.V 29=r7/\blocksOf H.parts=L):=qh ⟨hr0,hr1,hr2,hr3,hr4,hr5,hr6,hr7,hL⟩
 obtain⟨nb,hnb⟩:∃ nb,LB.length=nb:=⟨_,rfl⟩
 have HNB:=qh hnb
 have HNBE:nb=nl+1:=by rw[<- hnb,<- hnl];exact q2
 have hnbb:nb<=100000:=qo
 have hnbb2:nb<2^40:=qo
 have hpg3:pgn<=1048576:=qOB HV hpg2
 have hsh:=qYk HV
 have v1:IntKind.i64.wrap ((p:Int)+1)=(p:Int)+1:=qIv qo qo
 have hfa2:0<=fa/\fa<=1075838976:=by
  rw[<- hfa]
  have h1:((p:Int)+1)*(pgn:Int)<=1026*1048576:=Int.mul_le_mul qo qo qo qo
  exact⟨Int.mul_nonneg qo qo,qo⟩
 have epg:((2:Int)^H.s)=(pgn:Int):=by rw[hpg2];push_cast;rfl
 have v2:IntKind.i64.wrap (((p:Int)+1)*2^H.s)=fa:=by rw[epg,hfa];exact qIv qo qo
 have v5:IntKind.i64.wrap (((p:Int)+1)*(pgn:Int))=fa:=by rw[<- epg];exact v2
 obtain⟨z0,hz0⟩:∃ z,H.V 0=z:=⟨_,rfl⟩
 have HZ0:=qh hz0
 obtain⟨z3,hz3⟩:∃ z,(nowH H n (qPX vals) s3).V 0=z:=⟨_,rfl⟩
 have hzz:z3+mm=z0:=by rw[<- hz3,<- hz0];exact T.v0
 have HZ3P:qH (VOk n s3->nowV (qPX vals) s3.wr 0=z3):=qh (fun h=>(qZb hn0 T.lists.choose_spec.2.vw).trans hz3)
 have hz32:z0<4294967296:=by rw[<- hz0];exact HV.lt 0 hn0
 have u1:IntKind.u32.wrap (mm:Int)=(mm:Int):=qTt mm qo
 have u2:IntKind.u32.wrap ((z0:Int)-(mm:Int))=(z3:Int):=by rw[show (z0:Int)-(mm:Int)=(z3:Int) by omega];exact qTt z3 qo
 have u3:((z3:Int) != (z3:Int))=false:=by simp
 have u4:((mm:Int) != (mm:Int))=false:=by simp
 have v3:IntKind.i64.wrap ((nl:Int)+1)=(nb:Int):=by rw[qIv qo qo];omega
 have v4:((nb:Int) != (nb:Int))=false:=by simp
 have hzq:((z0:Int)==(z0:Int))=true:=by simp
 have vs1:=qP1 HV hpg2
 have HNBP:qH (nb=nl+1):=qh HNBE
 clear epg hpg2 q1 q2 q3 efa hzz hz32
 clear hs3 hs5 T hok hsp hW1 hlk hfi hK hVK h32K hr hr0 hr1 hr2 hr3 hr4 hr5 hr6 hr7 hL hLB hnl hnb hpg hfa hz0 hz3 hsb hsr hm2 hk HNBE
 have HC:=qh (Held.new W 23 #[.int .i64 (H.t:Int),.int .i64 (H.p:Int),.int .i64 (H.s:Int)])
 have HB:=qh (Bnew (B0 W) (.cells #[.int .i64 (H.t:Int),.int .i64 (H.p:Int),.int .i64 (H.s:Int)] 23))
 obtain⟨x0,x1,x2⟩:=HC.o.three
 go_enter Tryz.func4,Tryz.ntmps4
 go_wp2_with fail
 refine(qYU H.t H.p H.s _).mono ?_
 rintro e w1 ⟨rfl,hb⟩
 rw[t2]
 replace HC:=qh (HC.o.keep hb)
 replace HB:=qh (Bgo HB.o hb)
 clear hb
 clear x0 x1 x2
 obtain⟨x0,x1,x2⟩:=HC.o.three
 go_wp2_with fail
 refine(qHm H.t H.p H.s (some ad) n c m true _ (hX.o.grown HB.o)).mono ?_
 rintro e w2 ⟨rfl,hb⟩
 replace HC:=qh (HC.o.keep hb)
 replace HB:=qh (Bgo HB.o hb)
 clear hb
 clear x0 x1 x2
 obtain⟨x0,x1,x2⟩:=HC.o.three
 go_wp2_with fail
 refine(qJ4 HV ad m _ (hv.o.below HB.o) (hX.o.grown HB.o)).mono ?_
 rintro e w3 ⟨u1,rfl,hown,hb⟩
 obtain⟨hr0,hr1,hr2,hr3,hr4,hr5,hr6,hr7,hL⟩:=HRS.o
 rw[hr0,hr1,hr2,hr3,hr4,hr5,hr6,hr7]
 rw[hL,HNL.o] at hown
 obtain⟨A1,k1,hu1⟩:=qKK hown
 subst hu1
 have HO1:qH ((w3.alloc (.cells #[.slice A1 nl k1,.int .i64 (r0:Int),.int .i64 (r1:Int),.int .i64 (r2:Int),.int .i64 (r3:Int),.int .i64 (r4:Int),.int .i64 (r5:Int),.int .i64 (r6:Int),.int .i64 (r7:Int)] 51)).ownsRow 0 59 2 (.slice A1 nl k1) nl (bkVs L)):=qh (qEc (qXO hown (Nat.zero_le _)) (Bnew (B0 _) _))
 have HS:=qh (Held.new w3 51 #[.slice A1 nl k1,.int .i64 (r0:Int),.int .i64 (r1:Int),.int .i64 (r2:Int),.int .i64 (r3:Int),.int .i64 (r4:Int),.int .i64 (r5:Int),.int .i64 (r6:Int),.int .i64 (r7:Int)])
 replace HC:=qh ((HC.o.keep hb).alloc (.cells #[.slice A1 nl k1,.int .i64 (r0:Int),.int .i64 (r1:Int),.int .i64 (r2:Int),.int .i64 (r3:Int),.int .i64 (r4:Int),.int .i64 (r5:Int),.int .i64 (r6:Int),.int .i64 (r7:Int)] 51))
 replace HB:=qh (Bnew (Bgo HB.o hb) (.cells #[.slice A1 nl k1,.int .i64 (r0:Int),.int .i64 (r1:Int),.int .i64 (r2:Int),.int .i64 (r3:Int),.int .i64 (r4:Int),.int .i64 (r5:Int),.int .i64 (r6:Int),.int .i64 (r7:Int)] 51))
 clear hb hown HRS hr0 hr1 hr2 hr3 hr4 hr5 hr6 hr7 hL x0 x1 x2
 go_wp2_with fail
 generalize hN11:w3.heap.size=NW at *
 generalize hw11:w3.alloc (.cells #[.slice A1 nl k1,.int .i64 (r0:Int),.int .i64 (r1:Int),.int .i64 (r2:Int),.int .i64 (r3:Int),.int .i64 (r4:Int),.int .i64 (r5:Int),.int .i64 (r6:Int),.int .i64 (r7:Int)] 51)=w4 at *
 clear hN11 hw11
 have HRw:qH (Reads w4 w4.heap.size 1 (some ad) n (valVs vals)):=qh ((HR.o.below HB.o).more HB.o.size)
 refine(qWm (some ad) c vals n HNN.o qo H32.o _ (by
  intro h0
  obtain⟨ad',e,_,hc⟩:=HRw.o.2 h0
  exact⟨ad',e,hc⟩)).mono ?_
 rintro e w5 ⟨b1,o1,rfl,hI,hB⟩
 have HZC:qH (W.heap.size<w4.heap.size):=qh HC.o.lt
 have HZS:qH (NW<w4.heap.size):=qh HS.o.lt
 have HZR:qH (∀ g,(Value.slice A1 nl k1).ownBlock=some g->g<w4.heap.size):=qh (fun g e=>(HO1.o.lt g e).2)
 have HD:=qh (qAg (W:=W) (G:=fun g=>g<w4.heap.size) hI HB.o.size (Bgo HB.o hB) (fun g hg=>⟨Nat.lt_of_lt_of_le hg hB.size,fun x=>by have:=hI.ge _ x;omega⟩))
 replace HC:=qh (HC.o.keep hB)
 replace HS:=qh (HS.o.keep hB)
 replace HO1:=qh (qEc HO1.o hB)
 clear hI hB HRw HB
 generalize hz1:w4.heap.size=z1 at *
 clear hz1
 rw[show (fun i=>vals[i]?)=qPX vals from rfl] at HD
 obtain⟨x0,x1,x2⟩:=HC.o.three
 go_wp2_with fail
 refine(qHr hn40 hq10 (mm:Int) HD.o.at1).mono ?_
 rintro e w6 ⟨rfl,h1,_⟩
 obtain⟨A4,h2,h3⟩:=HD.o.left1 h1.left
 rw[HAL.o] at h2 ⊢
 dsimp only[foundI,Option.isSome] at h2 ⊢
 replace HC:=qh (h3.held HZC.o HC.o)
 replace HS:=qh (h3.held HZS.o HS.o)
 replace HO1:=qh (h3.own HZR.o HO1.o)
 replace HD:=qh h2
 clear h1 h2 h3 x0 x1 x2
 obtain⟨x0,x1,x2⟩:=HC.o.three
 have HOK3:qH (VOk n s3):=qh (by obtain⟨o,hI,_⟩:=HD.o.i1;exact hI.ok)
 have HN3:=qh (HNOW3.o HOK3.o)
 have HUS:=qh (HUSED.o HOK3.o)
 have HZ3:=qh (HZ3P.o HOK3.o)
 have HIN:=qh (HINFO.o HOK3.o)
 go_wp2_with fail
 go_cut [14,15] from 61 to 67 (fun u14 u15 wx=>∃ (N13 k2:Nat) (A2:Option Addr) (A4:Nat->Prop),u14 = .pointer (some ⟨N13,0,none⟩)/\u15 = .bool true/\Held wx N13 51 #[.slice A2 nb k2,.int .i64 (r0:Int),.int .i64 (r1:Int),.int .i64 (r2:Int),.int .i64 (r3:Int),.int .i64 (r4:Int),.int .i64 (r5:Int),.int .i64 (r6:Int),.int .i64 (r7:Int)]/\wx.ownsRow 0 59 2 (.slice A2 nb k2) nb (bkVs LB)/\Held wx W.heap.size 23 #[.int .i64 (H.t:Int),.int .i64 (H.p:Int),.int .i64 (H.s:Int)]/\Held wx NW 51 #[.slice A1 nl k1,.int .i64 (r0:Int),.int .i64 (r1:Int),.int .i64 (r2:Int),.int .i64 (r3:Int),.int .i64 (r4:Int),.int .i64 (r5:Int),.int .i64 (r6:Int),.int .i64 (r7:Int)]/\wx.ownsRow 0 59 2 (.slice A1 nl k1) nl (bkVs L)/\Duo W (vOb z1 b1 n true (qPX vals)) noOb A4 (fun _=>False) (fun g=>g<z1) s3 freshS wx)
 case first =>
  refine Rwx ?_;clear HC HS HO1 HD;intro HC HS HO1 HD hHeld
  generalize hq0:World.drew w6=q0 at HC HS HO1 HD hHeld ⊢
  clear hq0
  refine tkz 0 ?_
  refine tkz 1 ?_
  refine wpAnyH_ready (rs := [2,7]) qr (by simp) ?_
  refine AllReadyH.cons (o:=_) rfl (fun K hK=>?_) (AllReadyH.cons (o:=_) rfl (fun K hK=>?_) AllReadyH.nil)
  ·skip
   go_simp
   obtain⟨o9,hI9,_⟩:=HD.o.i1
   refine Rlb ?_
   rintro e v1 ⟨g,cp,rfl,_,hrow,hb⟩
   have HRF:=qh hrow
   clear hI9 hrow
   refine Riv ?_;clear HC HS;intro HC HS
   refine RG1 ?_;clear HO1 HD hb hK K;intro HO1 HD hHeld
   refine wpAnyH_ready (rs := [3,7]) qr (by simp) ?_
   refine AllReadyH.cons (o:=_) rfl (fun K hK=>?_) (AllReadyH.cons (o:=_) rfl (fun K hK=>?_) AllReadyH.nil)
   ·skip
    go_simp
    refine(HN3.o _ _ _ HRF.o).mono ?_
    rintro e v2 ⟨u2,rfl,hown,hb⟩
    rw[HNB.o] at hown
    obtain⟨A2,k2,hu2⟩:=qKK hown
    subst hu2
    have HO2:qH (v2.ownsRow 0 59 2 (.slice A2 nb k2) nb (bkVs LB)):=qh (qXO hown (Nat.zero_le _))
    clear HRF hown
    refine Riv ?_;clear HC HS;intro HC HS
    refine RG1 ?_;clear HO1 HD hb hK K;intro HO1 HD hHeld
    refine Rw3 ?_
    refine rdz 7 fun K hK=>?_
    ·refine RCW ?_;clear HC HS HO1 HO2 HD;intro HN HLE HLT HNA HC HS HO1 HO2 HD
     generalize hn13:v2.heap.size=N13 at *
     generalize hw13:v2.alloc (.cells #[.slice none 0 0,.int .i64 0,.int .i64 0,.int .i64 0,.int .i64 0,.int .i64 0,.int .i64 0,.int .i64 0,.int .i64 0] 51)=v3 at *
     clear hn13 hw13
     refine Rte ?_;intro hHeld
     clear hK K
     refine Rhb ?_;intro K hK z0 z1' z2 z3 z4 z5' z6 z7 z8 f0 f1 f2 f3 f4 f5 f6 f7 f8
     obtain⟨WF,hWF⟩:∃ WF,wr9 (v3) N13 (.slice A2 nb k2) r0 r1 r2 r3 r4 r5 r6 r7=WF:=⟨_,rfl⟩
     exact Mtd
   ·refine RCg ?_;clear HC HS HO1 HD HRF;intro HN HLE HLT HNA HC HS HO1 HD HRF
    generalize hn13:v1.heap.size=N13 at *
    generalize hw13:v1.alloc (.cells #[.slice none 0 0,.int .i64 0,.int .i64 0,.int .i64 0,.int .i64 0,.int .i64 0,.int .i64 0,.int .i64 0,.int .i64 0] 51)=v4 at *
    clear hn13 hw13
    refine Rte ?_;intro hHeld
    clear hK K
    refine rdz 3 fun K hK=>?_
    ·skip
     go_simp
     refine(HN3.o _ _ _ HRF.o).mono ?_
     rintro e v5 ⟨u2,rfl,hown,hb⟩
     rw[HNB.o] at hown
     obtain⟨A2,k2,hu2⟩:=qKK hown
     subst hu2
     have HO2:qH (v5.ownsRow 0 59 2 (.slice A2 nb k2) nb (bkVs LB)):=qh (qXO hown (Nat.zero_le _))
     clear HRF hown
     refine Riv ?_;clear HC HS;intro HC HS
     replace HN:=qh (HN.o.keep hb)
     refine RG1 ?_;clear HO1 HD hb hK K;intro HO1 HD hHeld
     refine Rw3 ?_
     refine Rhb ?_;intro K hK z0 z1' z2 z3 z4 z5' z6 z7 z8 f0 f1 f2 f3 f4 f5 f6 f7 f8
     obtain⟨WF,hWF⟩:∃ WF,wr9 (v5) N13 (.slice A2 nb k2) r0 r1 r2 r3 r4 r5 r6 r7=WF:=⟨_,rfl⟩
     exact Mtd
  ·refine R0z ?_;clear HC HS HO1 HD;intro HN HLE HLT HNA HC HS HO1 HD
   generalize hn13:q0.heap.size=N13 at *
   generalize hw13:q0.alloc (.cells #[.slice none 0 0,.int .i64 0,.int .i64 0,.int .i64 0,.int .i64 0,.int .i64 0,.int .i64 0,.int .i64 0,.int .i64 0] 51)=v6 at *
   clear hn13 hw13
   refine Rte ?_;intro hHeld
   clear hK K
   refine rdz 2 fun K hK=>?_
   ·skip
    go_simp
    obtain⟨o9,hI9,_⟩:=HD.o.i1
    refine Rlb ?_
    rintro e v7 ⟨g,cp,rfl,_,hrow,hb⟩
    have HRF:=qh hrow
    clear hI9 hrow
    refine Riv ?_;clear HC HS;intro HC HS
    replace HN:=qh (HN.o.keep hb)
    refine RG1 ?_;clear HO1 HD hb hK K;intro HO1 HD hHeld
    refine rdz 3 fun K hK=>?_
    ·skip
     go_simp
     refine(HN3.o _ _ _ HRF.o).mono ?_
     rintro e v8 ⟨u2,rfl,hown,hb⟩
     rw[HNB.o] at hown
     obtain⟨A2,k2,hu2⟩:=qKK hown
     subst hu2
     have HO2:qH (v8.ownsRow 0 59 2 (.slice A2 nb k2) nb (bkVs LB)):=qh (qXO hown (Nat.zero_le _))
     clear HRF hown
     refine Riv ?_;clear HC HS;intro HC HS
     replace HN:=qh (HN.o.keep hb)
     refine RG1 ?_;clear HO1 HD hb hK K;intro HO1 HD hHeld
     refine Rw3 ?_
     refine Rhb ?_;intro K hK z0 z1' z2 z3 z4 z5' z6 z7 z8 f0 f1 f2 f3 f4 f5 f6 f7 f8
     obtain⟨WF,hWF⟩:∃ WF,wr9 (v8) N13 (.slice A2 nb k2) r0 r1 r2 r3 r4 r5 r6 r7=WF:=⟨_,rfl⟩
     exact Mtd
 case rest =>
  obtain⟨N13,k2,A2,A4,rfl,rfl,hN,hO2,hHC,hHS,hHO1,hD⟩:=hcut
  have HNS:=qh hN
  have HO2:=qh hO2
  replace HC:=qh hHC
  replace HS:=qh hHS
  replace HO1:=qh hHO1
  replace HD:=qh hD
  clear hN hO2 hHC hHS hHO1 hD
  clear x0 x1 x2
  obtain⟨x0,x1,x2⟩:=HC.o.three
  have HVZ:qH (∀ w',Below W.heap.size W w'->w'.cell? (ad.add 0)=some (.int .u32 (z0:Int))/\w'.cell? ad=some (.int .u32 (z0:Int))):=qh (fun w' hw=>by
   have h1:=(hv.o.below hw).2 0 hn0
   rw[HZ0.o] at h1
   exact⟨h1,by rw[qMO] at h1;exact h1⟩)
  go_wp2_with fail
  replace HC:=qh HC.o.drw
  replace HS:=qh HS.o.drw
  replace HNS:=qh HNS.o.drw
  replace HO1:=qh (qEc HO1.o (Bdrew (B0 _)))
  replace HO2:=qh (qEc HO2.o (Bdrew (B0 _)))
  replace HD:=qh (HD.o.keep (Bdrew (B0 _)))
  refine wp_region_held_drew (S:=(fun w'=>(w'.cell? ⟨W.heap.size,0,none⟩=some (.int .i64 (H.t:Int))/\w'.cell? ⟨W.heap.size,1,none⟩=some (.int .i64 (H.p:Int))/\w'.cell? ⟨W.heap.size,2,none⟩=some (.int .i64 (H.s:Int)))/\w'.cell? ⟨NW,0,none⟩=some (.slice A1 nl k1)/\w'.cell? ⟨N13,0,none⟩=some (.slice A2 nb k2)/\w'.cell? (ad.add 0)=some (.int .u32 (z0:Int))/\w'.cell? ad=some (.int .u32 (z0:Int)))) qr ?_ (fun hHeld=>?_)
  ·(try dsimp only)
   exact MJ4
  refine Ro3 ?_
  refine tkz 3 ?_
  refine tkz 4 ?_
  refine tkz 5 ?_
  refine rdz 6 fun K hK=>?_
  go_simp
  refine(qLZ L A1 nl k1 fa _ 0 HO1.o HNL.o (qPd HO1.o) qo false ⟨(fun h=>by cases h),fun h=>absurd h HNOT.o⟩).mono ?_
  rintro e w99 ⟨rfl,rfl⟩
  refine qk ?_ (fun hHeld=>?_)
  ·exact MJ4
  clear hK K
  refine tkz 7 ?_
  refine RYy ?_
  refine tkz 11 ?_
  refine tkz 12 ?_
  refine tkz 13 ?_
  refine tkz 14 ?_
  refine tkz 15 ?_
  refine tkz 16 ?_
  refine tkz 17 ?_
  refine tkz 18 ?_
  refine tkz 19 ?_
  refine tkz 20 ?_
  refine tkz 22 ?_
  refine tkz 24 ?_
  refine rdz 21 fun K hK=>?_
  go_simp
  obtain⟨o9,hI9,_⟩:=HD.o.i1
  refine Rlb ?_
  rintro e w61 ⟨g,cp,rfl,_,hrow,hb⟩
  have HRF:=qh hrow
  clear hI9 hrow
  refine Riv ?_;clear HC HS;intro HC HS
  refine Rqf ?_;clear HNS HO1 HO2 HD;intro HNS HO1 HO2 HD
  clear hb
  have hcp:=HRF.o.le
  have hcp2:cp<=9223372036854775807:=HRF.o.max
  refine qk ?_ (fun hHeld=>?_)
  ·exact MJ4
  clear hK K
  refine rdz 23 fun K hK=>?_
  go_simp
  refine(HUS.o _ _ _ HRF.o).mono ?_
  rintro e w62 ⟨rfl,hb⟩
  refine Riv ?_;clear HC HS;intro HC HS
  refine Rqf ?_;clear HNS HO1 HO2 HD;intro HNS HO1 HO2 HD
  clear hb HRF
  refine qk ?_ (fun hHeld=>?_)
  ·exact MJ4
  clear hK K
  refine tkz 25 ?_
  refine tkz 26 ?_
  refine tkz 27 ?_
  refine tkz 28 ?_
  refine tkz 32 ?_
  refine tkz 33 ?_
  refine tkz 34 ?_
  refine tkz 35 ?_
  refine tkz 36 ?_
  refine tkz 37 ?_
  refine rdz 29 fun K hK=>?_
  go_simp
  obtain⟨o9,hI9,_⟩:=HD.o.i1
  refine Rlb ?_
  rintro e w63 ⟨g,cp,rfl,_,hrow,hb⟩
  have HRF:=qh hrow
  clear hI9 hrow
  refine Riv ?_;clear HC HS;intro HC HS
  refine Rqf ?_;clear HNS HO1 HO2 HD;intro HNS HO1 HO2 HD
  clear hb
  have hcp:=HRF.o.le
  have hcp2:cp<=9223372036854775807:=HRF.o.max
  refine qk ?_ (fun hHeld=>?_)
  ·exact MJ4
  clear hK K
  refine tkz 30 ?_
  have c0:w63.cell? ⟨g,0,none⟩=some (.int .u32 (z3:Int)):=by
   have h1:=HRF.o.cell hn0
   unfold valF at h1
   rw[HZ3.o] at h1
   exact h1
  refine rdz 31 fun K hK=>?_
  go_simp
  skip
  refine qk ?_ (fun hHeld=>?_)
  ·exact MJ4
  clear hK K
  refine tkz 38 ?_
  refine tkz 39 ?_
  refine dnz ?_
  clear x0 x1 x2
  obtain⟨x0,x1,x2⟩:=HC.o.three
  clear u1 u2 u3 u4 v3 v4 HUS HZ3 HRF
  go_wp2_with fail
  go_loopw [16] (fun u16 wr=>∃ j:Nat,j<=nl/\u16 = .int .i64 (j:Int)/\qH (Held wr W.heap.size 23 #[.int .i64 (H.t:Int),.int .i64 (H.p:Int),.int .i64 (H.s:Int)])/\qH (Held wr NW 51 #[.slice A1 nl k1,.int .i64 (r0:Int),.int .i64 (r1:Int),.int .i64 (r2:Int),.int .i64 (r3:Int),.int .i64 (r4:Int),.int .i64 (r5:Int),.int .i64 (r6:Int),.int .i64 (r7:Int)])/\qH (Held wr N13 51 #[.slice A2 nb k2,.int .i64 (r0:Int),.int .i64 (r1:Int),.int .i64 (r2:Int),.int .i64 (r3:Int),.int .i64 (r4:Int),.int .i64 (r5:Int),.int .i64 (r6:Int),.int .i64 (r7:Int)])/\qH (wr.ownsRow 0 59 2 (.slice A1 nl k1) nl (bkVs L))/\qH (wr.ownsRow 0 59 2 (.slice A2 nb k2) nb (bkVs LB))/\qH (Duo W (vOb z1 b1 n true (qPX vals)) noOb A4 (fun _=>False) (fun g=>g<z1) s3 freshS wr)) (fun u16 _=>nl-(intOf u16).toNat)
  case atStart=>exact⟨0,qo,rfl,HC,HS,HNS,HO1,HO2,HD⟩
  case round =>
   clear HC HS HNS HO1 HO2 HD
   clear x0 x1 x2
   obtain⟨j,hj,rfl,HC,HS,HNS,HO1,HO2,HD⟩:=hrel
   obtain⟨x0,x1,x2⟩:=HC.o.three
   obtain⟨d0,d1,d2,d3,d4,d5,d6,d7,d8⟩:=HS.o.nine
   by_cases hlt:j<nl
   ·have t1:decide ((j:Int)<(nl:Int))=true:=qt
    have t1n:decide (j<nl)=true:=decide_eq_true hlt
    obtain⟨x,hxj⟩:∃ x,L[j]?=some x:=⟨_,List.getElem?_eq_getElem (by have:=HNL.o;omega)⟩
    obtain⟨gw,cw,hvv,_,_⟩:=HO1.o.form qo
    injection hvv with hvv _ hcc
    have HE:=qh hvv
    have HOW:qH (wr.ownsRow 0 59 2 (.slice (some ⟨gw,0,none⟩) nl k1) nl (bkVs L)):=qh (by have h:=HO1.o;rw[HE.o] at h;exact h)
    have hea:=HEACH.o x (List.mem_of_getElem? hxj)
    have HEX:qH (∃ y∈LB,y.1=x.1):=qh ⟨x,hea,rfl⟩
    obtain⟨p0,p1⟩:=qGH HOW.o HNL.o hxj
    obtain⟨xa,xz⟩:=x
    simp only at p0 p1 HEX
    have HBK:qH (∀ w':World,w'.ownsRow 0 59 2 (.slice (some ⟨gw,0,none⟩) nl k1) nl (bkVs L)->w'.cell? ⟨gw,j*2,none⟩=some (.int .i64 xa)):=qh (fun w' h=>(qGH h HNL.o hxj).1)
    have hkk1:=qPd HOW.o
    have hkk2:=qPd HO2.o
    clear hxj hea hvv hcc p0 p1
    go_wp2_with fail
    clear d0 d1 d2 d3 d4 d5 d6 d7 d8
    replace HC:=qh HC.o.drw
    replace HS:=qh HS.o.drw
    replace HNS:=qh HNS.o.drw
    replace HO1:=qh (qEc HO1.o (Bdrew (B0 _)))
    replace HO2:=qh (qEc HO2.o (Bdrew (B0 _)))
    replace HOW:=qh (qEc HOW.o (Bdrew (B0 _)))
    replace HD:=qh (HD.o.keep (Bdrew (B0 _)))
    refine wp_region_held_drew (S:=(fun w'=>w'.cell? ⟨NW,0,none⟩=some (.slice (some ⟨gw,0,none⟩) nl k1)/\w'.cell? ⟨N13,0,none⟩=some (.slice A2 nb k2)/\w'.cell? ⟨gw,j*2,none⟩=some (.int .i64 xa))) qr ?_ (fun hHeld=>?_)
    ·(try dsimp only)
     exact M0h
    refine RLS ?_
    refine rdz 8 fun K hK=>?_
    go_simp
    refine(qLZ LB A2 nb k2 xa _ 0 HO2.o HNB.o (qPd HO2.o) qo true ⟨fun _=>HEX.o,fun _=>rfl⟩).mono ?_
    rintro e w99 ⟨rfl,rfl⟩
    refine qk ?_ (fun hHeld=>?_)
    ·exact M0h
    clear hK K
    refine tkz 9 ?_
    refine dnz ?_
    go_wp2_with fail
    go_roundw
    case rel=>exact⟨j+1,qo,by go_num,HC,HS,HNS,HO1,HO2,HD⟩
    case measure=>simp[intOf];omega
   ·have t1:decide ((j:Int)<(nl:Int))=false:=qf
    have t1n:decide (j<nl)=false:=decide_eq_false hlt
    clear HNS HO2
    go_wp2_with fail
    refine(qQv hn40 hq10 p mm qo qo 2 0 true HIN.o HD.o.at1).mono ?_
    rintro e w6 ⟨rfl,h1,_⟩
    obtain⟨A4,h2,h3⟩:=HD.o.left1 h1.left
    rw[HS5.o] at h2
    replace HC:=qh (h3.held HZC.o HC.o)
    replace HS:=qh (h3.held HZS.o HS.o)
    replace HO1:=qh (h3.own HZR.o HO1.o)
    replace HD:=qh h2
    clear h1 h2 h3 x0 x1 x2
    obtain⟨x0,x1,x2⟩:=HC.o.three
    clear d0 d1 d2 d3 d4 d5 d6 d7 d8
    have HOK5:qH (VOk n s5):=qh (by obtain⟨o,hI,_⟩:=HD.o.i1;exact hI.ok)
    have HN5:=qh (HNOW5.o HOK3.o HOK5.o).1
    have HZ5:=qh ((HNOW5.o HOK3.o HOK5.o).2.trans HZ0.o)
    go_wp2_with fail
    go_cut [17,18] from 129 to 135 (fun u17 u18 wx=>∃ (N17 k5:Nat) (A5:Option Addr) (A4:Nat->Prop),u17 = .pointer (some ⟨N17,0,none⟩)/\u18 = .bool true/\Held wx N17 51 #[.slice A5 nl k5,.int .i64 (r0:Int),.int .i64 (r1:Int),.int .i64 (r2:Int),.int .i64 (r3:Int),.int .i64 (r4:Int),.int .i64 (r5:Int),.int .i64 (r6:Int),.int .i64 (r7:Int)]/\wx.ownsRow 0 59 2 (.slice A5 nl k5) nl (bkVs L)/\Held wx W.heap.size 23 #[.int .i64 (H.t:Int),.int .i64 (H.p:Int),.int .i64 (H.s:Int)]/\Held wx NW 51 #[.slice A1 nl k1,.int .i64 (r0:Int),.int .i64 (r1:Int),.int .i64 (r2:Int),.int .i64 (r3:Int),.int .i64 (r4:Int),.int .i64 (r5:Int),.int .i64 (r6:Int),.int .i64 (r7:Int)]/\wx.ownsRow 0 59 2 (.slice A1 nl k1) nl (bkVs L)/\Duo W (vOb z1 b1 n true (qPX vals)) noOb A4 (fun _=>False) (fun g=>g<z1) s5 freshS wx)
    case first =>
     refine Rwx ?_;clear HC HS HO1 HD;intro HC HS HO1 HD hHeld
     generalize hq0:World.drew w6=q0 at HC HS HO1 HD hHeld ⊢
     clear hq0
     refine tkz 0 ?_
     refine tkz 1 ?_
     refine wpAnyH_ready (rs := [2,7]) qr (by simp) ?_
     refine AllReadyH.cons (o:=_) rfl (fun K hK=>?_) (AllReadyH.cons (o:=_) rfl (fun K hK=>?_) AllReadyH.nil)
     ·skip
      go_simp
      obtain⟨o9,hI9,_⟩:=HD.o.i1
      refine Rlb ?_
      rintro e v1 ⟨g,cp,rfl,_,hrow,hb⟩
      have HRF:=qh hrow
      clear hI9 hrow
      refine Riv ?_;clear HC HS;intro HC HS
      refine RG1 ?_;clear HO1 HD hb hK K;intro HO1 HD hHeld
      refine wpAnyH_ready (rs := [3,7]) qr (by simp) ?_
      refine AllReadyH.cons (o:=_) rfl (fun K hK=>?_) (AllReadyH.cons (o:=_) rfl (fun K hK=>?_) AllReadyH.nil)
      ·skip
       go_simp
       refine(HN5.o _ _ _ HRF.o).mono ?_
       rintro e v2 ⟨u2,rfl,hown,hb⟩
       rw[HNL.o] at hown
       obtain⟨A5,k5,hu2⟩:=qKK hown
       subst hu2
       have HO2:qH (v2.ownsRow 0 59 2 (.slice A5 nl k5) nl (bkVs L)):=qh (qXO hown (Nat.zero_le _))
       clear HRF hown
       refine Riv ?_;clear HC HS;intro HC HS
       refine RG1 ?_;clear HO1 HD hb hK K;intro HO1 HD hHeld
       refine Rw3 ?_
       refine rdz 7 fun K hK=>?_
       ·refine RCW ?_;clear HC HS HO1 HO2 HD;intro HN HLE HLT HNA HC HS HO1 HO2 HD
        generalize hn13:v2.heap.size=N17 at *
        generalize hw13:v2.alloc (.cells #[.slice none 0 0,.int .i64 0,.int .i64 0,.int .i64 0,.int .i64 0,.int .i64 0,.int .i64 0,.int .i64 0,.int .i64 0] 51)=v3 at *
        clear hn13 hw13
        refine Rte ?_;intro hHeld
        clear hK K
        refine Rhb ?_;intro K hK z0 z1' z2 z3 z4 z5' z6 z7 z8 f0 f1 f2 f3 f4 f5 f6 f7 f8
        obtain⟨WF,hWF⟩:∃ WF,wr9 (v3) N17 (.slice A5 nl k5) r0 r1 r2 r3 r4 r5 r6 r7=WF:=⟨_,rfl⟩
        exact Mtd
      ·refine RCg ?_;clear HC HS HO1 HD HRF;intro HN HLE HLT HNA HC HS HO1 HD HRF
       generalize hn13:v1.heap.size=N17 at *
       generalize hw13:v1.alloc (.cells #[.slice none 0 0,.int .i64 0,.int .i64 0,.int .i64 0,.int .i64 0,.int .i64 0,.int .i64 0,.int .i64 0,.int .i64 0] 51)=v4 at *
       clear hn13 hw13
       refine Rte ?_;intro hHeld
       clear hK K
       refine rdz 3 fun K hK=>?_
       ·skip
        go_simp
        refine(HN5.o _ _ _ HRF.o).mono ?_
        rintro e v5 ⟨u2,rfl,hown,hb⟩
        rw[HNL.o] at hown
        obtain⟨A5,k5,hu2⟩:=qKK hown
        subst hu2
        have HO2:qH (v5.ownsRow 0 59 2 (.slice A5 nl k5) nl (bkVs L)):=qh (qXO hown (Nat.zero_le _))
        clear HRF hown
        refine Riv ?_;clear HC HS;intro HC HS
        replace HN:=qh (HN.o.keep hb)
        refine RG1 ?_;clear HO1 HD hb hK K;intro HO1 HD hHeld
        refine Rw3 ?_
        refine Rhb ?_;intro K hK z0 z1' z2 z3 z4 z5' z6 z7 z8 f0 f1 f2 f3 f4 f5 f6 f7 f8
        obtain⟨WF,hWF⟩:∃ WF,wr9 (v5) N17 (.slice A5 nl k5) r0 r1 r2 r3 r4 r5 r6 r7=WF:=⟨_,rfl⟩
        exact Mtd
     ·refine R0z ?_;clear HC HS HO1 HD;intro HN HLE HLT HNA HC HS HO1 HD
      generalize hn13:q0.heap.size=N17 at *
      generalize hw13:q0.alloc (.cells #[.slice none 0 0,.int .i64 0,.int .i64 0,.int .i64 0,.int .i64 0,.int .i64 0,.int .i64 0,.int .i64 0,.int .i64 0] 51)=v6 at *
      clear hn13 hw13
      refine Rte ?_;intro hHeld
      clear hK K
      refine rdz 2 fun K hK=>?_
      ·skip
       go_simp
       obtain⟨o9,hI9,_⟩:=HD.o.i1
       refine Rlb ?_
       rintro e v7 ⟨g,cp,rfl,_,hrow,hb⟩
       have HRF:=qh hrow
       clear hI9 hrow
       refine Riv ?_;clear HC HS;intro HC HS
       replace HN:=qh (HN.o.keep hb)
       refine RG1 ?_;clear HO1 HD hb hK K;intro HO1 HD hHeld
       refine rdz 3 fun K hK=>?_
       ·skip
        go_simp
        refine(HN5.o _ _ _ HRF.o).mono ?_
        rintro e v8 ⟨u2,rfl,hown,hb⟩
        rw[HNL.o] at hown
        obtain⟨A5,k5,hu2⟩:=qKK hown
        subst hu2
        have HO2:qH (v8.ownsRow 0 59 2 (.slice A5 nl k5) nl (bkVs L)):=qh (qXO hown (Nat.zero_le _))
        clear HRF hown
        refine Riv ?_;clear HC HS;intro HC HS
        replace HN:=qh (HN.o.keep hb)
        refine RG1 ?_;clear HO1 HD hb hK K;intro HO1 HD hHeld
        refine Rw3 ?_
        refine Rhb ?_;intro K hK z0 z1' z2 z3 z4 z5' z6 z7 z8 f0 f1 f2 f3 f4 f5 f6 f7 f8
        obtain⟨WF,hWF⟩:∃ WF,wr9 (v8) N17 (.slice A5 nl k5) r0 r1 r2 r3 r4 r5 r6 r7=WF:=⟨_,rfl⟩
        exact Mtd
    case rest =>
     obtain⟨N17,k5,A5,A4,rfl,rfl,hN,hO2,hHC,hHS,hHO1,hD⟩:=hcut
     have HNS:=qh hN
     have HO2:=qh hO2
     replace HC:=qh hHC
     replace HS:=qh hHS
     replace HO1:=qh hHO1
     replace HD:=qh hD
     clear hN hO2 hHC hHS hHO1 hD
     clear x0 x1 x2
     obtain⟨x0,x1,x2⟩:=HC.o.three
     go_wp2_with fail
     replace HNS:=qh HNS.o.drw
     replace HS:=qh HS.o.drw
     replace HO1:=qh (qEc HO1.o (Bdrew (B0 _)))
     replace HO2:=qh (qEc HO2.o (Bdrew (B0 _)))
     replace HD:=qh (HD.o.keep (Bdrew (B0 _)))
     refine wp_region_held_drew (S:=(fun w'=>(w'.cell? ⟨N17,0,none⟩=some (.slice A5 nl k5)/\w'.cell? ⟨N17,1,none⟩=some (.int .i64 (r0:Int))/\w'.cell? ⟨N17,2,none⟩=some (.int .i64 (r1:Int))/\w'.cell? ⟨N17,3,none⟩=some (.int .i64 (r2:Int))/\w'.cell? ⟨N17,4,none⟩=some (.int .i64 (r3:Int))/\w'.cell? ⟨N17,5,none⟩=some (.int .i64 (r4:Int))/\w'.cell? ⟨N17,6,none⟩=some (.int .i64 (r5:Int))/\w'.cell? ⟨N17,7,none⟩=some (.int .i64 (r6:Int))/\w'.cell? ⟨N17,8,none⟩=some (.int .i64 (r7:Int)))/\(w'.cell? ⟨NW,0,none⟩=some (.slice A1 nl k1)/\w'.cell? ⟨NW,1,none⟩=some (.int .i64 (r0:Int))/\w'.cell? ⟨NW,2,none⟩=some (.int .i64 (r1:Int))/\w'.cell? ⟨NW,3,none⟩=some (.int .i64 (r2:Int))/\w'.cell? ⟨NW,4,none⟩=some (.int .i64 (r3:Int))/\w'.cell? ⟨NW,5,none⟩=some (.int .i64 (r4:Int))/\w'.cell? ⟨NW,6,none⟩=some (.int .i64 (r5:Int))/\w'.cell? ⟨NW,7,none⟩=some (.int .i64 (r6:Int))/\w'.cell? ⟨NW,8,none⟩=some (.int .i64 (r7:Int)))/\w'.cell? (ad.add 0)=some (.int .u32 (z0:Int))/\w'.cell? ad=some (.int .u32 (z0:Int)))) qr ?_ (fun hHeld=>?_)
     ·(try dsimp only)
      exact MqV
     refine Ro3 ?_
     refine tkz 3 ?_
     refine rdz 4 fun K hK=>?_
     go_simp
     refine(qVO L L A5 A1 nl nl k5 k1 0 0 r0 r1 r2 r3 r4 r5 r6 r7 r0 r1 r2 r3 r4 r5 r6 r7 _ HNL.o HNL.o hnlb2 hnlb2 HO2.o HO1.o true ⟨fun _=>⟨rfl,rfl⟩,fun _=>rfl⟩).mono ?_
     rintro e w21 ⟨rfl,hb⟩
     replace HNS:=qh (HNS.o.keep hb)
     replace HS:=qh (HS.o.keep hb)
     replace HD:=qh (HD.o.keep hb)
     clear hb
     refine qk ?_ (fun hHeld=>?_)
     ·exact MqV
     clear hK K
     refine tkz 5 ?_
     refine tkz 6 ?_
     refine tkz 7 ?_
     refine tkz 11 ?_
     refine tkz 12 ?_
     refine tkz 13 ?_
     refine rdz 8 fun K hK=>?_
     go_simp
     obtain⟨o9,hI9,_⟩:=HD.o.i1
     refine Rlb ?_
     rintro e w22 ⟨g,cp,rfl,_,hrow,hb⟩
     have HRF:=qh hrow
     clear hI9 hrow
     replace HNS:=qh (HNS.o.keep hb)
     replace HS:=qh (HS.o.keep hb)
     replace HD:=qh (HD.o.keep hb)
     clear hb
     have hcp:=HRF.o.le
     have hcp2:cp<=9223372036854775807:=HRF.o.max
     refine qk ?_ (fun hHeld=>?_)
     ·exact MqV
     clear hK K
     refine tkz 9 ?_
     have c0:w22.cell? ⟨g,0,none⟩=some (.int .u32 (z0:Int)):=by
      have h1:=HRF.o.cell hn0
      unfold valF at h1
      rw[HZ5.o] at h1
      exact h1
     refine rdz 10 fun K hK=>?_
     go_simp
     skip
     refine qk ?_ (fun hHeld=>?_)
     ·exact MqV
     clear hK K
     refine tkz 14 ?_
     refine tkz 15 ?_
     refine tkz 16 ?_
     refine rdz 17 fun K hK=>?_
     go_simp
     refine(qVa _).mono ?_
     rintro e w23 ⟨rfl,hb⟩
     replace HNS:=qh (HNS.o.keep hb)
     replace HS:=qh (HS.o.keep hb)
     replace HD:=qh (HD.o.keep hb)
     clear hb
     refine qk ?_ (fun hHeld=>?_)
     ·exact MqV
     clear hK K
     refine tkz 18 ?_
     refine tkz 19 ?_
     refine dnz ?_
     have HB:=qh HD.o.bel
     go_wp2
     go_ret
     exact⟨rfl,HB.o⟩

theorem qCj (t q s nn:Int)(A:Option Addr)(c:Nat)(vals:List Nat)(hnc:vals.length<=c)(hcm:c<=maxLen)(h32:∀ x∈vals,x<2^32)(W:World)(HR:qH (Reads W W.heap.size 1 A vals.length (valVs vals))) :
  Calls Tryz.prog 4 #[.agg #[.int .i64 t,.int .i64 q,.int .i64 s],.slice A vals.length c,.int .i64 nn] W (Keeps W):=by
 by_cases hq:q<=64
 ·rcases qXV W t q s A c vals hnc hcm h32 HR.o with ⟨m,hX⟩|⟨H,ad,m,rfl,rfl,rfl,rfl,hV,HV,hv,hto,hX⟩
  ·exact qQK t q s nn A _ c m hq W (qh hX)
  ·have hK:∀ i,i<vals.length->qPX vals i=some (H.V i):=fun i hi=>by
    unfold qPX
    rw[hV i,List.getElem?_eq_getElem hi]
    simp[List.getD,List.getElem?_eq_getElem hi]
   rcases qYA HV (qAW hto) hK nn with ⟨h1,h2⟩|⟨p,mm,rfl,h1,h2,h3,h4,h5,h6⟩
   ·exact qPL ad _ c m HV nn vals (qh rfl) (qh h32) hV qo (qAW hto) (findI vals.length (qPX vals) H.t H.p H.s nn freshS).2 (by
     have h:=qKW (t:=H.t) (q:=H.p) (s:=H.s) (s1:=(findI vals.length (qPX vals) H.t H.p H.s nn freshS).2) (by rw[<- h1])
     unfold allocL
     rw[h]) h2 W HR (qh hv) (qh hX)
   ·exact qX7 ad _ c m HV p mm vals (qh rfl) (qh h32) hV qo (qAW hto) _ (by rw[<- h1]) h2 h3 h4 h5 h6 W HR (qh hv) (qh hX)
 ·exact qN7 t q s nn A _ c 0 qo W
end
end Go.Proofs.YtgifnhcknodekaaGreat
