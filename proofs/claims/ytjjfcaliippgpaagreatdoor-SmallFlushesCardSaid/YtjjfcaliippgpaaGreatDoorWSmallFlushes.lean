/-
  The law SmallFlushes: the walk. Written by small/gen_flushes.py.
-/
import Derived.Test.YtjjfcaliippgpaaGreatDoorW21
import Derived.Test.YtjjfcaliippgpaaGreatDoorW22
import Derived.Test.YtjjfcaliippgpaaGreatDoorW17
import Derived.Test.YtjjfcaliippgpaaGreatDoorW16
import Derived.Deep.CutRange
namespace Go.Proofs.YtjjfcaliippgpaaGreatDoor
theorem RfI {P Q:Prop}(kq:Q)(h:HQ Q->P:=by
 intro kq
 replace HC:=qh (HC.o.keep hb)
 replace HX:=qh (HX.o.keep hb)
 replace HS:=qh (HS.o.keep hb)
 revert HC HX HS
 exact kq.o):P:=h ⟨kq⟩
theorem RG1 {P Q:Prop}(kq:Q)(h:HQ Q->P:=by
 intro kq
 replace HO1:=qh (qEc HO1.o hb)
 replace HD:=qh (HD.o.keep hb)
 refine qk ?_ (fun hHeld=>?_)
 ·first|exact HC.o.three|exact hHeld
 revert HO1 HD hHeld
 exact kq.o):P:=h ⟨kq⟩
theorem RIg {P Q:Prop}(kq:Q)(h:HQ Q->P:=by
 intro kq
 have HRA:qH (∀ g,(Value.slice A2 nl k2).ownBlock=some g->¬ A4 g):=qh (fun g e x=>by have h1:=(hown.lt g e).1;have:=Ob.lt (vOb z1 b1 n true (qMP vals)) HD.o.i1 _ x;omega)
 revert HRA
 exact kq.o):P:=h ⟨kq⟩
theorem RXI {P Q:Prop}(kq:Q)(h:HQ Q->P:=by
 intro kq
 replace HNP:=qh (HNP.o.keep hb)
 replace HNQ:=qh (HNQ.o.keep hb)
 replace HO1:=qh (qEc HO1.o hb)
 replace HD:=qh (HD.o.keep hb)
 replace HPQ:=qh (HPQ.o.below hb)
 revert HNP HNQ HO1 HD HPQ
 exact kq.o):P:=h ⟨kq⟩
theorem M7u {P:Prop}(h:P:=by
 replace HO1:=qh (own9 hWF (qLg HN.o HO1.o (by decide)) HO1.o)
 replace HO2:=qh (own9 hWF (qLg HN.o HO2.o (by decide)) HO2.o)
 replace HC:=qh (far9 hWF (by have:=HLT.o;omega) HC.o)
 replace HX:=qh (far9 hWF (by have:=HLT.o;omega) HX.o)
 replace HS:=qh (far9 hWF (by have:=HLT.o;omega) HS.o)
 replace HPK:=qh (HPK.o.far9 hWF (by have:=HLT.o;omega) HNB.o)
 replace HD:=qh (duo9 hWF HNA.o (fun x=>x) HLE.o HD.o)
 replace HN:=qh (qXJ hWF HN.o)
 unfold wr9 set9 at hWF
 rw[hWF]
 clear hWF z0 z1' z2 z3 z4 z5' z6 z7 z8 f0 f1 f2 f3 f4 f5 f6 f7 f8
 refine qk ?_ (fun hHeld=>?_)
 ·first|exact HC.o.three|exact hHeld
 clear hK K
 refine tkz 9 ?_
 refine dnz ?_
 go_wp2_with fail
 go_meet
 case rel=>exact⟨_,_,_,_,rfl,rfl,HN.o,HO2.o,HC.o,HX.o,HS.o,HPK.o,HO1.o,⟨HNA.o,HRA.o⟩,HD.o⟩):P:=h
theorem MI2 {P:Prop}(h:P:=by
 clear hk
 exact Mrs):P:=h
theorem Mrs {P:Prop}(h:P:=by
 go_enter Tryz.func6,Tryz.ntmps6
 go_wp2_with fail
 refine(HF.o _ HB.o).mono ?_
 rintro e w2 ⟨rfl,hb⟩
 refine RXO ?_;clear HC HX HB hb;intro HC HX HB
 clear x0' x1' x2' y0' y1' y2' y3' y4'
 refine RZx ?_;intro x0' x1' x2' y0' y1' y2' y3' y4'
 exact Myq):P:=h
theorem Myq {P:Prop}(h:P:=by
 go_wp2_with fail
 refine(qKo _ (HTL.o.below HB.o)).mono ?_
 rintro e w19 ⟨rfl,hb⟩
 have HBL:=qh (Bgo HB.o hb)
 clear hb
 go_wp2
 go_ret
 exact⟨rfl,HBL.o⟩):P:=h
theorem M4y {P:Prop}(h:P:=by first|exact⟨HC.o.three,HX.o.five',HCK.o _ HNP.o,HCQ.o _ _ HNQ.o,HNQ.o.nineP⟩|exact hHeld):P:=h
end Go.Proofs.YtjjfcaliippgpaaGreatDoor
set_option linter.unusedVariables false
set_option linter.unusedSimpArgs false
set_option maxRecDepth 100000
set_option maxHeartbeats 25600000
namespace Go.Proofs.YtjjfcaliippgpaaGreatDoor
open Go.ChangeShapes Go.WideShapes Go.ChangeAt Go.RowKit Go.Maps
section
theorem qPa (t q s:Int)(A:Option Addr)(n c:Nat)(A2:Option Addr)(T c2:Nat)(t0 k0 pg sl:Int)(W:World)(hT:SlotsLaid W)(HF:qH (∀ w,Below W.heap.size W w->Calls Tryz.prog 7 #[.agg #[.int .i64 t,.int .i64 q,.int .i64 s],.slice A n c,.agg #[.slice A2 T c2,.int .i64 t0,.int .i64 k0,.int .i64 pg,.int .i64 sl]] w fun e w'=>e = .returned (.bool false)/\Below w.heap.size w w')):Calls Tryz.prog 6 #[.agg #[.int .i64 t,.int .i64 q,.int .i64 s],.slice A n c,.agg #[.slice A2 T c2,.int .i64 t0,.int .i64 k0,.int .i64 pg,.int .i64 sl]] W (Keeps W):=by
 refine RYq ?_;intro HC HX HB
 have HTL:=qh hT
 clear hT
 refine RZx ?_;intro x0' x1' x2' y0' y1' y2' y3' y4'
 exact Mrs

theorem qMV (t q s:Int)(A:Option Addr)(n c:Nat)(A2:Option Addr)(T c2:Nat)(t0 k0 pg sl:Int)(hk:k0<0\/8<k0)(W:World)(hT:SlotsLaid W)(HF:qH (∀ w,Below W.heap.size W w->Calls Tryz.prog 7 #[.agg #[.int .i64 t,.int .i64 q,.int .i64 s],.slice A n c,.agg #[.slice A2 T c2,.int .i64 t0,.int .i64 k0,.int .i64 pg,.int .i64 sl]] w fun e w'=>e = .returned (.bool true)/\Below w.heap.size w w')):Calls Tryz.prog 6 #[.agg #[.int .i64 t,.int .i64 q,.int .i64 s],.slice A n c,.agg #[.slice A2 T c2,.int .i64 t0,.int .i64 k0,.int .i64 pg,.int .i64 sl]] W (Keeps W):=by
 refine RYq ?_;intro HC HX HB
 have HTL:=qh hT
 clear hT
 refine RZx ?_;intro x0' x1' x2' y0' y1' y2' y3' y4'
 obtain⟨b1,h1⟩:∃ b1,decide (k0<(0:Int))=b1:=⟨_,rfl⟩
 cases b1
 ·have h2:decide ((8:Int)<k0)=true:=decide_eq_true (by have:=of_decide_eq_false h1;omega)
  exact MI2
 ·exact MI2

theorem qIm {H:AuH}(ad:Addr)(n c m:Nat)(HV:HeapV H n c)(vals:List Nat)(HNN:qH (vals.length=n))(H32:qH (∀ x∈vals,x<2^32))(hVK:∀ i,H.V i=vals.getD i 0)(hnc:n<=c)(ad2:Addr)(c2:Nat)(hTc:H.t<=c2)(hc2:c2<=maxLen)(i0:Nat)(hi0:i0<H.t)(k:Nat)(hk:k<9)(pg sl:Int)(U:Nat->Nat->Sl)(Z:Nat->Nat->List Int)(hq:H.p<=64)(L0:Nat->List Nat)(hok:H.Ok L0)(hfit:FitsP H.parts (szH H) H.t Z)
  (W:World) (hT:SlotsLaid W) (HR:qH (Reads W W.heap.size 1 (some ad) n (valVs vals))) (hv:qH (IsVals W ad n H.V)) (hX:qH (XCheckIs W H.t H.p H.s (some ad) n c m true)) (HP:qH (PksAt W (some ad2) H.t U Z)) (HF:qH (∀ w,Below W.heap.size W w->Calls Tryz.prog 7 #[.agg #[.int .i64 (H.t:Int),.int .i64 (H.p:Int),.int .i64 (H.s:Int)],.slice (some ad) n c,.agg #[.slice (some ad2) H.t c2,.int .i64 (i0:Int),.int .i64 (k:Int),.int .i64 pg,.int .i64 sl]] w fun e w'=>e = .returned (.bool true)/\Below w.heap.size w w')) :
  Calls Tryz.prog 6 #[.agg #[.int .i64 (H.t:Int),.int .i64 (H.p:Int),.int .i64 (H.s:Int)],.slice (some ad) n c,.agg #[.slice (some ad2) H.t c2,.int .i64 (i0:Int),.int .i64 (k:Int),.int .i64 pg,.int .i64 sl]] W (Keeps W):=by
 have hn:n<=6238:=by have:=HV.nums;omega
 have hn0:0<n:=by have:=HV.len;omega
 have hT16:H.t<=16:=HV.nums.2.1
 have hcm:c<=maxLen:=HV.max
 have hcm2:c<=9223372036854775807:=hcm
 have hc3:c2<=9223372036854775807:=by unfold maxLen at hc2;omega
 have hn40:n<2^40:=qo
 have hq10:(H.p:Int)<=1024:=qo
 have hk9:(k:Int)<9:=qo
 have hk0 : -9223372036854775808<=(k:Int):=qo
 have hk1:(k:Int)<=9223372036854775807:=qo
 have hK:∀ i,i<n->qMP vals i=some (H.V i):=fun i hi=>by
  unfold qMP
  rw[hVK i,List.getElem?_eq_getElem (by rw[HNN.o];exact hi)]
  simp[List.getD,List.getElem?_eq_getElem (show i<vals.length by rw[HNN.o];exact hi)]
 have h32K:∀ i x,qMP vals i=some x->x<2^32:=fun i x h=>H32.o x (List.mem_of_getElem? h)
 obtain⟨L,hL⟩:∃ L,blocksOf H.parts=L:=⟨_,rfl⟩
 obtain⟨r0,hr0⟩:∃ r,H.V 22=r:=⟨_,rfl⟩
 obtain⟨r1,hr1⟩:∃ r,H.V 23=r:=⟨_,rfl⟩
 obtain⟨r2,hr2⟩:∃ r,H.V 24=r:=⟨_,rfl⟩
 obtain⟨r3,hr3⟩:∃ r,H.V 25=r:=⟨_,rfl⟩
 obtain⟨r4,hr4⟩:∃ r,H.V 26=r:=⟨_,rfl⟩
 obtain⟨r5,hr5⟩:∃ r,H.V 27=r:=⟨_,rfl⟩
 obtain⟨r6,hr6⟩:∃ r,H.V 28=r:=⟨_,rfl⟩
 obtain⟨r7,hr7⟩:∃ r,H.V 29=r:=⟨_,rfl⟩
 obtain⟨nl,hnl⟩:∃ nl,L.length=nl:=⟨_,rfl⟩
 have HNL:=qh hnl
 have hnlb:nl<=60000:=by rw[<- hnl,<- hL];exact qXC HV
 have hnlb2:nl<=100000:=qo
 have HRS:qH (H.V 22=r0/\H.V 23=r1/\H.V 24=r2/\H.V 25=r3/\H.V 26=r4/\H.V 27=r5/\H.V 28=r6/\H.V 29=r7/\blocksOf H.parts=L):=qh ⟨hr0,hr1,hr2,hr3,hr4,hr5,hr6,hr7,hL⟩
 have HRS2:=qh HRS.o
 have HI0:=qh (FlInv.start (i0:=i0) HV hK hok hfit hL)
 have HVH:=qh HV
 have H3K:=qh h32K
 clear hL hnl hr0 hr1 hr2 hr3 hr4 hr5 hr6 hr7 hok hfit hVK hK h32K
 have HNI:qH (∀ w,Below W.heap.size W w->(w.cell? (ad2.add (i0*9))=some (U i0 0).v/\w.cell? ⟨(ad2.add (i0*9)).block,(ad2.add (i0*9)).off+1,none⟩=some (U i0 1).v/\w.cell? ⟨(ad2.add (i0*9)).block,(ad2.add (i0*9)).off+2,none⟩=some (U i0 2).v/\w.cell? ⟨(ad2.add (i0*9)).block,(ad2.add (i0*9)).off+3,none⟩=some (U i0 3).v/\w.cell? ⟨(ad2.add (i0*9)).block,(ad2.add (i0*9)).off+4,none⟩=some (U i0 4).v/\w.cell? ⟨(ad2.add (i0*9)).block,(ad2.add (i0*9)).off+5,none⟩=some (U i0 5).v/\w.cell? ⟨(ad2.add (i0*9)).block,(ad2.add (i0*9)).off+6,none⟩=some (U i0 6).v/\w.cell? ⟨(ad2.add (i0*9)).block,(ad2.add (i0*9)).off+7,none⟩=some (U i0 7).v/\w.cell? ⟨(ad2.add (i0*9)).block,(ad2.add (i0*9)).off+8,none⟩=some (U i0 8).v)):=qh (fun w hb=>(HP.o.below hb).nine hi0)
 have HPU:qH (∀ w,Below W.heap.size W w->PkV w (U i0) (Z i0)):=qh (fun w hb=>(HP.o.below hb).pk hi0)
 have HPW:qH (∀ i,PB (U i0) (Z i0) i->i<W.heap.size):=qh (fun i hi=>hi.lt (HP.o.pk hi0))
 have u1:decide ((k:Int)<0)=false:=qf
 have u2:decide ((8:Int)<(k:Int))=false:=qf
 have u2n:decide (8<k)=false:=qf
 have HC:=qh ((Held.new W 23 #[.int .i64 (H.t:Int),.int .i64 (H.p:Int),.int .i64 (H.s:Int)]).alloc (.cells #[.slice (some ad2) H.t c2,.int .i64 (i0:Int),.int .i64 (k:Int),.int .i64 pg,.int .i64 sl] 27))
 have HX:=qh (Held.new2 W (.cells #[.int .i64 (H.t:Int),.int .i64 (H.p:Int),.int .i64 (H.s:Int)] 23) 27 #[.slice (some ad2) H.t c2,.int .i64 (i0:Int),.int .i64 (k:Int),.int .i64 pg,.int .i64 sl])
 have HB:=qh (Bnew (Bnew (B0 W) (.cells #[.int .i64 (H.t:Int),.int .i64 (H.p:Int),.int .i64 (H.s:Int)] 23)) (.cells #[.slice (some ad2) H.t c2,.int .i64 (i0:Int),.int .i64 (k:Int),.int .i64 pg,.int .i64 sl] 27))
 have HTL:=qh hT
 clear hT
 obtain⟨x0',x1',x2'⟩:=HC.o.three
 obtain⟨y0',y1',y2',y3',y4'⟩:=HX.o.five'
 go_enter Tryz.func6,Tryz.ntmps6
 go_wp2_with fail
 refine(HF.o _ HB.o).mono ?_
 rintro e w2 ⟨rfl,hb⟩
 replace HC:=qh (HC.o.keep hb)
 replace HX:=qh (HX.o.keep hb)
 replace HB:=qh (Bgo HB.o hb)
 clear hb
 clear x0' x1' x2' y0' y1' y2' y3' y4'
 obtain⟨x0',x1',x2'⟩:=HC.o.three
 obtain⟨y0',y1',y2',y3',y4'⟩:=HX.o.five'
 go_wp2_with fail
 refine(qJ4 HV ad m _ (hv.o.below HB.o) (hX.o.grown HB.o)).mono ?_
 rintro e w3 ⟨u1,rfl,hown,hb⟩
 obtain⟨hr0,hr1,hr2,hr3,hr4,hr5,hr6,hr7,hL⟩:=HRS.o
 rw[hr0,hr1,hr2,hr3,hr4,hr5,hr6,hr7]
 rw[hL,HNL.o] at hown
 obtain⟨A1,k1,hu1⟩:=qKK hown
 subst hu1
 have HO1:qH ((w3.alloc (.cells #[.slice A1 nl k1,.int .i64 (r0:Int),.int .i64 (r1:Int),.int .i64 (r2:Int),.int .i64 (r3:Int),.int .i64 (r4:Int),.int .i64 (r5:Int),.int .i64 (r6:Int),.int .i64 (r7:Int)] 56)).ownsRow 0 64 2 (.slice A1 nl k1) nl (bkVs L)):=qh (qEc (qXO hown (Nat.zero_le _)) (Bnew (B0 _) _))
 have HS:=qh (Held.new w3 56 #[.slice A1 nl k1,.int .i64 (r0:Int),.int .i64 (r1:Int),.int .i64 (r2:Int),.int .i64 (r3:Int),.int .i64 (r4:Int),.int .i64 (r5:Int),.int .i64 (r6:Int),.int .i64 (r7:Int)])
 replace HC:=qh ((HC.o.keep hb).alloc (.cells #[.slice A1 nl k1,.int .i64 (r0:Int),.int .i64 (r1:Int),.int .i64 (r2:Int),.int .i64 (r3:Int),.int .i64 (r4:Int),.int .i64 (r5:Int),.int .i64 (r6:Int),.int .i64 (r7:Int)] 56))
 replace HX:=qh ((HX.o.keep hb).alloc (.cells #[.slice A1 nl k1,.int .i64 (r0:Int),.int .i64 (r1:Int),.int .i64 (r2:Int),.int .i64 (r3:Int),.int .i64 (r4:Int),.int .i64 (r5:Int),.int .i64 (r6:Int),.int .i64 (r7:Int)] 56))
 replace HB:=qh (Bnew (Bgo HB.o hb) (.cells #[.slice A1 nl k1,.int .i64 (r0:Int),.int .i64 (r1:Int),.int .i64 (r2:Int),.int .i64 (r3:Int),.int .i64 (r4:Int),.int .i64 (r5:Int),.int .i64 (r6:Int),.int .i64 (r7:Int)] 56))
 clear hb hown HRS hr0 hr1 hr2 hr3 hr4 hr5 hr6 hr7 hL x0' x1' x2' y0' y1' y2' y3' y4'
 obtain⟨x0',x1',x2'⟩:=HC.o.three
 obtain⟨y0',y1',y2',y3',y4'⟩:=HX.o.five'
 go_wp2_with fail
 generalize hN11:w3.heap.size=NW at *
 generalize hw11:w3.alloc (.cells #[.slice A1 nl k1,.int .i64 (r0:Int),.int .i64 (r1:Int),.int .i64 (r2:Int),.int .i64 (r3:Int),.int .i64 (r4:Int),.int .i64 (r5:Int),.int .i64 (r6:Int),.int .i64 (r7:Int)] 56)=w4 at *
 clear hN11 hw11
 have HRw:qH (Reads w4 w4.heap.size 1 (some ad) n (valVs vals)):=qh ((HR.o.below HB.o).more HB.o.size)
 refine(qWm (some ad) c vals n HNN.o qo H32.o _ (by
  intro h0
  obtain⟨ad',e,_,hc⟩:=HRw.o.2 h0
  exact⟨ad',e,hc⟩)).mono ?_
 rintro e w5 ⟨b1,o1,rfl,hI,hB⟩
 have HZC:qH (W.heap.size<w4.heap.size):=qh HC.o.lt
 have HZS:qH (NW<w4.heap.size):=qh HS.o.lt
 have HZR:qH (∀ g,(Value.slice A1 nl k1).ownBlock=some g->g<w4.heap.size):=qh (fun g e=>(HO1.o.lt g e).2)
 have HZHX:qH (_<w4.heap.size):=qh HX.o.lt
 have HD:=qh (qAg (W:=W) (G:=fun g=>g<w4.heap.size) hI HB.o.size (Bgo HB.o hB) (fun g hg=>⟨Nat.lt_of_lt_of_le hg hB.size,fun x=>by have:=hI.ge _ x;omega⟩))
 replace HC:=qh (HC.o.keep hB)
 replace HS:=qh (HS.o.keep hB)
 replace HX:=qh (HX.o.keep hB)
 replace HO1:=qh (qEc HO1.o hB)
 clear hI hB HRw HB x0' x1' x2' y0' y1' y2' y3' y4'
 generalize hz1:w4.heap.size=z1 at *
 clear hz1
 rw[show (fun i=>vals[i]?)=qMP vals from rfl] at HD
 obtain⟨x0',x1',x2'⟩:=HC.o.three
 obtain⟨y0',y1',y2',y3',y4'⟩:=HX.o.five'
 obtain⟨p0,p1,p2,p3,p4,p5,p6,p7,p8⟩:=HNI.o _ HD.o.bel
 obtain⟨l,hl⟩:∃ l,(Z i0 k).length=l:=⟨_,rfl⟩
 obtain⟨Ak,ck,hku,hkul,hkum⟩:=qMR (HPU.o _ HD.o.bel) hk
 rw[hl] at hku hkul
 have hckk:ck<=9223372036854775807:=hkum
 have hck:(w5.alloc (.cells (pkC (U i0)) 36)).cell? ⟨w5.heap.size,k,none⟩=some (.slice Ak l ck):=by rw[(Held.new w5 36 (pkC (U i0))).cell,qQN _ _ hk,hku]
 obtain⟨y0n,y1n,y2n,y3n,y4n⟩:=(HX.o.alloc (.cells (pkC (U i0)) 36)).five'
 go_wp2_with fail
 have hb:=Bnew (B0 w5) (.cells (pkC (U i0)) 36)
 have HZP:qH (z1<=w5.heap.size):=qh (by
  rcases Nat.lt_or_ge w5.heap.size z1 with h|h
  ·have:=(HD.o.aG w5.heap.size h).1;omega
  ·exact h)
 have HPK0:qH (PkH (w5.alloc (.cells (pkC (U i0)) 36)) w5.heap.size (U i0) (Z i0)):=qh ⟨Held.new w5 36 (pkC (U i0)),(HPU.o _ HD.o.bel).below hb,fun x=>by have:=HPW.o _ x;have:=HZP.o;have:=HZC.o;omega⟩
 replace HD:=qh (HD.o.keep2 (G':=fun i=>((i<z1)\/PB (U i0) (Z i0) i)\/i=w5.heap.size) hb (fun i x=>by
  rcases x with (x|x)|x
  ·exact .inl x
  ·left;show i<z1;have:=HPW.o i x;have:=HZC.o;omega
  ·right;subst x;simp))
 replace HC:=qh (HC.o.keep hb)
 replace HX:=qh (HX.o.keep hb)
 replace HS:=qh (HS.o.keep hb)
 replace HO1:=qh (qEc HO1.o hb)
 generalize hNP:w5.heap.size=NP at *
 generalize hw6:w5.alloc (.cells (pkC (U i0)) 36)=w6 at *
 clear hb hNP hw6 hck y0n y1n y2n y3n y4n p0 p1 p2 p3 p4 p5 p6 p7 p8 x0' x1' x2' y0' y1' y2' y3' y4'
 have hl4:l<=4:=by rw[<- hl];exact HI0.o.few hi0 hk
 go_loopw [11,12,13,14] (fun u11 u12 u13 u14 wr=>∃ (i:Nat) (V:Nat->Sl) (Y:Nat->List Int) (st:Vst) (A4:Nat->Prop),u11 = .int .i64 ((Y k).length:Int)/\u12 = .int .i64 (i:Int)/\i+(Y k).length<=4/\qH (FlInv H n (qMP vals) Z i0 L Y st)/\qH (Held wr W.heap.size 23 #[.int .i64 (H.t:Int),.int .i64 (H.p:Int),.int .i64 (H.s:Int)])/\qH (Held wr (W.heap.size+1) 27 #[.slice (some ad2) H.t c2,.int .i64 (i0:Int),.int .i64 (k:Int),.int .i64 pg,.int .i64 sl])/\qH (Held wr NW 56 #[.slice A1 nl k1,.int .i64 (r0:Int),.int .i64 (r1:Int),.int .i64 (r2:Int),.int .i64 (r3:Int),.int .i64 (r4:Int),.int .i64 (r5:Int),.int .i64 (r6:Int),.int .i64 (r7:Int)])/\qH (PkH wr NP V Y)/\qH (wr.ownsRow 0 64 2 (.slice A1 nl k1) nl (bkVs L))/\qH (Duo W (vOb z1 b1 n true (qMP vals)) noOb A4 (fun _=>False) (fun g=>(g<z1\/PB V Y g)\/g=NP) st freshS wr)) (fun u11 u12 u13 u14 _=>4-(intOf u12).toNat)
 case atStart=>exact⟨0,U i0,Z i0,freshS,_,by rw[hl],rfl,by rw[hl];omega,HI0,HC,HX,HS,HPK0,HO1,HD⟩
 case round =>
  clear HC HX HS HPK0 HO1 HD hl hku hkul hkum hckk hl4
  obtain⟨i,V,Y,st,A4,rfl,rfl,hil,HI,HC,HX,HS,HPK,HO1,HD⟩:=hrel
  refine RZx ?_;intro x0' x1' x2' y0' y1' y2' y3' y4'
  obtain⟨lx,hlx⟩:∃ l,(Y k).length=l:=⟨_,rfl⟩
  rw[hlx] at hil ⊢
  obtain⟨Ax,cx,hku,hkul,hkum⟩:=qMR (HPK.o.pk) hk
  rw[hlx] at hku hkul
  have hckk:cx<=9223372036854775807:=hkum
  have HCK:qH (∀ w,Held w NP 36 (pkC V)->w.cell? ⟨NP,k,none⟩=some (.slice Ax lx cx)):=qh (fun w h=>by rw[h.cell,qQN _ _ hk,hku])
  have hck:=HCK.o _ HPK.o.held
  have HOK:qH (VOk n st):=qh (by obtain⟨o,hI,_⟩:=HD.o.i1;exact hI.ok)
  by_cases hlt:i<4/\0<lx
  ·have t1:decide ((i:Int)<4)=true:=qt
   have t1n:decide (i<4)=true:=qt
   have t2:decide ((0:Int)<(lx:Int))=true:=qt
   have t2n:decide (0<lx)=true:=qt
   obtain⟨p0,p1,p2,p3,p4,p5,p6,p7,p8⟩:=HPK.o.held.nineP
   obtain⟨nn,hnn⟩:∃ nn,(flX n (qMP vals) H.t H.p H.s (k:Int) Y st).1.1=nn:=⟨_,rfl⟩
   obtain⟨Y1,hY1⟩:∃ Y1,(flX n (qMP vals) H.t H.p H.s (k:Int) Y st).1.2=Y1:=⟨_,rfl⟩
   obtain⟨s1,hs1⟩:∃ s1,(flX n (qMP vals) H.t H.p H.s (k:Int) Y st).2=s1:=⟨_,rfl⟩
   have HN1:=qh hnn
   have HY1:=qh hY1
   have HS1:=qh hs1
   have HNE:qH (Y k ≠ []):=qh (fun e=>by rw[e] at hlx;simp at hlx;omega)
   clear hnn hY1 hs1
   go_wp2_with fail
   refine(qBm hn40 hq10 (k:Int) hk0 hk1 (fun a ha=>HI.o.ok HVH.o HOK.o H3K.o hi0 hk ha) (HD.o.slots HTL.o).1 (HD.o.slots HTL.o).2.1 HPK.o.pk (fun i hi ha=>(HD.o.aG i (.inl (.inr hi))).2.1 ha) HD.o.i1).mono ?_
   rintro e w7 ⟨V1,rfl,hl1,hvs⟩
   rw[HN1.o]
   have HST:=HI.o.step HVH.o HOK.o H3K.o hi0 hk HNE.o hvs
   rw[HN1.o,HY1.o,HS1.o] at HST
   obtain⟨g1,g2,I1⟩:=HST
   have HI1:=qh I1
   rw[HY1.o,HS1.o] at hl1
   obtain⟨A5,h2,hpv,h3⟩:=HD.o.pkt1 HPK.o.pk (fun i hi => .inl (.inr hi)) hl1
   replace HC:=qh (h3.held (.inl (.inl (by have:=HZC.o;omega))) HC.o)
   replace HX:=qh (h3.held (.inl (.inl HZHX.o)) HX.o)
   replace HS:=qh (h3.held (.inl (.inl HZS.o)) HS.o)
   replace HO1:=qh (h3.own (fun g e => .inl (.inl (HZR.o g e))) HO1.o)
   have HNP:=qh (h3.held (.inr rfl) HPK.o.held)
   have HNPQ:qH (¬ PB V1 Y1 NP):=qh (fun hi=>by
    rcases hl1.old _ hi with h5|h5
    ·exact HPK.o.bare h5
    ·have:=HPK.o.held.lt;omega)
   have HPQ:=qh hpv
   replace HD:=qh h2
   obtain⟨lq,hlq⟩:∃ l,(Y1 k).length=l:=⟨_,rfl⟩
   rw[hlq,hlx] at g2
   obtain⟨Aq,cq,hkq,hkql,hkqm⟩:=qMR (HPQ.o) hk
   rw[hlq] at hkq hkql
   have hcqk:cq<=9223372036854775807:=hkqm
   have HCQ:qH (∀ w g,Held w g 36 (pkC V1)->w.cell? ⟨g,k,none⟩=some (.slice Aq lq cq)):=qh (fun w g h=>by rw[h.cell,qQN _ _ hk,hkq])
   have HO1K:qH (VOk n s1):=qh (by obtain⟨o,hI,_⟩:=HD.o.i1;exact hI.ok)
   have HFN:qH (∀ (w:World) (g cp:Nat),RowF w g 76 n cp (valF (nowV (qMP vals) s1.wr))->∀ (A2:Option Addr) (c2:Nat) (U':Nat->Nat->Sl),H.t<=c2->c2<=maxLen->PksAt w A2 H.t U' (updF Z i0 Y1)->Calls Tryz.prog 26 #[.agg #[.int .i64 (H.t:Int),.int .i64 (H.p:Int),.int .i64 (H.s:Int)],.slice (some ⟨g,0,none⟩) n cp,.slice A2 H.t c2] w fun e w'=>e = .returned (.bool true)/\Below w.heap.size w w'):=qh (fun w g cp hrow A2 c2 U' h5 h6 h7=>by
    obtain⟨L1,ho,_⟩:=HI1.o.heap
    exact qQC HVH.o HO1K.o H3K.o HI1.o.vw ho HI1.o.fits w g cp hrow A2 c2 U' h5 h6 h7)
   have v1:decide ((nn:Int)<1)=false:=qf
   have v1n:decide (nn<1)=false:=qf
   have v2:IntKind.i64.wrap ((lx:Int)-(nn:Int))=(lq:Int):=by rw[qIv qo qo];omega
   have v3:((lq:Int) != (lq:Int))=false:=by simp
   clear h2 h3 hpv hl1 hvs I1 p0 p1 p2 p3 p4 p5 p6 p7 p8 x0' x1' x2' y0' y1' y2' y3' y4' hck HPK HNE
   refine RZx ?_;intro x0' x1' x2' y0' y1' y2' y3' y4'
   go_wp2_with fail
   have hb:=Bnew (B0 w7) (.cells (pkC V1) 36)
   have HNQ:=qh (Held.new w7 36 (pkC V1))
   have HLQ:qH (NP<w7.heap.size):=qh HNP.o.lt
   have HZQ:qH (∀ i,((i<z1\/PB V Y i)\/i=NP)\/PB V1 Y1 i->i<w7.heap.size):=qh (fun i hi=>(HD.o.aG i hi).1)
   replace HD:=qh (HD.o.keep2 (G':=fun i=>(((i<z1)\/PB V1 Y1 i)\/i=NP)\/i=w7.heap.size) hb (fun i x=>by
    rcases x with ((x|x)|x)|x
    ·exact .inl (.inl (.inl (.inl x)))
    ·exact .inl (.inr x)
    ·exact .inl (.inl (.inr x))
    ·right;subst x;simp))
   refine RfI ?_;clear HC HX HS;intro HC HX HS
   replace HNP:=qh (HNP.o.keep hb)
   replace HPQ:=qh (HPQ.o.below hb)
   replace HO1:=qh (qEc HO1.o hb)
   generalize hNQ:w7.heap.size=NQ at *
   generalize hw8:w7.alloc (.cells (pkC V1) 36)=w8 at *
   clear hb hNQ hw8 x0' x1' x2' y0' y1' y2' y3' y4'
   replace HC:=qh HC.o.drw
   replace HX:=qh HX.o.drw
   replace HS:=qh HS.o.drw
   replace HNP:=qh HNP.o.drw
   replace HNQ:=qh HNQ.o.drw
   replace HPQ:=qh (HPQ.o.below (Bdrew (B0 _)))
   replace HO1:=qh (qEc HO1.o (Bdrew (B0 _)))
   replace HD:=qh (HD.o.keep (Bdrew (B0 _)))
   refine wp_region_held_drew (S:=(fun w'=>(w'.cell? ⟨W.heap.size,0,none⟩=some (.int .i64 (H.t:Int))/\w'.cell? ⟨W.heap.size,1,none⟩=some (.int .i64 (H.p:Int))/\w'.cell? ⟨W.heap.size,2,none⟩=some (.int .i64 (H.s:Int)))/\(w'.cell? ⟨W.heap.size+1,0,none⟩=some (.slice (some ad2) H.t c2)/\w'.cell? ⟨W.heap.size+1,1,none⟩=some (.int .i64 (i0:Int))/\w'.cell? ⟨W.heap.size+1,2,none⟩=some (.int .i64 (k:Int))/\w'.cell? ⟨W.heap.size+1,3,none⟩=some (.int .i64 pg)/\w'.cell? ⟨W.heap.size+1,4,none⟩=some (.int .i64 sl))/\w'.cell? ⟨NP,k,none⟩=some (.slice Ax lx cx)/\w'.cell? ⟨NQ,k,none⟩=some (.slice Aq lq cq)/\(w'.cell? ⟨NQ,0,none⟩=some (V1 0).v/\w'.cell? ⟨NQ,1,none⟩=some (V1 1).v/\w'.cell? ⟨NQ,2,none⟩=some (V1 2).v/\w'.cell? ⟨NQ,3,none⟩=some (V1 3).v/\w'.cell? ⟨NQ,4,none⟩=some (V1 4).v/\w'.cell? ⟨NQ,5,none⟩=some (V1 5).v/\w'.cell? ⟨NQ,6,none⟩=some (V1 6).v/\w'.cell? ⟨NQ,7,none⟩=some (V1 7).v/\w'.cell? ⟨NQ,8,none⟩=some (V1 8).v))) qr ?_ (fun hHeld=>?_)
   ·(try dsimp only)
    exact M4y
   refine RLS ?_
   refine tkz 8 ?_
   refine tkz 9 ?_
   refine RNh ?_
   refine tkz 14 ?_
   refine tkz 15 ?_
   refine tkz 16 ?_
   refine tkz 17 ?_
   refine tkz 18 ?_
   refine tkz 19 ?_
   refine tkz 21 ?_
   refine tkz 22 ?_
   refine rdz 20 fun K hK=>?_
   go_simp
   obtain⟨o9,hI9,_⟩:=HD.o.i1
   refine(qN8 hn0 (by have:=hI9.ok.few;omega) _ hI9).mono ?_
   rintro e w31 ⟨g,cp,rfl,_,hrow,hb⟩
   have HRF:=qh hrow
   clear hI9 hrow
   refine RfI ?_;clear HC HX HS;intro HC HX HS
   refine RXI ?_;clear HNP HNQ HO1 HD HPQ;intro HNP HNQ HO1 HD HPQ
   clear hb
   have hcp:=HRF.o.le
   have hcp2:cp<=9223372036854775807:=HRF.o.max
   refine qk ?_ (fun hHeld=>?_)
   ·exact M4y
   clear hK K
   refine rdz 23 fun K hK=>?_
   go_simp
   refine(qJF hT16 ad2 c2 hTc hc2 i0 hi0 (k:Int) pg sl _ (HP.o.below HD.o.bel) HPQ.o).mono ?_
   rintro e w32 ⟨g3,c3,rfl,hc4,hc5,hpk,hb⟩
   have HPA:=qh hpk
   have hc6:c3<=9223372036854775807:=hc5
   replace HRF:=qh (HRF.o.keep hb)
   refine RfI ?_;clear HC HX HS;intro HC HX HS
   refine RXI ?_;clear HNP HNQ HO1 HD HPQ;intro HNP HNQ HO1 HD HPQ
   clear hb hpk
   refine qk ?_ (fun hHeld=>?_)
   ·exact M4y
   clear hK K
   refine rdz 24 fun K hK=>?_
   go_simp
   refine(HFN.o _ _ _ HRF.o (some ⟨g3,0,none⟩) c3 _ hc4 hc5 HPA.o).mono ?_
   rintro e w33 ⟨rfl,hb⟩
   refine RfI ?_;clear HC HX HS;intro HC HX HS
   refine RXI ?_;clear HNP HNQ HO1 HD HPQ;intro HNP HNQ HO1 HD HPQ
   clear hb HRF HPA
   refine qk ?_ (fun hHeld=>?_)
   ·exact M4y
   clear hK K
   refine tkz 25 ?_
   refine tkz 26 ?_
   refine dnz ?_
   refine RZx ?_;intro x0' x1' x2' y0' y1' y2' y3' y4'
   obtain⟨p0,p1,p2,p3,p4,p5,p6,p7,p8⟩:=HNP.o.nineP
   obtain⟨f0,f1,f2,f3,f4,f5,f6,f7,f8⟩:=HNP.o.thawP
   obtain⟨q0,q1,q2,q3,q4,q5,q6,q7,q8⟩:=HNQ.o.nineP
   go_wp2_with fail
   obtain⟨WF,hWF⟩:∃ WF,setP w33 NP V1=WF:=⟨_,rfl⟩
   replace HD:=qh (HD.o.putP (.inl (.inr rfl)) (by have:=HZP.o;have:=HZC.o;omega) V1)
   replace HPQ:=qh (HPQ.o.putP HNPQ.o V1)
   replace HC:=qh (HC.o.farP (fun e:W.heap.size=NP=>by have:=HZP.o;have:=HZC.o;omega) V1)
   replace HX:=qh (HX.o.farP (fun e:(W.heap.size+1)=NP=>by have:=HZP.o;have:=HZHX.o;omega) V1)
   replace HS:=qh (HS.o.farP (fun e:NW=NP=>by have:=HZP.o;have:=HZS.o;omega) V1)
   replace HO1:=qh (qKU (g:=NP) HO1.o (fun g e=>by have:=HZP.o;have:=HZR.o g e;omega) V1)
   replace HNP:=qh (Held.setP HNP.o V1)
   rw[hWF] at HD HPQ HC HX HS HO1 HNP
   unfold setP at hWF
   rw[hWF]
   have HPK:=qh (PkH.mk HNP.o HPQ.o HNPQ.o)
   replace HD:=qh (HD.o.less (G':=(fun g=>(g<z1\/PB V1 Y1 g)\/g=NP)) (fun i x => .inl x))
   clear hWF
   go_roundw
   case rel=>exact⟨i+1,V1,Y1,s1,A5,by rw[hlq],by go_num,by rw[hlq];omega,HI1,HC,HX,HS,HPK,HO1,HD⟩
   case measure=>simp[intOf];omega
  ·have hl0:lx=0:=qo
   subst hl0
   obtain⟨hr0,hr1,hr2,hr3,hr4,hr5,hr6,hr7,hbl⟩:=HRS2.o
   have HN2:qH (∀ (w:World) (g cp:Nat),RowF w g 76 n cp (valF (nowV (qMP vals) st.wr))->Calls Tryz.prog 23 #[.agg #[.int .i64 (H.t:Int),.int .i64 (H.p:Int),.int .i64 (H.s:Int)],.slice (some ⟨g,0,none⟩) n cp] w fun e w'=>∃ u,e = .returned (.tuple #[.agg #[u,.int .i64 (r0:Int),.int .i64 (r1:Int),.int .i64 (r2:Int),.int .i64 (r3:Int),.int .i64 (r4:Int),.int .i64 (r5:Int),.int .i64 (r6:Int),.int .i64 (r7:Int)],.bool true])/\w'.ownsRow w.heap.size 64 2 u L.length (bkVs L)/\Below w.heap.size w w'):=qh (fun w g cp hrow=>by
    obtain⟨L1,ho,_⟩:=HI.o.heap
    exact qNU HVH.o (st:=st) HOK.o H3K.o HI.o.vw ho.rules HI.o.roots L HI.o.blocks r0 r1 r2 r3 r4 r5 r6 r7 hr0 hr1 hr2 hr3 hr4 hr5 hr6 hr7 w g cp hrow)
   clear hr0 hr1 hr2 hr3 hr4 hr5 hr6 hr7 hbl
   have t2:decide ((0:Int)<((0:Nat):Int))=false:=by simp
   have HYE:qH (Y k = []):=qh (List.length_eq_zero_iff.1 hlx)
   clear hlx
   obtain⟨b0,hb0⟩:∃ b0,decide ((i:Int)<4)=b0:=⟨_,rfl⟩
   clear hlt hil hku
   cases b0
   all_goals (
    go_wp2_with fail
    go_cut [15,16] from 106 to 112 (fun u15 u16 wx=>∃ (N13 k2:Nat) (A2:Option Addr) (A4:Nat->Prop),u15 = .pointer (some ⟨N13,0,none⟩)/\u16 = .bool true/\Held wx N13 56 #[.slice A2 nl k2,.int .i64 (r0:Int),.int .i64 (r1:Int),.int .i64 (r2:Int),.int .i64 (r3:Int),.int .i64 (r4:Int),.int .i64 (r5:Int),.int .i64 (r6:Int),.int .i64 (r7:Int)]/\wx.ownsRow 0 64 2 (.slice A2 nl k2) nl (bkVs L)/\Held wx W.heap.size 23 #[.int .i64 (H.t:Int),.int .i64 (H.p:Int),.int .i64 (H.s:Int)]/\Held wx (W.heap.size+1) 27 #[.slice (some ad2) H.t c2,.int .i64 (i0:Int),.int .i64 (k:Int),.int .i64 pg,.int .i64 sl]/\Held wx NW 56 #[.slice A1 nl k1,.int .i64 (r0:Int),.int .i64 (r1:Int),.int .i64 (r2:Int),.int .i64 (r3:Int),.int .i64 (r4:Int),.int .i64 (r5:Int),.int .i64 (r6:Int),.int .i64 (r7:Int)]/\PkH wx NP V Y/\wx.ownsRow 0 64 2 (.slice A1 nl k1) nl (bkVs L)/\(¬ A4 N13/\∀ g,(Value.slice A2 nl k2).ownBlock=some g->¬ A4 g)/\Duo W (vOb z1 b1 n true (qMP vals)) noOb A4 (fun _=>False) (fun g=>(g<z1\/PB V Y g)\/g=NP) st freshS wx)
    case first =>
     replace HC:=qh HC.o.drw
     replace HX:=qh HX.o.drw
     replace HS:=qh HS.o.drw
     replace HPK:=qh HPK.o.drw
     replace HO1:=qh (qEc HO1.o (Bdrew (B0 _)))
     replace HD:=qh (HD.o.keep (Bdrew (B0 _)))
     refine wp_region_held_drew (S:=(fun w'=>w'.cell? ⟨W.heap.size,0,none⟩=some (.int .i64 (H.t:Int))/\w'.cell? ⟨W.heap.size,1,none⟩=some (.int .i64 (H.p:Int))/\w'.cell? ⟨W.heap.size,2,none⟩=some (.int .i64 (H.s:Int)))) qr ?_ (fun hHeld=>?_)
     ·(try dsimp only)
      first|exact HC.o.three|exact hHeld
     generalize hq0:World.drew wr=q0 at HC HX HS HPK HO1 HD hHeld ⊢
     clear hq0
     refine tkz 0 ?_
     refine tkz 1 ?_
     refine wpAnyH_ready (rs := [2,7]) qr (by simp) ?_
     refine AllReadyH.cons (o:=_) rfl (fun K hK=>?_) (AllReadyH.cons (o:=_) rfl (fun K hK=>?_) AllReadyH.nil)
     ·skip
      go_simp
      obtain⟨o9,hI9,_⟩:=HD.o.i1
      refine(qN8 hn0 (by have:=hI9.ok.few;omega) _ hI9).mono ?_
      rintro e v1 ⟨g,cp,rfl,_,hrow,hb⟩
      have HRF:=qh hrow
      clear hI9 hrow
      refine RfI ?_;clear HC HX HS;intro HC HX HS
      replace HPK:=qh (HPK.o.keep hb)
      refine RG1 ?_;clear HO1 HD hb hK K;intro HO1 HD hHeld
      refine wpAnyH_ready (rs := [3,7]) qr (by simp) ?_
      refine AllReadyH.cons (o:=_) rfl (fun K hK=>?_) (AllReadyH.cons (o:=_) rfl (fun K hK=>?_) AllReadyH.nil)
      ·skip
       go_simp
       refine(HN2.o _ _ _ HRF.o).mono ?_
       rintro e v2 ⟨u2,rfl,hown,hb⟩
       rw[HNL.o] at hown
       obtain⟨A2,k2,hu2⟩:=qKK hown
       subst hu2
       have HO2:qH (v2.ownsRow 0 64 2 (.slice A2 nl k2) nl (bkVs L)):=qh (qXO hown (Nat.zero_le _))
       refine RIg ?_;intro HRA
       clear HRF hown
       refine RfI ?_;clear HC HX HS;intro HC HX HS
       replace HPK:=qh (HPK.o.keep hb)
       refine RG1 ?_;clear HO1 HD hb hK K;intro HO1 HD hHeld
       refine tkz 4 ?_
       refine tkz 5 ?_
       refine tkz 6 ?_
       refine rdz 7 fun K hK=>?_
       ·skip
        go_simp
        have hb:=Bnew (B0 v2) (.cells #[.slice none 0 0,.int .i64 0,.int .i64 0,.int .i64 0,.int .i64 0,.int .i64 0,.int .i64 0,.int .i64 0,.int .i64 0] 56)
        have HN:=qh (Held.new v2 56 #[.slice none 0 0,.int .i64 0,.int .i64 0,.int .i64 0,.int .i64 0,.int .i64 0,.int .i64 0,.int .i64 0,.int .i64 0])
        have HLE:=qh HD.o.bel.size
        have HLT:qH (W.heap.size<v2.heap.size/\(W.heap.size+1)<v2.heap.size/\NW<v2.heap.size/\NP<v2.heap.size):=qh ⟨HC.o.lt,HX.o.lt,HS.o.lt,HPK.o.lt⟩
        have HNA:qH (¬ A4 v2.heap.size):=qh (fun x=>by have:=Ob.lt (vOb z1 b1 n true (qMP vals)) HD.o.i1 _ x;omega)
        have HNB:=qh (HPK.o.fresh)
        refine RfI ?_;clear HC HX HS;intro HC HX HS
        replace HPK:=qh (HPK.o.keep hb)
        replace HO1:=qh (qEc HO1.o hb)
        replace HO2:=qh (qEc HO2.o hb)
        replace HD:=qh (HD.o.keep hb)
        clear hb
        generalize hn13:v2.heap.size=N13 at *
        generalize hw13:v2.alloc (.cells #[.slice none 0 0,.int .i64 0,.int .i64 0,.int .i64 0,.int .i64 0,.int .i64 0,.int .i64 0,.int .i64 0,.int .i64 0] 56)=v3 at *
        clear hn13 hw13
        refine qk ?_ (fun hHeld=>?_)
        ·first|exact HC.o.three|exact hHeld
        clear hK K
        refine rdz 8 fun K hK=>?_
        obtain⟨z0,z1',z2,z3,z4,z5',z6,z7,z8⟩:=HN.o.nine
        obtain⟨f0,f1,f2,f3,f4,f5,f6,f7,f8⟩:=HN.o.thawed9
        go_simp
        obtain⟨WF,hWF⟩:∃ WF,wr9 (v3) N13 (.slice A2 nl k2) r0 r1 r2 r3 r4 r5 r6 r7=WF:=⟨_,rfl⟩
        exact M7u
      ·skip
       go_simp
       have hb:=Bnew (B0 v1) (.cells #[.slice none 0 0,.int .i64 0,.int .i64 0,.int .i64 0,.int .i64 0,.int .i64 0,.int .i64 0,.int .i64 0,.int .i64 0] 56)
       have HN:=qh (Held.new v1 56 #[.slice none 0 0,.int .i64 0,.int .i64 0,.int .i64 0,.int .i64 0,.int .i64 0,.int .i64 0,.int .i64 0,.int .i64 0])
       have HLE:=qh HD.o.bel.size
       have HLT:qH (W.heap.size<v1.heap.size/\(W.heap.size+1)<v1.heap.size/\NW<v1.heap.size/\NP<v1.heap.size):=qh ⟨HC.o.lt,HX.o.lt,HS.o.lt,HPK.o.lt⟩
       have HNA:qH (¬ A4 v1.heap.size):=qh (fun x=>by have:=Ob.lt (vOb z1 b1 n true (qMP vals)) HD.o.i1 _ x;omega)
       have HNB:=qh (HPK.o.fresh)
       refine RfI ?_;clear HC HX HS;intro HC HX HS
       replace HPK:=qh (HPK.o.keep hb)
       replace HO1:=qh (qEc HO1.o hb)
       replace HD:=qh (HD.o.keep hb)
       replace HRF:=qh (HRF.o.keep hb)
       clear hb
       generalize hn13:v1.heap.size=N13 at *
       generalize hw13:v1.alloc (.cells #[.slice none 0 0,.int .i64 0,.int .i64 0,.int .i64 0,.int .i64 0,.int .i64 0,.int .i64 0,.int .i64 0,.int .i64 0] 56)=v4 at *
       clear hn13 hw13
       refine qk ?_ (fun hHeld=>?_)
       ·first|exact HC.o.three|exact hHeld
       clear hK K
       refine rdz 3 fun K hK=>?_
       ·skip
        go_simp
        refine(HN2.o _ _ _ HRF.o).mono ?_
        rintro e v5 ⟨u2,rfl,hown,hb⟩
        rw[HNL.o] at hown
        obtain⟨A2,k2,hu2⟩:=qKK hown
        subst hu2
        have HO2:qH (v5.ownsRow 0 64 2 (.slice A2 nl k2) nl (bkVs L)):=qh (qXO hown (Nat.zero_le _))
        refine RIg ?_;intro HRA
        clear HRF hown
        refine RfI ?_;clear HC HX HS;intro HC HX HS
        replace HPK:=qh (HPK.o.keep hb)
        replace HN:=qh (HN.o.keep hb)
        refine RG1 ?_;clear HO1 HD hb hK K;intro HO1 HD hHeld
        refine tkz 4 ?_
        refine tkz 5 ?_
        refine tkz 6 ?_
        refine rdz 8 fun K hK=>?_
        obtain⟨z0,z1',z2,z3,z4,z5',z6,z7,z8⟩:=HN.o.nine
        obtain⟨f0,f1,f2,f3,f4,f5,f6,f7,f8⟩:=HN.o.thawed9
        go_simp
        obtain⟨WF,hWF⟩:∃ WF,wr9 (v5) N13 (.slice A2 nl k2) r0 r1 r2 r3 r4 r5 r6 r7=WF:=⟨_,rfl⟩
        exact M7u
     ·skip
      go_simp
      have hb:=Bnew (B0 q0) (.cells #[.slice none 0 0,.int .i64 0,.int .i64 0,.int .i64 0,.int .i64 0,.int .i64 0,.int .i64 0,.int .i64 0,.int .i64 0] 56)
      have HN:=qh (Held.new q0 56 #[.slice none 0 0,.int .i64 0,.int .i64 0,.int .i64 0,.int .i64 0,.int .i64 0,.int .i64 0,.int .i64 0,.int .i64 0])
      have HLE:=qh HD.o.bel.size
      have HLT:qH (W.heap.size<q0.heap.size/\(W.heap.size+1)<q0.heap.size/\NW<q0.heap.size/\NP<q0.heap.size):=qh ⟨HC.o.lt,HX.o.lt,HS.o.lt,HPK.o.lt⟩
      have HNA:qH (¬ A4 q0.heap.size):=qh (fun x=>by have:=Ob.lt (vOb z1 b1 n true (qMP vals)) HD.o.i1 _ x;omega)
      have HNB:=qh (HPK.o.fresh)
      refine RfI ?_;clear HC HX HS;intro HC HX HS
      replace HPK:=qh (HPK.o.keep hb)
      replace HO1:=qh (qEc HO1.o hb)
      replace HD:=qh (HD.o.keep hb)
      clear hb
      generalize hn13:q0.heap.size=N13 at *
      generalize hw13:q0.alloc (.cells #[.slice none 0 0,.int .i64 0,.int .i64 0,.int .i64 0,.int .i64 0,.int .i64 0,.int .i64 0,.int .i64 0,.int .i64 0] 56)=v6 at *
      clear hn13 hw13
      refine qk ?_ (fun hHeld=>?_)
      ·first|exact HC.o.three|exact hHeld
      clear hK K
      refine rdz 2 fun K hK=>?_
      ·skip
       go_simp
       obtain⟨o9,hI9,_⟩:=HD.o.i1
       refine(qN8 hn0 (by have:=hI9.ok.few;omega) _ hI9).mono ?_
       rintro e v7 ⟨g,cp,rfl,_,hrow,hb⟩
       have HRF:=qh hrow
       clear hI9 hrow
       refine RfI ?_;clear HC HX HS;intro HC HX HS
       replace HPK:=qh (HPK.o.keep hb)
       replace HN:=qh (HN.o.keep hb)
       refine RG1 ?_;clear HO1 HD hb hK K;intro HO1 HD hHeld
       refine rdz 3 fun K hK=>?_
       ·skip
        go_simp
        refine(HN2.o _ _ _ HRF.o).mono ?_
        rintro e v8 ⟨u2,rfl,hown,hb⟩
        rw[HNL.o] at hown
        obtain⟨A2,k2,hu2⟩:=qKK hown
        subst hu2
        have HO2:qH (v8.ownsRow 0 64 2 (.slice A2 nl k2) nl (bkVs L)):=qh (qXO hown (Nat.zero_le _))
        refine RIg ?_;intro HRA
        clear HRF hown
        refine RfI ?_;clear HC HX HS;intro HC HX HS
        replace HPK:=qh (HPK.o.keep hb)
        replace HN:=qh (HN.o.keep hb)
        refine RG1 ?_;clear HO1 HD hb hK K;intro HO1 HD hHeld
        refine tkz 4 ?_
        refine tkz 5 ?_
        refine tkz 6 ?_
        refine rdz 8 fun K hK=>?_
        obtain⟨z0,z1',z2,z3,z4,z5',z6,z7,z8⟩:=HN.o.nine
        obtain⟨f0,f1,f2,f3,f4,f5,f6,f7,f8⟩:=HN.o.thawed9
        go_simp
        obtain⟨WF,hWF⟩:∃ WF,wr9 (v8) N13 (.slice A2 nl k2) r0 r1 r2 r3 r4 r5 r6 r7=WF:=⟨_,rfl⟩
        exact M7u
    case rest =>
     obtain⟨N13,k2,A2,A4,rfl,rfl,hN,hO2,hHC,hHX,hHS,hHPK,hHO1,hNA,hD⟩:=hcut
     have HNS:=qh hN
     have HO2:=qh hO2
     replace HC:=qh hHC
     replace HX:=qh hHX
     replace HS:=qh hHS
     replace HPK:=qh hHPK
     replace HO1:=qh hHO1
     replace HD:=qh hD
     clear hN hO2 hHC hHX hHS hHPK hHO1 hD
     clear x0' x1' x2' y0' y1' y2' y3' y4'
     refine RZx ?_;intro x0' x1' x2' y0' y1' y2' y3' y4'
     obtain⟨p0,p1,p2,p3,p4,p5,p6,p7,p8⟩:=HPK.o.held.nineP
     have e1:flX n (qMP vals) H.t H.p H.s (k:Int) Y st=((0,Y),st):=qGu hk HYE.o st
     have HFX:=qh e1
     clear e1
     have HNA:=qh hNA.1
     have HRA:=qh hNA.2
     clear hNA
     replace HD:=qh (HD.o.add (G':=fun g=>((g<z1\/PB V Y g)\/g=NP)\/(g=N13\/(Value.slice A2 nl k2).ownBlock=some g)) (fun g x=>by
      rcases x with x|x|x
      ·exact .inl x
      ·subst x;exact .inr ⟨HNS.o.lt,HNA.o,fun y=>y⟩
      ·exact .inr ⟨(HO2.o.lt g x).2,HRA.o g x,fun y=>y⟩))
     go_wp2_with fail
     refine(qBm hn40 hq10 (k:Int) hk0 hk1 (fun a ha=>HI.o.ok HVH.o HOK.o H3K.o hi0 hk ha) (HD.o.slots HTL.o).1 (HD.o.slots HTL.o).2.1 HPK.o.pk (fun i hi ha=>(HD.o.aG i (.inl (.inl (.inr hi)))).2.1 ha) HD.o.i1).mono ?_
     rintro e w27 ⟨V2,rfl,hl1,_⟩
     rw[HFX.o] at hl1 ⊢
     obtain⟨A5,h2,hpv,h3⟩:=HD.o.pkt1 HPK.o.pk (fun i hi => .inl (.inl (.inr hi))) hl1
     replace HC:=qh (h3.held (.inl (.inl (.inl (by have:=HZC.o;omega)))) HC.o)
     replace HX:=qh (h3.held (.inl (.inl (.inl HZHX.o))) HX.o)
     replace HS:=qh (h3.held (.inl (.inl (.inl HZS.o))) HS.o)
     replace HNS:=qh (h3.held (.inr (.inl rfl)) HNS.o)
     replace HO1:=qh (h3.own (fun g e => .inl (.inl (.inl (HZR.o g e)))) HO1.o)
     replace HO2:=qh (h3.own (fun g e => .inr (.inr e)) HO2.o)
     have HNP:=qh (h3.held (.inl (.inr rfl)) HPK.o.held)
     have HPP:=qh (HPK.o.pk.stay h3.1 (fun i hi=>h3.2 i (.inl (.inl (.inr hi))) (hi.lt HPK.o.pk)))
     have HPZ:=qh hpv
     have HB:=qh h2.bel
     have hb:=Bnew (B0 w27) (.cells (pkC V2) 36)
     have HNZ:=qh (Held.new w27 36 (pkC V2))
     refine RfI ?_;clear HC HX HS;intro HC HX HS
     replace HNS:=qh (HNS.o.keep hb)
     replace HNP:=qh (HNP.o.keep hb)
     replace HO1:=qh (qEc HO1.o hb)
     replace HO2:=qh (qEc HO2.o hb)
     replace HPP:=qh (HPP.o.below hb)
     replace HPZ:=qh (HPZ.o.below hb)
     replace HB:=qh (Bgo HB.o hb)
     clear hb h2 hpv h3 hl1 HD HFX HPK HNA HRA p0 p1 p2 p3 p4 p5 p6 p7 p8
     clear x0' x1' x2' y0' y1' y2' y3' y4'
     obtain⟨a0,a1,a2,a3,a4,a5,a6,a7,a8⟩:=HS.o.nine
     obtain⟨b0',b1',b2,b3,b4,b5,b6,b7,b8⟩:=HNS.o.nine
     have hck:=HCK.o _ HNP.o
     obtain⟨p0,p1,p2,p3,p4,p5,p6,p7,p8⟩:=HNP.o.nineP
     obtain⟨q0,q1,q2,q3,q4,q5,q6,q7,q8⟩:=HNZ.o.nineP
     refine RZx ?_;intro x0' x1' x2' y0' y1' y2' y3' y4'
     go_wp2_with fail
     refine(qVO L L A1 A2 nl nl k1 k2 0 0 r0 r1 r2 r3 r4 r5 r6 r7 r0 r1 r2 r3 r4 r5 r6 r7 _ HNL.o HNL.o hnlb2 hnlb2 HO1.o HO2.o true ⟨fun _=>⟨rfl,rfl⟩,fun _=>rfl⟩).mono ?_
     rintro e w29 ⟨rfl,hb⟩
     replace HC:=qh (HC.o.keep hb)
     replace HX:=qh (HX.o.keep hb)
     replace HNP:=qh (HNP.o.keep hb)
     replace HNZ:=qh (HNZ.o.keep hb)
     replace HPP:=qh (HPP.o.below hb)
     replace HPZ:=qh (HPZ.o.below hb)
     replace HB:=qh (Bgo HB.o hb)
     clear hb a0 a1 a2 a3 a4 a5 a6 a7 a8 b0' b1' b2 b3 b4 b5 b6 b7 b8 hck p0 p1 p2 p3 p4 p5 p6 p7 p8 q0 q1 q2 q3 q4 q5 q6 q7 q8 HO1 HO2 HS HNS
     have hck:=HCK.o _ HNP.o
     obtain⟨p0,p1,p2,p3,p4,p5,p6,p7,p8⟩:=HNP.o.nineP
     obtain⟨q0,q1,q2,q3,q4,q5,q6,q7,q8⟩:=HNZ.o.nineP
     clear x0' x1' x2' y0' y1' y2' y3' y4'
     refine RZx ?_;intro x0' x1' x2' y0' y1' y2' y3' y4'
     have t5:(((0:Nat):Int)==(0:Int))=true:=by simp
     go_wp2_with fail
     refine(qJ2 V V2 Y _ HPP.o HPZ.o).mono ?_
     rintro e w30 ⟨rfl,hb⟩
     replace HB:=qh (Bgo HB.o hb)
     clear hb
     exact Myq
   )

theorem qVf (t q s:Int)(A:Option Addr)(c:Nat)(vals:List Nat)(hnc:vals.length<=c)(hcm:c<=maxLen)(h32:∀ x∈vals,x<2^32)(A2:Option Addr)(T c2:Nat)(t0 k0 pg sl:Int)(hk0 : -9223372036854775808<=k0)(hk1:k0<=9223372036854775807)(U:Nat->Nat->Sl)(Z:Nat->Nat->List Int)(hTc:T<=c2)(hc2:c2<=maxLen)(W:World)(hT:SlotsLaid W)(HP:qH (PksAt W A2 T U Z))(HR:qH (Reads W W.heap.size 1 A vals.length (valVs vals))) :
  Calls Tryz.prog 6 #[.agg #[.int .i64 t,.int .i64 q,.int .i64 s],.slice A vals.length c,.agg #[.slice A2 T c2,.int .i64 t0,.int .i64 k0,.int .i64 pg,.int .i64 sl]] W (Keeps W):=by
 rcases qOg t q s A c vals hnc hcm h32 A2 T c2 t0 k0 pg sl U Z hTc hc2 W HP.o HR.o with h|⟨H,ad,m,i0,L,rfl,rfl,rfl,rfl,rfl,rfl,hi0,hq,hV,HV,hv,hr,hok,hX,F,hF⟩
 ·exact qPa t q s A _ c A2 T c2 t0 k0 pg sl W hT (qh h)
 ·by_cases hk:k0<0\/8<k0
  ·exact qMV H.t H.p H.s (some ad) _ c A2 H.t c2 i0 k0 pg sl hk W hT (qh hF)
  ·obtain⟨k,rfl⟩:=Int.eq_ofNat_of_zero_le (show 0<=k0 by omega)
   obtain⟨ad2,rfl,_⟩:=HP.o i0 hi0
   exact qIm ad _ c m HV vals (qh rfl) (qh h32) hV hnc ad2 c2 hTc hc2 i0 hi0 k qo pg sl U Z hq L hok F W hT HR (qh hv) (qh hX) HP (qh hF)
end
end Go.Proofs.YtjjfcaliippgpaaGreatDoor
