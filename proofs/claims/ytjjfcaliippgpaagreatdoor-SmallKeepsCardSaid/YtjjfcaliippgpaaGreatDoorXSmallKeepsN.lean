/-
  The law SmallKeeps: the walk. Written by small/gen_keeping.py.
-/
import Derived.Test.YtjjfcaliippgpaaGreatDoorX21
import Derived.Test.YtjjfcaliippgpaaGreatDoorX22
import Derived.Test.YtjjfcaliippgpaaGreatDoorX17
import Derived.Deep.CutRange
namespace Go.Proofs.YtjjfcaliippgpaaGreatDoor
theorem RfI {P Q:Prop}(kq:Q)(h:HQ Q->P:=by
 intro kq
 replace HC:=qh (HC.o.keep hb)
 replace HX:=qh (HX.o.keep hb)
 replace HS:=qh (HS.o.keep hb)
 revert HC HX HS
 exact kq.o):P:=h ⟨kq⟩
theorem RO7 {P Q:Prop}(kq:Q)(h:HQ Q->P:=by
 intro kq
 skip
 go_simp
 have hb:=Bnew (B0 w14) (.cells #[.slice none 0 0,.slice none 0 0,.slice none 0 0,.slice none 0 0,.slice none 0 0,.slice none 0 0,.slice none 0 0,.slice none 0 0,.slice none 0 0] 36)
 have HN1:qH (Held (w14.alloc (.cells #[.slice none 0 0,.slice none 0 0,.slice none 0 0,.slice none 0 0,.slice none 0 0,.slice none 0 0,.slice none 0 0,.slice none 0 0,.slice none 0 0] 36)) w14.heap.size 36 (pkC zeroU)):=qh (Held.new w14 36 #[.slice none 0 0,.slice none 0 0,.slice none 0 0,.slice none 0 0,.slice none 0 0,.slice none 0 0,.slice none 0 0,.slice none 0 0,.slice none 0 0])
 have HGL:qH (∀ i,((i<z1):Prop)->i<w14.heap.size):=qh (fun i hi=>(HD.o.aG i hi).1)
 have HGW:qH (W.heap.size<=w14.heap.size):=qh HD.o.bel.size
 revert hb HN1 HGL HGW
 exact kq.o):P:=h ⟨kq⟩
theorem Rn8 {P Q:Prop}(kq:Q)(h:HQ Q->P:=by
 intro kq
 replace HP1:=qh (HP1.o.putP HNN2.o V1)
 replace HC:=qh (HC.o.farP (fun e:W.heap.size=N1=>by have:=HZC.o;have:=HZL.o;omega) V1)
 replace HX:=qh (HX.o.farP (fun e:(W.heap.size+1)=N1=>by have:=HZHX.o;have:=HZL.o;omega) V1)
 replace HS:=qh (HS.o.farP (fun e:NW=N1=>by have:=HZS.o;have:=HZL.o;omega) V1)
 replace HO1:=qh (qQV (g:=N1) HO1.o (fun g e=>by have:=HZR.o g e;have:=HZL.o;omega) V1)
 replace HN1:=qh (Held.setP HN1.o V1)
 revert HP1 HC HX HS HO1 HN1
 exact kq.o):P:=h ⟨kq⟩
theorem M82 {P:Prop}(h:P:=by
 rintro e w15 ⟨V1,rfl,hl,hvp⟩
 rw[HAV.o,HBV.o]
 rw[HYY.o,HSX.o] at hl
 have HVP:=qh hvp
 obtain⟨A4,h2,hpv,h3⟩:=HD.o.pkt1 (HPU.o _ HD.o.bel) (fun i hi=>HPZ.o i hi) hl
 have HNB:qH (∀ i,W.heap.size<=i->PB V1 Y i->w14.heap.size<=i):=qh (fun i h4 hi=>by
  rcases hl.old i hi with h5|h5
  ·have:=HPW.o i h5;omega
  ·exact h5)
 replace HC:=qh (h3.held (by have:=HZC.o;omega) HC.o)
 replace HX:=qh (h3.held (HZHX.o) HX.o)
 replace HS:=qh (h3.held (HZS.o) HS.o)
 replace HO1:=qh (h3.own (fun g e=>HZR.o g e) HO1.o)
 replace HZL:=qh (Nat.le_trans HZL.o h3.1)
 replace HD:=qh h2
 have HP1:=qh hpv
 clear h2 h3 hpv hl hvp
 refine qk ?_ (fun hHeld=>?_)
 ·exact MT5
 clear hK K
 refine tkz 11 ?_
 refine tkz 12 ?_
 refine tkz 13 ?_
 refine tkz 14 ?_
 refine rdz 15 fun K hK=>?_
 go_simp
 have hb:=Bnew (B0 w15) (.cells #[.slice none 0 0,.slice none 0 0,.slice none 0 0,.slice none 0 0,.slice none 0 0,.slice none 0 0,.slice none 0 0,.slice none 0 0,.slice none 0 0] 36)
 have HN1:qH (Held (w15.alloc (.cells #[.slice none 0 0,.slice none 0 0,.slice none 0 0,.slice none 0 0,.slice none 0 0,.slice none 0 0,.slice none 0 0,.slice none 0 0,.slice none 0 0] 36)) w15.heap.size 36 (pkC zeroU)):=qh (Held.new w15 36 #[.slice none 0 0,.slice none 0 0,.slice none 0 0,.slice none 0 0,.slice none 0 0,.slice none 0 0,.slice none 0 0,.slice none 0 0,.slice none 0 0])
 have HGL:qH (∀ i,(((i<z1)\/PB V1 Y i):Prop)->i<w15.heap.size):=qh (fun i hi=>(HD.o.aG i hi).1)
 have HGW:qH (W.heap.size<=w15.heap.size):=qh HD.o.bel.size
 replace HD:=qh (HD.o.keep2 (G':=fun i=>((i<z1)\/PB V1 Y i)\/i=w15.heap.size) hb (fun i x=>by
  rcases x with x|x
  ·exact .inl x
  ·right;subst x;simp))
 refine RfI ?_;clear HC HX HS;intro HC HX HS
 replace HO1:=qh (qEc HO1.o hb)
 replace HP1:=qh (HP1.o.below hb)
 have HNN2:qH (¬ PB V1 Y w15.heap.size):=qh (fun x=>by have:=HGL.o _ (.inr x);omega)
 generalize hnp:w15.heap.size=N1 at *
 generalize hwn:w15.alloc (.cells #[.slice none 0 0,.slice none 0 0,.slice none 0 0,.slice none 0 0,.slice none 0 0,.slice none 0 0,.slice none 0 0,.slice none 0 0,.slice none 0 0] 36)=w17 at *
 clear hb hnp hwn
 refine qk ?_ (fun hHeld=>?_)
 ·exact MT5
 clear hK K
 refine tkz 16 ?_
 refine rdz 17 fun K hK=>?_
 obtain⟨z0,z1,z2,z3,z4,z5,z6,z7,z8⟩:=HN1.o.nineP
 obtain⟨f0,f1,f2,f3,f4,f5,f6,f7,f8⟩:=HN1.o.thawP
 go_simp
 obtain⟨WF,hWF⟩:∃ WF,setP w17 N1 V1=WF:=⟨_,rfl⟩
 replace HD:=qh (HD.o.putP (.inr rfl) HGW.o V1)
 refine Rn8 ?_;clear HP1 HC HX HS HO1 HN1;intro HP1 HC HX HS HO1 HN1
 rw[hWF] at HD HP1 HN1 HC HX HS HO1
 unfold setP at hWF
 rw[hWF]
 clear z0 z1 z2 z3 z4 z5 z6 z7 z8 f0 f1 f2 f3 f4 f5 f6 f7 f8 hWF
 refine qk ?_ (fun hHeld=>?_)
 ·exact MT5
 clear hK K
 refine tkz 18 ?_
 refine dnz ?_
 exact MB1):P:=h
theorem M2B {P:Prop}(h:P:=by
 rintro e w15 ⟨V1,rfl,hl,hvp⟩
 rw[HAV.o,HBV.o]
 rw[HYY.o,HSX.o] at hl
 have HVP:=qh hvp
 obtain⟨A4,h2,hpv,h3⟩:=HD.o.pkt1 (HPU.o _ HD.o.bel) (fun i hi => .inl (HPZ.o i hi)) hl
 have HNB:qH (∀ i,W.heap.size<=i->PB V1 Y i->w17.heap.size<=i):=qh (fun i h4 hi=>by
  rcases hl.old i hi with h5|h5
  ·have:=HPW.o i h5;omega
  ·exact h5)
 replace HC:=qh (h3.held (.inl (by have:=HZC.o;omega)) HC.o)
 replace HX:=qh (h3.held (.inl (HZHX.o)) HX.o)
 replace HS:=qh (h3.held (.inl (HZS.o)) HS.o)
 replace HO1:=qh (h3.own (fun g e => .inl (HZR.o g e)) HO1.o)
 replace HN1:=qh (h3.held (.inr rfl) HN1.o)
 replace HD:=qh h2
 have HP1:=qh hpv
 clear h2 h3 hpv hl hvp
 refine qk ?_ (fun hHeld=>?_)
 ·exact MT5
 clear hK K
 refine tkz 11 ?_
 refine tkz 12 ?_
 refine tkz 13 ?_
 refine tkz 14 ?_
 refine tkz 16 ?_
 refine rdz 17 fun K hK=>?_
 have HNN2:qH (¬ PB V1 Y N1):=qh (fun x=>by have h4:=HNB.o _ HGW.o x;have:=HNL1.o;omega)
 obtain⟨z0,z1,z2,z3,z4,z5,z6,z7,z8⟩:=HN1.o.nineP
 obtain⟨f0,f1,f2,f3,f4,f5,f6,f7,f8⟩:=HN1.o.thawP
 go_simp
 obtain⟨WF,hWF⟩:∃ WF,setP w15 N1 V1=WF:=⟨_,rfl⟩
 replace HD:=qh (HD.o.putP (.inl (.inr rfl)) HGW.o V1)
 refine Rn8 ?_;clear HP1 HC HX HS HO1 HN1;intro HP1 HC HX HS HO1 HN1
 rw[hWF] at HD HP1 HN1 HC HX HS HO1
 unfold setP at hWF
 rw[hWF]
 clear z0 z1 z2 z3 z4 z5 z6 z7 z8 f0 f1 f2 f3 f4 f5 f6 f7 f8 hWF
 refine qk ?_ (fun hHeld=>?_)
 ·exact MT5
 clear hK K
 refine tkz 18 ?_
 refine dnz ?_
 replace HD:=qh (HD.o.less (G':=fun i=>((i<z1)\/PB V1 Y i)\/i=N1) (fun i x=>by
  rcases x with (x|x)|x
  ·exact .inl (.inl x)
  ·exact .inr x
  ·exact .inl (.inr x)))
 exact MB1):P:=h
theorem MB1 {P:Prop}(h:P:=by
 go_wp2_with fail
 go_meet
 case rel=>exact⟨N1,V1,A4,rfl,rfl,rfl,HD.o,HZL.o,⟨HN1.o,HP1.o,HNN2.o⟩,HC.o,HX.o,HS.o,HO1.o,HVP.o⟩):P:=h
theorem Mjk {P:Prop}(h:P:=by
 (try dsimp only)
 exact MT5):P:=h
theorem MyZ {P:Prop}(h:P:=by first|exact⟨HX.o.five',HNI.o _ HD.o.bel,HPK.o.held.nineP⟩|exact hHeld):P:=h
theorem MT5 {P:Prop}(h:P:=by first|exact⟨HC.o.three,HX.o.five',HNI.o _ HD.o.bel⟩|exact hHeld):P:=h
end Go.Proofs.YtjjfcaliippgpaaGreatDoor
set_option linter.unusedVariables false
set_option linter.unusedSimpArgs false
set_option maxRecDepth 100000
set_option maxHeartbeats 25600000
namespace Go.Proofs.YtjjfcaliippgpaaGreatDoor
open Go.ChangeShapes Go.WideShapes Go.ChangeAt Go.RowKit Go.Maps
section
theorem qMv (t q s:Int)(A:Option Addr)(n c:Nat)(A2:Option Addr)(T c2:Nat)(t0 k0 pg sl:Int)(W:World)(hT:SlotsLaid W)(HF:qH (∀ w,Below W.heap.size W w->Calls Tryz.prog 7 #[.agg #[.int .i64 t,.int .i64 q,.int .i64 s],.slice A n c,.agg #[.slice A2 T c2,.int .i64 t0,.int .i64 k0,.int .i64 pg,.int .i64 sl]] w fun e w'=>e = .returned (.bool false)/\Below w.heap.size w w')):Calls Tryz.prog 5 #[.agg #[.int .i64 t,.int .i64 q,.int .i64 s],.slice A n c,.agg #[.slice A2 T c2,.int .i64 t0,.int .i64 k0,.int .i64 pg,.int .i64 sl]] W (Keeps W):=by
 refine RYq ?_;intro HC HX HB
 have HTL:=qh hT
 clear hT
 refine RZx ?_;intro x0' x1' x2' y0' y1' y2' y3' y4'
 go_enter Tryz.func5,Tryz.ntmps5
 go_wp2_with fail
 refine(HF.o _ HB.o).mono ?_
 rintro e w2 ⟨rfl,hb⟩
 refine RXO ?_;clear HC HX HB hb;intro HC HX HB
 clear x0' x1' x2' y0' y1' y2' y3' y4'
 refine RZx ?_;intro x0' x1' x2' y0' y1' y2' y3' y4'
 go_wp2_with fail
 refine(qKo _ (HTL.o.below HB.o)).mono ?_
 rintro e w19 ⟨rfl,hb⟩
 have HBL:=qh (Bgo HB.o hb)
 clear hb
 go_wp2
 go_ret
 exact⟨rfl,HBL.o⟩

theorem qEK {H:AuH}(ad:Addr)(n c m:Nat)(HV:HeapV H n c)(vals:List Nat)(HNN:qH (vals.length=n))(H32:qH (∀ x∈vals,x<2^32))(hVK:∀ i,H.V i=vals.getD i 0)(hnc:n<=c)(ad2:Addr)(c2:Nat)(hTc:H.t<=c2)(hc2:c2<=maxLen)(i0:Nat)(hi0:i0<H.t)(k0:Int)(hk0 : -9223372036854775808<=k0)(hk1:k0<=9223372036854775807)(pg sl:Int)(U:Nat->Nat->Sl)(Z:Nat->Nat->List Int)(hq:H.p<=64)(hak:0<=k0/\k0<=8->AlOk n (qMP vals) H.t H.p H.s k0 (Z i0 (k0).toNat) freshS)(hx:(allocI n (qMP vals) H.t H.p H.s k0 (Z i0 (k0).toNat) freshS).1=none)(hwr:(0<=k0/\k0<=8->Z i0 k0.toNat = []->VOk n (pickI n (qMP vals) H.t H.p H.s k0 4 freshS).2)->VOk n (allocI n (qMP vals) H.t H.p H.s k0 (Z i0 (k0).toNat) freshS).2->(allocI n (qMP vals) H.t H.p H.s k0 (Z i0 (k0).toNat) freshS).2.wr = [])
  (W:World) (hT:SlotsLaid W) (HR:qH (Reads W W.heap.size 1 (some ad) n (valVs vals))) (hv:qH (IsVals W ad n H.V)) (hX:qH (XCheckIs W H.t H.p H.s (some ad) n c m true)) (HP:qH (PksAt W (some ad2) H.t U Z)) (HF:qH (∀ w,Below W.heap.size W w->Calls Tryz.prog 7 #[.agg #[.int .i64 (H.t:Int),.int .i64 (H.p:Int),.int .i64 (H.s:Int)],.slice (some ad) n c,.agg #[.slice (some ad2) H.t c2,.int .i64 (i0:Int),.int .i64 k0,.int .i64 pg,.int .i64 sl]] w fun e w'=>e = .returned (.bool true)/\Below w.heap.size w w')) :
  Calls Tryz.prog 5 #[.agg #[.int .i64 (H.t:Int),.int .i64 (H.p:Int),.int .i64 (H.s:Int)],.slice (some ad) n c,.agg #[.slice (some ad2) H.t c2,.int .i64 (i0:Int),.int .i64 k0,.int .i64 pg,.int .i64 sl]] W (Keeps W):=by
 have hn:n<=6238:=by have:=HV.nums;omega
 have hn0:0<n:=by have:=HV.len;omega
 have hT16:H.t<=16:=HV.nums.2.1
 have hcm:c<=maxLen:=HV.max
 have hcm2:c<=9223372036854775807:=hcm
 have hc3:c2<=9223372036854775807:=by unfold maxLen at hc2;omega
 have hn40:n<2^40:=qo
 have hq10:(H.p:Int)<=1024:=qo
 obtain⟨L,hL⟩:∃ L,blocksOf H.parts=L:=⟨_,rfl⟩
 obtain⟨r0,hr0⟩:∃ r,H.V 22=r:=⟨_,rfl⟩
 obtain⟨r1,hr1⟩:∃ r,H.V 23=r:=⟨_,rfl⟩
 obtain⟨r2,hr2⟩:∃ r,H.V 24=r:=⟨_,rfl⟩
 obtain⟨r3,hr3⟩:∃ r,H.V 25=r:=⟨_,rfl⟩
 obtain⟨r4,hr4⟩:∃ r,H.V 26=r:=⟨_,rfl⟩
 obtain⟨r5,hr5⟩:∃ r,H.V 27=r:=⟨_,rfl⟩
 obtain⟨r6,hr6⟩:∃ r,H.V 28=r:=⟨_,rfl⟩
 obtain⟨r7,hr7⟩:∃ r,H.V 29=r:=⟨_,rfl⟩
 obtain⟨nl,hnl⟩:∃ nl,L.length=nl:=⟨_,rfl⟩
 have HNL:=qh hnl
 have hnlb:nl<=60000:=by rw[<- hnl,<- hL];exact qXC HV
 have hnlb2:nl<=100000:=qo
 have HRS:qH (H.V 22=r0/\H.V 23=r1/\H.V 24=r2/\H.V 25=r3/\H.V 26=r4/\H.V 27=r5/\H.V 28=r6/\H.V 29=r7/\blocksOf H.parts=L):=qh ⟨hr0,hr1,hr2,hr3,hr4,hr5,hr6,hr7,hL⟩
 have HRS2:=qh HRS.o
 clear hL hnl hr0 hr1 hr2 hr3 hr4 hr5 hr6 hr7 hVK
 have HNI:qH (∀ w,Below W.heap.size W w->(w.cell? (ad2.add (i0*9))=some (U i0 0).v/\w.cell? ⟨(ad2.add (i0*9)).block,(ad2.add (i0*9)).off+1,none⟩=some (U i0 1).v/\w.cell? ⟨(ad2.add (i0*9)).block,(ad2.add (i0*9)).off+2,none⟩=some (U i0 2).v/\w.cell? ⟨(ad2.add (i0*9)).block,(ad2.add (i0*9)).off+3,none⟩=some (U i0 3).v/\w.cell? ⟨(ad2.add (i0*9)).block,(ad2.add (i0*9)).off+4,none⟩=some (U i0 4).v/\w.cell? ⟨(ad2.add (i0*9)).block,(ad2.add (i0*9)).off+5,none⟩=some (U i0 5).v/\w.cell? ⟨(ad2.add (i0*9)).block,(ad2.add (i0*9)).off+6,none⟩=some (U i0 6).v/\w.cell? ⟨(ad2.add (i0*9)).block,(ad2.add (i0*9)).off+7,none⟩=some (U i0 7).v/\w.cell? ⟨(ad2.add (i0*9)).block,(ad2.add (i0*9)).off+8,none⟩=some (U i0 8).v)):=qh (fun w hb=>(HP.o.below hb).nine hi0)
 have HPU:qH (∀ w,Below W.heap.size W w->PkV w (U i0) (Z i0)):=qh (fun w hb=>(HP.o.below hb).pk hi0)
 have HPW:qH (∀ i,PB (U i0) (Z i0) i->i<W.heap.size):=qh (fun i hi=>hi.lt (HP.o.pk hi0))
 obtain⟨Y,hY⟩:∃ Y,Z i0=Y:=⟨_,rfl⟩
 obtain⟨sx,hsx⟩:∃ sx,(allocI n (qMP vals) H.t H.p H.s k0 (Z i0 (k0).toNat) freshS).2=sx:=⟨_,rfl⟩
 have HSX:=qh hsx
 have HAV:qH (alV (allocI n (qMP vals) H.t H.p H.s k0 (Z i0 (k0).toNat) freshS).1=0):=qh (by rw[hx];rfl)
 have HBV:qH ((allocI n (qMP vals) H.t H.p H.s k0 (Z i0 (k0).toNat) freshS).1.isSome=false):=qh (by rw[hx];rfl)
 have HYY:qH (alZ (allocI n (qMP vals) H.t H.p H.s k0 (Z i0 (k0).toNat) freshS).1 (Z i0) k0=Y):=qh (by rw[hx];exact hY)
 have HAK:=qh hak
 have HWRP:=qh hwr
 have HYE:=qh hY
 have hpp:((0:Int)==(0:Int))=true:=by simp
 clear hsx hx hak hwr hY
 have HC:=qh ((Held.new W 23 #[.int .i64 (H.t:Int),.int .i64 (H.p:Int),.int .i64 (H.s:Int)]).alloc (.cells #[.slice (some ad2) H.t c2,.int .i64 (i0:Int),.int .i64 k0,.int .i64 pg,.int .i64 sl] 27))
 have HX:=qh (Held.new2 W (.cells #[.int .i64 (H.t:Int),.int .i64 (H.p:Int),.int .i64 (H.s:Int)] 23) 27 #[.slice (some ad2) H.t c2,.int .i64 (i0:Int),.int .i64 k0,.int .i64 pg,.int .i64 sl])
 have HB:=qh (Bnew (Bnew (B0 W) (.cells #[.int .i64 (H.t:Int),.int .i64 (H.p:Int),.int .i64 (H.s:Int)] 23)) (.cells #[.slice (some ad2) H.t c2,.int .i64 (i0:Int),.int .i64 k0,.int .i64 pg,.int .i64 sl] 27))
 have HTL:=qh hT
 clear hT
 obtain⟨x0',x1',x2'⟩:=HC.o.three
 obtain⟨y0',y1',y2',y3',y4'⟩:=HX.o.five'
 go_enter Tryz.func5,Tryz.ntmps5
 go_wp2_with fail
 refine(HF.o _ HB.o).mono ?_
 rintro e w2 ⟨rfl,hb⟩
 replace HC:=qh (HC.o.keep hb)
 replace HX:=qh (HX.o.keep hb)
 replace HB:=qh (Bgo HB.o hb)
 clear hb
 clear x0' x1' x2' y0' y1' y2' y3' y4'
 obtain⟨x0',x1',x2'⟩:=HC.o.three
 obtain⟨y0',y1',y2',y3',y4'⟩:=HX.o.five'
 go_wp2_with fail
 refine(qJ4 HV ad m _ (hv.o.below HB.o) (hX.o.grown HB.o)).mono ?_
 rintro e w3 ⟨u1,rfl,hown,hb⟩
 obtain⟨hr0,hr1,hr2,hr3,hr4,hr5,hr6,hr7,hL⟩:=HRS.o
 rw[hr0,hr1,hr2,hr3,hr4,hr5,hr6,hr7]
 rw[hL,HNL.o] at hown
 obtain⟨A1,k1,hu1⟩:=qKK hown
 subst hu1
 have HO1:qH ((w3.alloc (.cells #[.slice A1 nl k1,.int .i64 (r0:Int),.int .i64 (r1:Int),.int .i64 (r2:Int),.int .i64 (r3:Int),.int .i64 (r4:Int),.int .i64 (r5:Int),.int .i64 (r6:Int),.int .i64 (r7:Int)] 56)).ownsRow 0 64 2 (.slice A1 nl k1) nl (bkVs L)):=qh (qEc (qXO hown (Nat.zero_le _)) (Bnew (B0 _) _))
 have HS:=qh (Held.new w3 56 #[.slice A1 nl k1,.int .i64 (r0:Int),.int .i64 (r1:Int),.int .i64 (r2:Int),.int .i64 (r3:Int),.int .i64 (r4:Int),.int .i64 (r5:Int),.int .i64 (r6:Int),.int .i64 (r7:Int)])
 replace HC:=qh ((HC.o.keep hb).alloc (.cells #[.slice A1 nl k1,.int .i64 (r0:Int),.int .i64 (r1:Int),.int .i64 (r2:Int),.int .i64 (r3:Int),.int .i64 (r4:Int),.int .i64 (r5:Int),.int .i64 (r6:Int),.int .i64 (r7:Int)] 56))
 replace HX:=qh ((HX.o.keep hb).alloc (.cells #[.slice A1 nl k1,.int .i64 (r0:Int),.int .i64 (r1:Int),.int .i64 (r2:Int),.int .i64 (r3:Int),.int .i64 (r4:Int),.int .i64 (r5:Int),.int .i64 (r6:Int),.int .i64 (r7:Int)] 56))
 replace HB:=qh (Bnew (Bgo HB.o hb) (.cells #[.slice A1 nl k1,.int .i64 (r0:Int),.int .i64 (r1:Int),.int .i64 (r2:Int),.int .i64 (r3:Int),.int .i64 (r4:Int),.int .i64 (r5:Int),.int .i64 (r6:Int),.int .i64 (r7:Int)] 56))
 clear hb hown HRS hr0 hr1 hr2 hr3 hr4 hr5 hr6 hr7 hL x0' x1' x2' y0' y1' y2' y3' y4'
 obtain⟨x0',x1',x2'⟩:=HC.o.three
 obtain⟨y0',y1',y2',y3',y4'⟩:=HX.o.five'
 go_wp2_with fail
 generalize hN11:w3.heap.size=NW at *
 generalize hw11:w3.alloc (.cells #[.slice A1 nl k1,.int .i64 (r0:Int),.int .i64 (r1:Int),.int .i64 (r2:Int),.int .i64 (r3:Int),.int .i64 (r4:Int),.int .i64 (r5:Int),.int .i64 (r6:Int),.int .i64 (r7:Int)] 56)=w4 at *
 clear hN11 hw11
 have HRw:qH (Reads w4 w4.heap.size 1 (some ad) n (valVs vals)):=qh ((HR.o.below HB.o).more HB.o.size)
 refine(qWm (some ad) c vals n HNN.o qo H32.o _ (by
  intro h0
  obtain⟨ad',e,_,hc⟩:=HRw.o.2 h0
  exact⟨ad',e,hc⟩)).mono ?_
 rintro e w5 ⟨b1,o1,rfl,hI,hB⟩
 have HZC:qH (W.heap.size<w4.heap.size):=qh HC.o.lt
 have HZS:qH (NW<w4.heap.size):=qh HS.o.lt
 have HZR:qH (∀ g,(Value.slice A1 nl k1).ownBlock=some g->g<w4.heap.size):=qh (fun g e=>(HO1.o.lt g e).2)
 have HZHX:qH (_<w4.heap.size):=qh HX.o.lt
 have HD:=qh (qAg (W:=W) (G:=fun g=>g<w4.heap.size) hI HB.o.size (Bgo HB.o hB) (fun g hg=>⟨Nat.lt_of_lt_of_le hg hB.size,fun x=>by have:=hI.ge _ x;omega⟩))
 replace HC:=qh (HC.o.keep hB)
 replace HS:=qh (HS.o.keep hB)
 replace HX:=qh (HX.o.keep hB)
 replace HO1:=qh (qEc HO1.o hB)
 clear hI hB HRw HB x0' x1' x2' y0' y1' y2' y3' y4'
 generalize hz1:w4.heap.size=z1 at *
 clear hz1
 rw[show (fun i=>vals[i]?)=qMP vals from rfl] at HD
 obtain⟨x0',x1',x2'⟩:=HC.o.three
 obtain⟨y0',y1',y2',y3',y4'⟩:=HX.o.five'
 have HPZ:qH (∀ i,PB (U i0) (Z i0) i->i<z1):=qh (fun i hi=>by have:=HPW.o i hi;have:=HZC.o;omega)
 have HZL:qH (z1<=w5.heap.size):=qh (by
  rcases Nat.lt_or_ge w5.heap.size z1 with h|h
  ·have:=(HD.o.aG w5.heap.size h).1;omega
  ·exact h)
 go_wp2_with fail
 go_cut [10,11,12] from 36 to 50 (fun u10 u11 u12 wx=>∃ (N1:Nat) (V1:Nat->Sl) (A4:Nat->Prop),u10 = .int .i64 0/\u11 = .pointer (some ⟨N1,0,none⟩)/\u12 = .bool false/\Duo W (vOb z1 b1 n true (qMP vals)) noOb A4 (fun _=>False) (fun i=>((i<z1)\/PB V1 Y i)\/i=N1) sx freshS wx/\z1<=N1/\PkH wx N1 V1 Y/\Held wx W.heap.size 23 #[.int .i64 (H.t:Int),.int .i64 (H.p:Int),.int .i64 (H.s:Int)]/\Held wx (W.heap.size+1) 27 #[.slice (some ad2) H.t c2,.int .i64 (i0:Int),.int .i64 k0,.int .i64 pg,.int .i64 sl]/\Held wx NW 56 #[.slice A1 nl k1,.int .i64 (r0:Int),.int .i64 (r1:Int),.int .i64 (r2:Int),.int .i64 (r3:Int),.int .i64 (r4:Int),.int .i64 (r5:Int),.int .i64 (r6:Int),.int .i64 (r7:Int)]/\wx.ownsRow 0 64 2 (.slice A1 nl k1) nl (bkVs L)/\(0<=k0/\k0<=8->Z i0 (k0).toNat = []->VOk n (pickI n (qMP vals) H.t H.p H.s k0 4 freshS).2))
 case first =>
  clear x0' x1' x2' y0' y1' y2' y3' y4'
  replace HD:=qh (HD.o.keep (Bdrew (B0 _)))
  replace HC:=qh HC.o.drw
  replace HX:=qh HX.o.drw
  replace HS:=qh HS.o.drw
  replace HO1:=qh (qEc HO1.o (Bdrew (B0 _)))
  replace HZL:qH (z1<=w5.drew.heap.size):=qh HZL.o
  refine wp_region_held_drew (S:=(fun w'=>(w'.cell? ⟨W.heap.size,0,none⟩=some (.int .i64 (H.t:Int))/\w'.cell? ⟨W.heap.size,1,none⟩=some (.int .i64 (H.p:Int))/\w'.cell? ⟨W.heap.size,2,none⟩=some (.int .i64 (H.s:Int)))/\(w'.cell? ⟨W.heap.size+1,0,none⟩=some (.slice (some ad2) H.t c2)/\w'.cell? ⟨W.heap.size+1,1,none⟩=some (.int .i64 (i0:Int))/\w'.cell? ⟨W.heap.size+1,2,none⟩=some (.int .i64 k0)/\w'.cell? ⟨W.heap.size+1,3,none⟩=some (.int .i64 pg)/\w'.cell? ⟨W.heap.size+1,4,none⟩=some (.int .i64 sl))/\(w'.cell? (ad2.add (i0*9))=some (U i0 0).v/\w'.cell? ⟨(ad2.add (i0*9)).block,(ad2.add (i0*9)).off+1,none⟩=some (U i0 1).v/\w'.cell? ⟨(ad2.add (i0*9)).block,(ad2.add (i0*9)).off+2,none⟩=some (U i0 2).v/\w'.cell? ⟨(ad2.add (i0*9)).block,(ad2.add (i0*9)).off+3,none⟩=some (U i0 3).v/\w'.cell? ⟨(ad2.add (i0*9)).block,(ad2.add (i0*9)).off+4,none⟩=some (U i0 4).v/\w'.cell? ⟨(ad2.add (i0*9)).block,(ad2.add (i0*9)).off+5,none⟩=some (U i0 5).v/\w'.cell? ⟨(ad2.add (i0*9)).block,(ad2.add (i0*9)).off+6,none⟩=some (U i0 6).v/\w'.cell? ⟨(ad2.add (i0*9)).block,(ad2.add (i0*9)).off+7,none⟩=some (U i0 7).v/\w'.cell? ⟨(ad2.add (i0*9)).block,(ad2.add (i0*9)).off+8,none⟩=some (U i0 8).v))) qr ?_ (fun hHeld=>?_)
  ·exact Mjk
  generalize hwd:World.drew w5=w14 at *
  clear hwd
  refine Rbo ?_
  refine RPe ?_
  refine tkz 9 ?_
  refine wpAnyH_ready (rs := [10,15]) qr (by simp) ?_
  refine AllReadyH.cons (o:=_) rfl (fun K hK=>?_) (AllReadyH.cons (o:=_) rfl (fun K hK=>?_) AllReadyH.nil)
  ·skip
   go_simp
   refine(qLs hn40 hq10 k0 hk0 hk1 HAK.o (HD.o.slots HTL.o).1 (HD.o.slots HTL.o).2.1 (HPU.o _ HD.o.bel) (fun i hi ha=>(HD.o.aG i (HPZ.o i hi)).2.1 ha) HD.o.i1).mono ?_
   exact M82
  ·refine RO7 ?_;intro hb HN1 HGL HGW
   replace HD:=qh (HD.o.keep2 (G':=fun i=>(i<z1)\/i=w14.heap.size) hb (fun i x=>by
    rcases x with x|x
    ·exact .inl x
    ·right;subst x;simp))
   refine RfI ?_;clear HC HX HS;intro HC HX HS
   replace HO1:=qh (qEc HO1.o hb)
   generalize hnp:w14.heap.size=N1 at *
   generalize hwn:w14.alloc (.cells #[.slice none 0 0,.slice none 0 0,.slice none 0 0,.slice none 0 0,.slice none 0 0,.slice none 0 0,.slice none 0 0,.slice none 0 0,.slice none 0 0] 36)=w17 at *
   have HNL1:qH (N1<w17.heap.size):=qh HN1.o.lt
   clear hb hnp hwn
   refine qk ?_ (fun hHeld=>?_)
   ·exact MT5
   clear hK K
   refine rdz 10 fun K hK=>?_
   go_simp
   refine(qLs hn40 hq10 k0 hk0 hk1 HAK.o (HD.o.slots HTL.o).1 (HD.o.slots HTL.o).2.1 (HPU.o _ HD.o.bel) (fun i hi ha=>(HD.o.aG i (.inl (HPZ.o i hi))).2.1 ha) HD.o.i1).mono ?_
   exact M2B
 case rest =>
  clear HC HX HS HO1 HD HZL
  obtain⟨N1,V1,A4,rfl,rfl,rfl,hd,hz,hpk,hc,hx,hs,ho,hvp⟩:=hcut
  have HD:=qh hd
  have HZP:=qh hz
  have HPK:=qh hpk
  have HC:=qh hc
  have HX:=qh hx
  have HS:=qh hs
  have HO1:=qh ho
  have HVP:=qh hvp
  clear hd hz hpk hc hx hs ho hvp
  have HOK:qH (VOk n sx):=qh (by obtain⟨o,hI,_⟩:=HD.o.i1;exact hI.ok)
  have HWR:qH (sx.wr = []):=qh (by rw[<- HSX.o];exact HWRP.o HVP.o (by rw[HSX.o];exact HOK.o))
  rw[<- HYE.o] at HPK
  clear HOK HWRP HVP
  clear x0' x1' x2' y0' y1' y2' y3' y4'
  refine RZx ?_;intro x0' x1' x2' y0' y1' y2' y3' y4'
  go_wp2_with fail
  replace HX:=qh HX.o.drw
  replace HPK:=qh HPK.o.drw
  replace HD:=qh (HD.o.keep (Bdrew (B0 _)))
  refine wp_region_held_drew (S:=(fun w'=>(w'.cell? ⟨W.heap.size+1,0,none⟩=some (.slice (some ad2) H.t c2)/\w'.cell? ⟨W.heap.size+1,1,none⟩=some (.int .i64 (i0:Int))/\w'.cell? ⟨W.heap.size+1,2,none⟩=some (.int .i64 k0)/\w'.cell? ⟨W.heap.size+1,3,none⟩=some (.int .i64 pg)/\w'.cell? ⟨W.heap.size+1,4,none⟩=some (.int .i64 sl))/\((w'.cell? (ad2.add (i0*9))=some (U i0 0).v/\w'.cell? ⟨(ad2.add (i0*9)).block,(ad2.add (i0*9)).off+1,none⟩=some (U i0 1).v/\w'.cell? ⟨(ad2.add (i0*9)).block,(ad2.add (i0*9)).off+2,none⟩=some (U i0 2).v/\w'.cell? ⟨(ad2.add (i0*9)).block,(ad2.add (i0*9)).off+3,none⟩=some (U i0 3).v/\w'.cell? ⟨(ad2.add (i0*9)).block,(ad2.add (i0*9)).off+4,none⟩=some (U i0 4).v/\w'.cell? ⟨(ad2.add (i0*9)).block,(ad2.add (i0*9)).off+5,none⟩=some (U i0 5).v/\w'.cell? ⟨(ad2.add (i0*9)).block,(ad2.add (i0*9)).off+6,none⟩=some (U i0 6).v/\w'.cell? ⟨(ad2.add (i0*9)).block,(ad2.add (i0*9)).off+7,none⟩=some (U i0 7).v/\w'.cell? ⟨(ad2.add (i0*9)).block,(ad2.add (i0*9)).off+8,none⟩=some (U i0 8).v))/\(w'.cell? ⟨N1,0,none⟩=some (V1 0).v/\w'.cell? ⟨N1,1,none⟩=some (V1 1).v/\w'.cell? ⟨N1,2,none⟩=some (V1 2).v/\w'.cell? ⟨N1,3,none⟩=some (V1 3).v/\w'.cell? ⟨N1,4,none⟩=some (V1 4).v/\w'.cell? ⟨N1,5,none⟩=some (V1 5).v/\w'.cell? ⟨N1,6,none⟩=some (V1 6).v/\w'.cell? ⟨N1,7,none⟩=some (V1 7).v/\w'.cell? ⟨N1,8,none⟩=some (V1 8).v))) qr ?_ (fun hHeld=>?_)
  ·(try dsimp only)
   exact MyZ
  refine Ro3 ?_
  refine tkz 3 ?_
  refine rdz 4 fun K hK=>?_
  go_simp
  obtain⟨o5,hI5,_⟩:=HD.o.i1
  refine(qFD (by rw[HWR.o];simp) _ hI5).mono ?_
  rintro e w41 ⟨u7,rfl,ho,hb⟩
  rw[HWR.o] at ho
  obtain⟨A7,c7,hu7⟩:=qKK ho
  subst hu7
  replace HX:=qh (HX.o.keep hb)
  replace HPK:=qh (HPK.o.keep hb)
  replace HD:=qh (HD.o.keep hb)
  clear hb ho hI5
  refine qk ?_ (fun hHeld=>?_)
  ·exact MyZ
  clear hK K
  refine RPe ?_
  refine tkz 9 ?_
  refine RNh ?_
  refine tkz 14 ?_
  refine tkz 15 ?_
  refine rdz 16 fun K hK=>?_
  go_simp
  refine(qZG V1 (U i0) (Z i0) _ HPK.o.pk (HPU.o _ HD.o.bel)).mono ?_
  rintro e w42 ⟨rfl,hb⟩
  replace HX:=qh (HX.o.keep hb)
  replace HPK:=qh (HPK.o.keep hb)
  replace HD:=qh (HD.o.keep hb)
  clear hb
  refine qk ?_ (fun hHeld=>?_)
  ·exact MyZ
  clear hK K
  refine tkz 17 ?_
  refine tkz 18 ?_
  refine rdz 19 fun K hK=>?_
  go_simp
  refine(qKo _ (HTL.o.below HD.o.bel)).mono ?_
  rintro e w43 ⟨rfl,hb⟩
  replace HX:=qh (HX.o.keep hb)
  replace HPK:=qh (HPK.o.keep hb)
  replace HD:=qh (HD.o.keep hb)
  clear hb
  refine qk ?_ (fun hHeld=>?_)
  ·exact MyZ
  clear hK K
  refine tkz 20 ?_
  refine tkz 21 ?_
  refine dnz ?_
  have HB:=qh HD.o.bel
  go_wp2
  go_ret
  exact⟨rfl,HB.o⟩
end
end Go.Proofs.YtjjfcaliippgpaaGreatDoor
