/-
  The law SmallKeeps: the walk where there is a block. Written by small/gen_keeping.py.
-/
import Derived.Test.YtjjfcaliippgpaaGreatDoorXSmallKeepsN
namespace Go.Proofs.YtjjfcaliippgpaaGreatDoor
theorem RG8 {P Q:Prop}(kq:Q)(h:HQ Q->P:=by
 intro kq
 replace HNS:=qh (HNS.o.keep hb)
 replace HPK:=qh (HPK.o.keep hb)
 replace HO1:=qh (qEc HO1.o hb)
 replace HO2:=qh (qEc HO2.o hb)
 replace HD:=qh (HD.o.keep hb)
 revert HNS HPK HO1 HO2 HD
 exact kq.o):P:=h ⟨kq⟩
theorem RG1 {P Q:Prop}(kq:Q)(h:HQ Q->P:=by
 intro kq
 replace HO1:=qh (qEc HO1.o hb)
 replace HD:=qh (HD.o.keep hb)
 refine qk ?_ (fun hHeld=>?_)
 ·first|exact HC.o.three|exact hHeld
 revert HO1 HD hHeld
 exact kq.o):P:=h ⟨kq⟩
theorem R7E {P Q:Prop}(kq:Q)(h:HQ Q->P:=by
 intro kq
 replace HC:=qh HC.o.drw
 replace HX:=qh HX.o.drw
 replace HS:=qh HS.o.drw
 replace HNS:=qh HNS.o.drw
 replace HPK:=qh HPK.o.drw
 replace HBX:=qh HBX.o.drw
 replace HO1:=qh (qEc HO1.o (Bdrew (B0 _)))
 replace HO2:=qh (qEc HO2.o (Bdrew (B0 _)))
 replace HD:=qh (HD.o.keep (Bdrew (B0 _)))
 refine wp_region_held_drew (S:=(fun w'=>(w'.cell? ⟨W.heap.size,0,none⟩=some (.int .i64 (H.t:Int))/\w'.cell? ⟨W.heap.size,1,none⟩=some (.int .i64 (H.p:Int))/\w'.cell? ⟨W.heap.size,2,none⟩=some (.int .i64 (H.s:Int)))/\(w'.cell? ⟨W.heap.size+1,0,none⟩=some (.slice (some ad2) H.t c2)/\w'.cell? ⟨W.heap.size+1,1,none⟩=some (.int .i64 (i0:Int))/\w'.cell? ⟨W.heap.size+1,2,none⟩=some (.int .i64 (k:Int))/\w'.cell? ⟨W.heap.size+1,3,none⟩=some (.int .i64 pg)/\w'.cell? ⟨W.heap.size+1,4,none⟩=some (.int .i64 sl))/\w'.cell? ⟨NW,0,none⟩=some (.slice A1 nl k1)/\w'.cell? ⟨NB,0,none⟩=some (.int .i64 xa)/\w'.cell? ⟨NB,1,none⟩=some (.int .i64 xz))) qr ?_ (fun hHeld=>?_)
 ·exact M14
 revert HC HX HS HNS HPK HBX HO1 HO2 HD hHeld
 exact kq.o):P:=h ⟨kq⟩
theorem R2K {P Q:Prop}(kq:Q)(h:HQ Q->P:=by
 intro kq
 replace HC:=qh HC.o.drw
 replace HX:=qh HX.o.drw
 replace HS:=qh HS.o.drw
 replace HPK:=qh HPK.o.drw
 replace HO1:=qh (qEc HO1.o (Bdrew (B0 _)))
 replace HD:=qh (HD.o.keep (Bdrew (B0 _)))
 refine wp_region_held_drew (S:=(fun w'=>w'.cell? ⟨W.heap.size,0,none⟩=some (.int .i64 (H.t:Int))/\w'.cell? ⟨W.heap.size,1,none⟩=some (.int .i64 (H.p:Int))/\w'.cell? ⟨W.heap.size,2,none⟩=some (.int .i64 (H.s:Int)))) qr ?_ (fun hHeld=>?_)
 ·(try dsimp only)
  first|exact HC.o.three|exact hHeld
 revert HC HX HS HPK HO1 HD hHeld
 exact kq.o):P:=h ⟨kq⟩
theorem RS3 {P Q:Prop}(kq:Q)(h:HQ Q->P:=by
 intro kq
 skip
 go_simp
 have hb:=Bnew (B0 v2) (.cells #[.slice none 0 0,.int .i64 0,.int .i64 0,.int .i64 0,.int .i64 0,.int .i64 0,.int .i64 0,.int .i64 0,.int .i64 0] 56)
 have HN:=qh (Held.new v2 56 #[.slice none 0 0,.int .i64 0,.int .i64 0,.int .i64 0,.int .i64 0,.int .i64 0,.int .i64 0,.int .i64 0,.int .i64 0])
 have HLE:=qh HD.o.bel.size
 revert hb HN HLE
 exact kq.o):P:=h ⟨kq⟩
theorem RDs {P Q:Prop}(kq:Q)(h:HQ Q->P:=by
 intro kq
 skip
 go_simp
 have hb:=Bnew (B0 v1) (.cells #[.slice none 0 0,.int .i64 0,.int .i64 0,.int .i64 0,.int .i64 0,.int .i64 0,.int .i64 0,.int .i64 0,.int .i64 0] 56)
 have HN:=qh (Held.new v1 56 #[.slice none 0 0,.int .i64 0,.int .i64 0,.int .i64 0,.int .i64 0,.int .i64 0,.int .i64 0,.int .i64 0,.int .i64 0])
 have HLE:=qh HD.o.bel.size
 revert hb HN HLE
 exact kq.o):P:=h ⟨kq⟩
theorem R6h {P Q:Prop}(kq:Q)(h:HQ Q->P:=by
 intro kq
 skip
 go_simp
 have hb:=Bnew (B0 q0) (.cells #[.slice none 0 0,.int .i64 0,.int .i64 0,.int .i64 0,.int .i64 0,.int .i64 0,.int .i64 0,.int .i64 0,.int .i64 0] 56)
 have HN:=qh (Held.new q0 56 #[.slice none 0 0,.int .i64 0,.int .i64 0,.int .i64 0,.int .i64 0,.int .i64 0,.int .i64 0,.int .i64 0,.int .i64 0])
 have HLE:=qh HD.o.bel.size
 revert hb HN HLE
 exact kq.o):P:=h ⟨kq⟩
theorem Rhb {P Q:Prop}(kq:Q)(h:HQ Q->P:=by
 intro kq
 refine rdz 8 fun K hK=>?_
 obtain⟨z0,z1',z2,z3,z4,z5',z6,z7,z8⟩:=HN.o.nine
 obtain⟨f0,f1,f2,f3,f4,f5,f6,f7,f8⟩:=HN.o.thawed9
 go_simp
 revert K hK z0 z1' z2 z3 z4 z5' z6 z7 z8 f0 f1 f2 f3 f4 f5 f6 f7 f8
 exact kq.o):P:=h ⟨kq⟩
theorem Rlb {P Q:Prop}(kq:Q)(h:HQ Q->P:=by
 intro kq
 refine(qKm hn0 (by have:=hI9.ok.few;omega) _ hI9).mono ?_
 exact kq.o):P:=h ⟨kq⟩
theorem Rte {P Q:Prop}(kq:Q)(h:HQ Q->P:=by
 intro kq
 refine qk ?_ (fun hHeld=>?_)
 ·first|exact HC.o.three|exact hHeld
 revert hHeld
 exact kq.o):P:=h ⟨kq⟩
theorem RVE {P Q:Prop}(kq:Q)(h:HQ Q->P:=by
 intro kq
 replace HPK:=qh (HPK.o.keep hb)
 replace HO1:=qh (qEc HO1.o hb)
 replace HD:=qh (HD.o.keep hb)
 revert HPK HO1 HD
 exact kq.o):P:=h ⟨kq⟩
theorem Rch {P Q:Prop}(kq:Q)(h:HQ Q->P:=by
 intro kq
 refine tkz 13 ?_
 refine tkz 14 ?_
 refine tkz 15 ?_
 refine tkz 16 ?_
 refine tkz 17 ?_
 refine tkz 18 ?_
 refine tkz 19 ?_
 exact kq.o):P:=h ⟨kq⟩
theorem Rw3 {P Q:Prop}(kq:Q)(h:HQ Q->P:=by
 intro kq
 refine tkz 4 ?_
 refine tkz 5 ?_
 refine tkz 6 ?_
 exact kq.o):P:=h ⟨kq⟩
theorem RN7 {P Q:Prop}(kq:Q)(h:HQ Q->P:=by
 intro kq
 replace HC:=qh HC.o.drw
 replace HX:=qh HX.o.drw
 replace HS:=qh HS.o.drw
 replace HNS:=qh HNS.o.drw
 replace HPK:=qh HPK.o.drw
 replace HO1:=qh (qEc HO1.o (Bdrew (B0 _)))
 replace HO2:=qh (qEc HO2.o (Bdrew (B0 _)))
 replace HD:=qh (HD.o.keep (Bdrew (B0 _)))
 revert HC HX HS HNS HPK HO1 HO2 HD
 exact kq.o):P:=h ⟨kq⟩
theorem MJc {P:Prop}(h:P:=by
 replace HO1:=qh (own9 hWF (qLg HN.o HO1.o (by decide)) HO1.o)
 replace HO2:=qh (own9 hWF (qLg HN.o HO2.o (by decide)) HO2.o)
 replace HC:=qh (far9 hWF (by have:=HLT.o;omega) HC.o)
 replace HX:=qh (far9 hWF (by have:=HLT.o;omega) HX.o)
 replace HS:=qh (far9 hWF (by have:=HLT.o;omega) HS.o)
 replace HPK:=qh (HPK.o.far9 hWF (by have:=HLT.o;omega) HNB.o)
 replace HD:=qh (duo9 hWF HNA.o (fun x=>x) HLE.o HD.o)
 replace HN:=qh (qDu hWF HN.o)
 unfold wr9 set9 at hWF
 rw[hWF]
 clear hWF z0 z1' z2 z3 z4 z5' z6 z7 z8 f0 f1 f2 f3 f4 f5 f6 f7 f8
 refine Rte ?_;intro hHeld
 clear hK K
 refine tkz 9 ?_
 refine dnz ?_
 go_wp2_with fail
 go_meet
 case rel=>exact⟨_,_,_,_,rfl,rfl,HN.o,HO2.o,HC.o,HX.o,HS.o,HPK.o,HO1.o,HD.o⟩):P:=h
theorem MJS {P:Prop}(h:P:=by
 refine tkz 26 ?_
 refine tkz 27 ?_
 refine dnz ?_
 go_wp2_with fail
 go_roundw
 case rel=>exact⟨j+1,qo,by go_num,HC,HX,HS,HNS,HPK,HO1,HO2,HD⟩
 case measure=>simp[intOf];omega):P:=h
theorem Mbz {P:Prop}(h:P:=by
 (try dsimp only)
 exact McK):P:=h
theorem McK {P:Prop}(h:P:=by first|exact⟨HC.o.three,HX.o.five',HS.o.nine,HNS.o.nine,HPK.o.held.nineP⟩|exact hHeld):P:=h
theorem M14 {P:Prop}(h:P:=by
 (try dsimp only)
 exact Mee):P:=h
theorem Mee {P:Prop}(h:P:=by first|exact⟨HC.o.three,HX.o.five',HS.o.nine.1,HBX.o.two⟩|exact hHeld):P:=h
end Go.Proofs.YtjjfcaliippgpaaGreatDoor
set_option linter.unusedVariables false
set_option linter.unusedSimpArgs false
set_option maxRecDepth 100000
set_option maxHeartbeats 25600000
namespace Go.Proofs.YtjjfcaliippgpaaGreatDoor
open Go.ChangeShapes Go.WideShapes Go.ChangeAt Go.RowKit Go.Maps
section
theorem qBc {H:AuH}(ad:Addr)(n c m:Nat)(HV:HeapV H n c)(vals:List Nat)(HNN:qH (vals.length=n))(H32:qH (∀ x∈vals,x<2^32))(hVK:∀ i,H.V i=vals.getD i 0)(hnc:n<=c)(ad2:Addr)(c2:Nat)(hTc:H.t<=c2)(hc2:c2<=maxLen)(i0:Nat)(hi0:i0<H.t)(k:Nat)(hk:k<9)(pg sl:Int)(U:Nat->Nat->Sl)(Z:Nat->Nat->List Int)(hq:H.p<=64)(hak:0<=(k:Int)/\(k:Int)<=8->AlOk n (qMP vals) H.t H.p H.s (k:Int) (Z i0 ((k:Int)).toNat) freshS)(a:Int)(l:List Int)(hx:(allocI n (qMP vals) H.t H.p H.s (k:Int) (Z i0 ((k:Int)).toNat) freshS).1=some (a,l))(hal:(Z i0 k = []->VOk n (pickI n (qMP vals) H.t H.p H.s (k:Int) 4 freshS).2)->VOk n (allocI n (qMP vals) H.t H.p H.s (k:Int) (Z i0 ((k:Int)).toNat) freshS).2->∃ LB p i,AlMath H n (qMP vals) Z i0 k (blocksOf H.parts) a l (allocI n (qMP vals) H.t H.p H.s (k:Int) (Z i0 ((k:Int)).toNat) freshS).2 LB p i)
  (W:World) (hT:SlotsLaid W) (HR:qH (Reads W W.heap.size 1 (some ad) n (valVs vals))) (hv:qH (IsVals W ad n H.V)) (hX:qH (XCheckIs W H.t H.p H.s (some ad) n c m true)) (HP:qH (PksAt W (some ad2) H.t U Z)) (HF:qH (∀ w,Below W.heap.size W w->Calls Tryz.prog 7 #[.agg #[.int .i64 (H.t:Int),.int .i64 (H.p:Int),.int .i64 (H.s:Int)],.slice (some ad) n c,.agg #[.slice (some ad2) H.t c2,.int .i64 (i0:Int),.int .i64 (k:Int),.int .i64 pg,.int .i64 sl]] w fun e w'=>e = .returned (.bool true)/\Below w.heap.size w w')) :
  Calls Tryz.prog 5 #[.agg #[.int .i64 (H.t:Int),.int .i64 (H.p:Int),.int .i64 (H.s:Int)],.slice (some ad) n c,.agg #[.slice (some ad2) H.t c2,.int .i64 (i0:Int),.int .i64 (k:Int),.int .i64 pg,.int .i64 sl]] W (Keeps W):=by
 have HALP:=qh hal
 have h32K:∀ i x,qMP vals i=some x->x<2^32:=fun i x h=>H32.o x (List.mem_of_getElem? h)
 have HVH:=qh HV
 have H3K:=qh h32K
 clear hal h32K
 have hn:n<=6238:=by have:=HV.nums;omega
 have hn0:0<n:=by have:=HV.len;omega
 have hT16:H.t<=16:=HV.nums.2.1
 have hcm:c<=maxLen:=HV.max
 have hcm2:c<=9223372036854775807:=hcm
 have hc3:c2<=9223372036854775807:=by unfold maxLen at hc2;omega
 have hn40:n<2^40:=qo
 have hq10:(H.p:Int)<=1024:=qo
 have hk0 : -9223372036854775808<=(k:Int):=qo
 have hk1:(k:Int)<=9223372036854775807:=qo
 obtain⟨L,hL⟩:∃ L,blocksOf H.parts=L:=⟨_,rfl⟩
 obtain⟨r0,hr0⟩:∃ r,H.V 22=r:=⟨_,rfl⟩
 obtain⟨r1,hr1⟩:∃ r,H.V 23=r:=⟨_,rfl⟩
 obtain⟨r2,hr2⟩:∃ r,H.V 24=r:=⟨_,rfl⟩
 obtain⟨r3,hr3⟩:∃ r,H.V 25=r:=⟨_,rfl⟩
 obtain⟨r4,hr4⟩:∃ r,H.V 26=r:=⟨_,rfl⟩
 obtain⟨r5,hr5⟩:∃ r,H.V 27=r:=⟨_,rfl⟩
 obtain⟨r6,hr6⟩:∃ r,H.V 28=r:=⟨_,rfl⟩
 obtain⟨r7,hr7⟩:∃ r,H.V 29=r:=⟨_,rfl⟩
 obtain⟨nl,hnl⟩:∃ nl,L.length=nl:=⟨_,rfl⟩
 have HNL:=qh hnl
 have hnlb:nl<=60000:=by rw[<- hnl,<- hL];exact qXC HV
 have hnlb2:nl<=100000:=qo
 have HRS:qH (H.V 22=r0/\H.V 23=r1/\H.V 24=r2/\H.V 25=r3/\H.V 26=r4/\H.V 27=r5/\H.V 28=r6/\H.V 29=r7/\blocksOf H.parts=L):=qh ⟨hr0,hr1,hr2,hr3,hr4,hr5,hr6,hr7,hL⟩
 have HRS2:=qh HRS.o
 clear hL hnl hr0 hr1 hr2 hr3 hr4 hr5 hr6 hr7 hVK
 have HNI:qH (∀ w,Below W.heap.size W w->(w.cell? (ad2.add (i0*9))=some (U i0 0).v/\w.cell? ⟨(ad2.add (i0*9)).block,(ad2.add (i0*9)).off+1,none⟩=some (U i0 1).v/\w.cell? ⟨(ad2.add (i0*9)).block,(ad2.add (i0*9)).off+2,none⟩=some (U i0 2).v/\w.cell? ⟨(ad2.add (i0*9)).block,(ad2.add (i0*9)).off+3,none⟩=some (U i0 3).v/\w.cell? ⟨(ad2.add (i0*9)).block,(ad2.add (i0*9)).off+4,none⟩=some (U i0 4).v/\w.cell? ⟨(ad2.add (i0*9)).block,(ad2.add (i0*9)).off+5,none⟩=some (U i0 5).v/\w.cell? ⟨(ad2.add (i0*9)).block,(ad2.add (i0*9)).off+6,none⟩=some (U i0 6).v/\w.cell? ⟨(ad2.add (i0*9)).block,(ad2.add (i0*9)).off+7,none⟩=some (U i0 7).v/\w.cell? ⟨(ad2.add (i0*9)).block,(ad2.add (i0*9)).off+8,none⟩=some (U i0 8).v)):=qh (fun w hb=>(HP.o.below hb).nine hi0)
 have HPU:qH (∀ w,Below W.heap.size W w->PkV w (U i0) (Z i0)):=qh (fun w hb=>(HP.o.below hb).pk hi0)
 have HPW:qH (∀ i,PB (U i0) (Z i0) i->i<W.heap.size):=qh (fun i hi=>hi.lt (HP.o.pk hi0))
 obtain⟨Y,hY⟩:∃ Y,updF (Z i0) k l=Y:=⟨_,rfl⟩
 obtain⟨sx,hsx⟩:∃ sx,(allocI n (qMP vals) H.t H.p H.s (k:Int) (Z i0 ((k:Int)).toNat) freshS).2=sx:=⟨_,rfl⟩
 have HSX:=qh hsx
 have HAV:qH (alV (allocI n (qMP vals) H.t H.p H.s (k:Int) (Z i0 ((k:Int)).toNat) freshS).1=a):=qh (by rw[hx];rfl)
 have HBV:qH ((allocI n (qMP vals) H.t H.p H.s (k:Int) (Z i0 ((k:Int)).toNat) freshS).1.isSome=true):=qh (by rw[hx];rfl)
 have HYY:qH (alZ (allocI n (qMP vals) H.t H.p H.s (k:Int) (Z i0 ((k:Int)).toNat) freshS).1 (Z i0) (k:Int)=Y):=qh (by rw[hx];exact hY)
 have HAK:=qh hak
 have HYE:=qh hY
 clear hsx hx hak hY
 have HC:=qh ((Held.new W 23 #[.int .i64 (H.t:Int),.int .i64 (H.p:Int),.int .i64 (H.s:Int)]).alloc (.cells #[.slice (some ad2) H.t c2,.int .i64 (i0:Int),.int .i64 (k:Int),.int .i64 pg,.int .i64 sl] 27))
 have HX:=qh (Held.new2 W (.cells #[.int .i64 (H.t:Int),.int .i64 (H.p:Int),.int .i64 (H.s:Int)] 23) 27 #[.slice (some ad2) H.t c2,.int .i64 (i0:Int),.int .i64 (k:Int),.int .i64 pg,.int .i64 sl])
 have HB:=qh (Bnew (Bnew (B0 W) (.cells #[.int .i64 (H.t:Int),.int .i64 (H.p:Int),.int .i64 (H.s:Int)] 23)) (.cells #[.slice (some ad2) H.t c2,.int .i64 (i0:Int),.int .i64 (k:Int),.int .i64 pg,.int .i64 sl] 27))
 have HTL:=qh hT
 clear hT
 obtain⟨x0',x1',x2'⟩:=HC.o.three
 obtain⟨y0',y1',y2',y3',y4'⟩:=HX.o.five'
 go_enter Tryz.func5,Tryz.ntmps5
 go_wp2_with fail
 refine(HF.o _ HB.o).mono ?_
 rintro e w2 ⟨rfl,hb⟩
 replace HC:=qh (HC.o.keep hb)
 replace HX:=qh (HX.o.keep hb)
 replace HB:=qh (Bgo HB.o hb)
 clear hb
 clear x0' x1' x2' y0' y1' y2' y3' y4'
 obtain⟨x0',x1',x2'⟩:=HC.o.three
 obtain⟨y0',y1',y2',y3',y4'⟩:=HX.o.five'
 go_wp2_with fail
 refine(qJ4 HV ad m _ (hv.o.below HB.o) (hX.o.grown HB.o)).mono ?_
 rintro e w3 ⟨u1,rfl,hown,hb⟩
 obtain⟨hr0,hr1,hr2,hr3,hr4,hr5,hr6,hr7,hL⟩:=HRS.o
 rw[hr0,hr1,hr2,hr3,hr4,hr5,hr6,hr7]
 rw[hL,HNL.o] at hown
 obtain⟨A1,k1,hu1⟩:=qKK hown
 subst hu1
 have HO1:qH ((w3.alloc (.cells #[.slice A1 nl k1,.int .i64 (r0:Int),.int .i64 (r1:Int),.int .i64 (r2:Int),.int .i64 (r3:Int),.int .i64 (r4:Int),.int .i64 (r5:Int),.int .i64 (r6:Int),.int .i64 (r7:Int)] 56)).ownsRow 0 64 2 (.slice A1 nl k1) nl (bkVs L)):=qh (qEc (qXO hown (Nat.zero_le _)) (Bnew (B0 _) _))
 have HS:=qh (Held.new w3 56 #[.slice A1 nl k1,.int .i64 (r0:Int),.int .i64 (r1:Int),.int .i64 (r2:Int),.int .i64 (r3:Int),.int .i64 (r4:Int),.int .i64 (r5:Int),.int .i64 (r6:Int),.int .i64 (r7:Int)])
 replace HC:=qh ((HC.o.keep hb).alloc (.cells #[.slice A1 nl k1,.int .i64 (r0:Int),.int .i64 (r1:Int),.int .i64 (r2:Int),.int .i64 (r3:Int),.int .i64 (r4:Int),.int .i64 (r5:Int),.int .i64 (r6:Int),.int .i64 (r7:Int)] 56))
 replace HX:=qh ((HX.o.keep hb).alloc (.cells #[.slice A1 nl k1,.int .i64 (r0:Int),.int .i64 (r1:Int),.int .i64 (r2:Int),.int .i64 (r3:Int),.int .i64 (r4:Int),.int .i64 (r5:Int),.int .i64 (r6:Int),.int .i64 (r7:Int)] 56))
 replace HB:=qh (Bnew (Bgo HB.o hb) (.cells #[.slice A1 nl k1,.int .i64 (r0:Int),.int .i64 (r1:Int),.int .i64 (r2:Int),.int .i64 (r3:Int),.int .i64 (r4:Int),.int .i64 (r5:Int),.int .i64 (r6:Int),.int .i64 (r7:Int)] 56))
 clear hb hown HRS hr0 hr1 hr2 hr3 hr4 hr5 hr6 hr7 hL x0' x1' x2' y0' y1' y2' y3' y4'
 obtain⟨x0',x1',x2'⟩:=HC.o.three
 obtain⟨y0',y1',y2',y3',y4'⟩:=HX.o.five'
 go_wp2_with fail
 generalize hN11:w3.heap.size=NW at *
 generalize hw11:w3.alloc (.cells #[.slice A1 nl k1,.int .i64 (r0:Int),.int .i64 (r1:Int),.int .i64 (r2:Int),.int .i64 (r3:Int),.int .i64 (r4:Int),.int .i64 (r5:Int),.int .i64 (r6:Int),.int .i64 (r7:Int)] 56)=w4 at *
 clear hN11 hw11
 have HRw:qH (Reads w4 w4.heap.size 1 (some ad) n (valVs vals)):=qh ((HR.o.below HB.o).more HB.o.size)
 refine(qWm (some ad) c vals n HNN.o qo H32.o _ (by
  intro h0
  obtain⟨ad',e,_,hc⟩:=HRw.o.2 h0
  exact⟨ad',e,hc⟩)).mono ?_
 rintro e w5 ⟨b1,o1,rfl,hI,hB⟩
 have HZC:qH (W.heap.size<w4.heap.size):=qh HC.o.lt
 have HZS:qH (NW<w4.heap.size):=qh HS.o.lt
 have HZR:qH (∀ g,(Value.slice A1 nl k1).ownBlock=some g->g<w4.heap.size):=qh (fun g e=>(HO1.o.lt g e).2)
 have HZHX:qH (_<w4.heap.size):=qh HX.o.lt
 have HD:=qh (qAg (W:=W) (G:=fun g=>g<w4.heap.size) hI HB.o.size (Bgo HB.o hB) (fun g hg=>⟨Nat.lt_of_lt_of_le hg hB.size,fun x=>by have:=hI.ge _ x;omega⟩))
 replace HC:=qh (HC.o.keep hB)
 replace HS:=qh (HS.o.keep hB)
 replace HX:=qh (HX.o.keep hB)
 replace HO1:=qh (qEc HO1.o hB)
 clear hI hB HRw HB x0' x1' x2' y0' y1' y2' y3' y4'
 generalize hz1:w4.heap.size=z1 at *
 clear hz1
 rw[show (fun i=>vals[i]?)=qMP vals from rfl] at HD
 obtain⟨x0',x1',x2'⟩:=HC.o.three
 obtain⟨y0',y1',y2',y3',y4'⟩:=HX.o.five'
 have HPZ:qH (∀ i,PB (U i0) (Z i0) i->i<z1):=qh (fun i hi=>by have:=HPW.o i hi;have:=HZC.o;omega)
 have HZL:qH (z1<=w5.heap.size):=qh (by
  rcases Nat.lt_or_ge w5.heap.size z1 with h|h
  ·have:=(HD.o.aG w5.heap.size h).1;omega
  ·exact h)
 go_wp2_with fail
 go_cut [10,11,12] from 36 to 50 (fun u10 u11 u12 wx=>∃ (N1:Nat) (V1:Nat->Sl) (A4:Nat->Prop),u10 = .int .i64 a/\u11 = .pointer (some ⟨N1,0,none⟩)/\u12 = .bool true/\Duo W (vOb z1 b1 n true (qMP vals)) noOb A4 (fun _=>False) (fun i=>((i<z1)\/PB V1 Y i)\/i=N1) sx freshS wx/\z1<=N1/\PkH wx N1 V1 Y/\Held wx W.heap.size 23 #[.int .i64 (H.t:Int),.int .i64 (H.p:Int),.int .i64 (H.s:Int)]/\Held wx (W.heap.size+1) 27 #[.slice (some ad2) H.t c2,.int .i64 (i0:Int),.int .i64 (k:Int),.int .i64 pg,.int .i64 sl]/\Held wx NW 56 #[.slice A1 nl k1,.int .i64 (r0:Int),.int .i64 (r1:Int),.int .i64 (r2:Int),.int .i64 (r3:Int),.int .i64 (r4:Int),.int .i64 (r5:Int),.int .i64 (r6:Int),.int .i64 (r7:Int)]/\wx.ownsRow 0 64 2 (.slice A1 nl k1) nl (bkVs L)/\(0<=(k:Int)/\(k:Int)<=8->Z i0 ((k:Int)).toNat = []->VOk n (pickI n (qMP vals) H.t H.p H.s (k:Int) 4 freshS).2))
 case first =>
  clear x0' x1' x2' y0' y1' y2' y3' y4'
  replace HD:=qh (HD.o.keep (Bdrew (B0 _)))
  replace HC:=qh HC.o.drw
  replace HX:=qh HX.o.drw
  replace HS:=qh HS.o.drw
  replace HO1:=qh (qEc HO1.o (Bdrew (B0 _)))
  replace HZL:qH (z1<=w5.drew.heap.size):=qh HZL.o
  refine wp_region_held_drew (S:=(fun w'=>(w'.cell? ⟨W.heap.size,0,none⟩=some (.int .i64 (H.t:Int))/\w'.cell? ⟨W.heap.size,1,none⟩=some (.int .i64 (H.p:Int))/\w'.cell? ⟨W.heap.size,2,none⟩=some (.int .i64 (H.s:Int)))/\(w'.cell? ⟨W.heap.size+1,0,none⟩=some (.slice (some ad2) H.t c2)/\w'.cell? ⟨W.heap.size+1,1,none⟩=some (.int .i64 (i0:Int))/\w'.cell? ⟨W.heap.size+1,2,none⟩=some (.int .i64 (k:Int))/\w'.cell? ⟨W.heap.size+1,3,none⟩=some (.int .i64 pg)/\w'.cell? ⟨W.heap.size+1,4,none⟩=some (.int .i64 sl))/\(w'.cell? (ad2.add (i0*9))=some (U i0 0).v/\w'.cell? ⟨(ad2.add (i0*9)).block,(ad2.add (i0*9)).off+1,none⟩=some (U i0 1).v/\w'.cell? ⟨(ad2.add (i0*9)).block,(ad2.add (i0*9)).off+2,none⟩=some (U i0 2).v/\w'.cell? ⟨(ad2.add (i0*9)).block,(ad2.add (i0*9)).off+3,none⟩=some (U i0 3).v/\w'.cell? ⟨(ad2.add (i0*9)).block,(ad2.add (i0*9)).off+4,none⟩=some (U i0 4).v/\w'.cell? ⟨(ad2.add (i0*9)).block,(ad2.add (i0*9)).off+5,none⟩=some (U i0 5).v/\w'.cell? ⟨(ad2.add (i0*9)).block,(ad2.add (i0*9)).off+6,none⟩=some (U i0 6).v/\w'.cell? ⟨(ad2.add (i0*9)).block,(ad2.add (i0*9)).off+7,none⟩=some (U i0 7).v/\w'.cell? ⟨(ad2.add (i0*9)).block,(ad2.add (i0*9)).off+8,none⟩=some (U i0 8).v))) qr ?_ (fun hHeld=>?_)
  ·exact Mjk
  generalize hwd:World.drew w5=w14 at *
  clear hwd
  refine Rbo ?_
  refine RPe ?_
  refine tkz 9 ?_
  refine wpAnyH_ready (rs := [10,15]) qr (by simp) ?_
  refine AllReadyH.cons (o:=_) rfl (fun K hK=>?_) (AllReadyH.cons (o:=_) rfl (fun K hK=>?_) AllReadyH.nil)
  ·skip
   go_simp
   refine(qLs hn40 hq10 (k:Int) hk0 hk1 HAK.o (HD.o.slots HTL.o).1 (HD.o.slots HTL.o).2.1 (HPU.o _ HD.o.bel) (fun i hi ha=>(HD.o.aG i (HPZ.o i hi)).2.1 ha) HD.o.i1).mono ?_
   exact M82
  ·refine RO7 ?_;intro hb HN1 HGL HGW
   replace HD:=qh (HD.o.keep2 (G':=fun i=>(i<z1)\/i=w14.heap.size) hb (fun i x=>by
    rcases x with x|x
    ·exact .inl x
    ·right;subst x;simp))
   refine RfI ?_;clear HC HX HS;intro HC HX HS
   replace HO1:=qh (qEc HO1.o hb)
   generalize hnp:w14.heap.size=N1 at *
   generalize hwn:w14.alloc (.cells #[.slice none 0 0,.slice none 0 0,.slice none 0 0,.slice none 0 0,.slice none 0 0,.slice none 0 0,.slice none 0 0,.slice none 0 0,.slice none 0 0] 36)=w17 at *
   have HNL1:qH (N1<w17.heap.size):=qh HN1.o.lt
   clear hb hnp hwn
   refine qk ?_ (fun hHeld=>?_)
   ·exact MT5
   clear hK K
   refine rdz 10 fun K hK=>?_
   go_simp
   refine(qLs hn40 hq10 (k:Int) hk0 hk1 HAK.o (HD.o.slots HTL.o).1 (HD.o.slots HTL.o).2.1 (HPU.o _ HD.o.bel) (fun i hi ha=>(HD.o.aG i (.inl (HPZ.o i hi))).2.1 ha) HD.o.i1).mono ?_
   exact M2B
 case rest =>
  clear HC HX HS HO1 HD HZL
  -- CUT0
  obtain⟨N1,V1,A4,rfl,rfl,rfl,hd,hz,hpk,hc,hx,hs,ho,hvp⟩:=hcut
  have HD:=qh hd
  have HZP:=qh hz
  have HPK:=qh hpk
  have HC:=qh hc
  have HX:=qh hx
  have HS:=qh hs
  have HO1:=qh ho
  have HVP:=qh hvp
  clear hd hz hpk hc hx hs ho hvp
  have HOK:qH (VOk n sx):=qh (by obtain⟨o,hI,_⟩:=HD.o.i1;exact hI.ok)
  have hM:=HALP.o (fun h=>HVP.o ⟨qo,qo⟩ (by rw[Int.toNat_natCast];exact h)) (by rw[HSX.o];exact HOK.o)
  rw[HSX.o] at hM
  obtain⟨LB,p,i,M⟩:=hM
  obtain⟨hr0,hr1,hr2,hr3,hr4,hr5,hr6,hr7,hbl⟩:=HRS2.o
  rw[hbl] at M
  obtain⟨X,Yb,b1,b2,b3,b4⟩:=M.blocks
  obtain⟨c1,cc2,cc3,c4⟩:=qND b1 b2 b3 b4
  obtain⟨nb,hnb⟩:∃ nb,LB.length=nb:=⟨_,rfl⟩
  rw[hnb,HNL.o] at c1
  have HNBL:=qh hnb
  have HIS:=qh cc2
  have HNOT:=qh cc3
  have HEACH:=qh c4
  obtain⟨zz,hzz⟩:∃ zz,szH H k=zz:=⟨_,rfl⟩
  rw[hzz] at HEACH
  have HSZ:qH (((sizeN (H.s:Int) (k:Int):Nat):Int)=zz):=qh hzz
  have HM:=qh M
  have HNBE:qH (nb=nl+1):=qh c1
  have hnbb:nb<=60001:=qo
  clear M b1 b2 b3 b4 c1 cc2 cc3 c4 hnb hzz HALP HVP hr0 hr1 hr2 hr3 hr4 hr5 hr6 hr7 hbl
  have HN2:qH (∀ (w:World) (g cp:Nat),RowF w g 76 n cp (valF (nowV (qMP vals) sx.wr))->Calls Tryz.prog 23 #[.agg #[.int .i64 (H.t:Int),.int .i64 (H.p:Int),.int .i64 (H.s:Int)],.slice (some ⟨g,0,none⟩) n cp] w fun e w'=>∃ u,e = .returned (.tuple #[.agg #[u,.int .i64 (r0:Int),.int .i64 (r1:Int),.int .i64 (r2:Int),.int .i64 (r3:Int),.int .i64 (r4:Int),.int .i64 (r5:Int),.int .i64 (r6:Int),.int .i64 (r7:Int)],.bool true])/\w'.ownsRow w.heap.size 64 2 u LB.length (bkVs LB)/\Below w.heap.size w w'):=qh (fun w g cp hrow=>by
   obtain⟨hr0,hr1,hr2,hr3,hr4,hr5,hr6,hr7,_⟩:=HRS2.o
   obtain⟨L1,ho,_⟩:=HM.o.inv.heap
   exact qNU HVH.o (st:=sx) HOK.o H3K.o HM.o.inv.vw ho.rules HM.o.inv.roots LB HM.o.inv.blocks r0 r1 r2 r3 r4 r5 r6 r7 hr0 hr1 hr2 hr3 hr4 hr5 hr6 hr7 w g cp hrow)
  have HYI:qH (FlInv H n (qMP vals) Z i0 LB Y sx):=qh (by rw[<- HYE.o];exact HM.o.inv)
  have HFN:qH (∀ (w:World) (g cp:Nat),RowF w g 76 n cp (valF (nowV (qMP vals) sx.wr))->∀ (A2:Option Addr) (c2:Nat) (U':Nat->Nat->Sl),H.t<=c2->c2<=maxLen->PksAt w A2 H.t U' (updF Z i0 Y)->Calls Tryz.prog 26 #[.agg #[.int .i64 (H.t:Int),.int .i64 (H.p:Int),.int .i64 (H.s:Int)],.slice (some ⟨g,0,none⟩) n cp,.slice A2 H.t c2] w fun e w'=>e = .returned (.bool true)/\Below w.heap.size w w'):=qh (fun w g cp hrow A2 c2 U' h5 h6 h7=>by
   obtain⟨L1,ho,_⟩:=HYI.o.heap
   exact qQC HVH.o HOK.o H3K.o HYI.o.vw ho HYI.o.fits w g cp hrow A2 c2 U' h5 h6 h7)
  refine RZx ?_;intro x0' x1' x2' y0' y1' y2' y3' y4'
  go_wp2_with fail
  go_cut [13,14] from 74 to 80 (fun u13 u14 wx=>∃ (N13 k2:Nat) (A2:Option Addr) (A4:Nat->Prop),u13 = .pointer (some ⟨N13,0,none⟩)/\u14 = .bool true/\Held wx N13 56 #[.slice A2 nb k2,.int .i64 (r0:Int),.int .i64 (r1:Int),.int .i64 (r2:Int),.int .i64 (r3:Int),.int .i64 (r4:Int),.int .i64 (r5:Int),.int .i64 (r6:Int),.int .i64 (r7:Int)]/\wx.ownsRow 0 64 2 (.slice A2 nb k2) nb (bkVs LB)/\Held wx W.heap.size 23 #[.int .i64 (H.t:Int),.int .i64 (H.p:Int),.int .i64 (H.s:Int)]/\Held wx (W.heap.size+1) 27 #[.slice (some ad2) H.t c2,.int .i64 (i0:Int),.int .i64 (k:Int),.int .i64 pg,.int .i64 sl]/\Held wx NW 56 #[.slice A1 nl k1,.int .i64 (r0:Int),.int .i64 (r1:Int),.int .i64 (r2:Int),.int .i64 (r3:Int),.int .i64 (r4:Int),.int .i64 (r5:Int),.int .i64 (r6:Int),.int .i64 (r7:Int)]/\PkH wx N1 V1 Y/\wx.ownsRow 0 64 2 (.slice A1 nl k1) nl (bkVs L)/\Duo W (vOb z1 b1 n true (qMP vals)) noOb A4 (fun _=>False) (fun i=>((i<z1)\/PB V1 Y i)\/i=N1) sx freshS wx)
  case first =>
   refine R2K ?_;clear HC HX HS HPK HO1 HD;intro HC HX HS HPK HO1 HD hHeld
   generalize hq0:World.drew wc=q0 at HC HX HS HPK HO1 HD hHeld ⊢
   clear hq0
   refine tkz 0 ?_
   refine tkz 1 ?_
   refine wpAnyH_ready (rs := [2,7]) qr (by simp) ?_
   refine AllReadyH.cons (o:=_) rfl (fun K hK=>?_) (AllReadyH.cons (o:=_) rfl (fun K hK=>?_) AllReadyH.nil)
   ·skip
    go_simp
    obtain⟨o9,hI9,_⟩:=HD.o.i1
    refine Rlb ?_
    rintro e v1 ⟨g,cp,rfl,_,hrow,hb⟩
    have HRF:=qh hrow
    clear hI9 hrow
    refine RfI ?_;clear HC HX HS;intro HC HX HS
    replace HPK:=qh (HPK.o.keep hb)
    refine RG1 ?_;clear HO1 HD hb hK K;intro HO1 HD hHeld
    refine wpAnyH_ready (rs := [3,7]) qr (by simp) ?_
    refine AllReadyH.cons (o:=_) rfl (fun K hK=>?_) (AllReadyH.cons (o:=_) rfl (fun K hK=>?_) AllReadyH.nil)
    ·skip
     go_simp
     refine(HN2.o _ _ _ HRF.o).mono ?_
     rintro e v2 ⟨u2,rfl,hown,hb⟩
     rw[HNBL.o] at hown
     obtain⟨A2,k2,hu2⟩:=qKK hown
     subst hu2
     have HO2:qH (v2.ownsRow 0 64 2 (.slice A2 nb k2) nb (bkVs LB)):=qh (qXO hown (Nat.zero_le _))
     clear HRF hown
     refine RfI ?_;clear HC HX HS;intro HC HX HS
     replace HPK:=qh (HPK.o.keep hb)
     refine RG1 ?_;clear HO1 HD hb hK K;intro HO1 HD hHeld
     refine Rw3 ?_
     refine rdz 7 fun K hK=>?_
     ·refine RS3 ?_;intro hb HN HLE
      have HLT:qH (W.heap.size<v2.heap.size/\(W.heap.size+1)<v2.heap.size/\NW<v2.heap.size/\N1<v2.heap.size):=qh ⟨HC.o.lt,HX.o.lt,HS.o.lt,HPK.o.lt⟩
      have HNA:qH (¬ A4 v2.heap.size):=qh (fun x=>by have:=Ob.lt (vOb z1 b1 n true (qMP vals)) HD.o.i1 _ x;omega)
      have HNB:=qh (HPK.o.fresh)
      refine RfI ?_;clear HC HX HS;intro HC HX HS
      replace HPK:=qh (HPK.o.keep hb)
      replace HO1:=qh (qEc HO1.o hb)
      replace HO2:=qh (qEc HO2.o hb)
      replace HD:=qh (HD.o.keep hb)
      clear hb
      generalize hn13:v2.heap.size=N13 at *
      generalize hw13:v2.alloc (.cells #[.slice none 0 0,.int .i64 0,.int .i64 0,.int .i64 0,.int .i64 0,.int .i64 0,.int .i64 0,.int .i64 0,.int .i64 0] 56)=v3 at *
      clear hn13 hw13
      refine Rte ?_;intro hHeld
      clear hK K
      refine Rhb ?_;intro K hK z0 z1' z2 z3 z4 z5' z6 z7 z8 f0 f1 f2 f3 f4 f5 f6 f7 f8
      obtain⟨WF,hWF⟩:∃ WF,wr9 (v3) N13 (.slice A2 nb k2) r0 r1 r2 r3 r4 r5 r6 r7=WF:=⟨_,rfl⟩
      exact MJc
    ·refine RDs ?_;intro hb HN HLE
     have HLT:qH (W.heap.size<v1.heap.size/\(W.heap.size+1)<v1.heap.size/\NW<v1.heap.size/\N1<v1.heap.size):=qh ⟨HC.o.lt,HX.o.lt,HS.o.lt,HPK.o.lt⟩
     have HNA:qH (¬ A4 v1.heap.size):=qh (fun x=>by have:=Ob.lt (vOb z1 b1 n true (qMP vals)) HD.o.i1 _ x;omega)
     have HNB:=qh (HPK.o.fresh)
     refine RfI ?_;clear HC HX HS;intro HC HX HS
     refine RVE ?_;clear HPK HO1 HD;intro HPK HO1 HD
     replace HRF:=qh (HRF.o.keep hb)
     clear hb
     generalize hn13:v1.heap.size=N13 at *
     generalize hw13:v1.alloc (.cells #[.slice none 0 0,.int .i64 0,.int .i64 0,.int .i64 0,.int .i64 0,.int .i64 0,.int .i64 0,.int .i64 0,.int .i64 0] 56)=v4 at *
     clear hn13 hw13
     refine Rte ?_;intro hHeld
     clear hK K
     refine rdz 3 fun K hK=>?_
     ·skip
      go_simp
      refine(HN2.o _ _ _ HRF.o).mono ?_
      rintro e v5 ⟨u2,rfl,hown,hb⟩
      rw[HNBL.o] at hown
      obtain⟨A2,k2,hu2⟩:=qKK hown
      subst hu2
      have HO2:qH (v5.ownsRow 0 64 2 (.slice A2 nb k2) nb (bkVs LB)):=qh (qXO hown (Nat.zero_le _))
      clear HRF hown
      refine RfI ?_;clear HC HX HS;intro HC HX HS
      replace HPK:=qh (HPK.o.keep hb)
      replace HN:=qh (HN.o.keep hb)
      refine RG1 ?_;clear HO1 HD hb hK K;intro HO1 HD hHeld
      refine Rw3 ?_
      refine Rhb ?_;intro K hK z0 z1' z2 z3 z4 z5' z6 z7 z8 f0 f1 f2 f3 f4 f5 f6 f7 f8
      obtain⟨WF,hWF⟩:∃ WF,wr9 (v5) N13 (.slice A2 nb k2) r0 r1 r2 r3 r4 r5 r6 r7=WF:=⟨_,rfl⟩
      exact MJc
   ·refine R6h ?_;intro hb HN HLE
    have HLT:qH (W.heap.size<q0.heap.size/\(W.heap.size+1)<q0.heap.size/\NW<q0.heap.size/\N1<q0.heap.size):=qh ⟨HC.o.lt,HX.o.lt,HS.o.lt,HPK.o.lt⟩
    have HNA:qH (¬ A4 q0.heap.size):=qh (fun x=>by have:=Ob.lt (vOb z1 b1 n true (qMP vals)) HD.o.i1 _ x;omega)
    have HNB:=qh (HPK.o.fresh)
    refine RfI ?_;clear HC HX HS;intro HC HX HS
    refine RVE ?_;clear HPK HO1 HD;intro HPK HO1 HD
    clear hb
    generalize hn13:q0.heap.size=N13 at *
    generalize hw13:q0.alloc (.cells #[.slice none 0 0,.int .i64 0,.int .i64 0,.int .i64 0,.int .i64 0,.int .i64 0,.int .i64 0,.int .i64 0,.int .i64 0] 56)=v6 at *
    clear hn13 hw13
    refine Rte ?_;intro hHeld
    clear hK K
    refine rdz 2 fun K hK=>?_
    ·skip
     go_simp
     obtain⟨o9,hI9,_⟩:=HD.o.i1
     refine Rlb ?_
     rintro e v7 ⟨g,cp,rfl,_,hrow,hb⟩
     have HRF:=qh hrow
     clear hI9 hrow
     refine RfI ?_;clear HC HX HS;intro HC HX HS
     replace HPK:=qh (HPK.o.keep hb)
     replace HN:=qh (HN.o.keep hb)
     refine RG1 ?_;clear HO1 HD hb hK K;intro HO1 HD hHeld
     refine rdz 3 fun K hK=>?_
     ·skip
      go_simp
      refine(HN2.o _ _ _ HRF.o).mono ?_
      rintro e v8 ⟨u2,rfl,hown,hb⟩
      rw[HNBL.o] at hown
      obtain⟨A2,k2,hu2⟩:=qKK hown
      subst hu2
      have HO2:qH (v8.ownsRow 0 64 2 (.slice A2 nb k2) nb (bkVs LB)):=qh (qXO hown (Nat.zero_le _))
      clear HRF hown
      refine RfI ?_;clear HC HX HS;intro HC HX HS
      replace HPK:=qh (HPK.o.keep hb)
      replace HN:=qh (HN.o.keep hb)
      refine RG1 ?_;clear HO1 HD hb hK K;intro HO1 HD hHeld
      refine Rw3 ?_
      refine Rhb ?_;intro K hK z0 z1' z2 z3 z4 z5' z6 z7 z8 f0 f1 f2 f3 f4 f5 f6 f7 f8
      obtain⟨WF,hWF⟩:∃ WF,wr9 (v8) N13 (.slice A2 nb k2) r0 r1 r2 r3 r4 r5 r6 r7=WF:=⟨_,rfl⟩
      exact MJc
  case rest =>
   obtain⟨N13,k2,A2,A4,rfl,rfl,hN,hO2,hHC,hHX,hHS,hHPK,hHO1,hD⟩:=hcut
   have HNS:=qh hN
   have HO2:=qh hO2
   replace HC:=qh hHC
   replace HX:=qh hHX
   replace HS:=qh hHS
   replace HPK:=qh hHPK
   replace HO1:=qh hHO1
   replace HD:=qh hD
   clear hN hO2 hHC hHX hHS hHPK hHO1 hD
   clear x0' x1' x2' y0' y1' y2' y3' y4'
   refine RZx ?_;intro x0' x1' x2' y0' y1' y2' y3' y4'
   obtain⟨gv,cv,hvv,_,_⟩:=HO2.o.form (by have:=HNBE.o;omega)
   injection hvv with hvv hn0 hcc
   subst hvv
   clear hn0 hcc
   -- CUT1
   have v1:IntKind.i64.wrap ((nl:Int)+1)=(nb:Int):=by have:=HNBE.o;rw[qIv qo qo];omega
   have v2:((nb:Int) != (nb:Int))=false:=by simp
   have hEQ:∀ W',(Op.equalIn 10000 54 (.agg #[.int .i64 (r0:Int),.int .i64 (r1:Int),.int .i64 (r2:Int),.int .i64 (r3:Int),.int .i64 (r4:Int),.int .i64 (r5:Int),.int .i64 (r6:Int),.int .i64 (r7:Int)]) (.agg #[.int .i64 (r0:Int),.int .i64 (r1:Int),.int .i64 (r2:Int),.int .i64 (r3:Int),.int .i64 (r4:Int),.int .i64 (r5:Int),.int .i64 (r6:Int),.int .i64 (r7:Int)])).run Tryz.prog W' = .ok true W':=fun W'=>by rw[qAD];simp
   go_wp2_with fail
   refine RN7 ?_;clear HC HX HS HNS HPK HO1 HO2 HD;intro HC HX HS HNS HPK HO1 HO2 HD
   refine wp_region_held_drew (S:=(fun w'=>(w'.cell? ⟨W.heap.size,0,none⟩=some (.int .i64 (H.t:Int))/\w'.cell? ⟨W.heap.size,1,none⟩=some (.int .i64 (H.p:Int))/\w'.cell? ⟨W.heap.size,2,none⟩=some (.int .i64 (H.s:Int)))/\(w'.cell? ⟨W.heap.size+1,0,none⟩=some (.slice (some ad2) H.t c2)/\w'.cell? ⟨W.heap.size+1,1,none⟩=some (.int .i64 (i0:Int))/\w'.cell? ⟨W.heap.size+1,2,none⟩=some (.int .i64 (k:Int))/\w'.cell? ⟨W.heap.size+1,3,none⟩=some (.int .i64 pg)/\w'.cell? ⟨W.heap.size+1,4,none⟩=some (.int .i64 sl))/\(w'.cell? ⟨NW,0,none⟩=some (.slice A1 nl k1)/\w'.cell? ⟨NW,1,none⟩=some (.int .i64 (r0:Int))/\w'.cell? ⟨NW,2,none⟩=some (.int .i64 (r1:Int))/\w'.cell? ⟨NW,3,none⟩=some (.int .i64 (r2:Int))/\w'.cell? ⟨NW,4,none⟩=some (.int .i64 (r3:Int))/\w'.cell? ⟨NW,5,none⟩=some (.int .i64 (r4:Int))/\w'.cell? ⟨NW,6,none⟩=some (.int .i64 (r5:Int))/\w'.cell? ⟨NW,7,none⟩=some (.int .i64 (r6:Int))/\w'.cell? ⟨NW,8,none⟩=some (.int .i64 (r7:Int)))/\(w'.cell? ⟨N13,0,none⟩=some (.slice (some ⟨gv,0,none⟩) nb k2)/\w'.cell? ⟨N13,1,none⟩=some (.int .i64 (r0:Int))/\w'.cell? ⟨N13,2,none⟩=some (.int .i64 (r1:Int))/\w'.cell? ⟨N13,3,none⟩=some (.int .i64 (r2:Int))/\w'.cell? ⟨N13,4,none⟩=some (.int .i64 (r3:Int))/\w'.cell? ⟨N13,5,none⟩=some (.int .i64 (r4:Int))/\w'.cell? ⟨N13,6,none⟩=some (.int .i64 (r5:Int))/\w'.cell? ⟨N13,7,none⟩=some (.int .i64 (r6:Int))/\w'.cell? ⟨N13,8,none⟩=some (.int .i64 (r7:Int)))/\(w'.cell? ⟨N1,0,none⟩=some (V1 0).v/\w'.cell? ⟨N1,1,none⟩=some (V1 1).v/\w'.cell? ⟨N1,2,none⟩=some (V1 2).v/\w'.cell? ⟨N1,3,none⟩=some (V1 3).v/\w'.cell? ⟨N1,4,none⟩=some (V1 4).v/\w'.cell? ⟨N1,5,none⟩=some (V1 5).v/\w'.cell? ⟨N1,6,none⟩=some (V1 6).v/\w'.cell? ⟨N1,7,none⟩=some (V1 7).v/\w'.cell? ⟨N1,8,none⟩=some (V1 8).v))) qr ?_ (fun hHeld=>?_)
   ·exact Mbz
   refine Rbo ?_
   refine tkz 5 ?_
   refine rdz 6 fun K hK=>?_
   go_simp
   refine(qLZ L A1 nl k1 a _ 0 HO1.o HNL.o (qPd HO1.o) qo false ⟨(fun h=>by cases h),fun h=>absurd h HNOT.o⟩).mono ?_
   rintro e w99 ⟨rfl,rfl⟩
   refine qk ?_ (fun hHeld=>?_)
   ·exact McK
   clear hK K
   refine tkz 7 ?_
   refine tkz 8 ?_
   refine tkz 9 ?_
   refine tkz 10 ?_
   refine tkz 11 ?_
   refine rdz 12 fun K hK=>?_
   go_simp
   refine(qLZ LB (some ⟨gv,0,none⟩) nb k2 a _ 0 HO2.o HNBL.o (qPd HO2.o) qo true ⟨fun _=>HIS.o,fun _=>rfl⟩).mono ?_
   rintro e w99 ⟨rfl,rfl⟩
   refine qk ?_ (fun hHeld=>?_)
   ·exact McK
   clear hK K
   refine Rch ?_
   refine tkz 20 ?_
   refine tkz 21 ?_
   refine tkz 22 ?_
   refine tkz 23 ?_
   refine tkz 24 ?_
   refine tkz 25 ?_
   refine tkz 26 ?_
   refine tkz 27 ?_
   refine tkz 28 ?_
   refine tkz 29 ?_
   refine tkz 30 ?_
   refine tkz 31 ?_
   refine tkz 32 ?_
   refine tkz 33 ?_
   refine tkz 34 ?_
   refine tkz 36 ?_
   refine tkz 37 ?_
   refine rdz 35 fun K hK=>?_
   go_simp
   obtain⟨o9,hI9,_⟩:=HD.o.i1
   refine Rlb ?_
   rintro e w61 ⟨g,cp,rfl,_,hrow,hb⟩
   have HRF:=qh hrow
   clear hI9 hrow
   refine RfI ?_;clear HC HX HS;intro HC HX HS
   refine RG8 ?_;clear HNS HPK HO1 HO2 HD;intro HNS HPK HO1 HO2 HD
   clear hb
   have hcp:=HRF.o.le
   have hcp2:cp<=9223372036854775807:=HRF.o.max
   refine qk ?_ (fun hHeld=>?_)
   ·exact McK
   clear hK K
   refine rdz 38 fun K hK=>?_
   go_simp
   refine(qJF hT16 ad2 c2 hTc hc2 i0 hi0 (k:Int) pg sl _ (HP.o.below HD.o.bel) HPK.o.pk).mono ?_
   rintro e w62 ⟨g3,c3,rfl,hc4,hc5,hpk,hb⟩
   have HPA:=qh hpk
   have hc6:c3<=9223372036854775807:=hc5
   replace HRF:=qh (HRF.o.keep hb)
   refine RfI ?_;clear HC HX HS;intro HC HX HS
   refine RG8 ?_;clear HNS HPK HO1 HO2 HD;intro HNS HPK HO1 HO2 HD
   clear hb hpk
   refine qk ?_ (fun hHeld=>?_)
   ·exact McK
   clear hK K
   refine rdz 39 fun K hK=>?_
   go_simp
   refine(HFN.o _ _ _ HRF.o (some ⟨g3,0,none⟩) c3 _ hc4 hc5 HPA.o).mono ?_
   rintro e w63 ⟨rfl,hb⟩
   refine RfI ?_;clear HC HX HS;intro HC HX HS
   refine RG8 ?_;clear HNS HPK HO1 HO2 HD;intro HNS HPK HO1 HO2 HD
   clear hb HRF HPA
   refine qk ?_ (fun hHeld=>?_)
   ·exact McK
   clear hK K
   refine tkz 40 ?_
   refine tkz 41 ?_
   refine dnz ?_
   clear x0' x1' x2' y0' y1' y2' y3' y4'
   refine RZx ?_;intro x0' x1' x2' y0' y1' y2' y3' y4'
   -- CUT2
   clear hEQ v1 v2 HFN HYI HIS HNOT
   go_wp2_with fail
   go_loopw [15,16] (fun u15 u16 wr=>∃ j:Nat,j<=nb/\u15 = .int .i64 (j:Int)/\qH (Held wr W.heap.size 23 #[.int .i64 (H.t:Int),.int .i64 (H.p:Int),.int .i64 (H.s:Int)])/\qH (Held wr (W.heap.size+1) 27 #[.slice (some ad2) H.t c2,.int .i64 (i0:Int),.int .i64 (k:Int),.int .i64 pg,.int .i64 sl])/\qH (Held wr NW 56 #[.slice A1 nl k1,.int .i64 (r0:Int),.int .i64 (r1:Int),.int .i64 (r2:Int),.int .i64 (r3:Int),.int .i64 (r4:Int),.int .i64 (r5:Int),.int .i64 (r6:Int),.int .i64 (r7:Int)])/\qH (Held wr N13 56 #[.slice (some ⟨gv,0,none⟩) nb k2,.int .i64 (r0:Int),.int .i64 (r1:Int),.int .i64 (r2:Int),.int .i64 (r3:Int),.int .i64 (r4:Int),.int .i64 (r5:Int),.int .i64 (r6:Int),.int .i64 (r7:Int)])/\qH (PkH wr N1 V1 Y)/\qH (wr.ownsRow 0 64 2 (.slice A1 nl k1) nl (bkVs L))/\qH (wr.ownsRow 0 64 2 (.slice (some ⟨gv,0,none⟩) nb k2) nb (bkVs LB))/\qH (Duo W (vOb z1 b1 n true (qMP vals)) noOb A4 (fun _=>False) (fun i=>((i<z1)\/PB V1 Y i)\/i=N1) sx freshS wr)) (fun u15 u16 _=>nb-(intOf u15).toNat)
   case atStart=>exact⟨0,qo,rfl,HC,HX,HS,HNS,HPK,HO1,HO2,HD⟩
   case round =>
    clear HC HX HS HNS HPK HO1 HO2 HD
    clear x0' x1' x2' y0' y1' y2' y3' y4'
    obtain⟨j,hj,rfl,HC,HX,HS,HNS,HPK,HO1,HO2,HD⟩:=hrel
    refine RZx ?_;intro x0' x1' x2' y0' y1' y2' y3' y4'
    obtain⟨d0,d1,d2,d3,d4,d5,d6,d7,d8⟩:=HNS.o.nine
    by_cases hlt:j<nb
    ·have t1:decide ((j:Int)<(nb:Int))=true:=qt
     have t1n:decide (j<nb)=true:=decide_eq_true hlt
     obtain⟨x,hxj⟩:∃ x,LB[j]?=some x:=⟨_,List.getElem?_eq_getElem (by have:=HNBL.o;omega)⟩
     obtain⟨p0,p1⟩:=qGH HO2.o HNBL.o hxj
     have hea:=HEACH.o x (List.mem_of_getElem? hxj)
     obtain⟨xa,xz⟩:=x
     simp only at p0 p1 hea
     clear hxj
     have hkk2:=qPd HO2.o
     by_cases hxa:xa=a
     ·-- CUT3
      obtain rfl:xz=zz:=hea.1 hxa
      subst hxa
      clear hea
      have q0:(xa==xa)=true:=by simp
      have q1:(xz != xz)=false:=by simp
      have q2:(xa != xa)=false:=by simp
      go_wp2_with fail
      have hb:=Bnew (B0 wr) (.cells #[.int .i64 xa,.int .i64 xz] 64)
      have HBX:=qh (Held.new wr 64 #[.int .i64 xa,.int .i64 xz])
      refine RfI ?_;clear HC HX HS;intro HC HX HS
      refine RG8 ?_;clear HNS HPK HO1 HO2 HD;intro HNS HPK HO1 HO2 HD
      generalize hNB:wr.heap.size=NB at *
      generalize hwb:wr.alloc (.cells #[.int .i64 xa,.int .i64 xz] 64)=wb at *
      clear hb hNB hwb p0 p1 d0 d1 d2 d3 d4 d5 d6 d7 d8
      clear x0' x1' x2' y0' y1' y2' y3' y4'
      refine RZx ?_;intro x0' x1' x2' y0' y1' y2' y3' y4'
      go_wp2_with fail
      refine R7E ?_;clear HC HX HS HNS HPK HBX HO1 HO2 HD;intro HC HX HS HNS HPK HBX HO1 HO2 HD hHeld
      refine Rbo ?_
      refine RPe ?_
      refine tkz 9 ?_
      refine tkz 10 ?_
      refine rdz 11 fun K hK=>?_
      go_simp
      refine(qBj (H.s:Int) (k:Int) hk0 hk1 _).mono ?_
      rintro e w51 ⟨rfl,hb⟩
      rw[HSZ.o]
      refine RfI ?_;clear HC HX HS;intro HC HX HS
      replace HNS:=qh (HNS.o.keep hb)
      replace HPK:=qh (HPK.o.keep hb)
      replace HBX:=qh (HBX.o.keep hb)
      replace HO1:=qh (qEc HO1.o hb)
      replace HO2:=qh (qEc HO2.o hb)
      replace HD:=qh (HD.o.keep hb)
      clear hb
      refine qk ?_ (fun hHeld=>?_)
      ·exact Mee
      clear hK K
      refine tkz 12 ?_
      refine Rch ?_
      refine skz 20 ?_
      refine skz 21 ?_
      refine skz 22 ?_
      refine skz 23 ?_
      refine skz 24 ?_
      refine skz 25 ?_
      exact MJS
     ·-- CUT4
      have HEX:=qh (hea.2 hxa)
      have q0:(xa==a)=false:=by simpa using hxa
      have q2:(xa != a)=true:=by simpa using hxa
      clear hea hxa
      go_wp2_with fail
      have hb:=Bnew (B0 wr) (.cells #[.int .i64 xa,.int .i64 xz] 64)
      have HBX:=qh (Held.new wr 64 #[.int .i64 xa,.int .i64 xz])
      refine RfI ?_;clear HC HX HS;intro HC HX HS
      refine RG8 ?_;clear HNS HPK HO1 HO2 HD;intro HNS HPK HO1 HO2 HD
      generalize hNB:wr.heap.size=NB at *
      generalize hwb:wr.alloc (.cells #[.int .i64 xa,.int .i64 xz] 64)=wb at *
      clear hb hNB hwb p0 p1 d0 d1 d2 d3 d4 d5 d6 d7 d8
      clear x0' x1' x2' y0' y1' y2' y3' y4'
      refine RZx ?_;intro x0' x1' x2' y0' y1' y2' y3' y4'
      go_wp2_with fail
      refine R7E ?_;clear HC HX HS HNS HPK HBX HO1 HO2 HD;intro HC HX HS HNS HPK HBX HO1 HO2 HD hHeld
      refine Rbo ?_
      refine skz 5 ?_
      refine skz 6 ?_
      refine skz 7 ?_
      refine skz 8 ?_
      refine skz 9 ?_
      refine skz 10 ?_
      refine skz 11 ?_
      refine skz 12 ?_
      refine Rch ?_
      refine tkz 20 ?_
      refine tkz 21 ?_
      refine tkz 22 ?_
      refine tkz 23 ?_
      refine rdz 24 fun K hK=>?_
      go_simp
      refine(qLZ L A1 nl k1 xa _ 0 HO1.o HNL.o (qPd HO1.o) qo true ⟨fun _=>HEX.o,fun _=>rfl⟩).mono ?_
      rintro e w99 ⟨rfl,rfl⟩
      refine qk ?_ (fun hHeld=>?_)
      ·exact Mee
      clear hK K
      refine tkz 25 ?_
      exact MJS
    ·have t1:decide ((j:Int)<(nb:Int))=false:=qf
     have t1n:decide (j<nb)=false:=decide_eq_false hlt
     -- CUT5
     have hpp:=HM.o.pp
     have hi32:=HM.o.i32
     obtain⟨Y2,hY2⟩:∃ Y2,freeZ H.t H.p H.s k p i Y=Y2:=⟨_,rfl⟩
     obtain⟨s2,hs2⟩:∃ s2,freeI n (qMP vals) H.t H.p H.s p i (Y k) sx=s2:=⟨_,rfl⟩
     have HY2:=qh hY2
     have HS2:=qh hs2
     have HBACK:qH (VOk n s2->FlInv H n (qMP vals) Z i0 L Y2 s2):=qh (fun h=>by
      have hb:=HM.o.back
      rw[HYE.o] at hb
      have e:Y k=l:=by rw[<- HYE.o,qJN]
      rw[<- e,HS2.o,HY2.o] at hb
      exact hb h)
     clear hY2 hs2
     go_wp2_with fail
     refine(qIq (H.t:Int) (H.p:Int) (H.s:Int) (k:Int) a hk0 hk1 HM.o.low HM.o.high _).mono ?_
     rintro e w55 ⟨rfl,hb⟩
     rw[HM.o.page,HM.o.slot]
     refine RfI ?_;clear HC HX HS;intro HC HX HS
     refine RVE ?_;clear HPK HO1 HD;intro HPK HO1 HD
     clear hb HNS HO2 d0 d1 d2 d3 d4 d5 d6 d7 d8
     clear x0' x1' x2' y0' y1' y2' y3' y4'
     refine RZx ?_;intro x0' x1' x2' y0' y1' y2' y3' y4'
     obtain⟨p0,p1,p2,p3,p4,p5,p6,p7,p8⟩:=HPK.o.held.nineP
     go_wp2_with fail
     refine(qEO hn40 hq10 k hk p i qo hi32 HM.o.info1 HM.o.info2 (HD.o.slots HTL.o).1 (HD.o.slots HTL.o).2.1 HPK.o.pk (fun i hi ha=>(HD.o.aG i (.inl (.inr hi))).2.1 ha) HD.o.i1).mono ?_
     rintro e w56 ⟨V2,rfl,hl1⟩
     rw[HY2.o,HS2.o] at hl1
     obtain⟨A6,h2,hpv,h3⟩:=HD.o.pkt1 HPK.o.pk (fun i hi => .inl (.inr hi)) hl1
     replace HC:=qh (h3.held (.inl (.inl (by have:=HZC.o;omega))) HC.o)
     replace HX:=qh (h3.held (.inl (.inl HZHX.o)) HX.o)
     replace HS:=qh (h3.held (.inl (.inl HZS.o)) HS.o)
     replace HO1:=qh (h3.own (fun g e => .inl (.inl (HZR.o g e))) HO1.o)
     replace HD:=qh (h2.less (G':=fun i=>i<z1) (fun i x => .inl (.inl (.inl x))))
     have HPV:=qh hpv
     -- CUT6
     clear h2 hpv h3 hl1 HPK p0 p1 p2 p3 p4 p5 p6 p7 p8
     have HOK2:qH (VOk n s2):=qh (by obtain⟨o,hI,_⟩:=HD.o.i1;exact hI.ok)
     have HI2:=qh (HBACK.o HOK2.o)
     have HN3:qH (∀ (w:World) (g cp:Nat),RowF w g 76 n cp (valF (nowV (qMP vals) s2.wr))->Calls Tryz.prog 23 #[.agg #[.int .i64 (H.t:Int),.int .i64 (H.p:Int),.int .i64 (H.s:Int)],.slice (some ⟨g,0,none⟩) n cp] w fun e w'=>∃ u,e = .returned (.tuple #[.agg #[u,.int .i64 (r0:Int),.int .i64 (r1:Int),.int .i64 (r2:Int),.int .i64 (r3:Int),.int .i64 (r4:Int),.int .i64 (r5:Int),.int .i64 (r6:Int),.int .i64 (r7:Int)],.bool true])/\w'.ownsRow w.heap.size 64 2 u L.length (bkVs L)/\Below w.heap.size w w'):=qh (fun w g cp hrow=>by
      obtain⟨hr0,hr1,hr2,hr3,hr4,hr5,hr6,hr7,_⟩:=HRS2.o
      obtain⟨L1,ho,_⟩:=HI2.o.heap
      exact qNU HVH.o (st:=s2) HOK2.o H3K.o HI2.o.vw ho.rules HI2.o.roots L HI2.o.blocks r0 r1 r2 r3 r4 r5 r6 r7 hr0 hr1 hr2 hr3 hr4 hr5 hr6 hr7 w g cp hrow)
     have HFN:qH (∀ (w:World) (g cp:Nat),RowF w g 76 n cp (valF (nowV (qMP vals) s2.wr))->∀ (A2:Option Addr) (c2:Nat) (U':Nat->Nat->Sl),H.t<=c2->c2<=maxLen->PksAt w A2 H.t U' (updF Z i0 Y2)->Calls Tryz.prog 26 #[.agg #[.int .i64 (H.t:Int),.int .i64 (H.p:Int),.int .i64 (H.s:Int)],.slice (some ⟨g,0,none⟩) n cp,.slice A2 H.t c2] w fun e w'=>e = .returned (.bool true)/\Below w.heap.size w w'):=qh (fun w g cp hrow A2 c2 U' h5 h6 h7=>by
      obtain⟨L1,ho,_⟩:=HI2.o.heap
      exact qQC HVH.o HOK2.o H3K.o HI2.o.vw ho HI2.o.fits w g cp hrow A2 c2 U' h5 h6 h7)
     have hb:=Bnew (B0 w56) (.cells (pkC V2) 36)
     have HPK0:qH (PkH (w56.alloc (.cells (pkC V2) 36)) w56.heap.size V2 Y2):=qh ⟨Held.new w56 36 (pkC V2),HPV.o.below hb,fun x=>Nat.lt_irrefl _ (x.lt HPV.o)⟩
     clear x0' x1' x2' y0' y1' y2' y3' y4'
     go_wp2_with fail
     refine RfI ?_;clear HC HX HS;intro HC HX HS
     replace HO1:=qh (qEc HO1.o hb)
     replace HD:=qh (HD.o.keep hb)
     have HPK:=qh HPK0.o
     generalize hN2:w56.heap.size=N2 at *
     generalize hw8:w56.alloc (.cells (pkC V2) 36)=w8 at *
     clear hb hN2 hw8 HPK0 HPV
     refine RZx ?_;intro x0' x1' x2' y0' y1' y2' y3' y4'
     go_wp2_with fail
     go_cut [20,21] from 177 to 183 (fun u20 u21 wx=>∃ (N20 k5:Nat) (A5:Option Addr) (A6:Nat->Prop),u20 = .pointer (some ⟨N20,0,none⟩)/\u21 = .bool true/\Held wx N20 56 #[.slice A5 nl k5,.int .i64 (r0:Int),.int .i64 (r1:Int),.int .i64 (r2:Int),.int .i64 (r3:Int),.int .i64 (r4:Int),.int .i64 (r5:Int),.int .i64 (r6:Int),.int .i64 (r7:Int)]/\wx.ownsRow 0 64 2 (.slice A5 nl k5) nl (bkVs L)/\Held wx W.heap.size 23 #[.int .i64 (H.t:Int),.int .i64 (H.p:Int),.int .i64 (H.s:Int)]/\Held wx (W.heap.size+1) 27 #[.slice (some ad2) H.t c2,.int .i64 (i0:Int),.int .i64 (k:Int),.int .i64 pg,.int .i64 sl]/\Held wx NW 56 #[.slice A1 nl k1,.int .i64 (r0:Int),.int .i64 (r1:Int),.int .i64 (r2:Int),.int .i64 (r3:Int),.int .i64 (r4:Int),.int .i64 (r5:Int),.int .i64 (r6:Int),.int .i64 (r7:Int)]/\PkH wx N2 V2 Y2/\wx.ownsRow 0 64 2 (.slice A1 nl k1) nl (bkVs L)/\Duo W (vOb z1 b1 n true (qMP vals)) noOb A6 (fun _=>False) (fun i=>i<z1) s2 freshS wx)
     case first =>
      refine R2K ?_;clear HC HX HS HPK HO1 HD;intro HC HX HS HPK HO1 HD hHeld
      generalize hq0:World.drew w8=q0 at HC HX HS HPK HO1 HD hHeld ⊢
      clear hq0
      refine tkz 0 ?_
      refine tkz 1 ?_
      refine wpAnyH_ready (rs := [2,7]) qr (by simp) ?_
      refine AllReadyH.cons (o:=_) rfl (fun K hK=>?_) (AllReadyH.cons (o:=_) rfl (fun K hK=>?_) AllReadyH.nil)
      ·skip
       go_simp
       obtain⟨o9,hI9,_⟩:=HD.o.i1
       refine Rlb ?_
       rintro e v1 ⟨g,cp,rfl,_,hrow,hb⟩
       have HRF:=qh hrow
       clear hI9 hrow
       refine RfI ?_;clear HC HX HS;intro HC HX HS
       replace HPK:=qh (HPK.o.keep hb)
       refine RG1 ?_;clear HO1 HD hb hK K;intro HO1 HD hHeld
       refine wpAnyH_ready (rs := [3,7]) qr (by simp) ?_
       refine AllReadyH.cons (o:=_) rfl (fun K hK=>?_) (AllReadyH.cons (o:=_) rfl (fun K hK=>?_) AllReadyH.nil)
       ·skip
        go_simp
        refine(HN3.o _ _ _ HRF.o).mono ?_
        rintro e v2 ⟨u2,rfl,hown,hb⟩
        rw[HNL.o] at hown
        obtain⟨A5,k5,hu2⟩:=qKK hown
        subst hu2
        have HO2:qH (v2.ownsRow 0 64 2 (.slice A5 nl k5) nl (bkVs L)):=qh (qXO hown (Nat.zero_le _))
        clear HRF hown
        refine RfI ?_;clear HC HX HS;intro HC HX HS
        replace HPK:=qh (HPK.o.keep hb)
        refine RG1 ?_;clear HO1 HD hb hK K;intro HO1 HD hHeld
        refine Rw3 ?_
        refine rdz 7 fun K hK=>?_
        ·refine RS3 ?_;intro hb HN HLE
         have HLT:qH (W.heap.size<v2.heap.size/\(W.heap.size+1)<v2.heap.size/\NW<v2.heap.size/\N2<v2.heap.size):=qh ⟨HC.o.lt,HX.o.lt,HS.o.lt,HPK.o.lt⟩
         have HNA:qH (¬ A6 v2.heap.size):=qh (fun x=>by have:=Ob.lt (vOb z1 b1 n true (qMP vals)) HD.o.i1 _ x;omega)
         have HNB:=qh (HPK.o.fresh)
         refine RfI ?_;clear HC HX HS;intro HC HX HS
         replace HPK:=qh (HPK.o.keep hb)
         replace HO1:=qh (qEc HO1.o hb)
         replace HO2:=qh (qEc HO2.o hb)
         replace HD:=qh (HD.o.keep hb)
         clear hb
         generalize hn13:v2.heap.size=N20 at *
         generalize hw13:v2.alloc (.cells #[.slice none 0 0,.int .i64 0,.int .i64 0,.int .i64 0,.int .i64 0,.int .i64 0,.int .i64 0,.int .i64 0,.int .i64 0] 56)=v3 at *
         clear hn13 hw13
         refine Rte ?_;intro hHeld
         clear hK K
         refine Rhb ?_;intro K hK z0 z1' z2 z3 z4 z5' z6 z7 z8 f0 f1 f2 f3 f4 f5 f6 f7 f8
         obtain⟨WF,hWF⟩:∃ WF,wr9 (v3) N20 (.slice A5 nl k5) r0 r1 r2 r3 r4 r5 r6 r7=WF:=⟨_,rfl⟩
         exact MJc
       ·refine RDs ?_;intro hb HN HLE
        have HLT:qH (W.heap.size<v1.heap.size/\(W.heap.size+1)<v1.heap.size/\NW<v1.heap.size/\N2<v1.heap.size):=qh ⟨HC.o.lt,HX.o.lt,HS.o.lt,HPK.o.lt⟩
        have HNA:qH (¬ A6 v1.heap.size):=qh (fun x=>by have:=Ob.lt (vOb z1 b1 n true (qMP vals)) HD.o.i1 _ x;omega)
        have HNB:=qh (HPK.o.fresh)
        refine RfI ?_;clear HC HX HS;intro HC HX HS
        refine RVE ?_;clear HPK HO1 HD;intro HPK HO1 HD
        replace HRF:=qh (HRF.o.keep hb)
        clear hb
        generalize hn13:v1.heap.size=N20 at *
        generalize hw13:v1.alloc (.cells #[.slice none 0 0,.int .i64 0,.int .i64 0,.int .i64 0,.int .i64 0,.int .i64 0,.int .i64 0,.int .i64 0,.int .i64 0] 56)=v4 at *
        clear hn13 hw13
        refine Rte ?_;intro hHeld
        clear hK K
        refine rdz 3 fun K hK=>?_
        ·skip
         go_simp
         refine(HN3.o _ _ _ HRF.o).mono ?_
         rintro e v5 ⟨u2,rfl,hown,hb⟩
         rw[HNL.o] at hown
         obtain⟨A5,k5,hu2⟩:=qKK hown
         subst hu2
         have HO2:qH (v5.ownsRow 0 64 2 (.slice A5 nl k5) nl (bkVs L)):=qh (qXO hown (Nat.zero_le _))
         clear HRF hown
         refine RfI ?_;clear HC HX HS;intro HC HX HS
         replace HPK:=qh (HPK.o.keep hb)
         replace HN:=qh (HN.o.keep hb)
         refine RG1 ?_;clear HO1 HD hb hK K;intro HO1 HD hHeld
         refine Rw3 ?_
         refine Rhb ?_;intro K hK z0 z1' z2 z3 z4 z5' z6 z7 z8 f0 f1 f2 f3 f4 f5 f6 f7 f8
         obtain⟨WF,hWF⟩:∃ WF,wr9 (v5) N20 (.slice A5 nl k5) r0 r1 r2 r3 r4 r5 r6 r7=WF:=⟨_,rfl⟩
         exact MJc
      ·refine R6h ?_;intro hb HN HLE
       have HLT:qH (W.heap.size<q0.heap.size/\(W.heap.size+1)<q0.heap.size/\NW<q0.heap.size/\N2<q0.heap.size):=qh ⟨HC.o.lt,HX.o.lt,HS.o.lt,HPK.o.lt⟩
       have HNA:qH (¬ A6 q0.heap.size):=qh (fun x=>by have:=Ob.lt (vOb z1 b1 n true (qMP vals)) HD.o.i1 _ x;omega)
       have HNB:=qh (HPK.o.fresh)
       refine RfI ?_;clear HC HX HS;intro HC HX HS
       refine RVE ?_;clear HPK HO1 HD;intro HPK HO1 HD
       clear hb
       generalize hn13:q0.heap.size=N20 at *
       generalize hw13:q0.alloc (.cells #[.slice none 0 0,.int .i64 0,.int .i64 0,.int .i64 0,.int .i64 0,.int .i64 0,.int .i64 0,.int .i64 0,.int .i64 0] 56)=v6 at *
       clear hn13 hw13
       refine Rte ?_;intro hHeld
       clear hK K
       refine rdz 2 fun K hK=>?_
       ·skip
        go_simp
        obtain⟨o9,hI9,_⟩:=HD.o.i1
        refine Rlb ?_
        rintro e v7 ⟨g,cp,rfl,_,hrow,hb⟩
        have HRF:=qh hrow
        clear hI9 hrow
        refine RfI ?_;clear HC HX HS;intro HC HX HS
        replace HPK:=qh (HPK.o.keep hb)
        replace HN:=qh (HN.o.keep hb)
        refine RG1 ?_;clear HO1 HD hb hK K;intro HO1 HD hHeld
        refine rdz 3 fun K hK=>?_
        ·skip
         go_simp
         refine(HN3.o _ _ _ HRF.o).mono ?_
         rintro e v8 ⟨u2,rfl,hown,hb⟩
         rw[HNL.o] at hown
         obtain⟨A5,k5,hu2⟩:=qKK hown
         subst hu2
         have HO2:qH (v8.ownsRow 0 64 2 (.slice A5 nl k5) nl (bkVs L)):=qh (qXO hown (Nat.zero_le _))
         clear HRF hown
         refine RfI ?_;clear HC HX HS;intro HC HX HS
         replace HPK:=qh (HPK.o.keep hb)
         replace HN:=qh (HN.o.keep hb)
         refine RG1 ?_;clear HO1 HD hb hK K;intro HO1 HD hHeld
         refine Rw3 ?_
         refine Rhb ?_;intro K hK z0 z1' z2 z3 z4 z5' z6 z7 z8 f0 f1 f2 f3 f4 f5 f6 f7 f8
         obtain⟨WF,hWF⟩:∃ WF,wr9 (v8) N20 (.slice A5 nl k5) r0 r1 r2 r3 r4 r5 r6 r7=WF:=⟨_,rfl⟩
         exact MJc
     case rest =>
      obtain⟨N20,k5,A5,A6,rfl,rfl,hN,hO2,hHC,hHX,hHS,hHPK,hHO1,hD⟩:=hcut
      have HNS:=qh hN
      have HO2:=qh hO2
      replace HC:=qh hHC
      replace HX:=qh hHX
      replace HS:=qh hHS
      replace HPK:=qh hHPK
      replace HO1:=qh hHO1
      replace HD:=qh hD
      clear hN hO2 hHC hHX hHS hHPK hHO1 hD
      clear x0' x1' x2' y0' y1' y2' y3' y4'
      refine RZx ?_;intro x0' x1' x2' y0' y1' y2' y3' y4'
      -- CUT7
      go_wp2_with fail
      refine RN7 ?_;clear HC HX HS HNS HPK HO1 HO2 HD;intro HC HX HS HNS HPK HO1 HO2 HD
      refine wp_region_held_drew (S:=(fun w'=>(w'.cell? ⟨W.heap.size,0,none⟩=some (.int .i64 (H.t:Int))/\w'.cell? ⟨W.heap.size,1,none⟩=some (.int .i64 (H.p:Int))/\w'.cell? ⟨W.heap.size,2,none⟩=some (.int .i64 (H.s:Int)))/\(w'.cell? ⟨W.heap.size+1,0,none⟩=some (.slice (some ad2) H.t c2)/\w'.cell? ⟨W.heap.size+1,1,none⟩=some (.int .i64 (i0:Int))/\w'.cell? ⟨W.heap.size+1,2,none⟩=some (.int .i64 (k:Int))/\w'.cell? ⟨W.heap.size+1,3,none⟩=some (.int .i64 pg)/\w'.cell? ⟨W.heap.size+1,4,none⟩=some (.int .i64 sl))/\(w'.cell? ⟨NW,0,none⟩=some (.slice A1 nl k1)/\w'.cell? ⟨NW,1,none⟩=some (.int .i64 (r0:Int))/\w'.cell? ⟨NW,2,none⟩=some (.int .i64 (r1:Int))/\w'.cell? ⟨NW,3,none⟩=some (.int .i64 (r2:Int))/\w'.cell? ⟨NW,4,none⟩=some (.int .i64 (r3:Int))/\w'.cell? ⟨NW,5,none⟩=some (.int .i64 (r4:Int))/\w'.cell? ⟨NW,6,none⟩=some (.int .i64 (r5:Int))/\w'.cell? ⟨NW,7,none⟩=some (.int .i64 (r6:Int))/\w'.cell? ⟨NW,8,none⟩=some (.int .i64 (r7:Int)))/\(w'.cell? ⟨N20,0,none⟩=some (.slice A5 nl k5)/\w'.cell? ⟨N20,1,none⟩=some (.int .i64 (r0:Int))/\w'.cell? ⟨N20,2,none⟩=some (.int .i64 (r1:Int))/\w'.cell? ⟨N20,3,none⟩=some (.int .i64 (r2:Int))/\w'.cell? ⟨N20,4,none⟩=some (.int .i64 (r3:Int))/\w'.cell? ⟨N20,5,none⟩=some (.int .i64 (r4:Int))/\w'.cell? ⟨N20,6,none⟩=some (.int .i64 (r5:Int))/\w'.cell? ⟨N20,7,none⟩=some (.int .i64 (r6:Int))/\w'.cell? ⟨N20,8,none⟩=some (.int .i64 (r7:Int)))/\(w'.cell? ⟨N2,0,none⟩=some (V2 0).v/\w'.cell? ⟨N2,1,none⟩=some (V2 1).v/\w'.cell? ⟨N2,2,none⟩=some (V2 2).v/\w'.cell? ⟨N2,3,none⟩=some (V2 3).v/\w'.cell? ⟨N2,4,none⟩=some (V2 4).v/\w'.cell? ⟨N2,5,none⟩=some (V2 5).v/\w'.cell? ⟨N2,6,none⟩=some (V2 6).v/\w'.cell? ⟨N2,7,none⟩=some (V2 7).v/\w'.cell? ⟨N2,8,none⟩=some (V2 8).v))) qr ?_ (fun hHeld=>?_)
      ·exact Mbz
      refine Ro3 ?_
      refine tkz 3 ?_
      refine rdz 4 fun K hK=>?_
      go_simp
      refine(qVO L L A5 A1 nl nl k5 k1 0 0 r0 r1 r2 r3 r4 r5 r6 r7 r0 r1 r2 r3 r4 r5 r6 r7 _ HNL.o HNL.o hnlb2 hnlb2 HO2.o HO1.o true ⟨fun _=>⟨rfl,rfl⟩,fun _=>rfl⟩).mono ?_
      rintro e w71 ⟨rfl,hb⟩
      refine RfI ?_;clear HC HX HS;intro HC HX HS
      refine RG8 ?_;clear HNS HPK HO1 HO2 HD;intro HNS HPK HO1 HO2 HD
      clear hb
      refine qk ?_ (fun hHeld=>?_)
      ·exact McK
      clear hK K
      refine RPe ?_
      refine tkz 10 ?_
      refine tkz 11 ?_
      refine rdz 9 fun K hK=>?_
      go_simp
      obtain⟨o9,hI9,_⟩:=HD.o.i1
      refine Rlb ?_
      rintro e w72 ⟨g,cp,rfl,_,hrow,hb⟩
      have HRF:=qh hrow
      clear hI9 hrow
      refine RfI ?_;clear HC HX HS;intro HC HX HS
      refine RG8 ?_;clear HNS HPK HO1 HO2 HD;intro HNS HPK HO1 HO2 HD
      clear hb
      have hcp:=HRF.o.le
      have hcp2:cp<=9223372036854775807:=HRF.o.max
      refine qk ?_ (fun hHeld=>?_)
      ·exact McK
      clear hK K
      refine rdz 12 fun K hK=>?_
      go_simp
      refine(qJF hT16 ad2 c2 hTc hc2 i0 hi0 (k:Int) pg sl _ (HP.o.below HD.o.bel) HPK.o.pk).mono ?_
      rintro e w73 ⟨g3,c3,rfl,hc4,hc5,hpk,hb⟩
      have HPA:=qh hpk
      have hc6:c3<=9223372036854775807:=hc5
      replace HRF:=qh (HRF.o.keep hb)
      refine RfI ?_;clear HC HX HS;intro HC HX HS
      refine RG8 ?_;clear HNS HPK HO1 HO2 HD;intro HNS HPK HO1 HO2 HD
      clear hb hpk
      refine qk ?_ (fun hHeld=>?_)
      ·exact McK
      clear hK K
      refine rdz 13 fun K hK=>?_
      go_simp
      refine(HFN.o _ _ _ HRF.o (some ⟨g3,0,none⟩) c3 _ hc4 hc5 HPA.o).mono ?_
      rintro e w74 ⟨rfl,hb⟩
      refine RfI ?_;clear HC HX HS;intro HC HX HS
      refine RG8 ?_;clear HNS HPK HO1 HO2 HD;intro HNS HPK HO1 HO2 HD
      clear hb HRF HPA
      refine qk ?_ (fun hHeld=>?_)
      ·exact McK
      clear hK K
      refine tkz 14 ?_
      refine tkz 15 ?_
      refine rdz 16 fun K hK=>?_
      go_simp
      refine(qKo _ (HTL.o.below HD.o.bel)).mono ?_
      rintro e w75 ⟨rfl,hb⟩
      refine RfI ?_;clear HC HX HS;intro HC HX HS
      refine RG8 ?_;clear HNS HPK HO1 HO2 HD;intro HNS HPK HO1 HO2 HD
      clear hb
      refine qk ?_ (fun hHeld=>?_)
      ·exact McK
      clear hK K
      refine tkz 17 ?_
      refine tkz 18 ?_
      refine dnz ?_
      have HB:=qh HD.o.bel
      go_wp2
      go_ret
      exact⟨rfl,HB.o⟩

theorem qNb (t q s:Int)(A:Option Addr)(c:Nat)(vals:List Nat)(hnc:vals.length<=c)(hcm:c<=maxLen)(h32:∀ x∈vals,x<2^32)(A2:Option Addr)(T c2:Nat)(t0 k0 pg sl:Int)(hk0 : -9223372036854775808<=k0)(hk1:k0<=9223372036854775807)(U:Nat->Nat->Sl)(Z:Nat->Nat->List Int)(hTc:T<=c2)(hc2:c2<=maxLen)(W:World)(hT:SlotsLaid W)(HP:qH (PksAt W A2 T U Z))(HR:qH (Reads W W.heap.size 1 A vals.length (valVs vals))) :
  Calls Tryz.prog 5 #[.agg #[.int .i64 t,.int .i64 q,.int .i64 s],.slice A vals.length c,.agg #[.slice A2 T c2,.int .i64 t0,.int .i64 k0,.int .i64 pg,.int .i64 sl]] W (Keeps W):=by
 rcases qOg t q s A c vals hnc hcm h32 A2 T c2 t0 k0 pg sl U Z hTc hc2 W HP.o HR.o with h|⟨H,ad,m,i0,L,rfl,rfl,rfl,rfl,rfl,rfl,hi0,hq,hV,HV,hv,hr,hok,hX,F,hF⟩
 ·exact qMv t q s A _ c A2 T c2 t0 k0 pg sl W hT (qh h)
 ·obtain⟨ad2,rfl,_⟩:=HP.o i0 hi0
  have hK:∀ i,i<vals.length->qMP vals i=some (H.V i):=fun i hi=>by
   unfold qMP
   rw[hV i,List.getElem?_eq_getElem hi]
   simp[List.getD,List.getElem?_eq_getElem hi]
  have h32K:∀ i x,qMP vals i=some x->x<2^32:=fun i x h=>h32 x (List.mem_of_getElem? h)
  have WK:=Work.of_ok hok HV hK
  have hak:0<=k0/\k0<=8->AlOk vals.length (qMP vals) H.t H.p H.s k0 (Z i0 k0.toNat) freshS:=fun hk=>by
   obtain⟨k,rfl⟩:=Int.eq_ofNat_of_zero_le hk.1
   exact qSH HV F hi0 qo
  cases hx:(allocI vals.length (qMP vals) H.t H.p H.s k0 (Z i0 k0.toNat) freshS).1 with
  | none =>
   exact qEK ad _ c m HV vals (qh rfl) (qh h32) hV hnc ad2 c2 hTc hc2 i0 hi0 k0 hk0 hk1 pg sl U Z hq hak hx (fun h1 h2=>by
    by_cases hk:0<=k0/\k0<=8
    ·obtain⟨k,rfl⟩:=Int.eq_ofNat_of_zero_le hk.1
     have h1:=h1 hk
     rw[Int.toNat_natCast] at h1 h2 hx ⊢
     rcases qBf HV hok WK h32K (k:=k) qo F hi0 rfl h1 h2 with ⟨_,h,_⟩|⟨a,l',p,i,L',e,_⟩
     ·exact h
     ·rw[hx] at e;cases e
    ·unfold allocI
     rw[if_pos qo]
     rfl) W hT HR (qh hv) (qh hX) HP (qh hF)
  | some x =>
   obtain⟨a,l⟩:=x
   by_cases hk:0<=k0/\k0<=8
   ·obtain⟨k,rfl⟩:=Int.eq_ofNat_of_zero_le hk.1
    exact qBc ad _ c m HV vals (qh rfl) (qh h32) hV hnc ad2 c2 hTc hc2 i0 hi0 k qo pg sl U Z hq hak a l hx (fun h1 h2=>by
     rw[Int.toNat_natCast] at h2 hx ⊢
     exact qSV HV hok hK h32K qo F hi0 rfl hx h1 h2) W hT HR (qh hv) (qh hX) HP (qh hF)
   ·unfold allocI at hx
    rw[if_pos qo] at hx
    cases hx
end
end Go.Proofs.YtjjfcaliippgpaaGreatDoor
