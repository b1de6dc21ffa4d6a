/-
  The law LargeStays: the walk. Written by large/gen_stays.py.
-/
import Derived.Test.YtgifnhcknodekaaGreatC14
import Derived.Test.YtgifnhcknodekaaGreatC15
import Derived.Test.YtgifnhcknodekaaGreatC13
import Derived.Test.YtgifnhcknodekaaGreatC02
import Derived.Deep.RegionHeld3
import Derived.Deep.CutRange
namespace Go.Proofs.YtgifnhcknodekaaGreat
theorem RRm {P Q:Prop}(kq:Q)(h:HQ Q->P:=by
 intro kq
 replace HC:=qh (HC.o.keep hb)
 replace HS:=qh (HS.o.keep hb)
 replace HX:=qh (HX.o.keep hb)
 replace HN:=qh (HN.o.keep hb)
 replace HO1:=qh (qEc HO1.o hb)
 replace HD:=qh (HD.o.keep hb)
 refine qk ?_ (fun hHeld=>?_)
 ·first|exact HC.o.three|exact hHeld
 revert HC HS HX HN HO1 HD hHeld
 exact kq.o):P:=h ⟨kq⟩
theorem Rn5 {P Q:Prop}(kq:Q)(h:HQ Q->P:=by
 intro kq
 have HC:=qh ((Held.new W 23 #[.int .i64 t,.int .i64 q,.int .i64 s]).alloc (.cells #[.int .i64 x0v,.int .i64 xx] 25))
 have HX:=qh (Held.new2 W (.cells #[.int .i64 t,.int .i64 q,.int .i64 s] 23) 25 #[.int .i64 x0v,.int .i64 xx])
 have HB:=qh (Bnew (Bnew (B0 W) (.cells #[.int .i64 t,.int .i64 q,.int .i64 s] 23)) (.cells #[.int .i64 x0v,.int .i64 xx] 25))
 obtain⟨x0,x1,x2⟩:=HC.o.three
 obtain⟨y0,y1⟩:=HX.o.two
 revert HC HX HB x0 x1 x2 y0 y1
 exact kq.o):P:=h ⟨kq⟩
theorem R00 {P Q:Prop}(kq:Q)(h:HQ Q->P:=by
 intro kq
 replace HC:=qh (HC.o.keep hb)
 replace HS:=qh (HS.o.keep hb)
 replace HX:=qh (HX.o.keep hb)
 replace HO1:=qh (qEc HO1.o hb)
 replace HD:=qh (HD.o.keep hb)
 revert HC HS HX HO1 HD
 exact kq.o):P:=h ⟨kq⟩
theorem RlK {P Q:Prop}(kq:Q)(h:HQ Q->P:=by
 intro kq
 skip
 go_simp
 have hb:=Bnew (B0 v2) (.cells #[.slice none 0 0,.int .i64 0,.int .i64 0,.int .i64 0,.int .i64 0,.int .i64 0,.int .i64 0,.int .i64 0,.int .i64 0] 51)
 have HN:=qh (Held.new v2 51 #[.slice none 0 0,.int .i64 0,.int .i64 0,.int .i64 0,.int .i64 0,.int .i64 0,.int .i64 0,.int .i64 0,.int .i64 0])
 have HLE:=qh HD.o.bel.size
 have HLT:qH (W.heap.size<v2.heap.size/\NW<v2.heap.size/\(W.heap.size+1)<v2.heap.size):=qh ⟨HC.o.lt,HS.o.lt,HX.o.lt⟩
 have HNA:qH (¬ A4 v2.heap.size):=qh (fun x=>by have:=Ob.lt (vOb z1 b1 n true (qPX vals)) HD.o.i1 _ x;omega)
 replace HC:=qh (HC.o.keep hb)
 replace HS:=qh (HS.o.keep hb)
 replace HX:=qh (HX.o.keep hb)
 replace HO1:=qh (qEc HO1.o hb)
 replace HO2:=qh (qEc HO2.o hb)
 replace HD:=qh (HD.o.keep hb)
 clear hb
 revert HN HLE HLT HNA HC HS HX HO1 HO2 HD
 exact kq.o):P:=h ⟨kq⟩
theorem RmI {P Q:Prop}(kq:Q)(h:HQ Q->P:=by
 intro kq
 skip
 go_simp
 have hb:=Bnew (B0 v1) (.cells #[.slice none 0 0,.int .i64 0,.int .i64 0,.int .i64 0,.int .i64 0,.int .i64 0,.int .i64 0,.int .i64 0,.int .i64 0] 51)
 have HN:=qh (Held.new v1 51 #[.slice none 0 0,.int .i64 0,.int .i64 0,.int .i64 0,.int .i64 0,.int .i64 0,.int .i64 0,.int .i64 0,.int .i64 0])
 have HLE:=qh HD.o.bel.size
 have HLT:qH (W.heap.size<v1.heap.size/\NW<v1.heap.size/\(W.heap.size+1)<v1.heap.size):=qh ⟨HC.o.lt,HS.o.lt,HX.o.lt⟩
 have HNA:qH (¬ A4 v1.heap.size):=qh (fun x=>by have:=Ob.lt (vOb z1 b1 n true (qPX vals)) HD.o.i1 _ x;omega)
 revert hb HN HLE HLT HNA
 exact kq.o):P:=h ⟨kq⟩
theorem Ruq {P Q:Prop}(kq:Q)(h:HQ Q->P:=by
 intro kq
 skip
 go_simp
 have hb:=Bnew (B0 q0) (.cells #[.slice none 0 0,.int .i64 0,.int .i64 0,.int .i64 0,.int .i64 0,.int .i64 0,.int .i64 0,.int .i64 0,.int .i64 0] 51)
 have HN:=qh (Held.new q0 51 #[.slice none 0 0,.int .i64 0,.int .i64 0,.int .i64 0,.int .i64 0,.int .i64 0,.int .i64 0,.int .i64 0,.int .i64 0])
 have HLE:=qh HD.o.bel.size
 have HLT:qH (W.heap.size<q0.heap.size/\NW<q0.heap.size/\(W.heap.size+1)<q0.heap.size):=qh ⟨HC.o.lt,HS.o.lt,HX.o.lt⟩
 have HNA:qH (¬ A4 q0.heap.size):=qh (fun x=>by have:=Ob.lt (vOb z1 b1 n true (qPX vals)) HD.o.i1 _ x;omega)
 revert hb HN HLE HLT HNA
 exact kq.o):P:=h ⟨kq⟩
theorem Rte {P Q:Prop}(kq:Q)(h:HQ Q->P:=by
 intro kq
 refine qk ?_ (fun hHeld=>?_)
 ·first|exact HC.o.three|exact hHeld
 revert hHeld
 exact kq.o):P:=h ⟨kq⟩
theorem RYl {P Q:Prop}(kq:Q)(h:HQ Q->P:=by
 intro kq
 replace HC:=qh HC.o.drw
 replace HS:=qh HS.o.drw
 replace HX:=qh HX.o.drw
 replace HO1:=qh (qEc HO1.o (Bdrew (B0 _)))
 replace HD:=qh (HD.o.keep (Bdrew (B0 _)))
 refine wp_region_held_drew (S:=(fun w'=>w'.cell? ⟨W.heap.size,0,none⟩=some (.int .i64 (H.t:Int))/\w'.cell? ⟨W.heap.size,1,none⟩=some (.int .i64 (H.p:Int))/\w'.cell? ⟨W.heap.size,2,none⟩=some (.int .i64 (H.s:Int)))) qr ?_ (fun hHeld=>?_)
 ·(try dsimp only)
  first|exact HC.o.three|exact hHeld
 revert HC HS HX HO1 HD hHeld
 exact kq.o):P:=h ⟨kq⟩
theorem Rhb {P Q:Prop}(kq:Q)(h:HQ Q->P:=by
 intro kq
 refine rdz 8 fun K hK=>?_
 obtain⟨z0,z1',z2,z3,z4,z5',z6,z7,z8⟩:=HN.o.nine
 obtain⟨f0,f1,f2,f3,f4,f5,f6,f7,f8⟩:=HN.o.thawed9
 go_simp
 revert K hK z0 z1' z2 z3 z4 z5' z6 z7 z8 f0 f1 f2 f3 f4 f5 f6 f7 f8
 exact kq.o):P:=h ⟨kq⟩
theorem RS0 {P Q:Prop}(kq:Q)(h:HQ Q->P:=by
 intro kq
 obtain⟨g0,g1⟩:=(HX.o.keep (Bnew (B0 wr) (.cells #[.int .i64 xa,.int .i64 xz] 59))).two
 obtain⟨e0,e1⟩:=(Held.new wr 59 #[.int .i64 xa,.int .i64 xz]).two
 have e2:=(Held.new wr 59 #[.int .i64 xa,.int .i64 xz]).thawed 0
 have e3:=(Held.new wr 59 #[.int .i64 xa,.int .i64 xz]).thawed 1
 revert g0 g1 e0 e1 e2 e3
 exact kq.o):P:=h ⟨kq⟩
theorem RUl {P Q:Prop}(kq:Q)(h:HQ Q->P:=by
 intro kq
 obtain⟨x0,x1,x2⟩:=HC.o.three
 obtain⟨y0,y1⟩:=HX.o.two
 revert x0 x1 x2 y0 y1
 exact kq.o):P:=h ⟨kq⟩
theorem Rxf {P Q:Prop}(kq:Q)(h:HQ Q->P:=by
 intro kq
 replace HC:=qh (HC.o.keep hb)
 replace HX:=qh (HX.o.keep hb)
 replace HB:=qh (Bgo HB.o hb)
 revert HC HX HB
 exact kq.o):P:=h ⟨kq⟩
theorem Rw3 {P Q:Prop}(kq:Q)(h:HQ Q->P:=by
 intro kq
 refine tkz 4 ?_
 refine tkz 5 ?_
 refine tkz 6 ?_
 exact kq.o):P:=h ⟨kq⟩
theorem Rlb {P Q:Prop}(kq:Q)(h:HQ Q->P:=by
 intro kq
 refine(qKm hn0 (by have:=hI9.ok.few;omega) _ hI9).mono ?_
 exact kq.o):P:=h ⟨kq⟩
theorem Rs3 {P Q:Prop}(kq:Q)(h:HQ Q->P:=by
 intro kq
 replace HC:=qh HC.o.drw
 replace HS:=qh HS.o.drw
 replace HX:=qh HX.o.drw
 replace HNS:=qh HNS.o.drw
 replace HBX:=qh HBX.o.drw
 replace HO1:=qh (qEc HO1.o (Bdrew (B0 _)))
 replace HO2:=qh (qEc HO2.o (Bdrew (B0 _)))
 replace HD:=qh (HD.o.keep (Bdrew (B0 _)))
 revert HC HS HX HNS HBX HO1 HO2 HD
 exact kq.o):P:=h ⟨kq⟩
theorem M28 {P:Prop}(h:P:=by
 replace HO1:=qh (own9 hWF (qLg HN.o HO1.o (by decide)) HO1.o)
 replace HO2:=qh (own9 hWF (qLg HN.o HO2.o (by decide)) HO2.o)
 replace HC:=qh (far9 hWF (by have:=HLT.o;omega) HC.o)
 replace HS:=qh (far9 hWF (by have:=HLT.o;omega) HS.o)
 replace HX:=qh (far9 hWF (by have:=HLT.o;omega) HX.o)
 replace HD:=qh (duo9 hWF HNA.o (fun x=>x) HLE.o HD.o)
 replace HN:=qh (qXJ hWF HN.o)
 unfold wr9 set9 at hWF
 rw[hWF]
 clear hWF z0 z1' z2 z3 z4 z5' z6 z7 z8 f0 f1 f2 f3 f4 f5 f6 f7 f8
 refine Rte ?_;intro hHeld
 clear hK K
 refine tkz 9 ?_
 refine dnz ?_
 go_wp2_with fail
 go_meet
 case rel=>exact⟨_,_,_,_,rfl,rfl,HN.o,HO2.o,HC.o,HS.o,HX.o,HO1.o,HD.o⟩):P:=h
theorem MLa {P:Prop}(h:P:=by
 refine Rxf ?_;clear HC HX HB;intro HC HX HB
 clear hb
 clear x0 x1 x2 y0 y1
 exact Mkz):P:=h
theorem Mi0 {P:Prop}(h:P:=by
 refine Rxn ?_
 refine dnz ?_
 go_wp2_with fail
 go_roundw
 case rel=>exact⟨j+1,qo,by go_num,HC,HS,HX,HNS,HO1,HO2,HD⟩
 case measure=>simp[intOf];omega):P:=h
theorem Mkz {P:Prop}(h:P:=by
 refine RUl ?_;intro x0 x1 x2 y0 y1
 exact MSB):P:=h
theorem MDw {P:Prop}(h:P:=by
 unfold qPX
 rw[hVK i,List.getElem?_eq_getElem (by rw[HNN.o];exact hi)]
 simp[List.getD,List.getElem?_eq_getElem (show i<vals.length by rw[HNN.o];exact hi)]):P:=h
theorem MSB {P:Prop}(h:P:=by
 go_wp2_with fail
 refine(qVa _).mono ?_
 rintro e w19 ⟨rfl,hb⟩
 have HBL:=qh (Bgo HB.o hb)
 clear hb
 go_wp2
 go_ret
 exact⟨rfl,HBL.o⟩):P:=h
theorem MnK {P:Prop}(h:P:=by
 (try dsimp only)
 first|exact⟨HNS.o.nine.1,(HBK.o _ HO2.o).1,(HBK.o _ HO2.o).2,HBX.o.two.1,HBX.o.two.2⟩|exact hHeld):P:=h
end Go.Proofs.YtgifnhcknodekaaGreat
set_option linter.unusedVariables false
set_option linter.unusedSimpArgs false
set_option maxRecDepth 100000
set_option maxHeartbeats 25600000
namespace Go.Proofs.YtgifnhcknodekaaGreat
open Go.ChangeShapes Go.WideShapes Go.ChangeAt Go.RowKit Go.Maps
section
def qPX (vals:List Nat):Nat->Option Nat:=fun i=>vals[i]?
theorem qLm (t q s x0v xx:Int)(A:Option Addr)(n c m:Nat)(hq:64<q)(W:World)   : Calls Tryz.prog 5 #[.agg #[.int .i64 t,.int .i64 q,.int .i64 s],.slice A n c,.agg #[.int .i64 x0v,.int .i64 xx]] W (Keeps W):=by
 have t2:decide (q<=(64:Int))=false:=qf
 refine Rn5 ?_;intro HC HX HB x0 x1 x2 y0 y1
 go_enter Tryz.func5,Tryz.ntmps5
 go_wp2_with fail
 refine(qYU t q s _).mono ?_
 rintro e w1 ⟨rfl,hb⟩
 rw[t2]
 exact MLa

theorem qFF (t q s x0v xx:Int)(A:Option Addr)(n c m:Nat)(hq:q<=64)(W:World)(hX:qH (XCheckIs W t q s A n c m false))  : Calls Tryz.prog 5 #[.agg #[.int .i64 t,.int .i64 q,.int .i64 s],.slice A n c,.agg #[.int .i64 x0v,.int .i64 xx]] W (Keeps W):=by
 have t2:decide (q<=(64:Int))=true:=qt
 refine Rn5 ?_;intro HC HX HB x0 x1 x2 y0 y1
 go_enter Tryz.func5,Tryz.ntmps5
 go_wp2_with fail
 refine(qYU t q s _).mono ?_
 rintro e w1 ⟨rfl,hb⟩
 rw[t2]
 refine Rxf ?_;clear HC HX HB;intro HC HX HB
 clear hb
 clear x0 x1 x2 y0 y1
 refine RUl ?_;intro x0 x1 x2 y0 y1
 go_wp2_with fail
 refine(qHm t q s A n c m false _ (hX.o.grown HB.o)).mono ?_
 rintro e w2 ⟨rfl,hb⟩
 exact MLa

theorem qTL (t q s x0v xx:Int)(A:Option Addr)(n c m:Nat)(hq:q<=64)(W:World)(hX:qH (XCheckIs W t q s A n c m true))(HU:qH (∀ w,Below W.heap.size W w->Calls Tryz.prog 17 #[.agg #[.int .i64 t,.int .i64 q,.int .i64 s],.slice A n c,.int .i64 x0v] w fun e w'=>e = .returned (.int .i64 0)/\Below w.heap.size w w')):Calls Tryz.prog 5 #[.agg #[.int .i64 t,.int .i64 q,.int .i64 s],.slice A n c,.agg #[.int .i64 x0v,.int .i64 xx]] W (Keeps W):=by
 have t2:decide (q<=(64:Int))=true:=qt
 refine Rn5 ?_;intro HC HX HB x0 x1 x2 y0 y1
 go_enter Tryz.func5,Tryz.ntmps5
 go_wp2_with fail
 refine(qYU t q s _).mono ?_
 rintro e w1 ⟨rfl,hb⟩
 rw[t2]
 refine Rxf ?_;clear HC HX HB;intro HC HX HB
 clear hb
 clear x0 x1 x2 y0 y1
 refine RUl ?_;intro x0 x1 x2 y0 y1
 go_wp2_with fail
 refine(qHm t q s A n c m true _ (hX.o.grown HB.o)).mono ?_
 rintro e w2 ⟨rfl,hb⟩
 refine Rxf ?_;clear HC HX HB;intro HC HX HB
 clear hb
 clear x0 x1 x2 y0 y1
 refine RUl ?_;intro x0 x1 x2 y0 y1
 go_wp2_with fail
 refine(HU.o _ HB.o).mono ?_
 rintro e w2 ⟨rfl,hb⟩
 refine Rxf ?_;clear HC HX HB;intro HC HX HB
 clear hb x0 x1 x2 y0 y1
 exact Mkz

theorem qVS {H:AuH}(ad:Addr)(n c m:Nat)(HV:HeapV H n c)(p ll:Nat)(vals:List Nat)(HNN:qH (vals.length=n))(H32:qH (∀ x∈vals,x<2^32))(hVK:∀ i,H.V i=vals.getD i 0)(hq:H.p<=64)(hr:∀ i,i<10->H.rule i)(hp:p<H.p)(hk:H.K p=2)(hl:H.ln p=ll)(xx:Int)(s2:Vst)(hrz:resizeL n (qPX vals) H.t H.p H.s p xx freshS=(false,s2))(hwr:s2.wr = [])(hxx:xx<1\/(ll:Int)<xx)
  (W:World) (HR:qH (Reads W W.heap.size 1 (some ad) n (valVs vals))) (hv:qH (IsVals W ad n H.V)) (hX:qH (XCheckIs W H.t H.p H.s (some ad) n c m true)) (HU:qH (∀ w,Below W.heap.size W w->Calls Tryz.prog 17 #[.agg #[.int .i64 (H.t:Int),.int .i64 (H.p:Int),.int .i64 (H.s:Int)],.slice (some ad) n c,.int .i64 (p:Int)] w fun e w'=>e = .returned (.int .i64 (ll:Int))/\Below w.heap.size w w')) :
  Calls Tryz.prog 5 #[.agg #[.int .i64 (H.t:Int),.int .i64 (H.p:Int),.int .i64 (H.s:Int)],.slice (some ad) n c,.agg #[.int .i64 (p:Int),.int .i64 xx]] W (Keeps W):=by
 have t2:decide ((H.p:Int)<=(64:Int))=true:=qt
 have hnb:n<=6238:=by have:=HV.nums;omega
 have hn0:0<n:=by have:=HV.len;omega
 have hcm:c<=maxLen:=HV.max
 have hcm2:c<=9223372036854775807:=hcm
 have hn40:n<2^40:=qo
 have hq10:(H.p:Int)<=1024:=qo
 have hK:∀ i,i<n->qPX vals i=some (H.V i):=fun i hi=>by
  exact MDw
 have h32K:∀ i x,qPX vals i=some x->x<2^32:=fun i x h=>H32.o x (List.mem_of_getElem? h)
 obtain⟨LL,hok⟩:=AuH.okL_of qo hr
 have hsp:=qRA hok hp qo qo
 rw[hl] at hsp
 have hl1:1<=ll:=hsp.2.1
 have hpl:(p:Int)+(ll:Int)<=(H.p:Int):=qo
 have hz0:((ll:Int)==0)=false:=qs
 have hz1:(ll==0)=false:=qs
 have HI0:=qh ((Work.of_ok hok HV hK).len_used HV.fit hp hk hl).1
 have HRZ:=qh hrz
 have HWR:=qh hwr
 have HXX:=qh hxx
 obtain⟨L,hL⟩:∃ L,blocksOf H.parts=L:=⟨_,rfl⟩
 obtain⟨r0,hr0⟩:∃ r,H.V 22=r:=⟨_,rfl⟩
 obtain⟨r1,hr1⟩:∃ r,H.V 23=r:=⟨_,rfl⟩
 obtain⟨r2,hr2⟩:∃ r,H.V 24=r:=⟨_,rfl⟩
 obtain⟨r3,hr3⟩:∃ r,H.V 25=r:=⟨_,rfl⟩
 obtain⟨r4,hr4⟩:∃ r,H.V 26=r:=⟨_,rfl⟩
 obtain⟨r5,hr5⟩:∃ r,H.V 27=r:=⟨_,rfl⟩
 obtain⟨r6,hr6⟩:∃ r,H.V 28=r:=⟨_,rfl⟩
 obtain⟨r7,hr7⟩:∃ r,H.V 29=r:=⟨_,rfl⟩
 obtain⟨nl,hnl⟩:∃ nl,L.length=nl:=⟨_,rfl⟩
 have HNL:=qh hnl
 have hnlb:nl<=60000:=by rw[<- hnl,<- hL];exact qXC HV
 have hnlb2:nl<=100000:=qo
 have HRS:qH (H.V 22=r0/\H.V 23=r1/\H.V 24=r2/\H.V 25=r3/\H.V 26=r4/\H.V 27=r5/\H.V 28=r6/\H.V 29=r7/\blocksOf H.parts=L):=qh ⟨hr0,hr1,hr2,hr3,hr4,hr5,hr6,hr7,hL⟩
 clear hrz hwr hr hVK hK h32K hr0 hr1 hr2 hr3 hr4 hr5 hr6 hr7 hL hnl hok hsp hl hk hxx
 have HC:=qh ((Held.new W 23 #[.int .i64 (H.t:Int),.int .i64 (H.p:Int),.int .i64 (H.s:Int)]).alloc (.cells #[.int .i64 (p:Int),.int .i64 xx] 25))
 have HX:=qh (Held.new2 W (.cells #[.int .i64 (H.t:Int),.int .i64 (H.p:Int),.int .i64 (H.s:Int)] 23) 25 #[.int .i64 (p:Int),.int .i64 xx])
 have HB:=qh (Bnew (Bnew (B0 W) (.cells #[.int .i64 (H.t:Int),.int .i64 (H.p:Int),.int .i64 (H.s:Int)] 23)) (.cells #[.int .i64 (p:Int),.int .i64 xx] 25))
 obtain⟨x0,x1,x2⟩:=HC.o.three
 obtain⟨y0,y1⟩:=HX.o.two
 go_enter Tryz.func5,Tryz.ntmps5
 go_wp2_with fail
 refine(qYU H.t H.p H.s _).mono ?_
 rintro e w1 ⟨rfl,hb⟩
 rw[t2]
 replace HC:=qh (HC.o.keep hb)
 replace HX:=qh (HX.o.keep hb)
 replace HB:=qh (Bgo HB.o hb)
 clear hb
 clear x0 x1 x2 y0 y1
 obtain⟨x0,x1,x2⟩:=HC.o.three
 obtain⟨y0,y1⟩:=HX.o.two
 go_wp2_with fail
 refine(qHm H.t H.p H.s (some ad) n c m true _ (hX.o.grown HB.o)).mono ?_
 rintro e w2 ⟨rfl,hb⟩
 replace HC:=qh (HC.o.keep hb)
 replace HX:=qh (HX.o.keep hb)
 replace HB:=qh (Bgo HB.o hb)
 clear hb
 clear x0 x1 x2 y0 y1
 obtain⟨x0,x1,x2⟩:=HC.o.three
 obtain⟨y0,y1⟩:=HX.o.two
 go_wp2_with fail
 refine(HU.o _ HB.o).mono ?_
 rintro e w2 ⟨rfl,hb⟩
 replace HC:=qh (HC.o.keep hb)
 replace HX:=qh (HX.o.keep hb)
 replace HB:=qh (Bgo HB.o hb)
 clear hb x0 x1 x2 y0 y1
 obtain⟨x0,x1,x2⟩:=HC.o.three
 obtain⟨y0,y1⟩:=HX.o.two
 go_wp2_with fail
 refine(qJ4 HV ad m _ (hv.o.below HB.o) (hX.o.grown HB.o)).mono ?_
 rintro e w3 ⟨u1,rfl,hown,hb⟩
 obtain⟨hr0,hr1,hr2,hr3,hr4,hr5,hr6,hr7,hL⟩:=HRS.o
 rw[hr0,hr1,hr2,hr3,hr4,hr5,hr6,hr7]
 rw[hL,HNL.o] at hown
 obtain⟨A1,k1,hu1⟩:=qKK hown
 subst hu1
 have HO1:qH ((w3.alloc (.cells #[.slice A1 nl k1,.int .i64 (r0:Int),.int .i64 (r1:Int),.int .i64 (r2:Int),.int .i64 (r3:Int),.int .i64 (r4:Int),.int .i64 (r5:Int),.int .i64 (r6:Int),.int .i64 (r7:Int)] 51)).ownsRow 0 59 2 (.slice A1 nl k1) nl (bkVs L)):=qh (qEc (qXO hown (Nat.zero_le _)) (Bnew (B0 _) _))
 have HS:=qh (Held.new w3 51 #[.slice A1 nl k1,.int .i64 (r0:Int),.int .i64 (r1:Int),.int .i64 (r2:Int),.int .i64 (r3:Int),.int .i64 (r4:Int),.int .i64 (r5:Int),.int .i64 (r6:Int),.int .i64 (r7:Int)])
 replace HC:=qh ((HC.o.keep hb).alloc (.cells #[.slice A1 nl k1,.int .i64 (r0:Int),.int .i64 (r1:Int),.int .i64 (r2:Int),.int .i64 (r3:Int),.int .i64 (r4:Int),.int .i64 (r5:Int),.int .i64 (r6:Int),.int .i64 (r7:Int)] 51))
 replace HX:=qh ((HX.o.keep hb).alloc (.cells #[.slice A1 nl k1,.int .i64 (r0:Int),.int .i64 (r1:Int),.int .i64 (r2:Int),.int .i64 (r3:Int),.int .i64 (r4:Int),.int .i64 (r5:Int),.int .i64 (r6:Int),.int .i64 (r7:Int)] 51))
 replace HB:=qh (Bnew (Bgo HB.o hb) (.cells #[.slice A1 nl k1,.int .i64 (r0:Int),.int .i64 (r1:Int),.int .i64 (r2:Int),.int .i64 (r3:Int),.int .i64 (r4:Int),.int .i64 (r5:Int),.int .i64 (r6:Int),.int .i64 (r7:Int)] 51))
 clear hb hown HRS hr0 hr1 hr2 hr3 hr4 hr5 hr6 hr7 hL x0 x1 x2 y0 y1
 go_wp2_with fail
 generalize hN11:w3.heap.size=NW at *
 generalize hw11:w3.alloc (.cells #[.slice A1 nl k1,.int .i64 (r0:Int),.int .i64 (r1:Int),.int .i64 (r2:Int),.int .i64 (r3:Int),.int .i64 (r4:Int),.int .i64 (r5:Int),.int .i64 (r6:Int),.int .i64 (r7:Int)] 51)=w4 at *
 clear hN11 hw11
 have HRw:qH (Reads w4 w4.heap.size 1 (some ad) n (valVs vals)):=qh ((HR.o.below HB.o).more HB.o.size)
 refine(qWm (some ad) c vals n HNN.o qo H32.o _ (by
  intro h0
  obtain⟨ad',e,_,hc⟩:=HRw.o.2 h0
  exact⟨ad',e,hc⟩)).mono ?_
 rintro e w5 ⟨b1,o1,rfl,hI,hB⟩
 have HZC:qH (W.heap.size<w4.heap.size):=qh HC.o.lt
 have HZS:qH (NW<w4.heap.size):=qh HS.o.lt
 have HZR:qH (∀ g,(Value.slice A1 nl k1).ownBlock=some g->g<w4.heap.size):=qh (fun g e=>(HO1.o.lt g e).2)
 have HZHX:qH (_<w4.heap.size):=qh HX.o.lt
 have HD:=qh (qAg (W:=W) (G:=fun g=>g<w4.heap.size) hI HB.o.size (Bgo HB.o hB) (fun g hg=>⟨Nat.lt_of_lt_of_le hg hB.size,fun x=>by have:=hI.ge _ x;omega⟩))
 replace HC:=qh (HC.o.keep hB)
 replace HS:=qh (HS.o.keep hB)
 replace HX:=qh (HX.o.keep hB)
 replace HO1:=qh (qEc HO1.o hB)
 clear hI hB HRw HB
 generalize hz1:w4.heap.size=z1 at *
 clear hz1
 rw[show (fun i=>vals[i]?)=qPX vals from rfl] at HD
 obtain⟨x0,x1,x2⟩:=HC.o.three
 obtain⟨y0,y1⟩:=HX.o.two
 go_wp2_with fail
 refine(qQF hn40 hq10 p ll xx 2 0 true HI0.o hpl HD.o.at1).mono ?_
 rintro e w6 ⟨rfl,h1,_⟩
 obtain⟨A4,h2,h3⟩:=HD.o.left1 h1.left
 rw[HRZ.o] at h2 ⊢
 dsimp only at h2 ⊢
 replace HC:=qh (h3.held HZC.o HC.o)
 replace HS:=qh (h3.held HZS.o HS.o)
 replace HO1:=qh (h3.own HZR.o HO1.o)
 replace HX:=qh (h3.held HZHX.o HX.o)
 replace HD:=qh h2
 clear h1 h2 h3 x0 x1 x2 y0 y1
 obtain⟨x0,x1,x2⟩:=HC.o.three
 obtain⟨y0,y1⟩:=HX.o.two
 obtain⟨o5,hI5,_⟩:=HD.o.i1
 have HI5:=qh hI5
 have HB5:=qh HD.o.bel
 clear hI5 HD
 go_wp2_with fail
 refine(qD3 (by rw[HWR.o];simp) _ HI5.o).mono ?_
 rintro e w7 ⟨u7,rfl,ho,hb⟩
 rw[HWR.o] at ho
 obtain⟨A7,c7,hu7⟩:=qKK ho
 subst hu7
 replace HX:=qh (HX.o.keep hb)
 have HB:=qh (Bgo HB5.o hb)
 clear hb ho HI5 HB5 x0 x1 x2 y0 y1
 obtain⟨y0,y1⟩:=HX.o.two
 by_cases h1:xx<1
 ·have u1:decide (xx<1)=true:=decide_eq_true h1
  exact MSB
 ·have u1:decide (xx<1)=false:=decide_eq_false h1
  have u2:decide ((ll:Int)<xx)=true:=decide_eq_true (HXX.o.resolve_left h1)
  exact MSB

theorem qPD {H:AuH}(ad:Addr)(n c m:Nat)(HV:HeapV H n c)(p ll:Nat)(vals:List Nat)(HNN:qH (vals.length=n))(H32:qH (∀ x∈vals,x<2^32))(hVK:∀ i,H.V i=vals.getD i 0)(hq:H.p<=64)(hr:∀ i,i<10->H.rule i)(hp:p<H.p)(hk:H.K p=2)(hl:H.ln p=ll)(k:Nat)(s3:Vst)(hrz:resizeL n (qPX vals) H.t H.p H.s p (k:Int) freshS=(true,s3))(T:Resized H n (qPX vals) s3 p ll k)
  (W:World) (HR:qH (Reads W W.heap.size 1 (some ad) n (valVs vals))) (hv:qH (IsVals W ad n H.V)) (hX:qH (XCheckIs W H.t H.p H.s (some ad) n c m true)) (HU:qH (∀ w,Below W.heap.size W w->Calls Tryz.prog 17 #[.agg #[.int .i64 (H.t:Int),.int .i64 (H.p:Int),.int .i64 (H.s:Int)],.slice (some ad) n c,.int .i64 (p:Int)] w fun e w'=>e = .returned (.int .i64 (ll:Int))/\Below w.heap.size w w')) :
  Calls Tryz.prog 5 #[.agg #[.int .i64 (H.t:Int),.int .i64 (H.p:Int),.int .i64 (H.s:Int)],.slice (some ad) n c,.agg #[.int .i64 (p:Int),.int .i64 (k:Int)]] W (Keeps W):=by
 have t2:decide ((H.p:Int)<=(64:Int))=true:=qt
 have hnb:n<=6238:=by have:=HV.nums;omega
 have hn0:0<n:=by have:=HV.len;omega
 have hcm:c<=maxLen:=HV.max
 have hcm2:c<=9223372036854775807:=hcm
 have hn40:n<2^40:=qo
 have hq10:(H.p:Int)<=1024:=qo
 have hK:∀ i,i<n->qPX vals i=some (H.V i):=fun i hi=>by
  exact MDw
 have h32K:∀ i x,qPX vals i=some x->x<2^32:=fun i x h=>H32.o x (List.mem_of_getElem? h)
 obtain⟨LL,hok⟩:=AuH.okL_of qo hr
 have hsp:=qRA hok hp qo qo
 rw[hl] at hsp
 have hl1:1<=ll:=hsp.2.1
 have hpl:(p:Int)+(ll:Int)<=(H.p:Int):=qo
 have hz0:((ll:Int)==0)=false:=qs
 have hz1:(ll==0)=false:=qs
 have HI0:=qh ((Work.of_ok hok HV hK).len_used HV.fit hp hk hl).1
 have HRZ:=qh hrz
 obtain⟨s5,hs5⟩:∃ s5,(resizeL n (qPX vals) H.t H.p H.s p (ll:Int) s3).2=s5:=⟨_,rfl⟩
 have HS5:=qh hs5
 have hspk:p+k<=H.p:=by
  obtain⟨L1,O1,_⟩:=T.lists
  have h:=qRA (H:=nowH H n (qPX vals) s3) O1 hp (by rw[T.kind];omega) (by rw[T.kind];omega)
  rw[T.len] at h
  exact h.2.2.1
 have hpk:(p:Int)+(k:Int)<=(H.p:Int):=qo
 have HINFO:qH (VOk n s3->infoOf n (qPX vals) H.t H.p H.s (p:Int) s3=(2,(k:Int),0,true)):=qh (fun h=>by
  obtain⟨L1,_,W1⟩:=T.lists
  exact(Work.len_used (H:=nowH H n (qPX vals) s3) W1 (T.heap HV h h32K).fit hp T.kind T.len).1)
 obtain⟨L,hL⟩:∃ L,blocksOf H.parts=L:=⟨_,rfl⟩
 obtain⟨pgn,hpg⟩:∃ g:Nat,H.pg=g:=⟨_,rfl⟩
 obtain⟨fa,hfa⟩:∃ f:Int,((p:Int)+1)*(pgn:Int)=f:=⟨_,rfl⟩
 obtain⟨sz,hsz⟩:∃ f:Int,(k:Int)*(pgn:Int)=f:=⟨_,rfl⟩
 obtain⟨LB,hLB⟩:∃ LB,blocksOf (nowH H n (qPX vals) s3).parts=LB:=⟨_,rfl⟩
 have hpg2:pgn=2^H.s:=by rw[<- hpg];rfl
 have hsb:=HV.fit.nums
 have hsr:=HV.right
 have efa:H.first p=fa:=by rw[<- hfa,<- hpg];rfl
 have hmap:=T.map
 rw[hL,hLB,efa,hpg,hsz] at hmap
 have hne:1<=L.length:=by
  obtain⟨X,Y,b1,_⟩:=T.blocks
  rw[hL] at b1
  rw[b1]
  simp
  omega
 obtain⟨r0,hr0⟩:∃ r,H.V 22=r:=⟨_,rfl⟩
 obtain⟨r1,hr1⟩:∃ r,H.V 23=r:=⟨_,rfl⟩
 obtain⟨r2,hr2⟩:∃ r,H.V 24=r:=⟨_,rfl⟩
 obtain⟨r3,hr3⟩:∃ r,H.V 25=r:=⟨_,rfl⟩
 obtain⟨r4,hr4⟩:∃ r,H.V 26=r:=⟨_,rfl⟩
 obtain⟨r5,hr5⟩:∃ r,H.V 27=r:=⟨_,rfl⟩
 obtain⟨r6,hr6⟩:∃ r,H.V 28=r:=⟨_,rfl⟩
 obtain⟨r7,hr7⟩:∃ r,H.V 29=r:=⟨_,rfl⟩
 have HNOW3:=qh (fun hok3=>qNU HV (st:=s3) hok3 h32K T.lists.choose_spec.2.vw T.lists.choose_spec.1.rules T.roots LB hLB r0 r1 r2 r3 r4 r5 r6 r7 hr0 hr1 hr2 hr3 hr4 hr5 hr6 hr7)
 have HBACK:qH (∀ (hok3:VOk n s3),(resizeL n (qPX vals) H.t H.p H.s p (ll:Int) s3).1=true):=qh (fun hok3=>(qIm HV hok hp hk hl T hok3 h32K).1)
 have HNOW5:qH (∀ (hok3:VOk n s3) (hok5:VOk n s5),(∀ (w:World) (g cp:Nat),RowF w g 57 n cp (valF (nowV (qPX vals) s5.wr))->Calls Tryz.prog 22 #[.agg #[.int .i64 (H.t:Int),.int .i64 (H.p:Int),.int .i64 (H.s:Int)],.slice (some ⟨g,0,none⟩) n cp] w fun e w'=>∃ u,e = .returned (.tuple #[.agg #[u,.int .i64 (r0:Int),.int .i64 (r1:Int),.int .i64 (r2:Int),.int .i64 (r3:Int),.int .i64 (r4:Int),.int .i64 (r5:Int),.int .i64 (r6:Int),.int .i64 (r7:Int)],.bool true])/\w'.ownsRow w.heap.size 59 2 u L.length (bkVs L)/\Below w.heap.size w w')):=qh (fun hok3 hok5=>by
  obtain⟨f0,f1,f2,f4,f5⟩:=qIm HV hok hp hk hl T hok3 h32K
  rw[hs5] at f1 f2 f4 f5
  exact fun w g cp hrow=>qNU HV hok5 h32K f5 f1 f2 L (f4.trans hL) r0 r1 r2 r3 r4 r5 r6 r7 hr0 hr1 hr2 hr3 hr4 hr5 hr6 hr7 w g cp hrow)
 obtain⟨nl,hnl⟩:∃ nl,L.length=nl:=⟨_,rfl⟩
 have HNL:=qh hnl
 have hnlb:nl<=60000:=by rw[<- hnl,<- hL];exact qXC HV
 have hnlb2:nl<=100000:=qo
 have HRS:qH (H.V 22=r0/\H.V 23=r1/\H.V 24=r2/\H.V 25=r3/\H.V 26=r4/\H.V 27=r5/\H.V 28=r6/\H.V 29=r7/\blocksOf H.parts=L):=qh ⟨hr0,hr1,hr2,hr3,hr4,hr5,hr6,hr7,hL⟩
 have HMAP:=qh hmap
 have hnb:LB.length=nl:=by rw[hmap,List.length_map,hnl]
 have HNB:=qh hnb
 have hnl1:1<=nl:=qo
 have hpg3:pgn<=1048576:=qOB HV hpg2
 have hsh:=qYk HV
 have v1:IntKind.i64.wrap ((p:Int)+1)=(p:Int)+1:=qIv qo qo
 have hfa2:0<=fa/\fa<=1075838976:=by
  rw[<- hfa]
  have h1:((p:Int)+1)*(pgn:Int)<=1026*1048576:=Int.mul_le_mul qo qo qo qo
  exact⟨Int.mul_nonneg qo qo,qo⟩
 have hsz2:0<=sz/\sz<=1075838976:=by
  rw[<- hsz]
  have h1:(k:Int)*(pgn:Int)<=1026*1048576:=Int.mul_le_mul qo qo qo qo
  exact⟨Int.mul_nonneg qo qo,qo⟩
 have epg:((2:Int)^H.s)=(pgn:Int):=by rw[hpg2];push_cast;rfl
 have v2:IntKind.i64.wrap (((p:Int)+1)*2^H.s)=fa:=by rw[epg,hfa];exact qIv qo qo
 have v3:IntKind.i64.wrap ((k:Int)*2^H.s)=sz:=by rw[epg,hsz];exact qIv qo qo
 have v5:IntKind.i64.wrap (((p:Int)+1)*(pgn:Int))=fa:=by rw[<- epg];exact v2
 have v6:IntKind.i64.wrap ((k:Int)*(pgn:Int))=sz:=by rw[<- epg];exact v3
 have v4:((nl:Int) != (nl:Int))=false:=by simp
 have vs1:=qP1 HV hpg2
 clear epg hpg2 efa hmap hne
 clear hs5 T hok hsp hK hVK h32K hr hr0 hr1 hr2 hr3 hr4 hr5 hr6 hr7 hL hLB hnl hnb hpg hfa hsz hsb hsr hk hl hrz hspk
 have HC:=qh ((Held.new W 23 #[.int .i64 (H.t:Int),.int .i64 (H.p:Int),.int .i64 (H.s:Int)]).alloc (.cells #[.int .i64 (p:Int),.int .i64 (k:Int)] 25))
 have HX:=qh (Held.new2 W (.cells #[.int .i64 (H.t:Int),.int .i64 (H.p:Int),.int .i64 (H.s:Int)] 23) 25 #[.int .i64 (p:Int),.int .i64 (k:Int)])
 have HB:=qh (Bnew (Bnew (B0 W) (.cells #[.int .i64 (H.t:Int),.int .i64 (H.p:Int),.int .i64 (H.s:Int)] 23)) (.cells #[.int .i64 (p:Int),.int .i64 (k:Int)] 25))
 obtain⟨x0,x1,x2⟩:=HC.o.three
 obtain⟨y0,y1⟩:=HX.o.two
 go_enter Tryz.func5,Tryz.ntmps5
 go_wp2_with fail
 refine(qYU H.t H.p H.s _).mono ?_
 rintro e w1 ⟨rfl,hb⟩
 rw[t2]
 replace HC:=qh (HC.o.keep hb)
 replace HX:=qh (HX.o.keep hb)
 replace HB:=qh (Bgo HB.o hb)
 clear hb
 clear x0 x1 x2 y0 y1
 obtain⟨x0,x1,x2⟩:=HC.o.three
 obtain⟨y0,y1⟩:=HX.o.two
 go_wp2_with fail
 refine(qHm H.t H.p H.s (some ad) n c m true _ (hX.o.grown HB.o)).mono ?_
 rintro e w2 ⟨rfl,hb⟩
 replace HC:=qh (HC.o.keep hb)
 replace HX:=qh (HX.o.keep hb)
 replace HB:=qh (Bgo HB.o hb)
 clear hb
 clear x0 x1 x2 y0 y1
 obtain⟨x0,x1,x2⟩:=HC.o.three
 obtain⟨y0,y1⟩:=HX.o.two
 go_wp2_with fail
 refine(HU.o _ HB.o).mono ?_
 rintro e w2 ⟨rfl,hb⟩
 replace HC:=qh (HC.o.keep hb)
 replace HX:=qh (HX.o.keep hb)
 replace HB:=qh (Bgo HB.o hb)
 clear hb x0 x1 x2 y0 y1
 obtain⟨x0,x1,x2⟩:=HC.o.three
 obtain⟨y0,y1⟩:=HX.o.two
 go_wp2_with fail
 refine(qJ4 HV ad m _ (hv.o.below HB.o) (hX.o.grown HB.o)).mono ?_
 rintro e w3 ⟨u1,rfl,hown,hb⟩
 obtain⟨hr0,hr1,hr2,hr3,hr4,hr5,hr6,hr7,hL⟩:=HRS.o
 rw[hr0,hr1,hr2,hr3,hr4,hr5,hr6,hr7]
 rw[hL,HNL.o] at hown
 obtain⟨A1,k1,hu1⟩:=qKK hown
 subst hu1
 have HO1:qH ((w3.alloc (.cells #[.slice A1 nl k1,.int .i64 (r0:Int),.int .i64 (r1:Int),.int .i64 (r2:Int),.int .i64 (r3:Int),.int .i64 (r4:Int),.int .i64 (r5:Int),.int .i64 (r6:Int),.int .i64 (r7:Int)] 51)).ownsRow 0 59 2 (.slice A1 nl k1) nl (bkVs L)):=qh (qEc (qXO hown (Nat.zero_le _)) (Bnew (B0 _) _))
 have HS:=qh (Held.new w3 51 #[.slice A1 nl k1,.int .i64 (r0:Int),.int .i64 (r1:Int),.int .i64 (r2:Int),.int .i64 (r3:Int),.int .i64 (r4:Int),.int .i64 (r5:Int),.int .i64 (r6:Int),.int .i64 (r7:Int)])
 replace HC:=qh ((HC.o.keep hb).alloc (.cells #[.slice A1 nl k1,.int .i64 (r0:Int),.int .i64 (r1:Int),.int .i64 (r2:Int),.int .i64 (r3:Int),.int .i64 (r4:Int),.int .i64 (r5:Int),.int .i64 (r6:Int),.int .i64 (r7:Int)] 51))
 replace HX:=qh ((HX.o.keep hb).alloc (.cells #[.slice A1 nl k1,.int .i64 (r0:Int),.int .i64 (r1:Int),.int .i64 (r2:Int),.int .i64 (r3:Int),.int .i64 (r4:Int),.int .i64 (r5:Int),.int .i64 (r6:Int),.int .i64 (r7:Int)] 51))
 replace HB:=qh (Bnew (Bgo HB.o hb) (.cells #[.slice A1 nl k1,.int .i64 (r0:Int),.int .i64 (r1:Int),.int .i64 (r2:Int),.int .i64 (r3:Int),.int .i64 (r4:Int),.int .i64 (r5:Int),.int .i64 (r6:Int),.int .i64 (r7:Int)] 51))
 clear hb hown HRS hr0 hr1 hr2 hr3 hr4 hr5 hr6 hr7 hL x0 x1 x2 y0 y1
 go_wp2_with fail
 generalize hN11:w3.heap.size=NW at *
 generalize hw11:w3.alloc (.cells #[.slice A1 nl k1,.int .i64 (r0:Int),.int .i64 (r1:Int),.int .i64 (r2:Int),.int .i64 (r3:Int),.int .i64 (r4:Int),.int .i64 (r5:Int),.int .i64 (r6:Int),.int .i64 (r7:Int)] 51)=w4 at *
 clear hN11 hw11
 have HRw:qH (Reads w4 w4.heap.size 1 (some ad) n (valVs vals)):=qh ((HR.o.below HB.o).more HB.o.size)
 refine(qWm (some ad) c vals n HNN.o qo H32.o _ (by
  intro h0
  obtain⟨ad',e,_,hc⟩:=HRw.o.2 h0
  exact⟨ad',e,hc⟩)).mono ?_
 rintro e w5 ⟨b1,o1,rfl,hI,hB⟩
 have HZC:qH (W.heap.size<w4.heap.size):=qh HC.o.lt
 have HZS:qH (NW<w4.heap.size):=qh HS.o.lt
 have HZR:qH (∀ g,(Value.slice A1 nl k1).ownBlock=some g->g<w4.heap.size):=qh (fun g e=>(HO1.o.lt g e).2)
 have HZHX:qH (_<w4.heap.size):=qh HX.o.lt
 have HD:=qh (qAg (W:=W) (G:=fun g=>g<w4.heap.size) hI HB.o.size (Bgo HB.o hB) (fun g hg=>⟨Nat.lt_of_lt_of_le hg hB.size,fun x=>by have:=hI.ge _ x;omega⟩))
 replace HC:=qh (HC.o.keep hB)
 replace HS:=qh (HS.o.keep hB)
 replace HX:=qh (HX.o.keep hB)
 replace HO1:=qh (qEc HO1.o hB)
 clear hI hB HRw HB
 generalize hz1:w4.heap.size=z1 at *
 clear hz1
 rw[show (fun i=>vals[i]?)=qPX vals from rfl] at HD
 obtain⟨x0,x1,x2⟩:=HC.o.three
 obtain⟨y0,y1⟩:=HX.o.two
 go_wp2_with fail
 refine(qQF hn40 hq10 p ll (k:Int) 2 0 true HI0.o hpl HD.o.at1).mono ?_
 rintro e w6 ⟨rfl,h1,_⟩
 obtain⟨A4,h2,h3⟩:=HD.o.left1 h1.left
 rw[HRZ.o] at h2 ⊢
 dsimp only at h2 ⊢
 replace HC:=qh (h3.held HZC.o HC.o)
 replace HS:=qh (h3.held HZS.o HS.o)
 replace HO1:=qh (h3.own HZR.o HO1.o)
 replace HX:=qh (h3.held HZHX.o HX.o)
 replace HD:=qh h2
 clear h1 h2 h3 x0 x1 x2 y0 y1
 obtain⟨x0,x1,x2⟩:=HC.o.three
 obtain⟨y0,y1⟩:=HX.o.two
 have HOK3:qH (VOk n s3):=qh (by obtain⟨o,hI,_⟩:=HD.o.i1;exact hI.ok)
 have HN3:=qh (HNOW3.o HOK3.o)
 have HIN:=qh (HINFO.o HOK3.o)
 go_wp2_with fail
 go_cut [12,13] from 75 to 81 (fun u12 u13 wx=>∃ (N13 k2:Nat) (A2:Option Addr) (A4:Nat->Prop),u12 = .pointer (some ⟨N13,0,none⟩)/\u13 = .bool true/\Held wx N13 51 #[.slice A2 nl k2,.int .i64 (r0:Int),.int .i64 (r1:Int),.int .i64 (r2:Int),.int .i64 (r3:Int),.int .i64 (r4:Int),.int .i64 (r5:Int),.int .i64 (r6:Int),.int .i64 (r7:Int)]/\wx.ownsRow 0 59 2 (.slice A2 nl k2) nl (bkVs LB)/\Held wx W.heap.size 23 #[.int .i64 (H.t:Int),.int .i64 (H.p:Int),.int .i64 (H.s:Int)]/\Held wx NW 51 #[.slice A1 nl k1,.int .i64 (r0:Int),.int .i64 (r1:Int),.int .i64 (r2:Int),.int .i64 (r3:Int),.int .i64 (r4:Int),.int .i64 (r5:Int),.int .i64 (r6:Int),.int .i64 (r7:Int)]/\Held wx (W.heap.size+1) 25 #[.int .i64 (p:Int),.int .i64 (k:Int)]/\wx.ownsRow 0 59 2 (.slice A1 nl k1) nl (bkVs L)/\Duo W (vOb z1 b1 n true (qPX vals)) noOb A4 (fun _=>False) (fun g=>g<z1) s3 freshS wx)
 case first =>
  refine RYl ?_;clear HC HS HX HO1 HD;intro HC HS HX HO1 HD hHeld
  generalize hq0:World.drew w6=q0 at HC HS HX HO1 HD hHeld ⊢
  clear hq0
  refine tkz 0 ?_
  refine tkz 1 ?_
  refine wpAnyH_ready (rs := [2,7]) qr (by simp) ?_
  refine AllReadyH.cons (o:=_) rfl (fun K hK=>?_) (AllReadyH.cons (o:=_) rfl (fun K hK=>?_) AllReadyH.nil)
  ·skip
   go_simp
   obtain⟨o9,hI9,_⟩:=HD.o.i1
   refine Rlb ?_
   rintro e v1 ⟨g,cp,rfl,_,hrow,hb⟩
   have HRF:=qh hrow
   clear hI9 hrow
   refine R00 ?_;clear HC HS HX HO1 HD;intro HC HS HX HO1 HD
   clear hb
   refine Rte ?_;intro hHeld
   clear hK K
   refine wpAnyH_ready (rs := [3,7]) qr (by simp) ?_
   refine AllReadyH.cons (o:=_) rfl (fun K hK=>?_) (AllReadyH.cons (o:=_) rfl (fun K hK=>?_) AllReadyH.nil)
   ·skip
    go_simp
    refine(HN3.o _ _ _ HRF.o).mono ?_
    rintro e v2 ⟨u2,rfl,hown,hb⟩
    rw[HNB.o] at hown
    obtain⟨A2,k2,hu2⟩:=qKK hown
    subst hu2
    have HO2:qH (v2.ownsRow 0 59 2 (.slice A2 nl k2) nl (bkVs LB)):=qh (qXO hown (Nat.zero_le _))
    clear HRF hown
    refine R00 ?_;clear HC HS HX HO1 HD;intro HC HS HX HO1 HD
    clear hb
    refine Rte ?_;intro hHeld
    clear hK K
    refine Rw3 ?_
    refine rdz 7 fun K hK=>?_
    ·refine RlK ?_;clear HC HS HX HO1 HO2 HD;intro HN HLE HLT HNA HC HS HX HO1 HO2 HD
     generalize hn13:v2.heap.size=N13 at *
     generalize hw13:v2.alloc (.cells #[.slice none 0 0,.int .i64 0,.int .i64 0,.int .i64 0,.int .i64 0,.int .i64 0,.int .i64 0,.int .i64 0,.int .i64 0] 51)=v3 at *
     clear hn13 hw13
     refine Rte ?_;intro hHeld
     clear hK K
     refine Rhb ?_;intro K hK z0 z1' z2 z3 z4 z5' z6 z7 z8 f0 f1 f2 f3 f4 f5 f6 f7 f8
     obtain⟨WF,hWF⟩:∃ WF,wr9 (v3) N13 (.slice A2 nl k2) r0 r1 r2 r3 r4 r5 r6 r7=WF:=⟨_,rfl⟩
     exact M28
   ·refine RmI ?_;intro hb HN HLE HLT HNA
    refine R00 ?_;clear HC HS HX HO1 HD;intro HC HS HX HO1 HD
    replace HRF:=qh (HRF.o.keep hb)
    clear hb
    generalize hn13:v1.heap.size=N13 at *
    generalize hw13:v1.alloc (.cells #[.slice none 0 0,.int .i64 0,.int .i64 0,.int .i64 0,.int .i64 0,.int .i64 0,.int .i64 0,.int .i64 0,.int .i64 0] 51)=v4 at *
    clear hn13 hw13
    refine Rte ?_;intro hHeld
    clear hK K
    refine rdz 3 fun K hK=>?_
    ·skip
     go_simp
     refine(HN3.o _ _ _ HRF.o).mono ?_
     rintro e v5 ⟨u2,rfl,hown,hb⟩
     rw[HNB.o] at hown
     obtain⟨A2,k2,hu2⟩:=qKK hown
     subst hu2
     have HO2:qH (v5.ownsRow 0 59 2 (.slice A2 nl k2) nl (bkVs LB)):=qh (qXO hown (Nat.zero_le _))
     clear HRF hown
     refine RRm ?_;clear HC HS HX HN HO1 HD hb hK K;intro HC HS HX HN HO1 HD hHeld
     refine Rw3 ?_
     refine Rhb ?_;intro K hK z0 z1' z2 z3 z4 z5' z6 z7 z8 f0 f1 f2 f3 f4 f5 f6 f7 f8
     obtain⟨WF,hWF⟩:∃ WF,wr9 (v5) N13 (.slice A2 nl k2) r0 r1 r2 r3 r4 r5 r6 r7=WF:=⟨_,rfl⟩
     exact M28
  ·refine Ruq ?_;intro hb HN HLE HLT HNA
   refine R00 ?_;clear HC HS HX HO1 HD;intro HC HS HX HO1 HD
   clear hb
   generalize hn13:q0.heap.size=N13 at *
   generalize hw13:q0.alloc (.cells #[.slice none 0 0,.int .i64 0,.int .i64 0,.int .i64 0,.int .i64 0,.int .i64 0,.int .i64 0,.int .i64 0,.int .i64 0] 51)=v6 at *
   clear hn13 hw13
   refine Rte ?_;intro hHeld
   clear hK K
   refine rdz 2 fun K hK=>?_
   ·skip
    go_simp
    obtain⟨o9,hI9,_⟩:=HD.o.i1
    refine Rlb ?_
    rintro e v7 ⟨g,cp,rfl,_,hrow,hb⟩
    have HRF:=qh hrow
    clear hI9 hrow
    refine RRm ?_;clear HC HS HX HN HO1 HD hb hK K;intro HC HS HX HN HO1 HD hHeld
    refine rdz 3 fun K hK=>?_
    ·skip
     go_simp
     refine(HN3.o _ _ _ HRF.o).mono ?_
     rintro e v8 ⟨u2,rfl,hown,hb⟩
     rw[HNB.o] at hown
     obtain⟨A2,k2,hu2⟩:=qKK hown
     subst hu2
     have HO2:qH (v8.ownsRow 0 59 2 (.slice A2 nl k2) nl (bkVs LB)):=qh (qXO hown (Nat.zero_le _))
     clear HRF hown
     refine RRm ?_;clear HC HS HX HN HO1 HD hb hK K;intro HC HS HX HN HO1 HD hHeld
     refine Rw3 ?_
     refine Rhb ?_;intro K hK z0 z1' z2 z3 z4 z5' z6 z7 z8 f0 f1 f2 f3 f4 f5 f6 f7 f8
     obtain⟨WF,hWF⟩:∃ WF,wr9 (v8) N13 (.slice A2 nl k2) r0 r1 r2 r3 r4 r5 r6 r7=WF:=⟨_,rfl⟩
     exact M28
 case rest =>
  obtain⟨N13,k2,A2,A4,rfl,rfl,hN,hO2,hHC,hHS,hHX,hHO1,hD⟩:=hcut
  have HNS:=qh hN
  have HO2:=qh hO2
  replace HC:=qh hHC
  replace HS:=qh hHS
  replace HX:=qh hHX
  replace HO1:=qh hHO1
  replace HD:=qh hD
  clear hN hO2 hHC hHS hHX hHO1 hD
  clear x0 x1 x2 y0 y1
  refine RUl ?_;intro x0 x1 x2 y0 y1
  obtain⟨gw,cw,hvv,_,_⟩:=HO1.o.form hnl1
  injection hvv with hvv hn1 hcc
  clear hn1 hcc
  subst hvv
  obtain⟨gv,cv,hvv,_,_⟩:=HO2.o.form hnl1
  injection hvv with hvv hn1 hcc
  clear hn1 hcc
  subst hvv
  obtain⟨a0,a1,a2,a3,a4,a5,a6,a7,a8⟩:=HNS.o.nine
  obtain⟨b0,b1',b2,b3,b4,b5,b6,b7,b8⟩:=HS.o.nine
  have hEQ:∀ W',(Op.equalIn 10000 49 (.agg #[.int .i64 (r0:Int),.int .i64 (r1:Int),.int .i64 (r2:Int),.int .i64 (r3:Int),.int .i64 (r4:Int),.int .i64 (r5:Int),.int .i64 (r6:Int),.int .i64 (r7:Int)]) (.agg #[.int .i64 (r0:Int),.int .i64 (r1:Int),.int .i64 (r2:Int),.int .i64 (r3:Int),.int .i64 (r4:Int),.int .i64 (r5:Int),.int .i64 (r6:Int),.int .i64 (r7:Int)])).run Tryz.prog W' = .ok true W':=fun W'=>by rw[qXb];simp
  go_wp2_with fail
  go_loopw [14,15] (fun u14 u15 wr=>∃ j:Nat,j<=nl/\u14 = .int .i64 (j:Int)/\qH (Held wr W.heap.size 23 #[.int .i64 (H.t:Int),.int .i64 (H.p:Int),.int .i64 (H.s:Int)])/\qH (Held wr NW 51 #[.slice (some ⟨gw,0,none⟩) nl k1,.int .i64 (r0:Int),.int .i64 (r1:Int),.int .i64 (r2:Int),.int .i64 (r3:Int),.int .i64 (r4:Int),.int .i64 (r5:Int),.int .i64 (r6:Int),.int .i64 (r7:Int)])/\qH (Held wr (W.heap.size+1) 25 #[.int .i64 (p:Int),.int .i64 (k:Int)])/\qH (Held wr N13 51 #[.slice (some ⟨gv,0,none⟩) nl k2,.int .i64 (r0:Int),.int .i64 (r1:Int),.int .i64 (r2:Int),.int .i64 (r3:Int),.int .i64 (r4:Int),.int .i64 (r5:Int),.int .i64 (r6:Int),.int .i64 (r7:Int)])/\qH (wr.ownsRow 0 59 2 (.slice (some ⟨gw,0,none⟩) nl k1) nl (bkVs L))/\qH (wr.ownsRow 0 59 2 (.slice (some ⟨gv,0,none⟩) nl k2) nl (bkVs LB))/\qH (Duo W (vOb z1 b1 n true (qPX vals)) noOb A4 (fun _=>False) (fun g=>g<z1) s3 freshS wr)) (fun u14 u15 _=>nl-(intOf u14).toNat)
  case atStart=>exact⟨0,qo,rfl,HC,HS,HX,HNS,HO1,HO2,HD⟩
  case round =>
   clear HC HS HX HNS HO1 HO2 HD a0 a1 a2 a3 a4 a5 a6 a7 a8 b0 b1' b2 b3 b4 b5 b6 b7 b8
   clear x0 x1 x2 y0 y1
   obtain⟨j,hj,rfl,HC,HS,HX,HNS,HO1,HO2,HD⟩:=hrel
   refine RUl ?_;intro x0 x1 x2 y0 y1
   obtain⟨d0,d1,d2,d3,d4,d5,d6,d7,d8⟩:=HNS.o.nine
   obtain⟨f0,f1,f2,f3,f4,f5,f6,f7,f8⟩:=HS.o.nine
   by_cases hlt:j<nl
   ·have t1:decide ((j:Int)<(nl:Int))=true:=qt
    have t1n:decide (j<nl)=true:=decide_eq_true hlt
    obtain⟨x,hxj⟩:∃ x,L[j]?=some x:=⟨_,List.getElem?_eq_getElem (by have:=HNL.o;omega)⟩
    have hyj:LB[j]?=some (if x.1=fa then (x.1,sz) else x):=by rw[HMAP.o,List.getElem?_map,hxj];rfl
    obtain⟨p0,p1⟩:=qGH HO1.o HNL.o hxj
    obtain⟨xa,xz⟩:=x
    simp only at p0 p1 hyj
    have hkk1:=qPd HO1.o
    have hkk2:=qPd HO2.o
    by_cases hxa:xa=fa
    ·rw[if_pos hxa] at hyj
     obtain⟨yz,hyz⟩:∃ yz,yz=sz:=⟨_,rfl⟩
     rw[<- hyz] at hyj
     have HBK:qH (∀ w':World,w'.ownsRow 0 59 2 (.slice (some ⟨gv,0,none⟩) nl k2) nl (bkVs LB)->w'.cell? ⟨gv,j*2,none⟩=some (.int .i64 xa)/\w'.cell? ⟨gv,j*2+1,none⟩=some (.int .i64 yz)):=qh (fun w' h=>qGH h HNB.o hyj)
     subst hxa hyz
     have q0:(xa==xa)=true:=by simp
     have q1:(yz==yz)=true:=by simp
     have q2:(yz != yz)=false:=by simp
     clear hxj hyj
     refine RS0 ?_;intro g0 g1 e0 e1 e2 e3
     go_wp2_with fail
     clear d0 d1 d2 d3 d4 d5 d6 d7 d8 f0 f1 f2 f3 f4 f5 f6 f7 f8 x0 x1 x2 y0 y1 g0 g1 e0 e1 e2 e3
     have hb:=Bnew (B0 wr) (.cells #[.int .i64 xa,.int .i64 yz] 59)
     have HBX:=qh (Held.new wr 59 #[.int .i64 xa,.int .i64 yz])
     replace HC:=qh (HC.o.keep hb)
     replace HS:=qh (HS.o.keep hb)
     replace HX:=qh (HX.o.keep hb)
     replace HNS:=qh (HNS.o.keep hb)
     replace HO1:=qh (qEc HO1.o hb)
     replace HO2:=qh (qEc HO2.o hb)
     replace HD:=qh (HD.o.keep hb)
     generalize hNB:wr.heap.size=NB at *
     generalize hwb:wr.alloc (.cells #[.int .i64 xa,.int .i64 yz] 59)=wb at *
     clear hb hNB hwb p0 p1
     refine Rs3 ?_;clear HC HS HX HNS HBX HO1 HO2 HD;intro HC HS HX HNS HBX HO1 HO2 HD
     refine wp_region_held_drew (S:=(fun w'=>w'.cell? ⟨N13,0,none⟩=some (.slice (some ⟨gv,0,none⟩) nl k2)/\w'.cell? ⟨gv,j*2,none⟩=some (.int .i64 xa)/\w'.cell? ⟨gv,j*2+1,none⟩=some (.int .i64 yz)/\w'.cell? ⟨NB,0,none⟩=some (.int .i64 xa)/\w'.cell? ⟨NB,1,none⟩=some (.int .i64 yz))) qr ?_ (fun hHeld=>?_)
     ·exact MnK
     exact Mi0
    ·rw[if_neg hxa] at hyj
     have HBK:qH (∀ w':World,w'.ownsRow 0 59 2 (.slice (some ⟨gv,0,none⟩) nl k2) nl (bkVs LB)->w'.cell? ⟨gv,j*2,none⟩=some (.int .i64 xa)/\w'.cell? ⟨gv,j*2+1,none⟩=some (.int .i64 xz)):=qh (fun w' h=>qGH h HNB.o hyj)
     have q0:(xa==fa)=false:=by simpa using hxa
     have q1:(xa==xa)=true:=by simp
     have q2:(xz==xz)=true:=by simp
     clear hxj hyj hxa
     refine RS0 ?_;intro g0 g1 e0 e1 e2 e3
     go_wp2_with fail
     clear d0 d1 d2 d3 d4 d5 d6 d7 d8 f0 f1 f2 f3 f4 f5 f6 f7 f8 x0 x1 x2 y0 y1 g0 g1 e0 e1 e2 e3
     have hb:=Bnew (B0 wr) (.cells #[.int .i64 xa,.int .i64 xz] 59)
     have HBX:=qh (Held.new wr 59 #[.int .i64 xa,.int .i64 xz])
     replace HC:=qh (HC.o.keep hb)
     replace HS:=qh (HS.o.keep hb)
     replace HX:=qh (HX.o.keep hb)
     replace HNS:=qh (HNS.o.keep hb)
     replace HO1:=qh (qEc HO1.o hb)
     replace HO2:=qh (qEc HO2.o hb)
     replace HD:=qh (HD.o.keep hb)
     generalize hNB:wr.heap.size=NB at *
     generalize hwb:wr.alloc (.cells #[.int .i64 xa,.int .i64 xz] 59)=wb at *
     clear hb hNB hwb p0 p1
     refine Rs3 ?_;clear HC HS HX HNS HBX HO1 HO2 HD;intro HC HS HX HNS HBX HO1 HO2 HD
     refine wp_region_held_drew (S:=(fun w'=>w'.cell? ⟨N13,0,none⟩=some (.slice (some ⟨gv,0,none⟩) nl k2)/\w'.cell? ⟨gv,j*2,none⟩=some (.int .i64 xa)/\w'.cell? ⟨gv,j*2+1,none⟩=some (.int .i64 xz)/\w'.cell? ⟨NB,0,none⟩=some (.int .i64 xa)/\w'.cell? ⟨NB,1,none⟩=some (.int .i64 xz))) qr ?_ (fun hHeld=>?_)
     ·exact MnK
     exact Mi0
   ·have t1:decide ((j:Int)<(nl:Int))=false:=qf
    have t1n:decide (j<nl)=false:=decide_eq_false hlt
    clear HNS HO2
    have HBT:=qh (HBACK.o HOK3.o)
    go_wp2_with fail
    refine(qQF hn40 hq10 p k (ll:Int) 2 0 true HIN.o hpk HD.o.at1).mono ?_
    rintro e w6 ⟨rfl,h1,_⟩
    obtain⟨A4,h2,h3⟩:=HD.o.left1 h1.left
    rw[HS5.o] at h2
    rw[HBT.o]
    replace HC:=qh (h3.held HZC.o HC.o)
    replace HS:=qh (h3.held HZS.o HS.o)
    replace HO1:=qh (h3.own HZR.o HO1.o)
    replace HX:=qh (h3.held HZHX.o HX.o)
    replace HD:=qh h2
    clear h1 h2 h3 x0 x1 x2 y0 y1
    refine RUl ?_;intro x0 x1 x2 y0 y1
    clear d0 d1 d2 d3 d4 d5 d6 d7 d8 f0 f1 f2 f3 f4 f5 f6 f7 f8
    have HOK5:qH (VOk n s5):=qh (by obtain⟨o,hI,_⟩:=HD.o.i1;exact hI.ok)
    have HN5:=qh (HNOW5.o HOK3.o HOK5.o)
    go_wp2_with fail
    go_cut [17,18] from 138 to 144 (fun u17 u18 wx=>∃ (N17 k5:Nat) (A5:Option Addr) (A4:Nat->Prop),u17 = .pointer (some ⟨N17,0,none⟩)/\u18 = .bool true/\Held wx N17 51 #[.slice A5 nl k5,.int .i64 (r0:Int),.int .i64 (r1:Int),.int .i64 (r2:Int),.int .i64 (r3:Int),.int .i64 (r4:Int),.int .i64 (r5:Int),.int .i64 (r6:Int),.int .i64 (r7:Int)]/\wx.ownsRow 0 59 2 (.slice A5 nl k5) nl (bkVs L)/\Held wx W.heap.size 23 #[.int .i64 (H.t:Int),.int .i64 (H.p:Int),.int .i64 (H.s:Int)]/\Held wx NW 51 #[.slice (some ⟨gw,0,none⟩) nl k1,.int .i64 (r0:Int),.int .i64 (r1:Int),.int .i64 (r2:Int),.int .i64 (r3:Int),.int .i64 (r4:Int),.int .i64 (r5:Int),.int .i64 (r6:Int),.int .i64 (r7:Int)]/\Held wx (W.heap.size+1) 25 #[.int .i64 (p:Int),.int .i64 (k:Int)]/\wx.ownsRow 0 59 2 (.slice (some ⟨gw,0,none⟩) nl k1) nl (bkVs L)/\Duo W (vOb z1 b1 n true (qPX vals)) noOb A4 (fun _=>False) (fun g=>g<z1) s5 freshS wx)
    case first =>
     refine RYl ?_;clear HC HS HX HO1 HD;intro HC HS HX HO1 HD hHeld
     generalize hq0:World.drew w6=q0 at HC HS HX HO1 HD hHeld ⊢
     clear hq0
     refine tkz 0 ?_
     refine tkz 1 ?_
     refine wpAnyH_ready (rs := [2,7]) qr (by simp) ?_
     refine AllReadyH.cons (o:=_) rfl (fun K hK=>?_) (AllReadyH.cons (o:=_) rfl (fun K hK=>?_) AllReadyH.nil)
     ·skip
      go_simp
      obtain⟨o9,hI9,_⟩:=HD.o.i1
      refine Rlb ?_
      rintro e v1 ⟨g,cp,rfl,_,hrow,hb⟩
      have HRF:=qh hrow
      clear hI9 hrow
      refine R00 ?_;clear HC HS HX HO1 HD;intro HC HS HX HO1 HD
      clear hb
      refine Rte ?_;intro hHeld
      clear hK K
      refine wpAnyH_ready (rs := [3,7]) qr (by simp) ?_
      refine AllReadyH.cons (o:=_) rfl (fun K hK=>?_) (AllReadyH.cons (o:=_) rfl (fun K hK=>?_) AllReadyH.nil)
      ·skip
       go_simp
       refine(HN5.o _ _ _ HRF.o).mono ?_
       rintro e v2 ⟨u2,rfl,hown,hb⟩
       rw[HNL.o] at hown
       obtain⟨A5,k5,hu2⟩:=qKK hown
       subst hu2
       have HO2:qH (v2.ownsRow 0 59 2 (.slice A5 nl k5) nl (bkVs L)):=qh (qXO hown (Nat.zero_le _))
       clear HRF hown
       refine R00 ?_;clear HC HS HX HO1 HD;intro HC HS HX HO1 HD
       clear hb
       refine Rte ?_;intro hHeld
       clear hK K
       refine Rw3 ?_
       refine rdz 7 fun K hK=>?_
       ·refine RlK ?_;clear HC HS HX HO1 HO2 HD;intro HN HLE HLT HNA HC HS HX HO1 HO2 HD
        generalize hn13:v2.heap.size=N17 at *
        generalize hw13:v2.alloc (.cells #[.slice none 0 0,.int .i64 0,.int .i64 0,.int .i64 0,.int .i64 0,.int .i64 0,.int .i64 0,.int .i64 0,.int .i64 0] 51)=v3 at *
        clear hn13 hw13
        refine Rte ?_;intro hHeld
        clear hK K
        refine Rhb ?_;intro K hK z0 z1' z2 z3 z4 z5' z6 z7 z8 f0 f1 f2 f3 f4 f5 f6 f7 f8
        obtain⟨WF,hWF⟩:∃ WF,wr9 (v3) N17 (.slice A5 nl k5) r0 r1 r2 r3 r4 r5 r6 r7=WF:=⟨_,rfl⟩
        exact M28
      ·refine RmI ?_;intro hb HN HLE HLT HNA
       refine R00 ?_;clear HC HS HX HO1 HD;intro HC HS HX HO1 HD
       replace HRF:=qh (HRF.o.keep hb)
       clear hb
       generalize hn13:v1.heap.size=N17 at *
       generalize hw13:v1.alloc (.cells #[.slice none 0 0,.int .i64 0,.int .i64 0,.int .i64 0,.int .i64 0,.int .i64 0,.int .i64 0,.int .i64 0,.int .i64 0] 51)=v4 at *
       clear hn13 hw13
       refine Rte ?_;intro hHeld
       clear hK K
       refine rdz 3 fun K hK=>?_
       ·skip
        go_simp
        refine(HN5.o _ _ _ HRF.o).mono ?_
        rintro e v5 ⟨u2,rfl,hown,hb⟩
        rw[HNL.o] at hown
        obtain⟨A5,k5,hu2⟩:=qKK hown
        subst hu2
        have HO2:qH (v5.ownsRow 0 59 2 (.slice A5 nl k5) nl (bkVs L)):=qh (qXO hown (Nat.zero_le _))
        clear HRF hown
        refine RRm ?_;clear HC HS HX HN HO1 HD hb hK K;intro HC HS HX HN HO1 HD hHeld
        refine Rw3 ?_
        refine Rhb ?_;intro K hK z0 z1' z2 z3 z4 z5' z6 z7 z8 f0 f1 f2 f3 f4 f5 f6 f7 f8
        obtain⟨WF,hWF⟩:∃ WF,wr9 (v5) N17 (.slice A5 nl k5) r0 r1 r2 r3 r4 r5 r6 r7=WF:=⟨_,rfl⟩
        exact M28
     ·refine Ruq ?_;intro hb HN HLE HLT HNA
      refine R00 ?_;clear HC HS HX HO1 HD;intro HC HS HX HO1 HD
      clear hb
      generalize hn13:q0.heap.size=N17 at *
      generalize hw13:q0.alloc (.cells #[.slice none 0 0,.int .i64 0,.int .i64 0,.int .i64 0,.int .i64 0,.int .i64 0,.int .i64 0,.int .i64 0,.int .i64 0] 51)=v6 at *
      clear hn13 hw13
      refine Rte ?_;intro hHeld
      clear hK K
      refine rdz 2 fun K hK=>?_
      ·skip
       go_simp
       obtain⟨o9,hI9,_⟩:=HD.o.i1
       refine Rlb ?_
       rintro e v7 ⟨g,cp,rfl,_,hrow,hb⟩
       have HRF:=qh hrow
       clear hI9 hrow
       refine RRm ?_;clear HC HS HX HN HO1 HD hb hK K;intro HC HS HX HN HO1 HD hHeld
       refine rdz 3 fun K hK=>?_
       ·skip
        go_simp
        refine(HN5.o _ _ _ HRF.o).mono ?_
        rintro e v8 ⟨u2,rfl,hown,hb⟩
        rw[HNL.o] at hown
        obtain⟨A5,k5,hu2⟩:=qKK hown
        subst hu2
        have HO2:qH (v8.ownsRow 0 59 2 (.slice A5 nl k5) nl (bkVs L)):=qh (qXO hown (Nat.zero_le _))
        clear HRF hown
        refine RRm ?_;clear HC HS HX HN HO1 HD hb hK K;intro HC HS HX HN HO1 HD hHeld
        refine Rw3 ?_
        refine Rhb ?_;intro K hK z0 z1' z2 z3 z4 z5' z6 z7 z8 f0 f1 f2 f3 f4 f5 f6 f7 f8
        obtain⟨WF,hWF⟩:∃ WF,wr9 (v8) N17 (.slice A5 nl k5) r0 r1 r2 r3 r4 r5 r6 r7=WF:=⟨_,rfl⟩
        exact M28
    case rest =>
     obtain⟨N17,k5,A5,A4,rfl,rfl,hN,hO2,hHC,hHS,hHX,hHO1,hD⟩:=hcut
     have HNS:=qh hN
     have HO2:=qh hO2
     replace HC:=qh hHC
     replace HS:=qh hHS
     replace HX:=qh hHX
     replace HO1:=qh hHO1
     replace HD:=qh hD
     clear hN hO2 hHC hHS hHX hHO1 hD
     clear x0 x1 x2 y0 y1
     refine RUl ?_;intro x0 x1 x2 y0 y1
     obtain⟨a0,a1,a2,a3,a4,a5,a6,a7,a8⟩:=HNS.o.nine
     obtain⟨b0,b1',b2,b3,b4,b5,b6,b7,b8⟩:=HS.o.nine
     go_wp2_with fail
     refine(qVO L L A5 (some ⟨gw,0,none⟩) nl nl k5 k1 0 0 r0 r1 r2 r3 r4 r5 r6 r7 r0 r1 r2 r3 r4 r5 r6 r7 _ HNL.o HNL.o hnlb2 hnlb2 HO2.o HO1.o true ⟨fun _=>⟨rfl,rfl⟩,fun _=>rfl⟩).mono ?_
     rintro e w6 ⟨rfl,hb⟩
     replace HC:=qh (HC.o.keep hb)
     replace HS:=qh (HS.o.keep hb)
     replace HO1:=qh (qEc HO1.o hb)
     replace HD:=qh (HD.o.keep hb)
     clear hb a0 a1 a2 a3 a4 a5 a6 a7 a8 b0 b1' b2 b3 b4 b5 b6 b7 b8 x0 x1 x2 y0 y1
     refine RUl ?_;intro x0 x1 x2 y0 y1
     have HB:=qh HD.o.bel
     exact MSB

theorem qNn (t q s x0v xx:Int)(A:Option Addr)(c:Nat)(vals:List Nat)(hnc:vals.length<=c)(hcm:c<=maxLen)(h32:∀ x∈vals,x<2^32)(W:World)(HR:qH (Reads W W.heap.size 1 A vals.length (valVs vals))) :
  Calls Tryz.prog 5 #[.agg #[.int .i64 t,.int .i64 q,.int .i64 s],.slice A vals.length c,.agg #[.int .i64 x0v,.int .i64 xx]] W (Keeps W):=by
 by_cases hq:q<=64
 ·rcases qXV W t q s A c vals hnc hcm h32 HR.o with ⟨m,hX⟩|⟨H,ad,m,rfl,rfl,rfl,rfl,hV,HV,hv,hto,hX⟩
  ·exact qFF t q s x0v xx A _ c m hq W (qh hX)
  ·by_cases h0:x0v<0\/(H.p:Int)<=x0v
   ·exact qTL _ _ _ x0v xx _ _ c m hq W (qh hX) (qh fun w hw=>qBo _ _ _ x0v _ _ c h0 w)
   ·obtain⟨p,rfl⟩:=Int.eq_ofNat_of_zero_le (show 0<=x0v by omega)
    have hp:p<H.p:=qo
    by_cases hk:H.K p=2
    ·have hK:∀ i,i<vals.length->qPX vals i=some (H.V i):=fun i hi=>by
      unfold qPX
      rw[hV i,List.getElem?_eq_getElem hi]
      simp[List.getD,List.getElem?_eq_getElem hi]
     have hr:=qAW hto
     obtain⟨L,hok⟩:=AuH.okL_of (by have:=HV.nums;omega) hr
     have W0:=Work.of_ok hok HV hK
     have HU:qH (∀ w,Below W.heap.size W w->Calls Tryz.prog 17 #[.agg #[.int .i64 (H.t:Int),.int .i64 (H.p:Int),.int .i64 (H.s:Int)],.slice (some ad) vals.length c,.int .i64 (p:Int)] w fun e w'=>e = .returned (.int .i64 (H.ln p:Int))/\Below w.heap.size w w'):=qh fun w hw=>by
      have h:=qHy HV ad hp w (hv.below hw)
      unfold usedN at h
      rw[if_pos hk] at h
      exact h
     have hnow:nowH H vals.length (qPX vals) freshS=H:=qSi (H:=H) hK
     rcases qNb HV hok W0 hnow hp hk rfl xx with ⟨h1,k,rfl,T⟩|⟨h1,h2,h3⟩
     ·exact qPD ad _ c m HV p _ vals (qh rfl) (qh h32) hV qo hr hp hk rfl k _ (by rw[<- h1]) T W HR (qh hv) (qh hX) HU
     ·exact qVS ad _ c m HV p _ vals (qh rfl) (qh h32) hV qo hr hp hk rfl xx _ (by rw[<- h1]) h2 h3 W HR (qh hv) (qh hX) HU
    ·exact qTL _ _ _ (p:Int) xx _ _ c m hq W (qh hX) (qh fun w hw=>by
      have h:=qHy HV ad hp w (hv.below hw)
      unfold usedN at h
      rw[if_neg hk] at h
      exact h)
 ·exact qLm t q s x0v xx A _ c 0 qo W
end
end Go.Proofs.YtgifnhcknodekaaGreat
