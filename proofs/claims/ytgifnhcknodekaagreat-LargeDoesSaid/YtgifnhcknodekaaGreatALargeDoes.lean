/-
  The law LargeDoes: the walk. Written by large/gen_does.py.
-/
import Derived.Test.YtgifnhcknodekaaGreatA14
import Derived.Test.YtgifnhcknodekaaGreatA16
import Derived.Test.YtgifnhcknodekaaGreatA13
namespace Go.Proofs.YtgifnhcknodekaaGreat
theorem RVd {P Q:Prop}(kq:Q)(h:HQ Q->P:=by
 intro kq
 have HC:=qh ((Held.new W 23 #[.int .i64 t,.int .i64 q,.int .i64 s]).alloc (.cells #[.int .i64 x0,.int .i64 x1] 25))
 have HX:=qh (Held.new2 W (.cells #[.int .i64 t,.int .i64 q,.int .i64 s] 23) 25 #[.int .i64 x0,.int .i64 x1])
 have HB:=qh (Bnew (Bnew (B0 W) (.cells #[.int .i64 t,.int .i64 q,.int .i64 s] 23)) (.cells #[.int .i64 x0,.int .i64 x1] 25))
 obtain⟨x0',x1',x2'⟩:=HC.o.three
 obtain⟨y0',y1'⟩:=HX.o.two
 revert HC HX HB x0' x1' x2' y0' y1'
 exact kq.o):P:=h ⟨kq⟩
theorem Mv5 {P:Prop}(h:P:=by
 replace HC:=qh (HC.o.keep hb)
 replace HX:=qh (HX.o.keep hb)
 replace HB:=qh (Bgo HB.o hb)
 clear hb
 clear x0' x1' x2' y0' y1'
 obtain⟨x0',x1',x2'⟩:=HC.o.three
 obtain⟨y0',y1'⟩:=HX.o.two
 go_wp2_with fail
 refine(qVa _).mono ?_
 rintro e w19 ⟨rfl,hb⟩
 have HBL:=qh (Bgo HB.o hb)
 clear hb
 go_wp2
 go_ret
 exact⟨rfl,HBL.o⟩):P:=h
theorem Mgr {P:Prop}(h:P:=by subst hg;exact⟨HC.o.lt,fun x=>by have:=HV3.o.ge _ x;omega,fun x=>by have:=HA3.o.parts.ge _ x;omega⟩):P:=h
theorem M8R {P:Prop}(h:P:=by first|exact⟨HC.o.three.1,HC.o.three.2.1,HC.o.three.2.2,HX.o.two.1,HX.o.two.2⟩|exact hHeld):P:=h
end Go.Proofs.YtgifnhcknodekaaGreat
set_option linter.unusedVariables false
set_option linter.unusedSimpArgs false
set_option maxRecDepth 100000
set_option maxHeartbeats 25600000
namespace Go.Proofs.YtgifnhcknodekaaGreat
open Go.ChangeShapes Go.WideShapes Go.ChangeAt Go.RowKit Go.Maps
section
def qOL (vals:List Nat):Nat->Option Nat:=fun i=>vals[i]?
theorem qZN (t q s x0 x1:Int)(A:Option Addr)(n c m:Nat)(hq:64<q)(W:World)  : Calls Tryz.prog 3 #[.agg #[.int .i64 t,.int .i64 q,.int .i64 s],.slice A n c,.agg #[.int .i64 x0,.int .i64 x1]] W (Keeps W):=by
 have t2:decide (q<=(64:Int))=false:=qf
 refine RVd ?_;intro HC HX HB x0' x1' x2' y0' y1'
 go_enter Tryz.func3,Tryz.ntmps3
 go_wp2_with fail
 refine(qYU t q s _).mono ?_
 rintro e w1 ⟨rfl,hb⟩
 rw[t2]
 exact Mv5

theorem qXb (t q s x0 x1:Int)(A:Option Addr)(n c m:Nat)(hq:q<=64)(W:World)(hX:qH (XCheckIs W t q s A n c m false)):Calls Tryz.prog 3 #[.agg #[.int .i64 t,.int .i64 q,.int .i64 s],.slice A n c,.agg #[.int .i64 x0,.int .i64 x1]] W (Keeps W):=by
 have t2:decide (q<=(64:Int))=true:=qt
 refine RVd ?_;intro HC HX HB x0' x1' x2' y0' y1'
 go_enter Tryz.func3,Tryz.ntmps3
 go_wp2_with fail
 refine(qYU t q s _).mono ?_
 rintro e w1 ⟨rfl,hb⟩
 rw[t2]
 replace HC:=qh (HC.o.keep hb)
 replace HX:=qh (HX.o.keep hb)
 replace HB:=qh (Bgo HB.o hb)
 clear hb
 clear x0' x1' x2' y0' y1'
 obtain⟨x0',x1',x2'⟩:=HC.o.three
 obtain⟨y0',y1'⟩:=HX.o.two
 go_wp2_with fail
 refine(qHm t q s A n c m false _ (hX.o.grown HB.o)).mono ?_
 rintro e w2 ⟨rfl,hb⟩
 exact Mv5

theorem qH6 (t q s x0 x1:Int)(A:Option Addr)(c n m:Nat)(vals:List Nat)(HNN:qH (vals.length=n))(H32:qH (∀ x∈vals,x<2^32))
  (hn:n<=6238) (hq:q<=64) (hnc:n<=c) (hcm:c<=maxLen) (W:World) (HR:qH (Reads W W.heap.size 1 A n (valVs vals))) (hX:qH (XCheckIs W t q s A n c m true))
  (HU:qH (∀ w,Below W.heap.size W w->Calls Tryz.prog 17 #[.agg #[.int .i64 t,.int .i64 q,.int .i64 s],.slice A n c,.int .i64 x0] w fun e w'=>e = .returned (.int .i64 0)/\Below w.heap.size w w')) :
  Calls Tryz.prog 3 #[.agg #[.int .i64 t,.int .i64 q,.int .i64 s],.slice A n c,.agg #[.int .i64 x0,.int .i64 x1]] W (Keeps W):=by
 have t2:decide (q<=(64:Int))=true:=qt
 have hcm2:c<=9223372036854775807:=hcm
 have hq10:q<=1024:=qo
 have hn40:n<2^40:=qo
 have HC:=qh ((Held.new W 23 #[.int .i64 t,.int .i64 q,.int .i64 s]).alloc (.cells #[.int .i64 x0,.int .i64 x1] 25))
 have HX:=qh (Held.new2 W (.cells #[.int .i64 t,.int .i64 q,.int .i64 s] 23) 25 #[.int .i64 x0,.int .i64 x1])
 have HB:=qh (Bnew (Bnew (B0 W) (.cells #[.int .i64 t,.int .i64 q,.int .i64 s] 23)) (.cells #[.int .i64 x0,.int .i64 x1] 25))
 obtain⟨x0',x1',x2'⟩:=HC.o.three
 obtain⟨y0',y1'⟩:=HX.o.two
 go_enter Tryz.func3,Tryz.ntmps3
 go_wp2_with fail
 refine(qYU t q s _).mono ?_
 rintro e w1 ⟨rfl,hb⟩
 rw[t2]
 replace HC:=qh (HC.o.keep hb)
 replace HX:=qh (HX.o.keep hb)
 replace HB:=qh (Bgo HB.o hb)
 clear hb
 clear x0' x1' x2' y0' y1'
 obtain⟨x0',x1',x2'⟩:=HC.o.three
 obtain⟨y0',y1'⟩:=HX.o.two
 go_wp2_with fail
 refine(qHm t q s A n c m true _ (hX.o.grown HB.o)).mono ?_
 rintro e w2 ⟨rfl,hb⟩
 replace HC:=qh (HC.o.keep hb)
 replace HX:=qh (HX.o.keep hb)
 replace HB:=qh (Bgo HB.o hb)
 clear hb
 clear x0' x1' x2' y0' y1'
 obtain⟨x0',x1',x2'⟩:=HC.o.three
 obtain⟨y0',y1'⟩:=HX.o.two
 have HL0:qH (W.heap.size<w2.heap.size):=qh HC.o.lt
 have HL9:qH (W.heap.size+1<w2.heap.size):=qh HX.o.lt
 have HWS:qH (W.heap.size<=w2.heap.size):=qh HB.o.size
 have HR1:qH (Reads w2 w2.heap.size 1 A n (valVs vals)):=qh ((HR.o.below HB.o).more HB.o.size)
 go_wp2_with fail
 refine(qWm A c vals n HNN.o qo H32.o _ (by
  intro h0
  obtain⟨ad',e,_,hc⟩:=HR1.o.2 h0
  exact⟨ad',e,hc⟩)).mono ?_
 rintro e w3 ⟨b1,o1,rfl,hI,hB⟩
 have HV2:qH (IsView w3 w2.heap.size b1 n true o1 (qOL vals) freshS):=qh hI
 replace HB:=qh (Bgo HB.o hB)
 have HR2:qH (Reads w3 w3.heap.size 1 A n (valVs vals)):=qh ((HR1.o.below hB).more hB.size)
 replace HC:=qh (HC.o.keep hB)
 replace HX:=qh (HX.o.keep hB)
 have HLT:qH ((W.heap.size)<w2.heap.size/\((W.heap.size+1))<w2.heap.size):=qh ⟨HL0.o,HL9.o⟩
 have HWZ:qH (W.heap.size<=w2.heap.size):=qh HWS.o
 clear hI hB HR1
 clear x0' x1' x2' y0' y1'
 obtain⟨x0',x1',x2'⟩:=HC.o.three
 obtain⟨y0',y1'⟩:=HX.o.two
 go_wp2_with fail
 refine(qJu A c vals n HNN.o qo hnc hcm H32.o _ HR2.o).mono ?_
 rintro e w4 ⟨b2,v2,rfl,hI,hB⟩
 have HV3:=qh (HV2.o.keep hB)
 have HA3:qH (IsRefV w4 w3.heap.size b2 n true v2 (qOL vals) freshS):=qh hI
 replace HB:=qh (Bgo HB.o hB)
 replace HC:=qh (HC.o.keep hB)
 replace HX:=qh (HX.o.keep hB)
 have HL2:qH (∀ i,o1.A b1 i->i<w3.heap.size):=qh HV2.o.lt
 have HLA:qH (w2.heap.size<=w3.heap.size):=qh (by have h1:=HV2.o.head.lt;have h2:=HV2.o.ge b1 (.inl (.inl (.inl rfl)));omega)
 clear hI hB HV2 HR2
 generalize hz1:w2.heap.size=z1 at *
 generalize hz2:w3.heap.size=z2 at *
 have HD:qH (Duo W (vOb z1 b1 n true (qOL vals)) (rOb z2 b2 n true (qOL vals)) (o1.A b1) (OwnF b2 6 v2) (fun g=>g=W.heap.size\/g=(W.heap.size+1)) freshS freshS w4):=qh ⟨⟨o1,HV3.o,rfl⟩,⟨v2,HA3.o,rfl⟩,fun i hi hj=>by have:=HL2.o i hi;have:=HA3.o.parts.ge i hj;omega,fun g hg=>by
   have hl:=HLT.o
   have hl1:=HLA.o
   have hlt:=HV3.o.head.lt
   rcases hg with hg|hg
   ·exact Mgr
   ·subst hg;exact⟨HX.o.lt,fun x=>by have:=HV3.o.ge _ x;omega,fun x=>by have:=HA3.o.parts.ge _ x;omega⟩,fun i hi=>by
   have:=HWZ.o
   rcases hi with hi|hi
   ·have:=HV3.o.ge _ hi;omega
   ·have:=HA3.o.parts.ge _ hi;have:=HLA.o;omega,HB.o⟩
 clear HV3 HA3 HL2 HL0 HLA HL9 HLT HWZ hz1 hz2
 clear x0' x1' x2' y0' y1'
 obtain⟨x0',x1',x2'⟩:=HC.o.three
 obtain⟨y0',y1'⟩:=HX.o.two
 obtain⟨fv,hfv⟩:∃ fv,foundI (allocL n (qOL vals) t q s x1 freshS).1=fv:=⟨_,rfl⟩
 obtain⟨fb,hfb⟩:∃ fb,(allocL n (qOL vals) t q s x1 freshS).1.isSome=fb:=⟨_,rfl⟩
 have HFV:=qh hfv
 have HFB:=qh hfb
 clear hfv hfb
 have hvv:(fv != fv)=false:=by simp
 have hbb:(fb != fb)=false:=by simp
 obtain⟨sx,hsx⟩:∃ sx,(allocL n (qOL vals) t q s x1 freshS).2=sx:=⟨_,rfl⟩
 have HSX:=qh hsx
 clear hsx
 go_wp2_with fail
 refine(qHr hn40 hq10 x1 HD.o.at1).mono ?_
 rintro e w5 ⟨rfl,h1,_⟩
 obtain⟨A4,h2,h3⟩:=HD.o.left1 h1.left
 rw[HFV.o,HFB.o]
 rw[HSX.o] at h2
 replace HC:=qh (h3.held (.inl rfl) HC.o)
 replace HX:=qh (h3.held (.inr rfl) HX.o)
 replace HD:=qh h2
 clear h1 h2 h3
 clear x0' x1' x2' y0' y1'
 obtain⟨x0',x1',x2'⟩:=HC.o.three
 obtain⟨y0',y1'⟩:=HX.o.two
 go_wp2_with fail
 refine(qYt hn40 hq10 x1 HD.o.at2).mono ?_
 rintro e w6 ⟨rfl,h1,_⟩
 obtain⟨A4,h2,h3⟩:=HD.o.left2 h1.left
 rw[HFV.o,HFB.o]
 rw[HSX.o] at h2
 replace HC:=qh (h3.held (.inl rfl) HC.o)
 replace HX:=qh (h3.held (.inr rfl) HX.o)
 replace HD:=qh h2
 clear h1 h2 h3
 clear HFV HFB HSX
 clear x0' x1' x2' y0' y1'
 obtain⟨x0',x1',x2'⟩:=HC.o.three
 obtain⟨y0',y1'⟩:=HX.o.two
 obtain⟨o,hI,_⟩:=HD.o.i1
 obtain⟨v,hR,_⟩:=HD.o.i2
 have HV:=qh hI
 have HAA:=qh hR
 replace HB:=qh HD.o.bel
 have HL:qH (sx.rd.length<2^40/\sx.wr.length<2^40):=qh (by have:=hI.ok.few;omega)
 clear hI hR HD
 go_wp2_with fail
 refine(qLN HL.o.1 _ HV.o).mono ?_
 rintro e w90 ⟨r6,rfl,ho,hb⟩
 replace HV:=qh (HV.o.keep hb)
 replace HAA:=qh (HAA.o.keep hb)
 replace HB:=qh (Bgo HB.o hb)
 replace HC:=qh (HC.o.keep hb)
 replace HX:=qh (HX.o.keep hb)
 have HR6:=qh (qW4 ho)
 clear hb ho
 clear x0' x1' x2' y0' y1'
 obtain⟨x0',x1',x2'⟩:=HC.o.three
 obtain⟨y0',y1'⟩:=HX.o.two
 go_wp2_with fail
 refine(qD3 HL.o.2 _ HV.o).mono ?_
 rintro e w91 ⟨r7,rfl,ho,hb⟩
 replace HV:=qh (HV.o.keep hb)
 replace HAA:=qh (HAA.o.keep hb)
 replace HB:=qh (Bgo HB.o hb)
 replace HC:=qh (HC.o.keep hb)
 replace HX:=qh (HX.o.keep hb)
 have HP7:=qh (RowP.of_own ho)
 have HR7:=qh (HR6.o.below hb)
 clear hb ho HR6
 clear x0' x1' x2' y0' y1'
 obtain⟨x0',x1',x2'⟩:=HC.o.three
 obtain⟨y0',y1'⟩:=HX.o.two
 go_wp2_with fail
 refine(qIp _ HV.o).mono ?_
 rintro e w92 ⟨rfl,hw⟩
 subst hw
 go_wp2_with fail
 refine(qCG HL.o.1 HL.o.2 r6 r7 _ HAA.o HR7.o HP7.o).mono ?_
 rintro e w93 ⟨rfl,hb⟩
 replace HB:=qh (Bgo HB.o hb)
 replace HC:=qh (HC.o.keep hb)
 replace HX:=qh (HX.o.keep hb)
 clear hb HV HAA HR7 HP7 HL
 clear x0' x1' x2' y0' y1'
 obtain⟨x0',x1',x2'⟩:=HC.o.three
 obtain⟨y0',y1'⟩:=HX.o.two
 go_wp2_with fail
 refine(HU.o _ HB.o).mono ?_
 rintro e w2 ⟨rfl,hb⟩
 replace HC:=qh (HC.o.keep hb)
 replace HX:=qh (HX.o.keep hb)
 replace HB:=qh (Bgo HB.o hb)
 clear hb
 clear x0' x1' x2' y0' y1'
 obtain⟨x0',x1',x2'⟩:=HC.o.three
 obtain⟨y0',y1'⟩:=HX.o.two
 go_wp2_with fail
 refine(qVa _).mono ?_
 rintro e w19 ⟨rfl,hb⟩
 have HBL:=qh (Bgo HB.o hb)
 clear hb
 go_wp2
 go_ret
 exact⟨rfl,HBL.o⟩

theorem qQE (t q s x1:Int)(p ll:Nat)(hll:1<=ll)(hpl:(p:Int)+(ll:Int)<=q)(A:Option Addr)(c n m:Nat)(vals:List Nat)(HNN:qH (vals.length=n))(H32:qH (∀ x∈vals,x<2^32))
  (hn:n<=6238) (hq:q<=64) (hnc:n<=c) (hcm:c<=maxLen) (W:World) (HR:qH (Reads W W.heap.size 1 A n (valVs vals))) (hX:qH (XCheckIs W t q s A n c m true))
  (HU:qH (∀ w,Below W.heap.size W w->Calls Tryz.prog 17 #[.agg #[.int .i64 t,.int .i64 q,.int .i64 s],.slice A n c,.int .i64 (p:Int)] w fun e w'=>e = .returned (.int .i64 (ll:Int))/\Below w.heap.size w w')) (kk cc:Int) (ok:Bool) (HI:qH (infoOf n (qOL vals) t q s (p:Int) freshS=(kk,(ll:Int),cc,ok))) :
  Calls Tryz.prog 3 #[.agg #[.int .i64 t,.int .i64 q,.int .i64 s],.slice A n c,.agg #[.int .i64 (p:Int),.int .i64 x1]] W (Keeps W):=by
 have t2:decide (q<=(64:Int))=true:=qt
 have hcm2:c<=9223372036854775807:=hcm
 have hq10:q<=1024:=qo
 have hn40:n<2^40:=qo
 have hz0:((ll:Int)==0)=false:=qs
 have hz1:(ll==0)=false:=qs
 have HC:=qh ((Held.new W 23 #[.int .i64 t,.int .i64 q,.int .i64 s]).alloc (.cells #[.int .i64 (p:Int),.int .i64 x1] 25))
 have HX:=qh (Held.new2 W (.cells #[.int .i64 t,.int .i64 q,.int .i64 s] 23) 25 #[.int .i64 (p:Int),.int .i64 x1])
 have HB:=qh (Bnew (Bnew (B0 W) (.cells #[.int .i64 t,.int .i64 q,.int .i64 s] 23)) (.cells #[.int .i64 (p:Int),.int .i64 x1] 25))
 obtain⟨x0',x1',x2'⟩:=HC.o.three
 obtain⟨y0',y1'⟩:=HX.o.two
 go_enter Tryz.func3,Tryz.ntmps3
 go_wp2_with fail
 refine(qYU t q s _).mono ?_
 rintro e w1 ⟨rfl,hb⟩
 rw[t2]
 replace HC:=qh (HC.o.keep hb)
 replace HX:=qh (HX.o.keep hb)
 replace HB:=qh (Bgo HB.o hb)
 clear hb
 clear x0' x1' x2' y0' y1'
 obtain⟨x0',x1',x2'⟩:=HC.o.three
 obtain⟨y0',y1'⟩:=HX.o.two
 go_wp2_with fail
 refine(qHm t q s A n c m true _ (hX.o.grown HB.o)).mono ?_
 rintro e w2 ⟨rfl,hb⟩
 replace HC:=qh (HC.o.keep hb)
 replace HX:=qh (HX.o.keep hb)
 replace HB:=qh (Bgo HB.o hb)
 clear hb
 clear x0' x1' x2' y0' y1'
 obtain⟨x0',x1',x2'⟩:=HC.o.three
 obtain⟨y0',y1'⟩:=HX.o.two
 have HL0:qH (W.heap.size<w2.heap.size):=qh HC.o.lt
 have HL9:qH (W.heap.size+1<w2.heap.size):=qh HX.o.lt
 have HWS:qH (W.heap.size<=w2.heap.size):=qh HB.o.size
 have HR1:qH (Reads w2 w2.heap.size 1 A n (valVs vals)):=qh ((HR.o.below HB.o).more HB.o.size)
 go_wp2_with fail
 refine(qWm A c vals n HNN.o qo H32.o _ (by
  intro h0
  obtain⟨ad',e,_,hc⟩:=HR1.o.2 h0
  exact⟨ad',e,hc⟩)).mono ?_
 rintro e w3 ⟨b1,o1,rfl,hI,hB⟩
 have HV2:qH (IsView w3 w2.heap.size b1 n true o1 (qOL vals) freshS):=qh hI
 replace HB:=qh (Bgo HB.o hB)
 have HR2:qH (Reads w3 w3.heap.size 1 A n (valVs vals)):=qh ((HR1.o.below hB).more hB.size)
 replace HC:=qh (HC.o.keep hB)
 replace HX:=qh (HX.o.keep hB)
 have HLT:qH ((W.heap.size)<w2.heap.size/\((W.heap.size+1))<w2.heap.size):=qh ⟨HL0.o,HL9.o⟩
 have HWZ:qH (W.heap.size<=w2.heap.size):=qh HWS.o
 clear hI hB HR1
 clear x0' x1' x2' y0' y1'
 obtain⟨x0',x1',x2'⟩:=HC.o.three
 obtain⟨y0',y1'⟩:=HX.o.two
 go_wp2_with fail
 refine(qJu A c vals n HNN.o qo hnc hcm H32.o _ HR2.o).mono ?_
 rintro e w4 ⟨b2,v2,rfl,hI,hB⟩
 have HV3:=qh (HV2.o.keep hB)
 have HA3:qH (IsRefV w4 w3.heap.size b2 n true v2 (qOL vals) freshS):=qh hI
 replace HB:=qh (Bgo HB.o hB)
 replace HC:=qh (HC.o.keep hB)
 replace HX:=qh (HX.o.keep hB)
 have HL2:qH (∀ i,o1.A b1 i->i<w3.heap.size):=qh HV2.o.lt
 have HLA:qH (w2.heap.size<=w3.heap.size):=qh (by have h1:=HV2.o.head.lt;have h2:=HV2.o.ge b1 (.inl (.inl (.inl rfl)));omega)
 clear hI hB HV2 HR2
 generalize hz1:w2.heap.size=z1 at *
 generalize hz2:w3.heap.size=z2 at *
 have HD:qH (Duo W (vOb z1 b1 n true (qOL vals)) (rOb z2 b2 n true (qOL vals)) (o1.A b1) (OwnF b2 6 v2) (fun g=>g=W.heap.size\/g=(W.heap.size+1)) freshS freshS w4):=qh ⟨⟨o1,HV3.o,rfl⟩,⟨v2,HA3.o,rfl⟩,fun i hi hj=>by have:=HL2.o i hi;have:=HA3.o.parts.ge i hj;omega,fun g hg=>by
   have hl:=HLT.o
   have hl1:=HLA.o
   have hlt:=HV3.o.head.lt
   rcases hg with hg|hg
   ·exact Mgr
   ·subst hg;exact⟨HX.o.lt,fun x=>by have:=HV3.o.ge _ x;omega,fun x=>by have:=HA3.o.parts.ge _ x;omega⟩,fun i hi=>by
   have:=HWZ.o
   rcases hi with hi|hi
   ·have:=HV3.o.ge _ hi;omega
   ·have:=HA3.o.parts.ge _ hi;have:=HLA.o;omega,HB.o⟩
 clear HV3 HA3 HL2 HL0 HLA HL9 HLT HWZ hz1 hz2
 clear x0' x1' x2' y0' y1'
 obtain⟨x0',x1',x2'⟩:=HC.o.three
 obtain⟨y0',y1'⟩:=HX.o.two
 obtain⟨fv,hfv⟩:∃ fv,foundI (allocL n (qOL vals) t q s x1 freshS).1=fv:=⟨_,rfl⟩
 obtain⟨fb,hfb⟩:∃ fb,(allocL n (qOL vals) t q s x1 freshS).1.isSome=fb:=⟨_,rfl⟩
 have HFV:=qh hfv
 have HFB:=qh hfb
 clear hfv hfb
 have hvv:(fv != fv)=false:=by simp
 have hbb:(fb != fb)=false:=by simp
 obtain⟨sx,hsx⟩:∃ sx,(allocL n (qOL vals) t q s x1 freshS).2=sx:=⟨_,rfl⟩
 have HSX:=qh hsx
 clear hsx
 go_wp2_with fail
 refine(qHr hn40 hq10 x1 HD.o.at1).mono ?_
 rintro e w5 ⟨rfl,h1,_⟩
 obtain⟨A4,h2,h3⟩:=HD.o.left1 h1.left
 rw[HFV.o,HFB.o]
 rw[HSX.o] at h2
 replace HC:=qh (h3.held (.inl rfl) HC.o)
 replace HX:=qh (h3.held (.inr rfl) HX.o)
 replace HD:=qh h2
 clear h1 h2 h3
 clear x0' x1' x2' y0' y1'
 obtain⟨x0',x1',x2'⟩:=HC.o.three
 obtain⟨y0',y1'⟩:=HX.o.two
 go_wp2_with fail
 refine(qYt hn40 hq10 x1 HD.o.at2).mono ?_
 rintro e w6 ⟨rfl,h1,_⟩
 obtain⟨A4,h2,h3⟩:=HD.o.left2 h1.left
 rw[HFV.o,HFB.o]
 rw[HSX.o] at h2
 replace HC:=qh (h3.held (.inl rfl) HC.o)
 replace HX:=qh (h3.held (.inr rfl) HX.o)
 replace HD:=qh h2
 clear h1 h2 h3
 clear HFV HFB HSX
 clear x0' x1' x2' y0' y1'
 obtain⟨x0',x1',x2'⟩:=HC.o.three
 obtain⟨y0',y1'⟩:=HX.o.two
 obtain⟨o,hI,_⟩:=HD.o.i1
 obtain⟨v,hR,_⟩:=HD.o.i2
 have HV:=qh hI
 have HAA:=qh hR
 replace HB:=qh HD.o.bel
 have HL:qH (sx.rd.length<2^40/\sx.wr.length<2^40):=qh (by have:=hI.ok.few;omega)
 clear hI hR HD
 go_wp2_with fail
 refine(qLN HL.o.1 _ HV.o).mono ?_
 rintro e w90 ⟨r6,rfl,ho,hb⟩
 replace HV:=qh (HV.o.keep hb)
 replace HAA:=qh (HAA.o.keep hb)
 replace HB:=qh (Bgo HB.o hb)
 replace HC:=qh (HC.o.keep hb)
 replace HX:=qh (HX.o.keep hb)
 have HR6:=qh (qW4 ho)
 clear hb ho
 clear x0' x1' x2' y0' y1'
 obtain⟨x0',x1',x2'⟩:=HC.o.three
 obtain⟨y0',y1'⟩:=HX.o.two
 go_wp2_with fail
 refine(qD3 HL.o.2 _ HV.o).mono ?_
 rintro e w91 ⟨r7,rfl,ho,hb⟩
 replace HV:=qh (HV.o.keep hb)
 replace HAA:=qh (HAA.o.keep hb)
 replace HB:=qh (Bgo HB.o hb)
 replace HC:=qh (HC.o.keep hb)
 replace HX:=qh (HX.o.keep hb)
 have HP7:=qh (RowP.of_own ho)
 have HR7:=qh (HR6.o.below hb)
 clear hb ho HR6
 clear x0' x1' x2' y0' y1'
 obtain⟨x0',x1',x2'⟩:=HC.o.three
 obtain⟨y0',y1'⟩:=HX.o.two
 go_wp2_with fail
 refine(qIp _ HV.o).mono ?_
 rintro e w92 ⟨rfl,hw⟩
 subst hw
 go_wp2_with fail
 refine(qCG HL.o.1 HL.o.2 r6 r7 _ HAA.o HR7.o HP7.o).mono ?_
 rintro e w93 ⟨rfl,hb⟩
 replace HB:=qh (Bgo HB.o hb)
 replace HC:=qh (HC.o.keep hb)
 replace HX:=qh (HX.o.keep hb)
 clear hb HV HAA HR7 HP7 HL
 clear x0' x1' x2' y0' y1'
 obtain⟨x0',x1',x2'⟩:=HC.o.three
 obtain⟨y0',y1'⟩:=HX.o.two
 go_wp2_with fail
 refine(HU.o _ HB.o).mono ?_
 rintro e w2 ⟨rfl,hb⟩
 replace HC:=qh (HC.o.keep hb)
 replace HX:=qh (HX.o.keep hb)
 replace HB:=qh (Bgo HB.o hb)
 clear hb
 clear x0' x1' x2' y0' y1'
 obtain⟨x0',x1',x2'⟩:=HC.o.three
 obtain⟨y0',y1'⟩:=HX.o.two
 have HL0:qH (W.heap.size<w2.heap.size):=qh HC.o.lt
 have HL9:qH (W.heap.size+1<w2.heap.size):=qh HX.o.lt
 have HWS:qH (W.heap.size<=w2.heap.size):=qh HB.o.size
 have HR1:qH (Reads w2 w2.heap.size 1 A n (valVs vals)):=qh ((HR.o.below HB.o).more HB.o.size)
 go_wp2_with fail
 refine(qWm A c vals n HNN.o qo H32.o _ (by
  intro h0
  obtain⟨ad',e,_,hc⟩:=HR1.o.2 h0
  exact⟨ad',e,hc⟩)).mono ?_
 rintro e w3 ⟨b1,o1,rfl,hI,hB⟩
 have HV2:qH (IsView w3 w2.heap.size b1 n true o1 (qOL vals) freshS):=qh hI
 replace HB:=qh (Bgo HB.o hB)
 have HR2:qH (Reads w3 w3.heap.size 1 A n (valVs vals)):=qh ((HR1.o.below hB).more hB.size)
 replace HC:=qh (HC.o.keep hB)
 replace HX:=qh (HX.o.keep hB)
 have HLT:qH ((W.heap.size)<w2.heap.size/\((W.heap.size+1))<w2.heap.size):=qh ⟨HL0.o,HL9.o⟩
 have HWZ:qH (W.heap.size<=w2.heap.size):=qh HWS.o
 clear hI hB HR1
 clear x0' x1' x2' y0' y1'
 obtain⟨x0',x1',x2'⟩:=HC.o.three
 obtain⟨y0',y1'⟩:=HX.o.two
 go_wp2_with fail
 refine(qJu A c vals n HNN.o qo hnc hcm H32.o _ HR2.o).mono ?_
 rintro e w4 ⟨b2,v2,rfl,hI,hB⟩
 have HV3:=qh (HV2.o.keep hB)
 have HA3:qH (IsRefV w4 w3.heap.size b2 n true v2 (qOL vals) freshS):=qh hI
 replace HB:=qh (Bgo HB.o hB)
 replace HC:=qh (HC.o.keep hB)
 replace HX:=qh (HX.o.keep hB)
 have HL2:qH (∀ i,o1.A b1 i->i<w3.heap.size):=qh HV2.o.lt
 have HLA:qH (w2.heap.size<=w3.heap.size):=qh (by have h1:=HV2.o.head.lt;have h2:=HV2.o.ge b1 (.inl (.inl (.inl rfl)));omega)
 clear hI hB HV2 HR2
 generalize hz1:w2.heap.size=z1 at *
 generalize hz2:w3.heap.size=z2 at *
 have HD:qH (Duo W (vOb z1 b1 n true (qOL vals)) (rOb z2 b2 n true (qOL vals)) (o1.A b1) (OwnF b2 6 v2) (fun g=>g=W.heap.size\/g=(W.heap.size+1)) freshS freshS w4):=qh ⟨⟨o1,HV3.o,rfl⟩,⟨v2,HA3.o,rfl⟩,fun i hi hj=>by have:=HL2.o i hi;have:=HA3.o.parts.ge i hj;omega,fun g hg=>by
   have hl:=HLT.o
   have hl1:=HLA.o
   have hlt:=HV3.o.head.lt
   rcases hg with hg|hg
   ·exact Mgr
   ·subst hg;exact⟨HX.o.lt,fun x=>by have:=HV3.o.ge _ x;omega,fun x=>by have:=HA3.o.parts.ge _ x;omega⟩,fun i hi=>by
   have:=HWZ.o
   rcases hi with hi|hi
   ·have:=HV3.o.ge _ hi;omega
   ·have:=HA3.o.parts.ge _ hi;have:=HLA.o;omega,HB.o⟩
 clear HV3 HA3 HL2 HL0 HLA HL9 HLT HWZ hz1 hz2
 clear x0' x1' x2' y0' y1'
 obtain⟨x0',x1',x2'⟩:=HC.o.three
 obtain⟨y0',y1'⟩:=HX.o.two
 obtain⟨gb,hgb⟩:∃ gb,(resizeL n (qOL vals) t q s p x1 freshS).1=gb:=⟨_,rfl⟩
 have HGB:=qh hgb
 clear hgb
 have tbb:(gb != gb)=false:=by simp
 obtain⟨sx,hsx⟩:∃ sx,(resizeL n (qOL vals) t q s p x1 freshS).2=sx:=⟨_,rfl⟩
 have HSX:=qh hsx
 clear hsx
 go_wp2_with fail
 replace HC:=qh HC.o.drw
 replace HX:=qh HX.o.drw
 replace HD:=qh (HD.o.keep (Bdrew (B0 _)))
 refine wp_region_held_drew (S:=(fun w'=>w'.cell? ⟨W.heap.size,0,none⟩=some (.int .i64 t)/\w'.cell? ⟨W.heap.size,1,none⟩=some (.int .i64 q)/\w'.cell? ⟨W.heap.size,2,none⟩=some (.int .i64 s)/\w'.cell? ⟨W.heap.size+1,0,none⟩=some (.int .i64 (p:Int))/\w'.cell? ⟨W.heap.size+1,1,none⟩=some (.int .i64 x1))) qr ?_ (fun hHeld=>?_)
 ·(try dsimp only)
  exact M8R
 refine tkz 0 ?_
 refine tkz 1 ?_
 refine tkz 2 ?_
 refine tkz 3 ?_
 refine tkz 4 ?_
 refine tkz 5 ?_
 refine tkz 7 ?_
 refine tkz 8 ?_
 refine tkz 9 ?_
 refine tkz 10 ?_
 refine tkz 11 ?_
 refine tkz 12 ?_
 refine rdz 6 fun K hK=>?_
 go_simp
 refine(qQF hn40 hq10 p ll x1 kk cc ok HI.o hpl HD.o.at1).mono ?_
 rintro e w5 ⟨rfl,h1,_⟩
 obtain⟨A4,h2,h3⟩:=HD.o.left1 h1.left
 rw[HSX.o] at h2
 rw[HGB.o]
 replace HC:=qh (h3.held (.inl rfl) HC.o)
 replace HX:=qh (h3.held (.inr rfl) HX.o)
 replace HD:=qh h2
 clear h1 h2 h3
 refine qk ?_ (fun hHeld=>?_)
 ·exact M8R
 clear hK K
 refine rdz 13 fun K hK=>?_
 go_simp
 refine(qKt hn40 hq10 p ll x1 kk cc ok HI.o hpl HD.o.at2).mono ?_
 rintro e w6 ⟨rfl,h1,_⟩
 obtain⟨A4,h2,h3⟩:=HD.o.left2 h1.left
 rw[HSX.o] at h2
 rw[HGB.o]
 replace HC:=qh (h3.held (.inl rfl) HC.o)
 replace HX:=qh (h3.held (.inr rfl) HX.o)
 replace HD:=qh h2
 clear h1 h2 h3
 refine qk ?_ (fun hHeld=>?_)
 ·exact M8R
 clear hK K
 refine tkz 14 ?_
 refine tkz 15 ?_
 refine tkz 16 ?_
 refine tkz 17 ?_
 refine tkz 19 ?_
 refine tkz 21 ?_
 refine rdz 18 fun K hK=>?_
 go_simp
 obtain⟨o,hI,_⟩:=HD.o.i1
 obtain⟨v,hR,_⟩:=HD.o.i2
 have HV:=qh hI
 have HAA:=qh hR
 replace HB:=qh HD.o.bel
 have HL:qH (sx.rd.length<2^40/\sx.wr.length<2^40):=qh (by have:=hI.ok.few;omega)
 clear hI hR HD
 refine(qLN HL.o.1 _ HV.o).mono ?_
 rintro e w90 ⟨r6,rfl,ho,hb⟩
 replace HV:=qh (HV.o.keep hb)
 replace HAA:=qh (HAA.o.keep hb)
 replace HB:=qh (Bgo HB.o hb)
 replace HC:=qh (HC.o.keep hb)
 replace HX:=qh (HX.o.keep hb)
 have HR6:=qh (qW4 ho)
 clear hb ho
 refine qk ?_ (fun hHeld=>?_)
 ·exact M8R
 clear hK K
 refine rdz 20 fun K hK=>?_
 go_simp
 refine(qD3 HL.o.2 _ HV.o).mono ?_
 rintro e w91 ⟨r7,rfl,ho,hb⟩
 replace HV:=qh (HV.o.keep hb)
 replace HAA:=qh (HAA.o.keep hb)
 replace HB:=qh (Bgo HB.o hb)
 replace HC:=qh (HC.o.keep hb)
 replace HX:=qh (HX.o.keep hb)
 have HP7:=qh (RowP.of_own ho)
 have HR7:=qh (HR6.o.below hb)
 clear hb ho HR6
 refine qk ?_ (fun hHeld=>?_)
 ·exact M8R
 clear hK K
 refine rdz 22 fun K hK=>?_
 go_simp
 refine(qIp _ HV.o).mono ?_
 rintro e w92 ⟨rfl,hw⟩
 subst hw
 refine qk ?_ (fun hHeld=>?_)
 ·exact M8R
 clear hK K
 refine rdz 23 fun K hK=>?_
 go_simp
 refine(qCG HL.o.1 HL.o.2 r6 r7 _ HAA.o HR7.o HP7.o).mono ?_
 rintro e w93 ⟨rfl,hb⟩
 replace HB:=qh (Bgo HB.o hb)
 replace HC:=qh (HC.o.keep hb)
 replace HX:=qh (HX.o.keep hb)
 clear hb HV HAA HR7 HP7 HL
 refine qk ?_ (fun hHeld=>?_)
 ·exact M8R
 clear hK K
 refine tkz 24 ?_
 refine tkz 25 ?_
 refine dnz ?_
 clear x0' x1' x2' y0' y1'
 obtain⟨x0',x1',x2'⟩:=HC.o.three
 obtain⟨y0',y1'⟩:=HX.o.two
 clear HSX HGB
 go_wp2_with fail
 rename World=>w2
 have HL0:qH (W.heap.size<w2.heap.size):=qh HC.o.lt
 have HL9:qH (W.heap.size+1<w2.heap.size):=qh HX.o.lt
 have HWS:qH (W.heap.size<=w2.heap.size):=qh HB.o.size
 have HR1:qH (Reads w2 w2.heap.size 1 A n (valVs vals)):=qh ((HR.o.below HB.o).more HB.o.size)
 skip
 refine(qWm A c vals n HNN.o qo H32.o _ (by
  intro h0
  obtain⟨ad',e,_,hc⟩:=HR1.o.2 h0
  exact⟨ad',e,hc⟩)).mono ?_
 rintro e w3 ⟨b1,o1,rfl,hI,hB⟩
 have HV2:qH (IsView w3 w2.heap.size b1 n true o1 (qOL vals) freshS):=qh hI
 replace HB:=qh (Bgo HB.o hB)
 have HR2:qH (Reads w3 w3.heap.size 1 A n (valVs vals)):=qh ((HR1.o.below hB).more hB.size)
 replace HC:=qh (HC.o.keep hB)
 replace HX:=qh (HX.o.keep hB)
 have HLT:qH ((W.heap.size)<w2.heap.size/\((W.heap.size+1))<w2.heap.size):=qh ⟨HL0.o,HL9.o⟩
 have HWZ:qH (W.heap.size<=w2.heap.size):=qh HWS.o
 clear hI hB HR1
 clear x0' x1' x2' y0' y1'
 obtain⟨x0',x1',x2'⟩:=HC.o.three
 obtain⟨y0',y1'⟩:=HX.o.two
 go_wp2_with fail
 refine(qJu A c vals n HNN.o qo hnc hcm H32.o _ HR2.o).mono ?_
 rintro e w4 ⟨b2,v2,rfl,hI,hB⟩
 have HV3:=qh (HV2.o.keep hB)
 have HA3:qH (IsRefV w4 w3.heap.size b2 n true v2 (qOL vals) freshS):=qh hI
 replace HB:=qh (Bgo HB.o hB)
 replace HC:=qh (HC.o.keep hB)
 replace HX:=qh (HX.o.keep hB)
 have HL2:qH (∀ i,o1.A b1 i->i<w3.heap.size):=qh HV2.o.lt
 have HLA:qH (w2.heap.size<=w3.heap.size):=qh (by have h1:=HV2.o.head.lt;have h2:=HV2.o.ge b1 (.inl (.inl (.inl rfl)));omega)
 clear hI hB HV2 HR2
 generalize hz1:w2.heap.size=z1 at *
 generalize hz2:w3.heap.size=z2 at *
 have HD:qH (Duo W (vOb z1 b1 n true (qOL vals)) (rOb z2 b2 n true (qOL vals)) (o1.A b1) (OwnF b2 6 v2) (fun g=>g=W.heap.size\/g=(W.heap.size+1)) freshS freshS w4):=qh ⟨⟨o1,HV3.o,rfl⟩,⟨v2,HA3.o,rfl⟩,fun i hi hj=>by have:=HL2.o i hi;have:=HA3.o.parts.ge i hj;omega,fun g hg=>by
   have hl:=HLT.o
   have hl1:=HLA.o
   have hlt:=HV3.o.head.lt
   rcases hg with hg|hg
   ·exact Mgr
   ·subst hg;exact⟨HX.o.lt,fun x=>by have:=HV3.o.ge _ x;omega,fun x=>by have:=HA3.o.parts.ge _ x;omega⟩,fun i hi=>by
   have:=HWZ.o
   rcases hi with hi|hi
   ·have:=HV3.o.ge _ hi;omega
   ·have:=HA3.o.parts.ge _ hi;have:=HLA.o;omega,HB.o⟩
 clear HV3 HA3 HL2 HL0 HLA HL9 HLT HWZ hz1 hz2
 clear x0' x1' x2' y0' y1'
 obtain⟨x0',x1',x2'⟩:=HC.o.three
 obtain⟨y0',y1'⟩:=HX.o.two
 obtain⟨sx,hsx⟩:∃ sx,freeL n (qOL vals) t q s p freshS=sx:=⟨_,rfl⟩
 have HSX:=qh hsx
 clear hsx
 go_wp2_with fail
 refine(qQv hn40 hq10 p ll qo qo kk cc ok HI.o HD.o.at1).mono ?_
 rintro e w5 ⟨rfl,h1,_⟩
 obtain⟨A4,h2,h3⟩:=HD.o.left1 h1.left
 rw[HSX.o] at h2
 replace HC:=qh (h3.held (.inl rfl) HC.o)
 replace HX:=qh (h3.held (.inr rfl) HX.o)
 replace HD:=qh h2
 clear h1 h2 h3
 clear x0' x1' x2' y0' y1'
 obtain⟨x0',x1',x2'⟩:=HC.o.three
 obtain⟨y0',y1'⟩:=HX.o.two
 go_wp2_with fail
 refine(qXc hn40 hq10 p ll qo qo kk cc ok HI.o HD.o.at2).mono ?_
 rintro e w6 ⟨rfl,h1,_⟩
 obtain⟨A4,h2,h3⟩:=HD.o.left2 h1.left
 rw[HSX.o] at h2
 replace HC:=qh (h3.held (.inl rfl) HC.o)
 replace HX:=qh (h3.held (.inr rfl) HX.o)
 replace HD:=qh h2
 clear h1 h2 h3
 clear HSX
 clear x0' x1' x2' y0' y1'
 obtain⟨x0',x1',x2'⟩:=HC.o.three
 obtain⟨y0',y1'⟩:=HX.o.two
 obtain⟨o,hI,_⟩:=HD.o.i1
 obtain⟨v,hR,_⟩:=HD.o.i2
 have HV:=qh hI
 have HAA:=qh hR
 replace HB:=qh HD.o.bel
 have HL:qH (sx.rd.length<2^40/\sx.wr.length<2^40):=qh (by have:=hI.ok.few;omega)
 clear hI hR HD
 go_wp2_with fail
 refine(qLN HL.o.1 _ HV.o).mono ?_
 rintro e w90 ⟨r6,rfl,ho,hb⟩
 replace HV:=qh (HV.o.keep hb)
 replace HAA:=qh (HAA.o.keep hb)
 replace HB:=qh (Bgo HB.o hb)
 replace HC:=qh (HC.o.keep hb)
 replace HX:=qh (HX.o.keep hb)
 have HR6:=qh (qW4 ho)
 clear hb ho
 clear x0' x1' x2' y0' y1'
 obtain⟨x0',x1',x2'⟩:=HC.o.three
 obtain⟨y0',y1'⟩:=HX.o.two
 go_wp2_with fail
 refine(qD3 HL.o.2 _ HV.o).mono ?_
 rintro e w91 ⟨r7,rfl,ho,hb⟩
 replace HV:=qh (HV.o.keep hb)
 replace HAA:=qh (HAA.o.keep hb)
 replace HB:=qh (Bgo HB.o hb)
 replace HC:=qh (HC.o.keep hb)
 replace HX:=qh (HX.o.keep hb)
 have HP7:=qh (RowP.of_own ho)
 have HR7:=qh (HR6.o.below hb)
 clear hb ho HR6
 clear x0' x1' x2' y0' y1'
 obtain⟨x0',x1',x2'⟩:=HC.o.three
 obtain⟨y0',y1'⟩:=HX.o.two
 go_wp2_with fail
 refine(qIp _ HV.o).mono ?_
 rintro e w92 ⟨rfl,hw⟩
 subst hw
 go_wp2_with fail
 refine(qCG HL.o.1 HL.o.2 r6 r7 _ HAA.o HR7.o HP7.o).mono ?_
 rintro e w93 ⟨rfl,hb⟩
 replace HB:=qh (Bgo HB.o hb)
 replace HC:=qh (HC.o.keep hb)
 replace HX:=qh (HX.o.keep hb)
 clear hb HV HAA HR7 HP7 HL
 clear x0' x1' x2' y0' y1'
 obtain⟨x0',x1',x2'⟩:=HC.o.three
 obtain⟨y0',y1'⟩:=HX.o.two
 go_wp2_with fail
 refine(qVa _).mono ?_
 rintro e w19 ⟨rfl,hb⟩
 have HBL:=qh (Bgo HB.o hb)
 clear hb
 go_wp2
 go_ret
 exact⟨rfl,HBL.o⟩

theorem qVP (t q s x0 x1:Int)(A:Option Addr)(c:Nat)(vals:List Nat)(hnc:vals.length<=c)(hcm:c<=maxLen)(h32:∀ x∈vals,x<2^32)(W:World)(HR:qH (Reads W W.heap.size 1 A vals.length (valVs vals))) :
  Calls Tryz.prog 3 #[.agg #[.int .i64 t,.int .i64 q,.int .i64 s],.slice A vals.length c,.agg #[.int .i64 x0,.int .i64 x1]] W (Keeps W):=by
 by_cases hq:q<=64
 ·rcases qXV W t q s A c vals hnc hcm h32 HR.o with ⟨m,hX⟩|⟨H,ad,m,rfl,rfl,rfl,rfl,hV,HV,hv,hto,hX⟩
  ·exact qXb t q s x0 x1 A _ c m hq W (qh hX)
  ·have hn:vals.length<=6238:=by have:=HV.nums;omega
   by_cases h0:x0<0\/(H.p:Int)<=x0
   ·exact qH6 _ _ _ x0 x1 _ c _ m vals (qh rfl) (qh h32) hn hq hnc hcm W HR (qh hX) (qh fun w hw=>qBo _ _ _ x0 _ _ c h0 w)
   ·obtain⟨p,rfl⟩:=Int.eq_ofNat_of_zero_le (show 0<=x0 by omega)
    have hp:p<H.p:=qo
    by_cases hk:H.K p=2
    ·have hK:∀ i,i<vals.length->qOL vals i=some (H.V i):=fun i hi=>by
      unfold qOL
      rw[hV i,List.getElem?_eq_getElem hi]
      simp[List.getD,List.getElem?_eq_getElem hi]
     have hr:=qCW hto
     obtain⟨L,hok⟩:=AuH.okL_of (by have:=HV.nums;omega) hr
     have W0:=Work.of_ok hok HV hK
     have hln:=qQe hto hp qo
     have hpos:=(qTa hok hp qo qo).2.1
     exact qQE _ _ _ x1 p (H.ln p) qo qo _ c _ m vals (qh rfl) (qh h32) hn hq hnc hcm W HR (qh hX) (qh fun w hw=>by
      have h:=qHy HV ad hp w (hv.below hw)
      unfold usedN at h
      rw[if_pos hk] at h
      exact h) _ _ _ (qh (W0.len_used HV.fit hp hk rfl).1)
    ·exact qH6 _ _ _ (p:Int) x1 _ c _ m vals (qh rfl) (qh h32) hn hq hnc hcm W HR (qh hX) (qh fun w hw=>by
      have h:=qHy HV ad hp w (hv.below hw)
      unfold usedN at h
      rw[if_neg hk] at h
      exact h)
 ·exact qZN t q s x0 x1 A _ c 0 qo W
end
end Go.Proofs.YtgifnhcknodekaaGreat
