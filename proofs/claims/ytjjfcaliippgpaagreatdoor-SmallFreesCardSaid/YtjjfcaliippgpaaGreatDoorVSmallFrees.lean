/-
  The law SmallFrees: the walk. Written by small/gen_frees.py.
-/
import Derived.Test.YtjjfcaliippgpaaGreatDoorV23
import Derived.Test.YtjjfcaliippgpaaGreatDoorV24
import Derived.Test.YtjjfcaliippgpaaGreatDoorV26
import Derived.Test.YtjjfcaliippgpaaGreatDoorV18
import Derived.Test.YtjjfcaliippgpaaGreatDoorV04
namespace Go.Proofs.YtjjfcaliippgpaaGreatDoor
theorem RW9 {P Q:Prop}(kq:Q)(h:HQ Q->P:=by
 intro kq
 refine wp_region_held_drew (S:=(fun w'=>(w'.cell? ⟨W.heap.size,0,none⟩=some (.int .i64 (H.t:Int))/\w'.cell? ⟨W.heap.size,1,none⟩=some (.int .i64 (H.p:Int))/\w'.cell? ⟨W.heap.size,2,none⟩=some (.int .i64 (H.s:Int)))/\(w'.cell? ⟨W.heap.size+1,0,none⟩=some (.slice (some ad2) H.t c2)/\w'.cell? ⟨W.heap.size+1,1,none⟩=some (.int .i64 (i0:Int))/\w'.cell? ⟨W.heap.size+1,2,none⟩=some (.int .i64 k0)/\w'.cell? ⟨W.heap.size+1,3,none⟩=some (.int .i64 (pf:Int))/\w'.cell? ⟨W.heap.size+1,4,none⟩=some (.int .i64 (jf:Int)))/\(w'.cell? (ad2.add (i0*9))=some (U i0 0).v/\w'.cell? ⟨(ad2.add (i0*9)).block,(ad2.add (i0*9)).off+1,none⟩=some (U i0 1).v/\w'.cell? ⟨(ad2.add (i0*9)).block,(ad2.add (i0*9)).off+2,none⟩=some (U i0 2).v/\w'.cell? ⟨(ad2.add (i0*9)).block,(ad2.add (i0*9)).off+3,none⟩=some (U i0 3).v/\w'.cell? ⟨(ad2.add (i0*9)).block,(ad2.add (i0*9)).off+4,none⟩=some (U i0 4).v/\w'.cell? ⟨(ad2.add (i0*9)).block,(ad2.add (i0*9)).off+5,none⟩=some (U i0 5).v/\w'.cell? ⟨(ad2.add (i0*9)).block,(ad2.add (i0*9)).off+6,none⟩=some (U i0 6).v/\w'.cell? ⟨(ad2.add (i0*9)).block,(ad2.add (i0*9)).off+7,none⟩=some (U i0 7).v/\w'.cell? ⟨(ad2.add (i0*9)).block,(ad2.add (i0*9)).off+8,none⟩=some (U i0 8).v))) qr ?_ (fun hHeld=>?_)
 ·exact Mjk
 revert hHeld
 exact kq.o):P:=h ⟨kq⟩
theorem RWt {P Q:Prop}(kq:Q)(h:HQ Q->P:=by
 intro kq
 refine wp_region_held_drew (S:=(fun w'=>(w'.cell? ⟨W.heap.size,0,none⟩=some (.int .i64 (H.t:Int))/\w'.cell? ⟨W.heap.size,1,none⟩=some (.int .i64 (H.p:Int))/\w'.cell? ⟨W.heap.size,2,none⟩=some (.int .i64 (H.s:Int)))/\(w'.cell? ⟨W.heap.size+1,0,none⟩=some (.slice (some ad2) H.t c2)/\w'.cell? ⟨W.heap.size+1,1,none⟩=some (.int .i64 (i0:Int))/\w'.cell? ⟨W.heap.size+1,2,none⟩=some (.int .i64 k0)/\w'.cell? ⟨W.heap.size+1,3,none⟩=some (.int .i64 pg)/\w'.cell? ⟨W.heap.size+1,4,none⟩=some (.int .i64 sl))/\(w'.cell? (ad2.add (i0*9))=some (U i0 0).v/\w'.cell? ⟨(ad2.add (i0*9)).block,(ad2.add (i0*9)).off+1,none⟩=some (U i0 1).v/\w'.cell? ⟨(ad2.add (i0*9)).block,(ad2.add (i0*9)).off+2,none⟩=some (U i0 2).v/\w'.cell? ⟨(ad2.add (i0*9)).block,(ad2.add (i0*9)).off+3,none⟩=some (U i0 3).v/\w'.cell? ⟨(ad2.add (i0*9)).block,(ad2.add (i0*9)).off+4,none⟩=some (U i0 4).v/\w'.cell? ⟨(ad2.add (i0*9)).block,(ad2.add (i0*9)).off+5,none⟩=some (U i0 5).v/\w'.cell? ⟨(ad2.add (i0*9)).block,(ad2.add (i0*9)).off+6,none⟩=some (U i0 6).v/\w'.cell? ⟨(ad2.add (i0*9)).block,(ad2.add (i0*9)).off+7,none⟩=some (U i0 7).v/\w'.cell? ⟨(ad2.add (i0*9)).block,(ad2.add (i0*9)).off+8,none⟩=some (U i0 8).v))) qr ?_ (fun hHeld=>?_)
 ·exact Mjk
 revert hHeld
 exact kq.o):P:=h ⟨kq⟩
theorem Rl5 {P Q:Prop}(kq:Q)(h:HQ Q->P:=by
 intro kq
 replace HD:=qh (HD.o.keep (Bdrew (B0 _)))
 replace HC:=qh (HC.o.keep (Bdrew (B0 _)))
 replace HX:=qh (HX.o.keep (Bdrew (B0 _)))
 revert HD HC HX
 exact kq.o):P:=h ⟨kq⟩
theorem RZq {P Q:Prop}(kq:Q)(h:HQ Q->P:=by
 intro kq
 refine qk ?_ (fun hHeld=>?_)
 ·exact MT5
 revert hHeld
 exact kq.o):P:=h ⟨kq⟩
theorem Myq {P:Prop}(h:P:=by
 go_wp2_with fail
 refine(qKo _ (HTL.o.below HB.o)).mono ?_
 rintro e w19 ⟨rfl,hb⟩
 have HBL:=qh (Bgo HB.o hb)
 clear hb
 go_wp2
 go_ret
 exact⟨rfl,HBL.o⟩):P:=h
theorem MhY {P:Prop}(h:P:=by
 go_wp2_with fail
 go_meet
 case rel=>exact⟨N2,V2,A24,rfl,rfl,HD.o,HGX.o,HN12.o,HN2.o,HP2.o,HN1.o,HP1.o,HC.o,HX.o⟩):P:=h
theorem MxS {P:Prop}(h:P:=by
 go_wp2_with fail
 go_meet
 case rel=>exact⟨N1,V1,A14,rfl,rfl,HD.o,HGX.o,HN1.o,HP1.o,HC.o,HX.o⟩):P:=h
theorem Mjk {P:Prop}(h:P:=by
 (try dsimp only)
 exact MT5):P:=h
theorem MT5 {P:Prop}(h:P:=by first|exact⟨HC.o.three,HX.o.five',HNI.o _ HD.o.bel⟩|exact hHeld):P:=h
end Go.Proofs.YtjjfcaliippgpaaGreatDoor
set_option linter.unusedVariables false
set_option linter.unusedSimpArgs false
set_option maxRecDepth 100000
set_option maxHeartbeats 25600000
namespace Go.Proofs.YtjjfcaliippgpaaGreatDoor
open Go.ChangeShapes Go.WideShapes Go.ChangeAt Go.RowKit Go.Maps
section
theorem qTq (t q s:Int)(A:Option Addr)(n c:Nat)(A2:Option Addr)(T c2:Nat)(t0 k0 pg sl:Int)(W:World)(hT:SlotsLaid W)(HF:qH (∀ w,Below W.heap.size W w->Calls Tryz.prog 7 #[.agg #[.int .i64 t,.int .i64 q,.int .i64 s],.slice A n c,.agg #[.slice A2 T c2,.int .i64 t0,.int .i64 k0,.int .i64 pg,.int .i64 sl]] w fun e w'=>e = .returned (.bool false)/\Below w.heap.size w w')):Calls Tryz.prog 4 #[.agg #[.int .i64 t,.int .i64 q,.int .i64 s],.slice A n c,.agg #[.slice A2 T c2,.int .i64 t0,.int .i64 k0,.int .i64 pg,.int .i64 sl]] W (Keeps W):=by
 refine RYq ?_;intro HC HX HB
 have HTL:=qh hT
 clear hT
 refine RZx ?_;intro x0' x1' x2' y0' y1' y2' y3' y4'
 go_enter Tryz.func4,Tryz.ntmps4
 go_wp2_with fail
 refine(HF.o _ HB.o).mono ?_
 rintro e w2 ⟨rfl,hb⟩
 refine R2t ?_;clear HC HX;intro HC HX
 replace HB:=qh (Bgo HB.o hb)
 clear hb
 clear x0' x1' x2' y0' y1' y2' y3' y4'
 refine RZx ?_;intro x0' x1' x2' y0' y1' y2' y3' y4'
 exact Myq

theorem qW1 {H:AuH}(ad:Addr)(n c:Nat)(HV:HeapV H n c)(vals:List Nat)(HNN:qH (vals.length=n))(H32:qH (∀ x∈vals,x<2^32))(hnc:n<=c)(ad2:Addr)(c2:Nat)(hTc:H.t<=c2)(hc2:c2<=maxLen)(i0:Nat)(hi0:i0<H.t)(k0 pg sl:Int)(hk0 : -9223372036854775808<=k0)(hk1:k0<=9223372036854775807)(U:Nat->Nat->Sl)(Z:Nat->Nat->List Int)(hq:H.p<=64)(hok:∀ a,lastP (Z i0) k0=some a->∃ p,FlOk n (qOL vals) H.t H.p H.s k0 (Z i0 k0.toNat) a p (isF H.t H.p H.s k0 (Z i0 k0.toNat) p) freshS)
  (lb:Bool) (hfr:lb=true->∃ pf jf kf:Nat,pg=(pf:Int)/\sl=(jf:Int)/\pf<H.p/\jf<32/\kf<9/\(infoOf n (qOL vals) H.t H.p H.s pf freshS).2.2.1=(kf:Int)/\(infoOf n (qOL vals) H.t H.p H.s pf (offS n (qOL vals) H.t H.p H.s pf jf (getS n (qOL vals) freshS (pageI H.t H.p H.s pf 0)))).2.2.1=(kf:Int))
  (W:World) (hT:SlotsLaid W) (HR:qH (Reads W W.heap.size 1 (some ad) n (valVs vals))) (HP:qH (PksAt W (some ad2) H.t U Z)) (HF:qH (∀ w,Below W.heap.size W w->Calls Tryz.prog 7 #[.agg #[.int .i64 (H.t:Int),.int .i64 (H.p:Int),.int .i64 (H.s:Int)],.slice (some ad) n c,.agg #[.slice (some ad2) H.t c2,.int .i64 (i0:Int),.int .i64 k0,.int .i64 pg,.int .i64 sl]] w fun e w'=>e = .returned (.bool true)/\Below w.heap.size w w')) (HLV:qH (∀ w,Below W.heap.size W w->Calls Tryz.prog 20 #[.agg #[.int .i64 (H.t:Int),.int .i64 (H.p:Int),.int .i64 (H.s:Int)],.slice (some ad) n c,.int .i64 pg,.int .i64 sl] w fun e w'=>e = .returned (.bool lb)/\Below w.heap.size w w')) :
  Calls Tryz.prog 4 #[.agg #[.int .i64 (H.t:Int),.int .i64 (H.p:Int),.int .i64 (H.s:Int)],.slice (some ad) n c,.agg #[.slice (some ad2) H.t c2,.int .i64 (i0:Int),.int .i64 k0,.int .i64 pg,.int .i64 sl]] W (Keeps W):=by
 have hn:n<=6238:=by have:=HV.nums;omega
 have hcm:c<=maxLen:=HV.max
 have hcm2:c<=9223372036854775807:=hcm
 have hc3:c2<=9223372036854775807:=by unfold maxLen at hc2;omega
 have hn40:n<2^40:=qo
 have hq10:(H.p:Int)<=1024:=qo
 have HNI:qH (∀ w,Below W.heap.size W w->(w.cell? (ad2.add (i0*9))=some (U i0 0).v/\w.cell? ⟨(ad2.add (i0*9)).block,(ad2.add (i0*9)).off+1,none⟩=some (U i0 1).v/\w.cell? ⟨(ad2.add (i0*9)).block,(ad2.add (i0*9)).off+2,none⟩=some (U i0 2).v/\w.cell? ⟨(ad2.add (i0*9)).block,(ad2.add (i0*9)).off+3,none⟩=some (U i0 3).v/\w.cell? ⟨(ad2.add (i0*9)).block,(ad2.add (i0*9)).off+4,none⟩=some (U i0 4).v/\w.cell? ⟨(ad2.add (i0*9)).block,(ad2.add (i0*9)).off+5,none⟩=some (U i0 5).v/\w.cell? ⟨(ad2.add (i0*9)).block,(ad2.add (i0*9)).off+6,none⟩=some (U i0 6).v/\w.cell? ⟨(ad2.add (i0*9)).block,(ad2.add (i0*9)).off+7,none⟩=some (U i0 7).v/\w.cell? ⟨(ad2.add (i0*9)).block,(ad2.add (i0*9)).off+8,none⟩=some (U i0 8).v)):=qh (fun w hb=>(HP.o.below hb).nine hi0)
 have HPU:qH (∀ w,Below W.heap.size W w->PkV w (U i0) (Z i0)):=qh (fun w hb=>(HP.o.below hb).pk hi0)
 have HPW:qH (∀ i,PB (U i0) (Z i0) i->i<W.heap.size):=qh (fun i hi=>hi.lt (HP.o.pk hi0))
 have HOK:=qh hok
 have HFR:=qh hfr
 obtain⟨av,hav⟩:∃ av,(((flX n (qOL vals) H.t H.p H.s k0 (Z i0) freshS).1.1:Nat):Int)=av:=⟨_,rfl⟩
 obtain⟨Y,hY⟩:∃ Y,(flX n (qOL vals) H.t H.p H.s k0 (Z i0) freshS).1.2=Y:=⟨_,rfl⟩
 obtain⟨sx,hsx⟩:∃ sx,(flX n (qOL vals) H.t H.p H.s k0 (Z i0) freshS).2=sx:=⟨_,rfl⟩
 have HAV:=qh hav
 have HYY:=qh hY
 have HSX:=qh hsx
 clear hav hY hsx hok hfr
 have hpp:(av != av)=false:=by simp
 have HC:=qh ((Held.new W 23 #[.int .i64 (H.t:Int),.int .i64 (H.p:Int),.int .i64 (H.s:Int)]).alloc (.cells #[.slice (some ad2) H.t c2,.int .i64 (i0:Int),.int .i64 k0,.int .i64 pg,.int .i64 sl] 27))
 have HX:=qh (Held.new2 W (.cells #[.int .i64 (H.t:Int),.int .i64 (H.p:Int),.int .i64 (H.s:Int)] 23) 27 #[.slice (some ad2) H.t c2,.int .i64 (i0:Int),.int .i64 k0,.int .i64 pg,.int .i64 sl])
 have HB:=qh (Bnew (Bnew (B0 W) (.cells #[.int .i64 (H.t:Int),.int .i64 (H.p:Int),.int .i64 (H.s:Int)] 23)) (.cells #[.slice (some ad2) H.t c2,.int .i64 (i0:Int),.int .i64 k0,.int .i64 pg,.int .i64 sl] 27))
 have HTL:=qh hT
 clear hT
 obtain⟨x0',x1',x2'⟩:=HC.o.three
 obtain⟨y0',y1',y2',y3',y4'⟩:=HX.o.five'
 go_enter Tryz.func4,Tryz.ntmps4
 go_wp2_with fail
 refine(HF.o _ HB.o).mono ?_
 rintro e w2 ⟨rfl,hb⟩
 replace HC:=qh (HC.o.keep hb)
 replace HX:=qh (HX.o.keep hb)
 replace HB:=qh (Bgo HB.o hb)
 clear hb
 clear x0' x1' x2' y0' y1' y2' y3' y4'
 obtain⟨x0',x1',x2'⟩:=HC.o.three
 obtain⟨y0',y1',y2',y3',y4'⟩:=HX.o.five'
 have HXL:qH (W.heap.size+1<w2.heap.size):=qh HX.o.lt
 have HWS:qH (W.heap.size<=w2.heap.size):=qh HB.o.size
 have HR1:qH (Reads w2 w2.heap.size 1 (some ad) n (valVs vals)):=qh ((HR.o.below HB.o).more HB.o.size)
 go_wp2_with fail
 refine(qWm (some ad) c vals n HNN.o qo H32.o _ (by
  intro h0
  obtain⟨ad',e,_,hc⟩:=HR1.o.2 h0
  exact⟨ad',e,hc⟩)).mono ?_
 rintro e w3 ⟨b1,o1,rfl,hI,hB⟩
 have HV2:qH (IsView w3 w2.heap.size b1 n true o1 (qOL vals) freshS):=qh hI
 replace HB:=qh (Bgo HB.o hB)
 have HR2:qH (Reads w3 w3.heap.size 1 (some ad) n (valVs vals)):=qh ((HR1.o.below hB).more hB.size)
 replace HC:=qh (HC.o.keep hB)
 replace HX:=qh (HX.o.keep hB)
 have HWZ:qH (W.heap.size<=w2.heap.size):=qh HWS.o
 clear hI hB HR1
 clear x0' x1' x2' y0' y1' y2' y3' y4'
 obtain⟨x0',x1',x2'⟩:=HC.o.three
 obtain⟨y0',y1',y2',y3',y4'⟩:=HX.o.five'
 go_wp2_with fail
 refine(qJu (some ad) c vals n HNN.o qo hnc hcm H32.o _ HR2.o).mono ?_
 rintro e w4 ⟨b2,v2,rfl,hI,hB⟩
 have HV3:=qh (HV2.o.keep hB)
 have HA3:qH (IsRefV w4 w3.heap.size b2 n true v2 (qOL vals) freshS):=qh hI
 replace HB:=qh (Bgo HB.o hB)
 replace HC:=qh (HC.o.keep hB)
 replace HX:=qh (HX.o.keep hB)
 have HL2:qH (∀ i,o1.A b1 i->i<w3.heap.size):=qh HV2.o.lt
 have HL9:qH (w2.heap.size<=w3.heap.size):=qh (by have h1:=HV2.o.head.lt;have h2:=HV2.o.ge b1 (.inl (.inl (.inl rfl)));omega)
 clear hI hB HV2 HR2
 have HZC:qH (W.heap.size+1<w2.heap.size):=qh HXL.o
 generalize hz1:w2.heap.size=z1 at *
 generalize hz2:w3.heap.size=z2 at *
 have HD:qH (Duo W (vOb z1 b1 n true (qOL vals)) (rOb z2 b2 n true (qOL vals)) (o1.A b1) (OwnF b2 6 v2) (fun i=>i<z1) freshS freshS w4):=qh ⟨⟨o1,HV3.o,rfl⟩,⟨v2,HA3.o,rfl⟩,fun i hi hj=>by have:=HL2.o i hi;have:=HA3.o.parts.ge i hj;omega,fun g hg=>by
   have hl1:=HL9.o
   have hlt:=HV3.o.head.lt
   have hge:=HV3.o.ge b1 (.inl (.inl (.inl rfl)))
   exact⟨qo,fun x=>by have:=HV3.o.ge _ x;omega,fun x=>by have:=HA3.o.parts.ge _ x;omega⟩,fun i hi=>by
   have:=HWZ.o
   rcases hi with hi|hi
   ·have:=HV3.o.ge _ hi;omega
   ·have:=HA3.o.parts.ge _ hi;have:=HL9.o;omega,HB.o⟩
 clear HV3 HA3 HL2 HL9 HWZ hz1 hz2 HB
 clear x0' x1' x2' y0' y1' y2' y3' y4'
 obtain⟨x0',x1',x2'⟩:=HC.o.three
 obtain⟨y0',y1',y2',y3',y4'⟩:=HX.o.five'
 have HPZ:qH (∀ i,PB (U i0) (Z i0) i->i<z1):=qh (fun i hi=>by have:=HPW.o i hi;have:=HZC.o;omega)
 go_wp2_with fail
 go_cut [9,10] from 23 to 36 (fun u9 u10 wx=>∃ (N1:Nat) (V1:Nat->Sl) (A14:Nat->Prop),u9 = .int .i64 av/\u10 = .pointer (some ⟨N1,0,none⟩)/\Duo W (vOb z1 b1 n true (qOL vals)) (rOb z2 b2 n true (qOL vals)) A14 (OwnF b2 6 v2) (fun i=>((i<z1)\/PB V1 Y i)\/i=N1) sx freshS wx/\W.heap.size+1<N1/\Held wx N1 36 (pkC V1)/\PkV wx V1 Y/\Held wx W.heap.size 23 #[.int .i64 (H.t:Int),.int .i64 (H.p:Int),.int .i64 (H.s:Int)]/\Held wx (W.heap.size+1) 27 #[.slice (some ad2) H.t c2,.int .i64 (i0:Int),.int .i64 k0,.int .i64 pg,.int .i64 sl])
 case first =>
  clear x0' x1' x2' y0' y1' y2' y3' y4'
  refine Rl5 ?_;clear HD HC HX;intro HD HC HX
  refine RWt ?_;intro hHeld
  generalize hwd:World.drew w4=w14 at *
  clear hwd
  refine Rbo ?_
  refine RPe ?_
  refine tkz 9 ?_
  refine wpAnyH_ready (rs := [10,14]) qr (by simp) ?_
  refine AllReadyH.cons (o:=_) rfl (fun K hK=>?_) (AllReadyH.cons (o:=_) rfl (fun K hK=>?_) AllReadyH.nil)
  ·skip
   go_simp
   refine(qBm hn40 hq10 k0 hk0 hk1 HOK.o (HD.o.slots HTL.o).1 (HD.o.slots HTL.o).2.1 (HPU.o _ HD.o.bel) (fun i hi ha=>(HD.o.aG i (HPZ.o i hi)).2.1 ha) HD.o.i1).mono ?_
   rintro e w15 ⟨V1,rfl,hl,_⟩
   rw[HAV.o]
   rw[HYY.o,HSX.o] at hl
   obtain⟨A14,h2,hpv,h3⟩:=HD.o.pkt1 (HPU.o _ HD.o.bel) (fun i hi=>HPZ.o i hi) hl
   have HNB:qH (∀ i,W.heap.size<=i->PB V1 Y i->w14.heap.size<=i):=qh (fun i h4 hi=>by
    rcases hl.old i hi with h5|h5
    ·have:=HPW.o i h5;omega
    ·exact h5)
   replace HC:=qh (h3.held (by have:=HZC.o;omega) HC.o)
   replace HX:=qh (h3.held (HZC.o) HX.o)
   replace HD:=qh h2
   have HP1:=qh hpv
   clear h2 h3 hpv hl
   refine RZq ?_;clear hK K;intro hHeld
   refine Rdc ?_
   refine rdz 14 fun K hK=>?_
   go_simp
   have hb:=Bnew (B0 w15) (.cells #[.slice none 0 0,.slice none 0 0,.slice none 0 0,.slice none 0 0,.slice none 0 0,.slice none 0 0,.slice none 0 0,.slice none 0 0,.slice none 0 0] 36)
   have HN1:qH (Held (w15.alloc (.cells #[.slice none 0 0,.slice none 0 0,.slice none 0 0,.slice none 0 0,.slice none 0 0,.slice none 0 0,.slice none 0 0,.slice none 0 0,.slice none 0 0] 36)) w15.heap.size 36 (pkC zeroU)):=qh (Held.new w15 36 #[.slice none 0 0,.slice none 0 0,.slice none 0 0,.slice none 0 0,.slice none 0 0,.slice none 0 0,.slice none 0 0,.slice none 0 0,.slice none 0 0])
   have HGL:qH (∀ i,(((i<z1)\/PB V1 Y i):Prop)->i<w15.heap.size):=qh (fun i hi=>(HD.o.aG i hi).1)
   have HGW:qH (W.heap.size<=w15.heap.size):=qh HD.o.bel.size
   have HGX:qH (W.heap.size+1<w15.heap.size):=qh HX.o.lt
   skip
   replace HD:=qh (HD.o.keep2 (G':=fun i=>((i<z1)\/PB V1 Y i)\/i=w15.heap.size) hb (fun i x=>by
    rcases x with x|x
    ·exact .inl x
    ·right;subst x;simp))
   refine R2t ?_;clear HC HX;intro HC HX
   replace HP1:=qh (HP1.o.below hb)
   have HNN2:qH (¬ PB V1 Y w15.heap.size):=qh (fun x=>by have:=HGL.o _ (.inr x);omega)
   generalize hnp:w15.heap.size=N1 at *
   generalize hwn:w15.alloc (.cells #[.slice none 0 0,.slice none 0 0,.slice none 0 0,.slice none 0 0,.slice none 0 0,.slice none 0 0,.slice none 0 0,.slice none 0 0,.slice none 0 0] 36)=w17 at *
   clear hb hnp hwn
   refine RZq ?_;clear hK K;intro hHeld
   refine tkz 15 ?_
   refine rdz 16 fun K hK=>?_
   obtain⟨z0,z1,z2,z3,z4,z5,z6,z7,z8⟩:=HN1.o.nineP
   obtain⟨f0,f1,f2,f3,f4,f5,f6,f7,f8⟩:=HN1.o.thawP
   go_simp
   obtain⟨WF,hWF⟩:∃ WF,setP w17 N1 V1=WF:=⟨_,rfl⟩
   replace HD:=qh (HD.o.putP (.inr rfl) HGW.o V1)
   replace HP1:=qh (HP1.o.putP HNN2.o V1)
   replace HC:=qh (HC.o.farP (fun e:W.heap.size=N1=>by have:=HGL.o W.heap.size (.inl (by have:=HZC.o;omega));omega) V1)
   replace HX:=qh (HX.o.farP (fun e:(W.heap.size+1)=N1=>by have:=HGL.o (W.heap.size+1) (.inl (HZC.o));omega) V1)
   replace HN1:=qh (Held.setP HN1.o V1)
   rw[hWF] at HD HP1 HN1 HC HX
   unfold setP at hWF
   rw[hWF]
   clear z0 z1 z2 z3 z4 z5 z6 z7 z8 f0 f1 f2 f3 f4 f5 f6 f7 f8 hWF HNN2
   refine RZq ?_;clear hK K;intro hHeld
   refine dnz ?_
   exact MxS
  ·skip
   go_simp
   have hb:=Bnew (B0 w14) (.cells #[.slice none 0 0,.slice none 0 0,.slice none 0 0,.slice none 0 0,.slice none 0 0,.slice none 0 0,.slice none 0 0,.slice none 0 0,.slice none 0 0] 36)
   have HN1:qH (Held (w14.alloc (.cells #[.slice none 0 0,.slice none 0 0,.slice none 0 0,.slice none 0 0,.slice none 0 0,.slice none 0 0,.slice none 0 0,.slice none 0 0,.slice none 0 0] 36)) w14.heap.size 36 (pkC zeroU)):=qh (Held.new w14 36 #[.slice none 0 0,.slice none 0 0,.slice none 0 0,.slice none 0 0,.slice none 0 0,.slice none 0 0,.slice none 0 0,.slice none 0 0,.slice none 0 0])
   have HGL:qH (∀ i,((i<z1):Prop)->i<w14.heap.size):=qh (fun i hi=>(HD.o.aG i hi).1)
   have HGW:qH (W.heap.size<=w14.heap.size):=qh HD.o.bel.size
   have HGX:qH (W.heap.size+1<w14.heap.size):=qh HX.o.lt
   skip
   replace HD:=qh (HD.o.keep2 (G':=fun i=>(i<z1)\/i=w14.heap.size) hb (fun i x=>by
    rcases x with x|x
    ·exact .inl x
    ·right;subst x;simp))
   refine R2t ?_;clear HC HX;intro HC HX
   generalize hnp:w14.heap.size=N1 at *
   generalize hwn:w14.alloc (.cells #[.slice none 0 0,.slice none 0 0,.slice none 0 0,.slice none 0 0,.slice none 0 0,.slice none 0 0,.slice none 0 0,.slice none 0 0,.slice none 0 0] 36)=w17 at *
   have HNL:qH (N1<w17.heap.size):=qh HN1.o.lt
   clear hb hnp hwn
   refine RZq ?_;clear hK K;intro hHeld
   refine rdz 10 fun K hK=>?_
   go_simp
   refine(qBm hn40 hq10 k0 hk0 hk1 HOK.o (HD.o.slots HTL.o).1 (HD.o.slots HTL.o).2.1 (HPU.o _ HD.o.bel) (fun i hi ha=>(HD.o.aG i (.inl (HPZ.o i hi))).2.1 ha) HD.o.i1).mono ?_
   rintro e w15 ⟨V1,rfl,hl,_⟩
   rw[HAV.o]
   rw[HYY.o,HSX.o] at hl
   obtain⟨A14,h2,hpv,h3⟩:=HD.o.pkt1 (HPU.o _ HD.o.bel) (fun i hi => .inl (HPZ.o i hi)) hl
   have HNB:qH (∀ i,W.heap.size<=i->PB V1 Y i->w17.heap.size<=i):=qh (fun i h4 hi=>by
    rcases hl.old i hi with h5|h5
    ·have:=HPW.o i h5;omega
    ·exact h5)
   replace HC:=qh (h3.held (.inl (by have:=HZC.o;omega)) HC.o)
   replace HX:=qh (h3.held (.inl (HZC.o)) HX.o)
   replace HN1:=qh (h3.held (.inr rfl) HN1.o)
   replace HD:=qh h2
   have HP1:=qh hpv
   clear h2 h3 hpv hl
   refine RZq ?_;clear hK K;intro hHeld
   refine Rdc ?_
   refine tkz 15 ?_
   refine rdz 16 fun K hK=>?_
   have HNN2:qH (¬ PB V1 Y N1):=qh (fun x=>by have h4:=HNB.o _ HGW.o x;have:=HNL.o;omega)
   obtain⟨z0,z1,z2,z3,z4,z5,z6,z7,z8⟩:=HN1.o.nineP
   obtain⟨f0,f1,f2,f3,f4,f5,f6,f7,f8⟩:=HN1.o.thawP
   go_simp
   obtain⟨WF,hWF⟩:∃ WF,setP w15 N1 V1=WF:=⟨_,rfl⟩
   replace HD:=qh (HD.o.putP (.inl (.inr rfl)) HGW.o V1)
   replace HP1:=qh (HP1.o.putP HNN2.o V1)
   replace HC:=qh (HC.o.farP (fun e:W.heap.size=N1=>by have:=HGL.o W.heap.size (by have:=HZC.o;omega);omega) V1)
   replace HX:=qh (HX.o.farP (fun e:(W.heap.size+1)=N1=>by have:=HGL.o (W.heap.size+1) (HZC.o);omega) V1)
   replace HN1:=qh (Held.setP HN1.o V1)
   rw[hWF] at HD HP1 HN1 HC HX
   unfold setP at hWF
   rw[hWF]
   clear z0 z1 z2 z3 z4 z5 z6 z7 z8 f0 f1 f2 f3 f4 f5 f6 f7 f8 hWF HNN2
   refine RZq ?_;clear hK K;intro hHeld
   refine dnz ?_
   replace HD:=qh (HD.o.less (G':=fun i=>((i<z1)\/PB V1 Y i)\/i=N1) (fun i x=>by
    rcases x with (x|x)|x
    ·exact .inl (.inl x)
    ·exact .inr x
    ·exact .inl (.inr x)))
   exact MxS
 case rest =>
  clear HC HX HD
  obtain⟨N1,V1,A14,rfl,rfl,hd,hgx1,hn,hp,hc,hx⟩:=hcut
  have HD:=qh hd
  have HN1:=qh hn
  have HP1:=qh hp
  have HC:=qh hc
  have HX:=qh hx
  have HP1L:qH (∀ i,PB V1 Y i->i<wc.heap.size):=qh (fun i hi=>hi.lt hp)
  clear hd hn hp hc hx
  refine RZx ?_;intro x0' x1' x2' y0' y1' y2' y3' y4'
  go_wp2_with fail
  go_cut [11,12] from 37 to 50 (fun u11 u12 wy=>∃ (N2:Nat) (V2:Nat->Sl) (A24:Nat->Prop),u11 = .int .i64 av/\u12 = .pointer (some ⟨N2,0,none⟩)/\Duo W (vOb z1 b1 n true (qOL vals)) (rOb z2 b2 n true (qOL vals)) A14 A24 (fun i=>(((i<z1\/PB V1 Y i)\/i=N1)\/PB V2 Y i)\/i=N2) sx sx wy/\W.heap.size+1<N2/\N1<N2/\Held wy N2 36 (pkC V2)/\PkV wy V2 Y/\Held wy N1 36 (pkC V1)/\PkV wy V1 Y/\Held wy W.heap.size 23 #[.int .i64 (H.t:Int),.int .i64 (H.p:Int),.int .i64 (H.s:Int)]/\Held wy (W.heap.size+1) 27 #[.slice (some ad2) H.t c2,.int .i64 (i0:Int),.int .i64 k0,.int .i64 pg,.int .i64 sl])
  case first =>
   clear x0' x1' x2' y0' y1' y2' y3' y4'
   refine Rl5 ?_;clear HD HC HX;intro HD HC HX
   replace HN1:=qh (HN1.o.keep (Bdrew (B0 _)))
   replace HP1:=qh (HP1.o.below (Bdrew (B0 _)))
   replace HP1L:qH (∀ i,PB V1 Y i->i<wc.drew.heap.size):=qh HP1L.o
   refine RWt ?_;intro hHeld
   generalize hwd:World.drew wc=w24 at *
   clear hwd
   refine Rbo ?_
   refine RPe ?_
   refine tkz 9 ?_
   refine wpAnyH_ready (rs := [10,14]) qr (by simp) ?_
   refine AllReadyH.cons (o:=_) rfl (fun K hK=>?_) (AllReadyH.cons (o:=_) rfl (fun K hK=>?_) AllReadyH.nil)
   ·skip
    go_simp
    refine(qB8 hn40 hq10 k0 HOK.o (HPU.o _ HD.o.bel) (fun i hi ha=>(HD.o.aG i (.inl (.inl (HPZ.o i hi)))).2.2 ha) HD.o.i2).mono ?_
    rintro e w25 ⟨V2,rfl,hl,_⟩
    rw[HAV.o]
    rw[HYY.o,HSX.o] at hl
    obtain⟨A24,h2,hpv,h3⟩:=HD.o.pkt2 (HPU.o _ HD.o.bel) (fun i hi => .inl (.inl (HPZ.o i hi))) hl
    have HNB:qH (∀ i,W.heap.size<=i->PB V2 Y i->w24.heap.size<=i):=qh (fun i h4 hi=>by
     rcases hl.old i hi with h5|h5
     ·have:=HPW.o i h5;omega
     ·exact h5)
    replace HC:=qh (h3.held (.inl (.inl (by have:=HZC.o;omega))) HC.o)
    replace HX:=qh (h3.held (.inl (.inl (HZC.o))) HX.o)
    replace HN1:=qh (h3.held (.inr rfl) HN1.o)
    replace HP1:=qh (HP1.o.stay h3.1 (fun i hi=>h3.2 i (.inl (.inr hi)) (HP1L.o i hi)))
    replace HP1L:qH (∀ i,PB V1 Y i->i<w25.heap.size):=qh (fun i hi=>Nat.lt_of_lt_of_le (HP1L.o i hi) h3.1)
    replace HD:=qh h2
    have HP2:=qh hpv
    clear h2 h3 hpv hl
    refine RZq ?_;clear hK K;intro hHeld
    refine Rdc ?_
    refine rdz 14 fun K hK=>?_
    go_simp
    have hb:=Bnew (B0 w25) (.cells #[.slice none 0 0,.slice none 0 0,.slice none 0 0,.slice none 0 0,.slice none 0 0,.slice none 0 0,.slice none 0 0,.slice none 0 0,.slice none 0 0] 36)
    have HN2:qH (Held (w25.alloc (.cells #[.slice none 0 0,.slice none 0 0,.slice none 0 0,.slice none 0 0,.slice none 0 0,.slice none 0 0,.slice none 0 0,.slice none 0 0,.slice none 0 0] 36)) w25.heap.size 36 (pkC zeroU)):=qh (Held.new w25 36 #[.slice none 0 0,.slice none 0 0,.slice none 0 0,.slice none 0 0,.slice none 0 0,.slice none 0 0,.slice none 0 0,.slice none 0 0,.slice none 0 0])
    have HGL:qH (∀ i,((((i<z1\/PB V1 Y i)\/i=N1)\/PB V2 Y i):Prop)->i<w25.heap.size):=qh (fun i hi=>(HD.o.aG i hi).1)
    have HGW:qH (W.heap.size<=w25.heap.size):=qh HD.o.bel.size
    have HGX:qH (W.heap.size+1<w25.heap.size):=qh HX.o.lt
    have HN12:qH (N1<w25.heap.size):=qh HN1.o.lt
    replace HD:=qh (HD.o.keep2 (G':=fun i=>(((i<z1\/PB V1 Y i)\/i=N1)\/PB V2 Y i)\/i=w25.heap.size) hb (fun i x=>by
     rcases x with x|x
     ·exact .inl x
     ·right;subst x;simp))
    refine R2t ?_;clear HC HX;intro HC HX
    replace HN1:=qh (HN1.o.keep hb)
    replace HP1:=qh (HP1.o.below hb)
    replace HP1L:qH (∀ i,PB V1 Y i->i<(w25.alloc (.cells #[.slice none 0 0,.slice none 0 0,.slice none 0 0,.slice none 0 0,.slice none 0 0,.slice none 0 0,.slice none 0 0,.slice none 0 0,.slice none 0 0] 36)).heap.size):=qh (fun i hi=>Nat.lt_of_lt_of_le (HP1L.o i hi) hb.size)
    replace HP2:=qh (HP2.o.below hb)
    have HNN2:qH (¬ PB V2 Y w25.heap.size):=qh (fun x=>by have:=HGL.o _ (.inr x);omega)
    generalize hnp:w25.heap.size=N2 at *
    generalize hwn:w25.alloc (.cells #[.slice none 0 0,.slice none 0 0,.slice none 0 0,.slice none 0 0,.slice none 0 0,.slice none 0 0,.slice none 0 0,.slice none 0 0,.slice none 0 0] 36)=w27 at *
    clear hb hnp hwn
    refine RZq ?_;clear hK K;intro hHeld
    refine tkz 15 ?_
    refine rdz 16 fun K hK=>?_
    obtain⟨z0,z1,z2,z3,z4,z5,z6,z7,z8⟩:=HN2.o.nineP
    obtain⟨f0,f1,f2,f3,f4,f5,f6,f7,f8⟩:=HN2.o.thawP
    go_simp
    obtain⟨WF,hWF⟩:∃ WF,setP w27 N2 V2=WF:=⟨_,rfl⟩
    replace HD:=qh (HD.o.putP (.inr rfl) HGW.o V2)
    replace HP2:=qh (HP2.o.putP HNN2.o V2)
    replace HC:=qh (HC.o.farP (fun e:W.heap.size=N2=>by have:=HGL.o W.heap.size (.inl (.inl (.inl (by have:=HZC.o;omega))));omega) V2)
    replace HX:=qh (HX.o.farP (fun e:(W.heap.size+1)=N2=>by have:=HGL.o (W.heap.size+1) (.inl (.inl (.inl (HZC.o))));omega) V2)
    replace HN1:=qh (HN1.o.farP (fun e:N1=N2=>by have:=HGL.o N1 (.inl (.inr rfl));omega) V2)
    replace HP1:=qh (HP1.o.putP (fun x:PB V1 Y N2=>by have:=HGL.o _ (.inl (.inl (.inr x)));omega) V2)
    replace HP1L:qH (∀ i,PB V1 Y i->i<(setP w27 N2 V2).heap.size):=qh (fun i hi=>by rw[sizeP];exact HP1L.o i hi)
    replace HN2:=qh (Held.setP HN2.o V2)
    rw[hWF] at HD HP2 HN2 HC HX HN1 HP1 HP1L
    unfold setP at hWF
    rw[hWF]
    clear z0 z1 z2 z3 z4 z5 z6 z7 z8 f0 f1 f2 f3 f4 f5 f6 f7 f8 hWF HNN2
    refine RZq ?_;clear hK K;intro hHeld
    refine dnz ?_
    exact MhY
   ·skip
    go_simp
    have hb:=Bnew (B0 w24) (.cells #[.slice none 0 0,.slice none 0 0,.slice none 0 0,.slice none 0 0,.slice none 0 0,.slice none 0 0,.slice none 0 0,.slice none 0 0,.slice none 0 0] 36)
    have HN2:qH (Held (w24.alloc (.cells #[.slice none 0 0,.slice none 0 0,.slice none 0 0,.slice none 0 0,.slice none 0 0,.slice none 0 0,.slice none 0 0,.slice none 0 0,.slice none 0 0] 36)) w24.heap.size 36 (pkC zeroU)):=qh (Held.new w24 36 #[.slice none 0 0,.slice none 0 0,.slice none 0 0,.slice none 0 0,.slice none 0 0,.slice none 0 0,.slice none 0 0,.slice none 0 0,.slice none 0 0])
    have HGL:qH (∀ i,(((i<z1\/PB V1 Y i)\/i=N1):Prop)->i<w24.heap.size):=qh (fun i hi=>(HD.o.aG i hi).1)
    have HGW:qH (W.heap.size<=w24.heap.size):=qh HD.o.bel.size
    have HGX:qH (W.heap.size+1<w24.heap.size):=qh HX.o.lt
    have HN12:qH (N1<w24.heap.size):=qh HN1.o.lt
    replace HD:=qh (HD.o.keep2 (G':=fun i=>((i<z1\/PB V1 Y i)\/i=N1)\/i=w24.heap.size) hb (fun i x=>by
     rcases x with x|x
     ·exact .inl x
     ·right;subst x;simp))
    refine R2t ?_;clear HC HX;intro HC HX
    replace HN1:=qh (HN1.o.keep hb)
    replace HP1:=qh (HP1.o.below hb)
    replace HP1L:qH (∀ i,PB V1 Y i->i<(w24.alloc (.cells #[.slice none 0 0,.slice none 0 0,.slice none 0 0,.slice none 0 0,.slice none 0 0,.slice none 0 0,.slice none 0 0,.slice none 0 0,.slice none 0 0] 36)).heap.size):=qh (fun i hi=>Nat.lt_of_lt_of_le (HP1L.o i hi) hb.size)
    generalize hnp:w24.heap.size=N2 at *
    generalize hwn:w24.alloc (.cells #[.slice none 0 0,.slice none 0 0,.slice none 0 0,.slice none 0 0,.slice none 0 0,.slice none 0 0,.slice none 0 0,.slice none 0 0,.slice none 0 0] 36)=w27 at *
    have HNL:qH (N2<w27.heap.size):=qh HN2.o.lt
    clear hb hnp hwn
    refine RZq ?_;clear hK K;intro hHeld
    refine rdz 10 fun K hK=>?_
    go_simp
    refine(qB8 hn40 hq10 k0 HOK.o (HPU.o _ HD.o.bel) (fun i hi ha=>(HD.o.aG i (.inl (.inl (.inl (HPZ.o i hi))))).2.2 ha) HD.o.i2).mono ?_
    rintro e w25 ⟨V2,rfl,hl,_⟩
    rw[HAV.o]
    rw[HYY.o,HSX.o] at hl
    obtain⟨A24,h2,hpv,h3⟩:=HD.o.pkt2 (HPU.o _ HD.o.bel) (fun i hi => .inl (.inl (.inl (HPZ.o i hi)))) hl
    have HNB:qH (∀ i,W.heap.size<=i->PB V2 Y i->w27.heap.size<=i):=qh (fun i h4 hi=>by
     rcases hl.old i hi with h5|h5
     ·have:=HPW.o i h5;omega
     ·exact h5)
    replace HC:=qh (h3.held (.inl (.inl (.inl (by have:=HZC.o;omega)))) HC.o)
    replace HX:=qh (h3.held (.inl (.inl (.inl (HZC.o)))) HX.o)
    replace HN1:=qh (h3.held (.inl (.inr rfl)) HN1.o)
    replace HN2:=qh (h3.held (.inr rfl) HN2.o)
    replace HP1:=qh (HP1.o.stay h3.1 (fun i hi=>h3.2 i (.inl (.inl (.inr hi))) (HP1L.o i hi)))
    replace HP1L:qH (∀ i,PB V1 Y i->i<w25.heap.size):=qh (fun i hi=>Nat.lt_of_lt_of_le (HP1L.o i hi) h3.1)
    replace HD:=qh h2
    have HP2:=qh hpv
    clear h2 h3 hpv hl
    refine RZq ?_;clear hK K;intro hHeld
    refine Rdc ?_
    refine tkz 15 ?_
    refine rdz 16 fun K hK=>?_
    have HNN2:qH (¬ PB V2 Y N2):=qh (fun x=>by have h4:=HNB.o _ HGW.o x;have:=HNL.o;omega)
    obtain⟨z0,z1,z2,z3,z4,z5,z6,z7,z8⟩:=HN2.o.nineP
    obtain⟨f0,f1,f2,f3,f4,f5,f6,f7,f8⟩:=HN2.o.thawP
    go_simp
    obtain⟨WF,hWF⟩:∃ WF,setP w25 N2 V2=WF:=⟨_,rfl⟩
    replace HD:=qh (HD.o.putP (.inl (.inr rfl)) HGW.o V2)
    replace HP2:=qh (HP2.o.putP HNN2.o V2)
    replace HC:=qh (HC.o.farP (fun e:W.heap.size=N2=>by have:=HGL.o W.heap.size (.inl (.inl (by have:=HZC.o;omega)));omega) V2)
    replace HX:=qh (HX.o.farP (fun e:(W.heap.size+1)=N2=>by have:=HGL.o (W.heap.size+1) (.inl (.inl (HZC.o)));omega) V2)
    replace HN1:=qh (HN1.o.farP (fun e:N1=N2=>by have:=HGL.o N1 (.inr rfl);omega) V2)
    replace HP1:=qh (HP1.o.putP (fun x:PB V1 Y N2=>by have:=HGL.o _ (.inl (.inr x));omega) V2)
    replace HP1L:qH (∀ i,PB V1 Y i->i<(setP w25 N2 V2).heap.size):=qh (fun i hi=>by rw[sizeP];exact HP1L.o i hi)
    replace HN2:=qh (Held.setP HN2.o V2)
    rw[hWF] at HD HP2 HN2 HC HX HN1 HP1 HP1L
    unfold setP at hWF
    rw[hWF]
    clear z0 z1 z2 z3 z4 z5 z6 z7 z8 f0 f1 f2 f3 f4 f5 f6 f7 f8 hWF HNN2
    refine RZq ?_;clear hK K;intro hHeld
    refine dnz ?_
    replace HD:=qh (HD.o.less (G':=fun i=>(((i<z1\/PB V1 Y i)\/i=N1)\/PB V2 Y i)\/i=N2) (fun i x=>by
     rcases x with (x|x)|x
     ·exact .inl (.inl x)
     ·exact .inr x
     ·exact .inl (.inr x)))
    exact MhY
  case rest =>
   clear HC HX HD HN1 HP1 HP1L
   obtain⟨N2,V2,A24,rfl,rfl,hd,hgx2,hn12,hn,hp,hn1,hp1,hc,hx⟩:=hcut
   have HD:=qh hd
   have HN2:=qh hn
   have HP2:=qh hp
   have HC:=qh hc
   have HX:=qh hx
   have HN1:=qh hn1
   have HP1:=qh hp1
   clear hn1 hp1
   clear hd hn hp hc hx
   have HNW:qH (W.heap.size+1<N1/\N1<N2):=qh ⟨hgx1,hn12⟩
   clear hgx1 hgx2 hn12
   obtain⟨p0,p1,p2,p3,p4,p5,p6,p7,p8⟩:=HN1.o.nineP
   obtain⟨q0,q1,q2,q3,q4,q5,q6,q7,q8⟩:=HN2.o.nineP
   go_wp2_with fail
   refine(qJ2 V1 V2 Y _ HP1.o HP2.o).mono ?_
   rintro e w7 ⟨rfl,hb⟩
   replace HD:=qh (HD.o.keep hb)
   refine R2t ?_;clear HC HX;intro HC HX
   replace HN1:=qh (HN1.o.keep hb)
   replace HN2:=qh (HN2.o.keep hb)
   clear hb p0 p1 p2 p3 p4 p5 p6 p7 p8 q0 q1 q2 q3 q4 q5 q6 q7 q8 HP1 HP2
   obtain⟨o,hI,-⟩:=HD.o.i1
   have HL:qH (sx.rd.length<2^40/\sx.wr.length<2^40):=qh (by have:=hI.ok.few;omega)
   go_wp2_with fail
   refine(qLN HL.o.1 _ hI).mono ?_
   rintro e w90 ⟨r6,rfl,ho,hb⟩
   replace HD:=qh (HD.o.keep hb)
   have HR6:=qh (qW4 ho)
   refine R2t ?_;clear HC HX;intro HC HX
   replace HN1:=qh (HN1.o.keep hb)
   replace HN2:=qh (HN2.o.keep hb)
   clear hb ho hI o
   obtain⟨o,hI,-⟩:=HD.o.i1
   go_wp2_with fail
   refine(qD3 HL.o.2 _ hI).mono ?_
   rintro e w91 ⟨r7,rfl,ho,hb⟩
   replace HD:=qh (HD.o.keep hb)
   have HP7:=qh (RowP.of_own ho)
   have HR7:=qh (HR6.o.below hb)
   refine R2t ?_;clear HC HX;intro HC HX
   replace HN1:=qh (HN1.o.keep hb)
   replace HN2:=qh (HN2.o.keep hb)
   clear hb ho HR6 hI o
   obtain⟨o,hI,-⟩:=HD.o.i1
   obtain⟨v,hR,-⟩:=HD.o.i2
   have HAA:=qh hR
   go_wp2_with fail
   refine(qIp _ hI).mono ?_
   rintro e w92 ⟨rfl,hw⟩
   subst hw
   go_wp2_with fail
   refine(qCG HL.o.1 HL.o.2 r6 r7 _ HAA.o HR7.o HP7.o).mono ?_
   rintro e w93 ⟨rfl,hb⟩
   replace HD:=qh (HD.o.keep hb)
   refine R2t ?_;clear HC HX;intro HC HX
   replace HN1:=qh (HN1.o.keep hb)
   replace HN2:=qh (HN2.o.keep hb)
   clear hb HAA HR7 HP7 hI hR o v HL
   have HB:=qh HD.o.bel
   clear HD
   refine RZx ?_;intro x0' x1' x2' y0' y1' y2' y3' y4'
   go_wp2_with fail
   refine(HLV.o _ HB.o).mono ?_
   rintro e w94 ⟨rfl,hb⟩
   refine R2t ?_;clear HC HX;intro HC HX
   replace HN1:=qh (HN1.o.keep hb)
   replace HN2:=qh (HN2.o.keep hb)
   replace HB:=qh (Bgo HB.o hb)
   clear hb
   clear x0' x1' x2' y0' y1' y2' y3' y4'
   cases lb
   case false =>
    exact Myq
   case true =>
    obtain⟨pf,jf,kf,rfl,rfl,hpf,hjf,hkf,hi1,hi2⟩:=HFR.o rfl
    have HI1:=qh hi1
    have HI2:=qh hi2
    obtain⟨Y3,hY3⟩:∃ Y3,freeZ H.t H.p H.s kf pf jf (Z i0)=Y3:=⟨_,rfl⟩
    obtain⟨sy,hsy⟩:∃ sy,freeI n (qOL vals) H.t H.p H.s pf jf (Z i0 kf) freshS=sy:=⟨_,rfl⟩
    have HY3:=qh hY3
    have HSY:=qh hsy
    clear hi1 hi2 hY3 hsy HZC HPZ HOK HAV HYY HSX HFR HLV
    refine RZx ?_;intro x0' x1' x2' y0' y1' y2' y3' y4'
    have HNM:qH (N1<w94.heap.size/\N2<w94.heap.size):=qh ⟨HN1.o.lt,HN2.o.lt⟩
    have HXM:qH (W.heap.size+1<w94.heap.size):=qh HX.o.lt
    have HWS:qH (W.heap.size<=w94.heap.size):=qh HB.o.size
    have HRa:qH (Reads w94 w94.heap.size 1 (some ad) n (valVs vals)):=qh ((HR.o.below HB.o).more HB.o.size)
    go_wp2_with fail
    refine(qWm (some ad) c vals n HNN.o qo H32.o _ (by
     intro h0
     obtain⟨ad',e,_,hc⟩:=HRa.o.2 h0
     exact⟨ad',e,hc⟩)).mono ?_
    rintro e wa3 ⟨ba,oa,rfl,hI,hB⟩
    have HV2:qH (IsView wa3 w94.heap.size ba n true oa (qOL vals) freshS):=qh hI
    replace HB:=qh (Bgo HB.o hB)
    have HRb:qH (Reads wa3 wa3.heap.size 1 (some ad) n (valVs vals)):=qh ((HRa.o.below hB).more hB.size)
    replace HC:=qh (HC.o.keep hB)
    replace HX:=qh (HX.o.keep hB)
    replace HN1:=qh (HN1.o.keep hB)
    replace HN2:=qh (HN2.o.keep hB)
    have HWZ:qH (W.heap.size<=w94.heap.size):=qh HWS.o
    clear hI hB HRa
    clear x0' x1' x2' y0' y1' y2' y3' y4'
    refine RZx ?_;intro x0' x1' x2' y0' y1' y2' y3' y4'
    go_wp2_with fail
    refine(qJu (some ad) c vals n HNN.o qo hnc hcm H32.o _ HRb.o).mono ?_
    rintro e wa4 ⟨bb,vb,rfl,hI,hB⟩
    have HV3:=qh (HV2.o.keep hB)
    have HA3:qH (IsRefV wa4 wa3.heap.size bb n true vb (qOL vals) freshS):=qh hI
    replace HB:=qh (Bgo HB.o hB)
    replace HC:=qh (HC.o.keep hB)
    replace HX:=qh (HX.o.keep hB)
    replace HN1:=qh (HN1.o.keep hB)
    replace HN2:=qh (HN2.o.keep hB)
    have HL2:qH (∀ i,oa.A ba i->i<wa3.heap.size):=qh HV2.o.lt
    have HL9:qH (w94.heap.size<=wa3.heap.size):=qh (by have h1:=HV2.o.head.lt;have h2:=HV2.o.ge ba (.inl (.inl (.inl rfl)));omega)
    clear hI hB HV2 HRb
    have HZC:qH (W.heap.size+1<w94.heap.size):=qh HXM.o
    have HZN:qH (N1<w94.heap.size/\N2<w94.heap.size):=qh HNM.o
    generalize hza:w94.heap.size=za at *
    generalize hz2:wa3.heap.size=zb at *
    have HD:qH (Duo W (vOb za ba n true (qOL vals)) (rOb zb bb n true (qOL vals)) (oa.A ba) (OwnF bb 6 vb) (fun i=>i<za) freshS freshS wa4):=qh ⟨⟨oa,HV3.o,rfl⟩,⟨vb,HA3.o,rfl⟩,fun i hi hj=>by have:=HL2.o i hi;have:=HA3.o.parts.ge i hj;omega,fun g hg=>by
      have hl1:=HL9.o
      have hlt:=HV3.o.head.lt
      have hge:=HV3.o.ge ba (.inl (.inl (.inl rfl)))
      exact⟨qo,fun x=>by have:=HV3.o.ge _ x;omega,fun x=>by have:=HA3.o.parts.ge _ x;omega⟩,fun i hi=>by
      have:=HWZ.o
      rcases hi with hi|hi
      ·have:=HV3.o.ge _ hi;omega
      ·have:=HA3.o.parts.ge _ hi;have:=HL9.o;omega,HB.o⟩
    clear HV3 HA3 HL2 HL9 HWZ hza hz2 HB
    clear x0' x1' x2' y0' y1' y2' y3' y4'
    refine RZx ?_;intro x0' x1' x2' y0' y1' y2' y3' y4'
    have HPY:qH (∀ i,PB (U i0) (Z i0) i->i<za):=qh (fun i hi=>by have:=HPW.o i hi;have:=HZC.o;omega)
    have HZL0:qH (za<=wa4.heap.size):=qh (by
     rcases Nat.lt_or_ge wa4.heap.size za with h|h
     ·have:=(HD.o.aG wa4.heap.size h).1;omega
     ·exact h)
    go_wp2_with fail
    clear x0' x1' x2' y0' y1' y2' y3' y4'
    refine Rl5 ?_;clear HD HC HX;intro HD HC HX
    replace HN1:=qh (HN1.o.keep (Bdrew (B0 _)))
    replace HN2:=qh (HN2.o.keep (Bdrew (B0 _)))
    refine RW9 ?_;intro hHeld
    have HZL:qH (za<=(World.drew wa4).heap.size):=qh HZL0.o
    generalize hwd:World.drew wa4=wf1 at *
    clear hwd
    refine Rbo ?_
    refine RPe ?_
    refine R6M ?_
    refine rdz 12 fun K hK=>?_
    go_simp
    refine(qEO hn40 hq10 kf hkf pf jf qo hjf HI1.o HI2.o (HD.o.slots HTL.o).1 (HD.o.slots HTL.o).2.1 (HPU.o _ HD.o.bel) (fun i hi ha=>(HD.o.aG i (HPY.o i hi)).2.1 ha) HD.o.i1).mono ?_
    rintro e wg1 ⟨V3,rfl,hl⟩
    rw[HY3.o,HSY.o] at hl
    obtain⟨A19,h2,hpv,h3⟩:=HD.o.pkt1 (HPU.o _ HD.o.bel) (fun i hi=>HPY.o i hi) hl
    have HPN:qH (∀ i,PB V3 Y3 i->i<W.heap.size\/za<=i):=qh (fun i hi=>by
     rcases hl.old _ hi with h5|h5
     ·exact .inl (HPW.o _ h5)
     ·have h6:=HZL.o;right;omega)
    have HNB:qH (¬ PB V3 Y3 N1):=qh (fun hi=>by
     have h8:=HZN.o
     have h9:=(HD.o.aG N1 (HZN.o.1)).1
     rcases hl.old _ hi with h5|h5
     ·have:=HPW.o _ h5;have:=HNW.o;omega
     ·omega)
    replace HC:=qh (h3.held (by have:=HZC.o;omega) HC.o)
    replace HX:=qh (h3.held (HZC.o) HX.o)
    replace HN1:=qh (h3.held (HZN.o.1) HN1.o)
    replace HN2:=qh (h3.held (HZN.o.2) HN2.o)
    replace HD:=qh h2
    have HP3:=qh hpv
    clear h2 h3 hpv hl
    refine RZq ?_;clear hK K;intro hHeld
    refine rdz 13 fun K hK=>?_
    obtain⟨z0,z1,z2,z3,z4,z5,z6,z7,z8⟩:=HN1.o.nineP
    obtain⟨f0,f1,f2,f3,f4,f5,f6,f7,f8⟩:=HN1.o.thawP
    go_simp
    obtain⟨WF1,hWF⟩:∃ WF1,setP wg1 N1 V3=WF1:=⟨_,rfl⟩
    replace HD:=qh (HD.o.putP (.inl (HZN.o.1)) (by have:=HNW.o;omega) V3)
    replace HP3:=qh (HP3.o.putP HNB.o V3)
    replace HC:=qh (HC.o.farP (fun e:W.heap.size=N1=>by have:=HNW.o;omega) V3)
    replace HX:=qh (HX.o.farP (fun e:(W.heap.size+1)=N1=>by have:=HNW.o;omega) V3)
    replace HN2:=qh (HN2.o.farP (fun e:N2=N1=>by have:=HNW.o;omega) V3)
    replace HN1:=qh (Held.setP HN1.o V3)
    rw[hWF] at HD HP3 HC HX HN1 HN2
    unfold setP at hWF
    rw[hWF]
    clear z0 z1 z2 z3 z4 z5 z6 z7 z8 f0 f1 f2 f3 f4 f5 f6 f7 f8 hWF HNB
    refine RZq ?_;clear hK K;intro hHeld
    refine dnz ?_
    have HN3B:qH (¬ PB V3 Y3 N2):=qh (fun hi=>by have h8:=HPN.o _ hi;have:=HNW.o;have:=HZN.o;omega)
    refine RZx ?_;intro x0' x1' x2' y0' y1' y2' y3' y4'
    go_wp2_with fail
    clear x0' x1' x2' y0' y1' y2' y3' y4'
    refine Rl5 ?_;clear HD HC HX;intro HD HC HX
    replace HN1:=qh (HN1.o.keep (Bdrew (B0 _)))
    replace HN2:=qh (HN2.o.keep (Bdrew (B0 _)))
    replace HP3:=qh (HP3.o.below (Bdrew (B0 _)))
    refine RW9 ?_;intro hHeld
    generalize hwd:World.drew WF1=wf2 at *
    clear hwd
    refine Rbo ?_
    refine RPe ?_
    refine R6M ?_
    refine rdz 12 fun K hK=>?_
    go_simp
    refine(qAA hn40 hq10 kf hkf pf jf qo hjf HI1.o HI2.o (HPU.o _ HD.o.bel) (fun i hi ha=>(HD.o.aG i (.inl (HPY.o i hi))).2.2 ha) HD.o.i2).mono ?_
    rintro e wg2 ⟨V4,rfl,hl⟩
    rw[HY3.o,HSY.o] at hl
    obtain⟨A29,h2,hpv,h3⟩:=HD.o.pkt2 (HPU.o _ HD.o.bel) (fun i hi => .inl (HPY.o i hi)) hl
    have HNB:qH (¬ PB V4 Y3 N2):=qh (fun hi=>by
     have h8:=HZN.o
     have h9:=(HD.o.aG N2 (.inl (HZN.o.2))).1
     rcases hl.old _ hi with h5|h5
     ·have:=HPW.o _ h5;have:=HNW.o;omega
     ·omega)
    replace HC:=qh (h3.held (.inl (by have:=HZC.o;omega)) HC.o)
    replace HX:=qh (h3.held (.inl (HZC.o)) HX.o)
    replace HN1:=qh (h3.held (.inl (HZN.o.1)) HN1.o)
    replace HN2:=qh (h3.held (.inl (HZN.o.2)) HN2.o)
    replace HP3:=qh (HP3.o.stay h3.1 (fun i hi=>h3.2 i (.inr hi) (hi.lt HP3.o)))
    replace HD:=qh h2
    have HP4:=qh hpv
    clear h2 h3 hpv hl
    refine RZq ?_;clear hK K;intro hHeld
    refine rdz 13 fun K hK=>?_
    obtain⟨z0,z1,z2,z3,z4,z5,z6,z7,z8⟩:=HN2.o.nineP
    obtain⟨f0,f1,f2,f3,f4,f5,f6,f7,f8⟩:=HN2.o.thawP
    go_simp
    obtain⟨WF2,hWF⟩:∃ WF2,setP wg2 N2 V4=WF2:=⟨_,rfl⟩
    replace HD:=qh (HD.o.putP (.inl (.inl (HZN.o.2))) (by have:=HNW.o;omega) V4)
    replace HP4:=qh (HP4.o.putP HNB.o V4)
    replace HC:=qh (HC.o.farP (fun e:W.heap.size=N2=>by have:=HNW.o;omega) V4)
    replace HX:=qh (HX.o.farP (fun e:(W.heap.size+1)=N2=>by have:=HNW.o;omega) V4)
    replace HN1:=qh (HN1.o.farP (fun e:N1=N2=>by have:=HNW.o;omega) V4)
    replace HP3:=qh (HP3.o.putP HN3B.o V4)
    replace HN2:=qh (Held.setP HN2.o V4)
    rw[hWF] at HD HP4 HC HX HN1 HN2 HP3
    unfold setP at hWF
    rw[hWF]
    clear z0 z1 z2 z3 z4 z5 z6 z7 z8 f0 f1 f2 f3 f4 f5 f6 f7 f8 hWF HNB
    refine RZq ?_;clear hK K;intro hHeld
    refine dnz ?_
    obtain⟨p0,p1,p2,p3,p4,p5,p6,p7,p8⟩:=HN1.o.nineP
    obtain⟨q0,q1,q2,q3,q4,q5,q6,q7,q8⟩:=HN2.o.nineP
    go_wp2_with fail
    refine(qJ2 V3 V4 Y3 _ HP3.o HP4.o).mono ?_
    rintro e w97 ⟨rfl,hb⟩
    replace HD:=qh (HD.o.keep hb)
    clear hb p0 p1 p2 p3 p4 p5 p6 p7 p8 q0 q1 q2 q3 q4 q5 q6 q7 q8 HN1 HN2 HP3 HP4 HC HX
    obtain⟨o,hI,_⟩:=HD.o.i1
    obtain⟨v,hR,_⟩:=HD.o.i2
    have HV:=qh hI
    have HAA:=qh hR
    have HB:=qh HD.o.bel
    have HL:qH (sy.rd.length<2^40/\sy.wr.length<2^40):=qh (by have:=hI.ok.few;omega)
    clear hI hR HD
    go_wp2_with fail
    refine(qLN HL.o.1 _ HV.o).mono ?_
    rintro e w90 ⟨r6,rfl,ho,hb⟩
    have HV:=qh (HV.o.keep hb)
    have HAA:=qh (HAA.o.keep hb)
    have HB:=qh (Bgo HB.o hb)
    have HR6:=qh (qW4 ho)
    clear hb ho
    go_wp2_with fail
    refine(qD3 HL.o.2 _ HV.o).mono ?_
    rintro e w91 ⟨r7,rfl,ho,hb⟩
    have HV:=qh (HV.o.keep hb)
    have HAA:=qh (HAA.o.keep hb)
    have HB:=qh (Bgo HB.o hb)
    have HP7:=qh (RowP.of_own ho)
    have HR7:=qh (HR6.o.below hb)
    clear hb ho HR6
    go_wp2_with fail
    refine(qIp _ HV.o).mono ?_
    rintro e w92 ⟨rfl,hw⟩
    subst hw
    go_wp2_with fail
    refine(qCG HL.o.1 HL.o.2 r6 r7 _ HAA.o HR7.o HP7.o).mono ?_
    rintro e w93 ⟨rfl,hb⟩
    have HB:=qh (Bgo HB.o hb)
    clear hb HV HAA HR7 HP7
    exact Myq

theorem qBq (t q s:Int)(A:Option Addr)(c:Nat)(vals:List Nat)(hnc:vals.length<=c)(hcm:c<=maxLen)(h32:∀ x∈vals,x<2^32)(A2:Option Addr)(T c2:Nat)(t0 k0 pg sl:Int)(hk0 : -9223372036854775808<=k0)(hk1:k0<=9223372036854775807)(hp0 : -9223372036854775808<=pg)(hp1:pg<=9223372036854775807)(hs0 : -9223372036854775808<=sl)(hs1:sl<=9223372036854775807)(U:Nat->Nat->Sl)(Z:Nat->Nat->List Int)(hTc:T<=c2)(hc2:c2<=maxLen)(W:World)(hT:SlotsLaid W)(HP:qH (PksAt W A2 T U Z))(HR:qH (Reads W W.heap.size 1 A vals.length (valVs vals))) :
  Calls Tryz.prog 4 #[.agg #[.int .i64 t,.int .i64 q,.int .i64 s],.slice A vals.length c,.agg #[.slice A2 T c2,.int .i64 t0,.int .i64 k0,.int .i64 pg,.int .i64 sl]] W (Keeps W):=by
 rcases qOg t q s A c vals hnc hcm h32 A2 T c2 t0 k0 pg sl U Z hTc hc2 W HP.o HR.o with h|⟨H,ad,m,i0,L,rfl,rfl,rfl,rfl,rfl,rfl,hi0,hq,hV,HV,hv,hr,hok,hX,F,hF⟩
 ·exact qTq t q s A _ c A2 T c2 t0 k0 pg sl W hT (qh h)
 ·obtain⟨ad2,rfl,_⟩:=HP.o i0 hi0
  have hK:∀ i,i<vals.length->qOL vals i=some (H.V i):=fun i hi=>by
   unfold qOL
   rw[hV i,List.getElem?_eq_getElem hi]
   simp[List.getD,List.getElem?_eq_getElem hi]
  have h32K:∀ i x,qOL vals i=some x->x<2^32:=fun i x h=>h32 x (List.mem_of_getElem? h)
  have WK:=Work.of_ok hok HV hK
  obtain⟨lb,hlb⟩:∃ lb:Bool,(∀ w,Below W.heap.size W w->Calls Tryz.prog 20 #[.agg #[.int .i64 (H.t:Int),.int .i64 (H.p:Int),.int .i64 (H.s:Int)],.slice (some ad) vals.length c,.int .i64 pg,.int .i64 sl] w fun e w'=>e = .returned (.bool lb)/\Below w.heap.size w w')/\(lb=true->∃ pf jf kf:Nat,pg=(pf:Int)/\sl=(jf:Int)/\pf<H.p/\jf<32/\kf<9/\(infoOf vals.length (qOL vals) H.t H.p H.s pf freshS).2.2.1=(kf:Int)/\(infoOf vals.length (qOL vals) H.t H.p H.s pf (offS vals.length (qOL vals) H.t H.p H.s pf jf (getS vals.length (qOL vals) freshS (pageI H.t H.p H.s pf 0)))).2.2.1=(kf:Int)):=by
   by_cases h0:pg<0\/(H.p:Int)<=pg\/sl<0\/31<sl
   ·exact⟨false,fun w hb=>qQ9 H.t H.p H.s pg sl (some ad) _ c h0 w,(fun h=>by cases h)⟩
   ·obtain⟨pf,rfl⟩:=Int.eq_ofNat_of_zero_le (show 0<=pg by omega)
    obtain⟨jf,rfl⟩:=Int.eq_ofNat_of_zero_le (show 0<=sl by omega)
    have hpf:pf<H.p:=qo
    have hjf:jf<32:=qo
    refine⟨(H.cel pf 4).testBit jf,fun w hb=>qMK HV ad hpf hjf _ rfl w (hv.below hb),fun h=>?_⟩
    obtain⟨_,_,kf,hkf,hc⟩:=qDW HV hok hpf hjf h
    obtain⟨g1,g2⟩:=qGf HV WK hpf jf
    exact⟨pf,jf,kf,rfl,rfl,hpf,hjf,hkf,g1.trans hc,g2.trans hc⟩
  exact qW1 ad _ c HV vals (qh rfl) (qh h32) hnc ad2 c2 hTc hc2 i0 hi0 k0 pg sl hk0 hk1 U Z hq (fun a ha=>by
   by_cases hk:0<=k0/\k0<=8
   ·obtain⟨k,rfl⟩:=Int.eq_ofNat_of_zero_le hk.1
    rw[qUw qo] at ha
    exact qP8 HV hok WK h32K F hi0 qo ha
   ·unfold lastP at ha
    rw[if_neg hk] at ha
    cases ha) lb hlb.2 W hT HR HP (qh hF) (qh hlb.1)
end
end Go.Proofs.YtjjfcaliippgpaaGreatDoor
