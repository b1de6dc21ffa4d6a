/-
  The page and the slot of an address, as the document's answer of layer 18 tells them.
-/
import Derived.Test.YtjjfcaliippgpaaGreatDoorV16
import Derived.Test.YtjjfcaliippgpaaGreatDoorV23
import Derived.Test.YtjjfcaliippgpaaGreatDoorV25
import Derived.Test.YtjjfcaliippgpaaGreatDoorV13
import Derived.Test.YtjjfcaliippgpaaGreatDoorV12
import Derived.Test.YtjjfcaliippgpaaGreatDoorV19
import Derived.Test.YtjjfcaliippgpaaGreatDoorV01
import Derived.Test.YtjjfcaliippgpaaGreatDoorV20
import Derived.Test.YtjjfcaliippgpaaGreatDoorV10
namespace Go.Proofs.YtjjfcaliippgpaaGreatDoor
theorem RPa {P Q:Prop}(kq:Q)(h:HQ Q->P:=by
 intro kq
 replace HC:=qh (h2.held (.inl (.inl rfl)) HC.o)
 replace HPB:=qh (h2.held (.inl (.inr (.inl rfl))) HPB.o)
 replace HRB:=qh (h2.held (.inl (.inr (.inr rfl))) HRB.o)
 replace HK:=qh (HK.o.call h1 h2)
 revert HC HPB HRB HK
 exact kq.o):P:=h ⟨kq⟩
theorem RNb {P Q:Prop}(kq:Q)(h:HQ Q->P:=by
 intro kq
 refine(qSX t q s (p:Int) _).mono ?_
 rintro e w5 ⟨rfl,hb⟩
 replace HK:=qh (HK.o.keep hb)
 replace HC:=qh (HC.o.keep hb)
 replace HPB:=qh (HPB.o.keep hb)
 replace HRB:=qh (HRB.o.keep hb)
 clear hb
 obtain⟨c0,c1,c2⟩:=HC.o.three
 revert w5 HK HC HPB HRB c0 c1 c2
 exact kq.o):P:=h ⟨kq⟩
theorem R14 {P Q:Prop}(kq:Q)(h:HQ Q->P:=by
 intro kq
 have hge:2^i<=v:=Nat.ge_two_pow_of_testBit hbt
 obtain⟨u,hu⟩:∃ u,v-xp=u:=⟨_,rfl⟩
 have HCV:qH (clrB (getV n K sx (pageI t q s (p:Int) 4)) i=u):=qh (by rw[hv];unfold clrB;rw[hbt,<- hu,<- hxp];simp)
 have HU:qH (u<2^32):=qh qo
 have e1:(v:Int)-(xp:Int)=(u:Int):=qo
 revert hge u hu HCV HU e1
 exact kq.o):P:=h ⟨kq⟩
theorem Rku {P Q:Prop}(kq:Q)(h:HQ Q->P:=by
 intro kq
 obtain⟨sy,hsy⟩:∃ sy,putS n (getS n K sx (pageI t q s (p:Int) 4)) (pageI t q s (p:Int) 4) (clrB (getV n K sx (pageI t q s (p:Int) 4)) i)=sy:=⟨_,rfl⟩
 have HSY:qH (offS n K t q s p i sx=putS n (getS n K sy 1) 1 (qS4 (getV n K sy 1))):=qh (by rw[<- hsy];rfl)
 revert sy hsy HSY
 exact kq.o):P:=h ⟨kq⟩
theorem RP1 {P Q:Prop}(kq:Q)(h:HQ Q->P:=by
 intro kq
 refine(qD4 t q s (k:Int) (p:Int) (i:Int) qo qo _).mono ?_
 rintro e w7b ⟨rfl,hb⟩
 replace HK:=qh (HK.o.keep hb)
 replace HC:=qh (HC.o.keep hb)
 replace HPB:=qh (HPB.o.keep hb)
 replace HRB:=qh (HRB.o.keep hb)
 clear hb
 obtain⟨c0,c1,c2⟩:=HC.o.three
 obtain⟨p0,p1,p2,p3,p4,p5,p6,p7,p8⟩:=HPB.o.nineP
 have HLR:=qh HRB.o.lt
 revert w7b HK HC HPB HRB c0 c1 c2 p0 p1 p2 p3 p4 p5 p6 p7 p8 HLR
 exact kq.o):P:=h ⟨kq⟩
theorem MRH {P:Prop}(h:P:=by
 rintro e w6 ⟨rfl,h1,h2⟩
 refine RPa ?_;clear HC HPB HRB HK h1 h2;intro HC HPB HRB HK
 rw[<- HCV.o] at HK
 clear c0 c1 c2
 refine Rku ?_;intro sy hsy HSY
 rw[hsy] at HK
 clear hsy
 obtain⟨y,hy⟩:∃ y,getV n K sy 1=y:=⟨_,rfl⟩
 have hy32:y<2^32:=by rw[<- hy];exact qBB HK.o.at_ _
 have HY:=qh hy
 obtain⟨z,hz1⟩:∃ z,qS4 y=z:=⟨_,rfl⟩
 have HZ1:qH (z<2^32):=qh (by rw[<- hz1];exact Nat.mod_lt _ (by decide))
 have e2:((y:Int)-1)%4294967296=(z:Int):=by rw[<- hz1];unfold qS4;omega
 have e3:IntKind.u32.wrap ((y:Int)-1)=(z:Int):=by unfold IntKind.wrap;simpa [IntKind.bits,IntKind.signed] using e2
 have HYZ:qH (qS4 (getV n K sy 1)=z):=qh (by rw[hy,hz1])
 clear hy hz1 hy32
 go_wp2_with fail
 refine(rGetA hn 1 HK.o.at_).mono ?_
 rintro e w6b ⟨rfl,h1,h2⟩
 rw[HY.o]
 refine RPa ?_;clear HC HPB HRB HK h1 h2;intro HC HPB HRB HK
 go_wp2_with fail
 refine(rPutA hn 1 z HZ1.o HK.o.at_).mono ?_
 rintro e w7 ⟨rfl,h1,h2⟩
 refine RPa ?_;clear HC HPB HRB HK h1 h2;intro HC HPB HRB HK
 rw[<- HYZ.o] at HK
 clear e2 e3 HYZ HY HZ1
 rw[<- HSY.o,<- HSX.o] at HK
 obtain⟨c0,c1,c2⟩:=HC.o.three
 obtain⟨p0,p1,p2,p3,p4,p5,p6,p7,p8⟩:=HPB.o.nineP
 go_wp2_with fail
 refine RP1 ?_;clear HK HC HPB HRB c0 c1 c2 p0 p1 p2 p3 p4 p5 p6 p7 p8;intro w7b HK HC HPB HRB c0 c1 c2 p0 p1 p2 p3 p4 p5 p6 p7 p8 HLR
 go_wp2_with fail
 refine(qLK U Z (k:Int) _ _ HK.o.pk (.inr (.inr (by rw[Int.toNat_natCast];omega)))).mono ?_
 rintro e w8 ⟨rfl,hb⟩
 have HPV:qH (∀ m,PB U Z m->m<w.heap.size\/w.heap.size+2<m):=qh (fun m hm => .inl (HPL.o m hm))
 replace HK:=qh (HK.o.keep hb)
 replace HC:=qh ((HC.o.keep hb).alloc (.cells (pkC U) 36))
 replace HRB:=qh ((HRB.o.keep hb).alloc (.cells (pkC U) 36))
 have HNQ:qH (w.heap.size+2<w8.heap.size):=qh (by have:=HRB.o.lt;have h2:=hb.size;have h3:=HLR.o;omega)
 have HQB:=qh (Held.new w8 36 (pkC U))
 replace HK:=qh (HK.o.keep2 (G':=fun i=>i=w.heap.size\/i=(w.heap.size+1)\/i=(w.heap.size+2)\/i=w8.heap.size) (Bnew (B0 w8) (.cells (pkC U) 36)) (fun i x=>by
  rcases x with x|x|x|x
  ·exact .inl (.inl x)
  ·exact .inl (.inr (.inl x))
  ·exact .inl (.inr (.inr x))
  ·exact .inr ⟨qo,by simp;omega⟩))
 clear hb c0 c1 c2 p0 p1 p2 p3 p4 p5 p6 p7 p8
 obtain⟨c0,c1,c2⟩:=HC.o.three
 go_wp2_with fail
 generalize hNQ:w8.heap.size=NQ at *
 generalize hW9:w8.alloc (.cells (pkC U) 36)=w9 at *
 clear hNQ hW9
 refine(qIm hn hq p i hp hi HC0.o HC8.o HK.o.at_).mono ?_
 rintro e w10 ⟨rfl,h1,h2⟩
 replace HRB:=qh (h2.held (.inl (.inr (.inr (.inl rfl)))) HRB.o)
 replace HQB:=qh (h2.held (.inl (.inr (.inr (.inr rfl)))) HQB.o)
 replace HK:=qh (HK.o.call h1 h2)
 clear h1 h2
 obtain⟨p0,p1,p2,p3,p4,p5,p6,p7,p8⟩:=HQB.o.nineP
 obtain⟨z0,z1,z2,z3,z4,z5,z6,z7,z8⟩:=HRB.o.nineP
 obtain⟨f0,f1,f2,f3,f4,f5,f6,f7,f8⟩:=HRB.o.thawP
 go_wp2_with fail
 skip
 obtain⟨WF,hWF⟩:∃ WF,setP w10 (w.heap.size+2) U=WF:=⟨_,rfl⟩
 have zz:=qh (Held.setP HRB.o U)
 have HNF:=qh (HK.o.putP (i:=(w.heap.size+2)) (.inr (.inr (.inl rfl))) (fun x=>by have:=HPV.o _ x;omega) U)
 rw[hWF] at zz HNF
 unfold setP at hWF
 rw[hWF]
 obtain⟨y0,y1,y2,y3,y4,y5,y6,y7,y8⟩:=zz.o.nineP
 clear p0 p1 p2 p3 p4 p5 p6 p7 p8 z0 z1 z2 z3 z4 z5 z6 z7 z8 f0 f1 f2 f3 f4 f5 f6 f7 f8 hWF
 skip
 refine bodyPost_ret (v := .agg (pkC U)) (by simp[results,Tryz.results22,go_sem,y0,y1,y2,y3,y4,y5,y6,y7,y8]) rfl ?_
 exact⟨U,rfl,HNF.o.fin⟩):P:=h
theorem M8B {P:Prop}(h:P:=by
 rintro e w6 ⟨rfl,h1,h2⟩
 refine RPa ?_;clear HC HPB HRB HK h1 h2;intro HC HPB HRB HK
 rw[<- HCV.o] at HK
 clear c0 c1 c2
 refine Rku ?_;intro sy hsy HSY
 rw[hsy] at HK
 clear hsy
 obtain⟨y,hy⟩:∃ y,getV n K sy 1=y:=⟨_,rfl⟩
 have hy32:y<2^32:=by rw[<- hy];exact qBB HK.o.at_ _
 have HY:=qh hy
 obtain⟨z,hz1⟩:∃ z,qS4 y=z:=⟨_,rfl⟩
 have HZ1:qH (z<2^32):=qh (by rw[<- hz1];exact Nat.mod_lt _ (by decide))
 have e2:((y:Int)-1)%4294967296=(z:Int):=by rw[<- hz1];unfold qS4;omega
 have e3:IntKind.u32.wrap ((y:Int)-1)=(z:Int):=by unfold IntKind.wrap;simpa [IntKind.bits,IntKind.signed] using e2
 have HYZ:qH (qS4 (getV n K sy 1)=z):=qh (by rw[hy,hz1])
 clear hy hz1 hy32
 go_wp2_with fail
 refine(rGetA hn 1 HK.o.at_).mono ?_
 rintro e w6b ⟨rfl,h1,h2⟩
 rw[HY.o]
 refine RPa ?_;clear HC HPB HRB HK h1 h2;intro HC HPB HRB HK
 go_wp2_with fail
 refine(rPutA hn 1 z HZ1.o HK.o.at_).mono ?_
 rintro e w7 ⟨rfl,h1,h2⟩
 refine RPa ?_;clear HC HPB HRB HK h1 h2;intro HC HPB HRB HK
 rw[<- HYZ.o] at HK
 clear e2 e3 HYZ HY HZ1
 rw[<- HSY.o,<- HSX.o] at HK
 obtain⟨c0,c1,c2⟩:=HC.o.three
 obtain⟨p0,p1,p2,p3,p4,p5,p6,p7,p8⟩:=HPB.o.nineP
 go_wp2_with fail
 refine RP1 ?_;clear HK HC HPB HRB c0 c1 c2 p0 p1 p2 p3 p4 p5 p6 p7 p8;intro w7b HK HC HPB HRB c0 c1 c2 p0 p1 p2 p3 p4 p5 p6 p7 p8 HLR
 go_wp2_with fail
 refine(qVn U Z k _ (qBv t q s (k:Int) (p:Int) (i:Int)) hk h3 _ HK.o.pk).mono ?_
 rintro e w8 ⟨x,rfl,hx,hV,hb⟩
 have HLT:=qh HRB.o.lt
 have hK2:=HK.o.turn hb hV (fun i hi=>hi.turn_new hx)
 have HPV:qH (∀ m,PB (updF U k x) (updF Z k (Z k ++ [atI t q s (k:Int) (p:Int) (i:Int)])) m->m<w.heap.size\/w.heap.size+2<m):=qh (fun m hm=>by
  rcases hm.turn_new hx with h1|h1
  ·exact .inl (HPL.o m h1)
  ·have:=HLT.o;exact .inr qo)
 obtain⟨V,hV2⟩:∃ V,updF U k x=V:=⟨_,rfl⟩
 rw[hV2] at hK2 HPV ⊢
 replace HK:=qh hK2
 clear hx hV hV2 hK2
 replace HRB:=qh (HRB.o.keep hb)
 clear hb c0 c1 c2 p0 p1 p2 p3 p4 p5 p6 p7 p8
 have HR2:=qh (HRB.o.alloc (.cells (pkC V) 36))
 obtain⟨z0,z1,z2,z3,z4,z5,z6,z7,z8⟩:=HRB.o.nineP
 obtain⟨f0,f1,f2,f3,f4,f5,f6,f7,f8⟩:=HRB.o.thawP
 obtain⟨a0,a1,a2,a3,a4,a5,a6,a7,a8⟩:=HR2.o.nineP
 obtain⟨b0,b1,b2,b3,b4,b5,b6,b7,b8⟩:=HR2.o.thawP
 go_wp2_with fail
 obtain⟨WF,hWF⟩:∃ WF,setP (w8.alloc (.cells (pkC V) 36)) (w.heap.size+2) V=WF:=⟨_,rfl⟩
 have zz:=qh (Held.setP HR2.o V)
 have HNF:=qh ((HK.o.keep (Bnew (B0 _) (.cells (pkC V) 36))).putP (i:=(w.heap.size+2)) (.inr (.inr rfl)) (fun x=>by have:=HPV.o _ x;omega) V)
 rw[hWF] at zz HNF
 unfold setP at hWF
 rw[hWF]
 obtain⟨y0,y1,y2,y3,y4,y5,y6,y7,y8⟩:=zz.o.nineP
 clear z0 z1 z2 z3 z4 z5 z6 z7 z8 f0 f1 f2 f3 f4 f5 f6 f7 f8 a0 a1 a2 a3 a4 a5 a6 a7 a8 b0 b1 b2 b3 b4 b5 b6 b7 b8 hWF
 refine bodyPost_ret (v := .agg (pkC V)) (by simp[results,Tryz.results22,go_sem,y0,y1,y2,y3,y4,y5,y6,y7,y8]) rfl ?_
 exact⟨V,rfl,HNF.o.fin⟩):P:=h
end Go.Proofs.YtjjfcaliippgpaaGreatDoor
set_option linter.unusedVariables false
set_option linter.unusedSimpArgs false
set_option maxRecDepth 100000
set_option maxHeartbeats 25600000
namespace Go.Proofs.YtjjfcaliippgpaaGreatDoor
open Go.ChangeShapes Go.WideShapes Go.ChangeAt Go.RowKit
section
theorem qIq (t q s k a:Int)(hk0 : -9223372036854775808<=k)(hk1:k<=9223372036854775807)(h0 : -9223372036854775808<=a)(h1:a<=9223372036854775807)(w:World) :
  Calls Tryz.prog 29 #[.agg #[.int .i64 t,.int .i64 q,.int .i64 s],.int .i64 k,.int .i64 a] w fun e w'=>e = .returned (.tuple #[.int .i64 (spotP t q s a),.int .i64 (slotR t q s k (spotO t q s a))])/\Below w.heap.size w w':=by
 have HC:=qh (Held.new w 23 #[.int .i64 t,.int .i64 q,.int .i64 s])
 have HB:=qh (Bnew (B0 w) (.cells #[.int .i64 t,.int .i64 q,.int .i64 s] 23))
 obtain⟨x0,x1,x2⟩:=HC.o.three
 obtain⟨o,ho⟩:∃ o,spotO t q s a=o:=⟨_,rfl⟩
 rw[ho]
 have HO:=qh ho
 clear ho
 go_enter Tryz.func29,Tryz.ntmps29
 go_wp2_with fail
 refine(qRm t q s a h0 h1 _).mono ?_
 rintro e w2 ⟨rfl,hb⟩
 replace HC:=qh (HC.o.keep hb)
 replace HB:=qh (Bgo HB.o hb)
 clear hb x0 x1 x2
 obtain⟨x0,x1,x2⟩:=HC.o.three
 rw[HO.o]
 go_wp2_with fail
 refine(qJf t q s k o hk0 hk1 _).mono ?_
 rintro e w3 ⟨rfl,hb⟩
 replace HB:=qh (Bgo HB.o hb)
 clear hb x0 x1 x2
 go_wp2
 go_ret2
 exact⟨rfl,HB.o⟩
end
open Go.Maps
section
section
variable {O : Ob} {w0 w w' : World} {A Q G : Nat -> Prop} {U V : Nat -> Sl} {Z Y : Nat -> List Int} {s s' : Vst}
theorem Held.farP {g2 g:Nat}{t:TypeId}{cs:Array Value}(h:Held w g2 t cs)(hne:g2≠g)(V:Nat->Sl):Held (_root_.Go.Proofs.YtjjfcaliippgpaaGreatDoor.setP w g V) g2 t cs:=(qDL hne V).trans h
theorem Pkt.putP (h:Pkt O w0 A Q G U Z s w){i:Nat}(hi:G i)(hn:¬ PB U Z i)(V:Nat->Sl):Pkt O w0 A Q G U Z s (setP w i V) :=
 ((((((((h.put hi hn 0 _).put hi hn 1 _).put hi hn 2 _).put hi hn 3 _).put hi hn 4 _).put hi hn 5 _).put hi hn 6 _).put hi hn 7 _).put hi hn 8 _
end

section
variable {base b n : Nat} {all : Bool} {K : Nat -> Option Nat} {st : Vst} {w : World} {A : Nat -> Prop} {t q s : Int} {U : Nat -> Sl} {Z : Nat -> List Int}

end
end
section
section
variable {base b n : Nat} {all : Bool} {K : Nat -> Option Nat} {st : Vst} {w : World} {A : Nat -> Prop} {t q s : Int} {U : Nat -> Sl} {Z : Nat -> List Int}

theorem qMI (hn:n<2^40)(hq:q<=1024)(k:Nat)(hk:k<9)(p i:Nat)(hp:p<=1024)(hi:i<32)(kk l:Int)(ok:Bool)(hI:infoOf n K t q s p st=(kk,l,(k:Int),ok))(h3:(Z k).length<=3)(hP:PkV w U Z)(hF:∀ i,PB U Z i->¬ A i)(h:(rOb base b n all K).I w st A) :
  Calls Tryz.prog 22 #[.pointer (some ⟨b,0,none⟩),.agg #[.int .i64 t,.int .i64 q,.int .i64 s],.agg (pkC U),.int .i64 (p:Int),.int .i64 (i:Int)] w fun e w'=>∃ V,e = .returned (.agg (pkC V))/\PkLeft (rOb base b n all K) w A (PB U Z) V (updF Z k (Z k ++ [atI t q s (k:Int) (p:Int) (i:Int)])) (offS n K t q s p i (getS n K st (pageI t q s (p:Int) 0))) w':=by
 have t0:decide ((i:Int)<0)=false:=qf
 have t1:decide (31<(i:Int))=false:=qf
 have t1n:decide (31<i)=false:=qf
 skip
 have hfd:∀ w:World,(Instr.field 119 (.agg #[.int .i64 kk,.int .i64 l,.int .i64 (k:Int)]) 2).run Tryz.prog w = .ok (.int .i64 (k:Int)) w:=fun _=>by kernel_rfl
 have HBA:=qh (Bnew (Bnew (Bnew (B0 w) (.cells #[.int .i64 t,.int .i64 q,.int .i64 s] 23)) (.cells (pkC U) 36)) (.cells #[.slice none 0 0,.slice none 0 0,.slice none 0 0,.slice none 0 0,.slice none 0 0,.slice none 0 0,.slice none 0 0,.slice none 0 0,.slice none 0 0] 36))
 have HC:=qh (((Held.new w 23 #[.int .i64 t,.int .i64 q,.int .i64 s]).alloc (.cells (pkC U) 36)).alloc (.cells #[.slice none 0 0,.slice none 0 0,.slice none 0 0,.slice none 0 0,.slice none 0 0,.slice none 0 0,.slice none 0 0,.slice none 0 0,.slice none 0 0] 36))
 have HPB:=qh ((Held.new2 w (.cells #[.int .i64 t,.int .i64 q,.int .i64 s] 23) 36 (pkC U)).alloc (.cells #[.slice none 0 0,.slice none 0 0,.slice none 0 0,.slice none 0 0,.slice none 0 0,.slice none 0 0,.slice none 0 0,.slice none 0 0,.slice none 0 0] 36))
 have HRB:qH (Held (((w.alloc (.cells #[.int .i64 t,.int .i64 q,.int .i64 s] 23)).alloc (.cells (pkC U) 36)).alloc (.cells #[.slice none 0 0,.slice none 0 0,.slice none 0 0,.slice none 0 0,.slice none 0 0,.slice none 0 0,.slice none 0 0,.slice none 0 0,.slice none 0 0] 36)) (w.heap.size+2) 36 (pkC zeroU)):=qh (by
  refine R2l ?_;intro this e
  exact this)
 have HSZ:qH ((((w.alloc (.cells #[.int .i64 t,.int .i64 q,.int .i64 s] 23)).alloc (.cells (pkC U) 36)).alloc (.cells #[.slice none 0 0,.slice none 0 0,.slice none 0 0,.slice none 0 0,.slice none 0 0,.slice none 0 0,.slice none 0 0,.slice none 0 0,.slice none 0 0] 36)).heap.size=w.heap.size+3):=qh (by simp)
 have HK:=qh ((Pkt.start h hP hF).keep2 (G':=(fun i=>i=w.heap.size\/i=(w.heap.size+1)\/i=(w.heap.size+2))) HBA.o (fun i x=>by
  have:=HSZ.o
  rcases x with x|x|x <;> (right;omega)))
 have HPL:qH (∀ i,PB U Z i->i<w.heap.size):=qh (fun i hi=>hi.lt hP)
 have HF:=qh hF
 have HI0:=qh h
 obtain⟨c0,c1,c2⟩:=HC.o.three
 obtain⟨p0,p1,p2,p3,p4,p5,p6,p7,p8⟩:=HPB.o.nineP
 go_enter Tryz.func22,Tryz.ntmps22
 go_wp2_with fail
 generalize hW3:(((w.alloc (.cells #[.int .i64 t,.int .i64 q,.int .i64 s] 23)).alloc (.cells (pkC U) 36)).alloc (.cells #[.slice none 0 0,.slice none 0 0,.slice none 0 0,.slice none 0 0,.slice none 0 0,.slice none 0 0,.slice none 0 0,.slice none 0 0,.slice none 0 0] 36))=W3 at *
 clear hW3
 refine(qHu hn (p:Int) kk l (k:Int) ok hI HK.o.at_).mono ?_
 rintro e w2 ⟨rfl,h1,h2⟩
 replace HC:=qh (h2.held (.inl (.inl rfl)) HC.o)
 replace HPB:=qh (h2.held (.inl (.inr (.inl rfl))) HPB.o)
 replace HRB:=qh (h2.held (.inl (.inr (.inr rfl))) HRB.o)
 replace HK:=qh (HK.o.call h1 h2)
 clear h1 h2
 clear c0 c1 c2 p0 p1 p2 p3 p4 p5 p6 p7 p8
 obtain⟨sx,hsx⟩:∃ sx,getS n K st (pageI t q s (p:Int) 0)=sx:=⟨_,rfl⟩
 have HSX:qH (offS n K t q s p i (getS n K st (pageI t q s (p:Int) 0))=offS n K t q s p i sx):=qh (by rw[hsx])
 rw[hsx] at HK
 clear hsx
 obtain⟨v,hv⟩:∃ v,getV n K sx (pageI t q s (p:Int) 4)=v:=⟨_,rfl⟩
 have hv32:v<2^32:=by rw[<- hv];exact qBB HK.o.at_ _
 have HV:=qh hv
 obtain⟨c0,c1,c2⟩:=HC.o.three
 go_wp2_with fail
 refine(qSX t q s (p:Int) _).mono ?_
 rintro e w3 ⟨rfl,hb⟩
 replace HK:=qh (HK.o.keep hb)
 replace HC:=qh (HC.o.keep hb)
 replace HPB:=qh (HPB.o.keep hb)
 replace HRB:=qh (HRB.o.keep hb)
 clear hb
 clear c0 c1 c2
 obtain⟨c0,c1,c2⟩:=HC.o.three
 go_wp2_with fail
 refine(rGetA hn _ HK.o.at_).mono ?_
 rintro e w4 ⟨rfl,h1,h2⟩
 rw[HV.o]
 replace HC:=qh (h2.held (.inl (.inl rfl)) HC.o)
 replace HPB:=qh (h2.held (.inl (.inr (.inl rfl))) HPB.o)
 replace HRB:=qh (h2.held (.inl (.inr (.inr rfl))) HRB.o)
 replace HK:=qh (HK.o.call h1 h2)
 clear h1 h2
 clear c0 c1 c2
 obtain⟨xp,hxp⟩:∃ xp,2^i=xp:=⟨_,rfl⟩
 have HXP:=qh hxp
 cases hbt:v.testBit i
 ·have HCV:qH (clrB (getV n K sx (pageI t q s (p:Int) 4)) i=v):=qh (by rw[hv];unfold clrB;rw[hbt];simp)
  have HU:qH (v<2^32):=qh hv32
  clear hv hxp
  obtain⟨c0,c1,c2⟩:=HC.o.three
  go_wp2_with fail
  refine(qA0 v (i:Int) false hv32 qo qo (by simp[hbt]) _).mono ?_
  rintro e w9 ⟨rfl,rfl⟩
  go_wp2_with fail
  refine RNb ?_;clear HK HC HPB HRB c0 c1 c2;intro w5 HK HC HPB HRB c0 c1 c2
  go_wp2_with fail
  refine(rPutA hn _ v HU.o HK.o.at_).mono ?_
  exact M8B
 ·refine R14 ?_;intro hge u hu HCV HU e1
  have e2:IntKind.u32.wrap (u:Int)=(u:Int):=by unfold IntKind.wrap;simp[IntKind.bits,IntKind.signed];omega
  clear hv hu hge hxp
  obtain⟨c0,c1,c2⟩:=HC.o.three
  go_wp2_with fail
  refine(qA0 v (i:Int) true hv32 qo qo (by simp[hbt]) _).mono ?_
  rintro e w9 ⟨rfl,rfl⟩
  go_wp2_with fail
  refine(qL0 i hi _).mono ?_
  rintro e w9 ⟨rfl,rfl⟩
  rw[HXP.o]
  go_wp2_with fail
  refine RNb ?_;clear HK HC HPB HRB c0 c1 c2;intro w5 HK HC HPB HRB c0 c1 c2
  go_wp2_with fail
  refine(rPutA hn _ u HU.o HK.o.at_).mono ?_
  exact M8B

theorem qPQ (hn:n<2^40)(hq:q<=1024)(k:Nat)(hk:k<9)(p i:Nat)(hp:p<=1024)(hi:i<32)(kk l:Int)(ok:Bool)(hI:infoOf n K t q s p st=(kk,l,(k:Int),ok))(h3:¬ (Z k).length<=3)(c0:0<=(infoOf n K t q s p (offS n K t q s p i (getS n K st (pageI t q s p 0)))).2.2.1)(c8:(infoOf n K t q s p (offS n K t q s p i (getS n K st (pageI t q s p 0)))).2.2.1<=8)(hP:PkV w U Z)(hF:∀ i,PB U Z i->¬ A i)(h:(rOb base b n all K).I w st A) :
  Calls Tryz.prog 22 #[.pointer (some ⟨b,0,none⟩),.agg #[.int .i64 t,.int .i64 q,.int .i64 s],.agg (pkC U),.int .i64 (p:Int),.int .i64 (i:Int)] w fun e w'=>∃ V,e = .returned (.agg (pkC V))/\PkLeft (rOb base b n all K) w A (PB U Z) V Z (giveS n K t q s p i (offS n K t q s p i (getS n K st (pageI t q s (p:Int) 0)))) w':=by
 have t0:decide ((i:Int)<0)=false:=qf
 have t1:decide (31<(i:Int))=false:=qf
 have t1n:decide (31<i)=false:=qf
 have HC0:=qh c0
 have HC8:=qh c8
 clear c0 c8
 have hfd:∀ w:World,(Instr.field 119 (.agg #[.int .i64 kk,.int .i64 l,.int .i64 (k:Int)]) 2).run Tryz.prog w = .ok (.int .i64 (k:Int)) w:=fun _=>by kernel_rfl
 have HBA:=qh (Bnew (Bnew (Bnew (B0 w) (.cells #[.int .i64 t,.int .i64 q,.int .i64 s] 23)) (.cells (pkC U) 36)) (.cells #[.slice none 0 0,.slice none 0 0,.slice none 0 0,.slice none 0 0,.slice none 0 0,.slice none 0 0,.slice none 0 0,.slice none 0 0,.slice none 0 0] 36))
 have HC:=qh (((Held.new w 23 #[.int .i64 t,.int .i64 q,.int .i64 s]).alloc (.cells (pkC U) 36)).alloc (.cells #[.slice none 0 0,.slice none 0 0,.slice none 0 0,.slice none 0 0,.slice none 0 0,.slice none 0 0,.slice none 0 0,.slice none 0 0,.slice none 0 0] 36))
 have HPB:=qh ((Held.new2 w (.cells #[.int .i64 t,.int .i64 q,.int .i64 s] 23) 36 (pkC U)).alloc (.cells #[.slice none 0 0,.slice none 0 0,.slice none 0 0,.slice none 0 0,.slice none 0 0,.slice none 0 0,.slice none 0 0,.slice none 0 0,.slice none 0 0] 36))
 have HRB:qH (Held (((w.alloc (.cells #[.int .i64 t,.int .i64 q,.int .i64 s] 23)).alloc (.cells (pkC U) 36)).alloc (.cells #[.slice none 0 0,.slice none 0 0,.slice none 0 0,.slice none 0 0,.slice none 0 0,.slice none 0 0,.slice none 0 0,.slice none 0 0,.slice none 0 0] 36)) (w.heap.size+2) 36 (pkC zeroU)):=qh (by
  refine R2l ?_;intro this e
  exact this)
 have HSZ:qH ((((w.alloc (.cells #[.int .i64 t,.int .i64 q,.int .i64 s] 23)).alloc (.cells (pkC U) 36)).alloc (.cells #[.slice none 0 0,.slice none 0 0,.slice none 0 0,.slice none 0 0,.slice none 0 0,.slice none 0 0,.slice none 0 0,.slice none 0 0,.slice none 0 0] 36)).heap.size=w.heap.size+3):=qh (by simp)
 have HK:=qh ((Pkt.start h hP hF).keep2 (G':=(fun i=>i=w.heap.size\/i=(w.heap.size+1)\/i=(w.heap.size+2))) HBA.o (fun i x=>by
  have:=HSZ.o
  rcases x with x|x|x <;> (right;omega)))
 have HPL:qH (∀ i,PB U Z i->i<w.heap.size):=qh (fun i hi=>hi.lt hP)
 have HF:=qh hF
 have HI0:=qh h
 obtain⟨c0,c1,c2⟩:=HC.o.three
 obtain⟨p0,p1,p2,p3,p4,p5,p6,p7,p8⟩:=HPB.o.nineP
 go_enter Tryz.func22,Tryz.ntmps22
 go_wp2_with fail
 generalize hW3:(((w.alloc (.cells #[.int .i64 t,.int .i64 q,.int .i64 s] 23)).alloc (.cells (pkC U) 36)).alloc (.cells #[.slice none 0 0,.slice none 0 0,.slice none 0 0,.slice none 0 0,.slice none 0 0,.slice none 0 0,.slice none 0 0,.slice none 0 0,.slice none 0 0] 36))=W3 at *
 clear hW3
 refine(qHu hn (p:Int) kk l (k:Int) ok hI HK.o.at_).mono ?_
 rintro e w2 ⟨rfl,h1,h2⟩
 replace HC:=qh (h2.held (.inl (.inl rfl)) HC.o)
 replace HPB:=qh (h2.held (.inl (.inr (.inl rfl))) HPB.o)
 replace HRB:=qh (h2.held (.inl (.inr (.inr rfl))) HRB.o)
 replace HK:=qh (HK.o.call h1 h2)
 clear h1 h2
 clear c0 c1 c2 p0 p1 p2 p3 p4 p5 p6 p7 p8
 obtain⟨sx,hsx⟩:∃ sx,getS n K st (pageI t q s (p:Int) 0)=sx:=⟨_,rfl⟩
 have HSX:qH (offS n K t q s p i (getS n K st (pageI t q s (p:Int) 0))=offS n K t q s p i sx):=qh (by rw[hsx])
 rw[hsx] at HK
 clear hsx
 obtain⟨v,hv⟩:∃ v,getV n K sx (pageI t q s (p:Int) 4)=v:=⟨_,rfl⟩
 have hv32:v<2^32:=by rw[<- hv];exact qBB HK.o.at_ _
 have HV:=qh hv
 obtain⟨c0,c1,c2⟩:=HC.o.three
 go_wp2_with fail
 refine(qSX t q s (p:Int) _).mono ?_
 rintro e w3 ⟨rfl,hb⟩
 replace HK:=qh (HK.o.keep hb)
 replace HC:=qh (HC.o.keep hb)
 replace HPB:=qh (HPB.o.keep hb)
 replace HRB:=qh (HRB.o.keep hb)
 clear hb
 clear c0 c1 c2
 obtain⟨c0,c1,c2⟩:=HC.o.three
 go_wp2_with fail
 refine(rGetA hn _ HK.o.at_).mono ?_
 rintro e w4 ⟨rfl,h1,h2⟩
 rw[HV.o]
 replace HC:=qh (h2.held (.inl (.inl rfl)) HC.o)
 replace HPB:=qh (h2.held (.inl (.inr (.inl rfl))) HPB.o)
 replace HRB:=qh (h2.held (.inl (.inr (.inr rfl))) HRB.o)
 replace HK:=qh (HK.o.call h1 h2)
 clear h1 h2
 clear c0 c1 c2
 obtain⟨xp,hxp⟩:∃ xp,2^i=xp:=⟨_,rfl⟩
 have HXP:=qh hxp
 cases hbt:v.testBit i
 ·have HCV:qH (clrB (getV n K sx (pageI t q s (p:Int) 4)) i=v):=qh (by rw[hv];unfold clrB;rw[hbt];simp)
  have HU:qH (v<2^32):=qh hv32
  clear hv hxp
  obtain⟨c0,c1,c2⟩:=HC.o.three
  go_wp2_with fail
  refine(qA0 v (i:Int) false hv32 qo qo (by simp[hbt]) _).mono ?_
  rintro e w9 ⟨rfl,rfl⟩
  go_wp2_with fail
  refine RNb ?_;clear HK HC HPB HRB c0 c1 c2;intro w5 HK HC HPB HRB c0 c1 c2
  go_wp2_with fail
  refine(rPutA hn _ v HU.o HK.o.at_).mono ?_
  exact MRH
 ·refine R14 ?_;intro hge u hu HCV HU e1
  have e2:IntKind.u32.wrap (u:Int)=(u:Int):=by unfold IntKind.wrap;simp[IntKind.bits,IntKind.signed];omega
  clear hv hu hge hxp
  obtain⟨c0,c1,c2⟩:=HC.o.three
  go_wp2_with fail
  refine(qA0 v (i:Int) true hv32 qo qo (by simp[hbt]) _).mono ?_
  rintro e w9 ⟨rfl,rfl⟩
  go_wp2_with fail
  refine(qL0 i hi _).mono ?_
  rintro e w9 ⟨rfl,rfl⟩
  rw[HXP.o]
  go_wp2_with fail
  refine RNb ?_;clear HK HC HPB HRB c0 c1 c2;intro w5 HK HC HPB HRB c0 c1 c2
  go_wp2_with fail
  refine(rPutA hn _ u HU.o HK.o.at_).mono ?_
  exact MRH

theorem qAA (hn:n<2^40)(hq:q<=1024)(k:Nat)(hk:k<9)(p i:Nat)(hp:p<=1024)(hi:i<32)(hI:(infoOf n K t q s p st).2.2.1=(k:Int))(hI2:(infoOf n K t q s p (offS n K t q s p i (getS n K st (pageI t q s p 0)))).2.2.1=(k:Int))(hP:PkV w U Z)(hF:∀ i,PB U Z i->¬ A i)(h:(rOb base b n all K).I w st A) :
  Calls Tryz.prog 22 #[.pointer (some ⟨b,0,none⟩),.agg #[.int .i64 t,.int .i64 q,.int .i64 s],.agg (pkC U),.int .i64 (p:Int),.int .i64 (i:Int)] w fun e w'=>∃ V,e = .returned (.agg (pkC V))/\PkLeft (rOb base b n all K) w A (PB U Z) V (freeZ t q s k p i Z) (freeI n K t q s p i (Z k) st) w':=by
 obtain⟨⟨kk,l,c,ok⟩,hI'⟩:∃ x,infoOf n K t q s p st=x:=⟨_,rfl⟩
 rw[hI'] at hI
 have hI:c=(k:Int):=hI
 subst hI
 unfold freeZ freeI
 by_cases h3:(Z k).length<=3
 ·rw[if_pos h3,if_pos h3]
  exact qMI hn hq k hk p i hp hi kk l ok hI' h3 hP hF h
 ·rw[if_neg h3,if_neg h3]
  exact qPQ hn hq k hk p i hp hi kk l ok hI' h3 (by rw[hI2];omega) (by rw[hI2];omega) hP hF h
theorem qO3 (k:Int)(hl:lastP Z k=none)(hP:PkV w U Z)(hF:∀ i,PB U Z i->¬ A i)(h:(rOb base b n all K).I w st A) :
  Calls Tryz.prog 19 #[.pointer (some ⟨b,0,none⟩),.agg #[.int .i64 t,.int .i64 q,.int .i64 s],.agg (pkC U),.int .i64 k] w fun e w'=>e = .returned (.tuple #[.int .i64 0,.agg (pkC U)])/\PkLeft (rOb base b n all K) w A (PB U Z) U Z st w':=by
 have HLP:=qh hl
 have HBA:=qh (Bnew (Bnew (Bnew (B0 w) (.cells #[.int .i64 t,.int .i64 q,.int .i64 s] 23)) (.cells (pkC U) 36)) (.cells #[.slice none 0 0,.slice none 0 0,.slice none 0 0,.slice none 0 0,.slice none 0 0,.slice none 0 0,.slice none 0 0,.slice none 0 0,.slice none 0 0] 36))
 have HC:=qh (((Held.new w 23 #[.int .i64 t,.int .i64 q,.int .i64 s]).alloc (.cells (pkC U) 36)).alloc (.cells #[.slice none 0 0,.slice none 0 0,.slice none 0 0,.slice none 0 0,.slice none 0 0,.slice none 0 0,.slice none 0 0,.slice none 0 0,.slice none 0 0] 36))
 have HPB:=qh ((Held.new2 w (.cells #[.int .i64 t,.int .i64 q,.int .i64 s] 23) 36 (pkC U)).alloc (.cells #[.slice none 0 0,.slice none 0 0,.slice none 0 0,.slice none 0 0,.slice none 0 0,.slice none 0 0,.slice none 0 0,.slice none 0 0,.slice none 0 0] 36))
 have HRB:qH (Held (((w.alloc (.cells #[.int .i64 t,.int .i64 q,.int .i64 s] 23)).alloc (.cells (pkC U) 36)).alloc (.cells #[.slice none 0 0,.slice none 0 0,.slice none 0 0,.slice none 0 0,.slice none 0 0,.slice none 0 0,.slice none 0 0,.slice none 0 0,.slice none 0 0] 36)) (w.heap.size+2) 36 (pkC zeroU)):=qh (by
  refine R2l ?_;intro this e
  exact this)
 have HSZ:qH ((((w.alloc (.cells #[.int .i64 t,.int .i64 q,.int .i64 s] 23)).alloc (.cells (pkC U) 36)).alloc (.cells #[.slice none 0 0,.slice none 0 0,.slice none 0 0,.slice none 0 0,.slice none 0 0,.slice none 0 0,.slice none 0 0,.slice none 0 0,.slice none 0 0] 36)).heap.size=w.heap.size+3):=qh (by simp)
 have HK:=qh ((Pkt.start h hP hF).keep2 (G':=(fun i=>i=w.heap.size\/i=(w.heap.size+1)\/i=(w.heap.size+2))) HBA.o (fun i x=>by
  have:=HSZ.o
  rcases x with x|x|x <;> (right;omega)))
 have HPL:qH (∀ i,PB U Z i->i<w.heap.size):=qh (fun i hi=>hi.lt hP)
 have HF:=qh hF
 have HI0:=qh h
 obtain⟨p0,p1,p2,p3,p4,p5,p6,p7,p8⟩:=HPB.o.nineP
 go_enter Tryz.func19,Tryz.ntmps19
 go_wp2_with fail
 generalize hW3:(((w.alloc (.cells #[.int .i64 t,.int .i64 q,.int .i64 s] 23)).alloc (.cells (pkC U) 36)).alloc (.cells #[.slice none 0 0,.slice none 0 0,.slice none 0 0,.slice none 0 0,.slice none 0 0,.slice none 0 0,.slice none 0 0,.slice none 0 0,.slice none 0 0] 36))=W3 at *
 clear hW3
 refine(qEJ U Z k _ HK.o.pk).mono ?_
 rintro e w2 ⟨rfl,hb⟩
 rw[HLP.o,show lastV none = .tuple #[.int .i64 0,.bool false] from rfl]
 replace HK:=qh (HK.o.keep hb)
 replace HPB:=qh (HPB.o.keep hb)
 replace HRB:=qh (HRB.o.keep hb)
 clear hb p0 p1 p2 p3 p4 p5 p6 p7 p8
 obtain⟨p0,p1,p2,p3,p4,p5,p6,p7,p8⟩:=HPB.o.nineP
 obtain⟨z0,z1,z2,z3,z4,z5,z6,z7,z8⟩:=HRB.o.nineP
 obtain⟨f0,f1,f2,f3,f4,f5,f6,f7,f8⟩:=HRB.o.thawP
 go_wp2_with fail
 go_region
 obtain⟨WF,hWF⟩:∃ WF,setP w2 (w.heap.size+2) U=WF:=⟨_,rfl⟩
 have zz:=qh (Held.setP HRB.o U)
 have HNF:=qh (HK.o.putP (i:=(w.heap.size+2)) (.inr (.inr rfl)) (fun x=>by have:=HPL.o _ x;omega) U)
 rw[hWF] at zz HNF
 unfold setP at hWF
 rw[hWF]
 replace zz:=qh (zz.o.keep (Bdrew (B0 _)))
 replace HNF:=qh (HNF.o.keep (Bdrew (B0 _)))
 obtain⟨y0,y1,y2,y3,y4,y5,y6,y7,y8⟩:=zz.o.nineP
 clear p0 p1 p2 p3 p4 p5 p6 p7 p8 z0 z1 z2 z3 z4 z5 z6 z7 z8 f0 f1 f2 f3 f4 f5 f6 f7 f8 hWF
 go_wp2
 refine bodyPost_ret (v := .tuple #[.int .i64 0,.agg (pkC U)]) (by simp[results,Tryz.results19,go_sem,y0,y1,y2,y3,y4,y5,y6,y7,y8]) rfl ?_
 exact⟨rfl,HNF.o.fin⟩

theorem qVv (hn:n<2^40)(hq:q<=1024)(k:Nat)(hk:k<9)(l:List Int)(hz:Z k=l)(a:Int)(p:Nat)(is:List Nat)(hfl:FlOk n K t q s (k:Int) l a p is st)(hP:PkV w U Z)(hF:∀ i,PB U Z i->¬ A i)(h:(rOb base b n all K).I w st A) :
  Calls Tryz.prog 19 #[.pointer (some ⟨b,0,none⟩),.agg #[.int .i64 t,.int .i64 q,.int .i64 s],.agg (pkC U),.int .i64 (k:Int)] w fun e w'=>∃ V,e = .returned (.tuple #[.int .i64 (((l.filter (onPg t q s (p:Int))).length:Nat):Int),.agg (pkC V)])/\PkLeft (rOb base b n all K) w A (PB U Z) V (updF Z k (l.filter fun b => !onPg t q s (p:Int) b)) (gives n K t q s p is st) w'/\(∀ j,1<=j->j<=is.length->VOk n (gives n K t q s p (is.take j) st)):=by
 have HZ:=qh hz
 have HFL:=qh hfl
 have HLP:qH (lastP Z (k:Int)=some a):=qh (by rw[qUw hk,hz];exact hfl.last)
 obtain⟨m,hm⟩:∃ m,(l.filter (onPg t q s (p:Int))).length=m:=⟨_,rfl⟩
 have hm1:1<=m:=by
  exact Mwg
 have hmf:m<=1000:=by rw[<- hm];exact Nat.le_trans (List.length_filter_le _ _) hfl.few
 have HIL:qH (is.length=m):=qh (hfl.len.trans hm)
 have HLO:=qh hm
 rw[hm]
 have hmem:a∈l:=by
  obtain⟨ys,hy⟩:=List.getLast?_eq_some_iff.1 hfl.last
  rw[hy];simp
 have hsa:=hfl.spot a hmem
 have hab : -9223372036854775808<=a/\a<=9223372036854775807:=by have:=qSv hsa.1;omega
 clear hz hfl hm hmem
 have HBA:=qh (Bnew (Bnew (Bnew (B0 w) (.cells #[.int .i64 t,.int .i64 q,.int .i64 s] 23)) (.cells (pkC U) 36)) (.cells #[.slice none 0 0,.slice none 0 0,.slice none 0 0,.slice none 0 0,.slice none 0 0,.slice none 0 0,.slice none 0 0,.slice none 0 0,.slice none 0 0] 36))
 have HC:=qh (((Held.new w 23 #[.int .i64 t,.int .i64 q,.int .i64 s]).alloc (.cells (pkC U) 36)).alloc (.cells #[.slice none 0 0,.slice none 0 0,.slice none 0 0,.slice none 0 0,.slice none 0 0,.slice none 0 0,.slice none 0 0,.slice none 0 0,.slice none 0 0] 36))
 have HPB:=qh ((Held.new2 w (.cells #[.int .i64 t,.int .i64 q,.int .i64 s] 23) 36 (pkC U)).alloc (.cells #[.slice none 0 0,.slice none 0 0,.slice none 0 0,.slice none 0 0,.slice none 0 0,.slice none 0 0,.slice none 0 0,.slice none 0 0,.slice none 0 0] 36))
 have HRB:qH (Held (((w.alloc (.cells #[.int .i64 t,.int .i64 q,.int .i64 s] 23)).alloc (.cells (pkC U) 36)).alloc (.cells #[.slice none 0 0,.slice none 0 0,.slice none 0 0,.slice none 0 0,.slice none 0 0,.slice none 0 0,.slice none 0 0,.slice none 0 0,.slice none 0 0] 36)) (w.heap.size+2) 36 (pkC zeroU)):=qh (by
  refine R2l ?_;intro this e
  exact this)
 have HSZ:qH ((((w.alloc (.cells #[.int .i64 t,.int .i64 q,.int .i64 s] 23)).alloc (.cells (pkC U) 36)).alloc (.cells #[.slice none 0 0,.slice none 0 0,.slice none 0 0,.slice none 0 0,.slice none 0 0,.slice none 0 0,.slice none 0 0,.slice none 0 0,.slice none 0 0] 36)).heap.size=w.heap.size+3):=qh (by simp)
 have HK:=qh ((Pkt.start h hP hF).keep2 (G':=(fun i=>i=w.heap.size\/i=(w.heap.size+1)\/i=(w.heap.size+2))) HBA.o (fun i x=>by
  have:=HSZ.o
  rcases x with x|x|x <;> (right;omega)))
 have HPL:qH (∀ i,PB U Z i->i<w.heap.size):=qh (fun i hi=>hi.lt hP)
 have HF:=qh hF
 have HI0:=qh h
 obtain⟨p0,p1,p2,p3,p4,p5,p6,p7,p8⟩:=HPB.o.nineP
 go_enter Tryz.func19,Tryz.ntmps19
 go_wp2_with fail
 generalize hW3:(((w.alloc (.cells #[.int .i64 t,.int .i64 q,.int .i64 s] 23)).alloc (.cells (pkC U) 36)).alloc (.cells #[.slice none 0 0,.slice none 0 0,.slice none 0 0,.slice none 0 0,.slice none 0 0,.slice none 0 0,.slice none 0 0,.slice none 0 0,.slice none 0 0] 36))=W3 at *
 clear hW3
 refine(qEJ U Z (k:Int) _ HK.o.pk).mono ?_
 rintro e w2 ⟨rfl,hb⟩
 rw[HLP.o,show lastV (some a) = .tuple #[.int .i64 a,.bool true] from rfl]
 replace HK:=qh (HK.o.keep hb)
 replace HC:=qh (HC.o.keep hb)
 replace HPB:=qh (HPB.o.keep hb)
 replace HRB:=qh (HRB.o.keep hb)
 clear hb p0 p1 p2 p3 p4 p5 p6 p7 p8
 obtain⟨c0,c1,c2⟩:=HC.o.three
 go_wp2_with fail
 refine(qIq t q s (k:Int) a qo qo hab.1 hab.2 _).mono ?_
 rintro e w3 ⟨rfl,hb⟩
 rw[HFL.o.page]
 replace HK:=qh (HK.o.keep hb)
 replace HC:=qh (HC.o.keep hb)
 replace HPB:=qh (HPB.o.keep hb)
 replace HRB:=qh (HRB.o.keep hb)
 clear hb
 obtain⟨sa,hsa'⟩:∃ sa,slotR t q s (k:Int) (spotO t q s a)=sa:=⟨_,rfl⟩
 rw[hsa']
 clear c0 c1 c2 hsa'
 obtain⟨c0,c1,c2⟩:=HC.o.three
 obtain⟨p0,p1,p2,p3,p4,p5,p6,p7,p8⟩:=HPB.o.nineP
 go_wp2_with fail
 refine(qTT t q s (p:Int) U Z k hk (by rw[HZ.o];have:=HFL.o.few;omega) _ HK.o.pk).mono ?_
 rintro e w4 ⟨u,rfl,ho,hb⟩
 rw[HZ.o,HLO.o] at ho
 obtain⟨g9,c9,hu9,_⟩:=ho.form qo
 subst hu9
 obtain⟨cr,hcr,hcc1,hcc2,hcells⟩:=qWl ho HLO.o
 have HR:=qh hcr
 have HSC:=qh hcells
 have hg9:=(ho.lt g9 rfl).1
 have hg9b:=(ho.lt g9 rfl).2
 replace HK:=qh (HK.o.keep2 (G':=fun i=>i=w.heap.size\/i=(w.heap.size+1)\/i=(w.heap.size+2)\/i=g9) hb (fun i x=>by
  rcases x with x|x|x|x
  ·exact .inl (.inl x)
  ·exact .inl (.inr (.inl x))
  ·exact .inl (.inr (.inr x))
  ·subst x;exact .inr ⟨hg9,hg9b⟩))
 replace HC:=qh (HC.o.keep hb)
 replace HPB:=qh (HPB.o.keep hb)
 replace HRB:=qh (HRB.o.keep hb)
 clear hb ho hcr hcells hg9 hg9b c0 c1 c2 p0 p1 p2 p3 p4 p5 p6 p7 p8
 go_wp2_with fail
 go_loopw [15,16,17] (fun u15 _ _ wr=>∃ i:Nat,i<=m/\u15 = .int .i64 (i:Int)/\qH (Pkt (rOb base b n all K) w A (PB U Z) (fun i=>i=w.heap.size\/i=(w.heap.size+1)\/i=(w.heap.size+2)\/i=g9) U Z (gives n K t q s p (is.take i) st) wr)/\qH (Held wr w.heap.size 23 #[.int .i64 t,.int .i64 q,.int .i64 s])/\qH (Held wr (w.heap.size+1) 36 (pkC U))/\qH (Held wr (w.heap.size+2) 36 (pkC zeroU))/\qH (Held wr g9 2 cr)/\qH (∀ j,1<=j->j<=i->VOk n (gives n K t q s p (is.take j) st))) (fun u15 _ _ _=>m-(intOf u15).toNat)
 case atStart=>exact⟨0,qo,rfl,HK,HC,HPB,HRB,HR,qh (fun j h1 h2=>absurd h2 qo)⟩
 case round =>
  clear HK HC HPB HRB HR
  obtain⟨i,hi,rfl,HK,HC,HPB,HRB,HR,HVK⟩:=hrel
  by_cases hlt:i<m
  ·obtain⟨z,hz⟩:∃ z,(l.filter (onPg t q s (p:Int)))[i]?=some z:=⟨_,List.getElem?_eq_getElem (by rw[HLO.o];exact hlt)⟩
   obtain⟨hzp,j,hj,hzj,hj32⟩:=HFL.o.slots i z hz
   have hzs:=HFL.o.spot z (List.mem_filter.1 (List.mem_of_getElem? hz)).1
   have hzb : -9223372036854775808<=z/\z<=9223372036854775807:=by have:=qSv hzs.1;omega
   have hcl:=HFL.o.cls i (by rw[HIL.o];exact hlt) HVK.o
   have HSI:qH (∀ (w:World),Held w g9 2 cr->w.cell? ⟨g9,i,none⟩=some (.int .i64 z)):=qh (fun w hw=>HSC.o w hw i z hz)
   refine Rz5 ?_;intro HGS HZP HZJ HPG
   generalize gives n K t q s p (is.take i) st=sx at *
   clear hz hj hzp hzj
   go_wp2_with fail
   replace HK:=qh (HK.o.keep (Bdrew (B0 _)))
   replace HC:=qh (HC.o.keep (Bdrew (B0 _)))
   replace HPB:=qh (HPB.o.keep (Bdrew (B0 _)))
   replace HRB:=qh (HRB.o.keep (Bdrew (B0 _)))
   replace HR:=qh (HR.o.keep (Bdrew (B0 _)))
   refine wp_region_held_drew (S:=(fun w'=>(w'.cell? ⟨w.heap.size,0,none⟩=some (.int .i64 t)/\w'.cell? ⟨w.heap.size,1,none⟩=some (.int .i64 q)/\w'.cell? ⟨w.heap.size,2,none⟩=some (.int .i64 s))/\w'.cell? ⟨g9,i,none⟩=some (.int .i64 z))) qr ?_ (fun hHeld=>?_)
   ·(try dsimp only)
    first|exact⟨HC.o.three,HSI.o _ HR.o⟩|exact hHeld
   refine Rbo ?_
   refine tkz 5 ?_
   refine rdz 6 fun K hK=>?_
   go_simp
   refine(qIq t q s (k:Int) z qo qo hzb.1 hzb.2 _).mono ?_
   rintro e w5 ⟨rfl,hb⟩
   rw[HZP.o,HZJ.o]
   replace HK:=qh (HK.o.keep hb)
   replace HC:=qh (HC.o.keep hb)
   replace HPB:=qh (HPB.o.keep hb)
   replace HRB:=qh (HRB.o.keep hb)
   replace HR:=qh (HR.o.keep hb)
   clear hb
   refine qk ?_ (fun hHeld=>?_)
   ·first|exact⟨HC.o.three,HSI.o _ HR.o⟩|exact hHeld
   clear hK K
   refine tkz 7 ?_
   refine tkz 8 ?_
   refine R6M ?_
   refine dnz ?_
   obtain⟨c0,c1,c2⟩:=HC.o.three
   go_wp2_with fail
   refine(qIm hn hq p j HPG.o hj32 hcl.1 hcl.2 HK.o.at_).mono ?_
   rintro e w6 ⟨rfl,h1,h2⟩
   replace HC:=qh (h2.held (.inl (.inl rfl)) HC.o)
   replace HPB:=qh (h2.held (.inl (.inr (.inl rfl))) HPB.o)
   replace HRB:=qh (h2.held (.inl (.inr (.inr (.inl rfl)))) HRB.o)
   replace HR:=qh (h2.held (.inl (.inr (.inr (.inr rfl)))) HR.o)
   replace HK:=qh (HK.o.call h1 h2)
   clear h1 h2
   rw[<- HGS.o] at HK
   have HOK:qH (VOk n (gives n K t q s p (is.take (i+1)) st)):=qh (by obtain⟨A',⟨v,hI,_⟩,_⟩:=HK.o.at_;exact hI.ok)
   clear c0 c1 c2
   go_wp2_with fail
   go_roundw
   case rel=>exact⟨i+1,qo,by go_num,HK,HC,HPB,HRB,HR,qh (fun j h1 h2=>by
    by_cases e:j=i+1
    ·subst e;exact HOK.o
    ·exact HVK.o j h1 qo)⟩
   case measure=>simp[intOf];omega
  ·obtain rfl:i=m:=qo
   have HEI:qH (is.take i=is):=qh (List.take_of_length_le (by rw[HIL.o];exact Nat.le_refl _))
   rw[HEI.o] at HK
   obtain⟨sx,hsx⟩:∃ sx,gives n K t q s p is st=sx:=⟨_,rfl⟩
   have HSX:=qh hsx
   rw[hsx] at HK
   clear hsx
   obtain⟨c0,c1,c2⟩:=HC.o.three
   obtain⟨p0,p1,p2,p3,p4,p5,p6,p7,p8⟩:=HPB.o.nineP
   go_wp2_with fail
   refine(qCV t q s (p:Int) U Z k hk (by rw[HZ.o];have:=HFL.o.few;omega) _ HK.o.pk).mono ?_
   rintro e w8 ⟨x,rfl,hx,hV,hb⟩
   rw[HZ.o] at hV
   have HLT:=qh HRB.o.lt
   have hK2:=HK.o.turn hb hV (fun i hi=>hi.turn_new hx)
   have HPV:qH (∀ m,PB (updF U k x) (updF Z k (l.filter fun b => !onPg t q s (p:Int) b)) m->m<w.heap.size\/w.heap.size+2<m):=qh (fun m hm=>by
    rcases hm.turn_new hx with h1|h1
    ·exact .inl (HPL.o m h1)
    ·have:=HLT.o;exact .inr qo)
   obtain⟨V,hV2⟩:∃ V,updF U k x=V:=⟨_,rfl⟩
   rw[hV2] at hK2 HPV ⊢
   replace HK:=qh hK2
   replace HRB:=qh (HRB.o.keep hb)
   clear hx hV hV2 hK2 hb c0 c1 c2 p0 p1 p2 p3 p4 p5 p6 p7 p8
   obtain⟨z0,z1,z2,z3,z4,z5,z6,z7,z8⟩:=HRB.o.nineP
   obtain⟨f0,f1,f2,f3,f4,f5,f6,f7,f8⟩:=HRB.o.thawP
   go_wp2_with fail
   obtain⟨WF,hWF⟩:∃ WF,setP w8 (w.heap.size+2) V=WF:=⟨_,rfl⟩
   have zz:=qh (Held.setP HRB.o V)
   have HNF:=qh (HK.o.putP (i:=(w.heap.size+2)) (.inr (.inr (.inl rfl))) (fun x=>by have:=HPV.o _ x;omega) V)
   rw[hWF] at zz HNF
   unfold setP at hWF
   rw[hWF]
   obtain⟨y0,y1,y2,y3,y4,y5,y6,y7,y8⟩:=zz.o.nineP
   clear z0 z1 z2 z3 z4 z5 z6 z7 z8 f0 f1 f2 f3 f4 f5 f6 f7 f8 hWF
   refine bodyPost_ret (v := .tuple #[.int .i64 (i:Int),.agg (pkC V)]) (by simp[results,Tryz.results19,go_sem,y0,y1,y2,y3,y4,y5,y6,y7,y8]) rfl ?_
   exact⟨V,rfl,by rw[HSX.o];exact HNF.o.fin,fun j h1 h2=>HVK.o j h1 (by rw[<- HIL.o];exact h2)⟩
theorem qB8 (hn:n<2^40)(hq:q<=1024)(k:Int)(hok:∀ a,lastP Z k=some a->∃ p,FlOk n K t q s k (Z k.toNat) a p (isF t q s k (Z k.toNat) p) st)(hP:PkV w U Z)(hF:∀ i,PB U Z i->¬ A i)(h:(rOb base b n all K).I w st A) :
  Calls Tryz.prog 19 #[.pointer (some ⟨b,0,none⟩),.agg #[.int .i64 t,.int .i64 q,.int .i64 s],.agg (pkC U),.int .i64 k] w (FlEnd (rOb base b n all K) w A n K t q s k U Z st):=by
 cases hl:lastP Z k with
 | none =>
  refine(qO3 k hl hP hF h).mono ?_
  rintro e w' ⟨rfl,h1⟩
  have e1:flX n K t q s k Z st=((0,Z),st):=by unfold flX;rw[if_pos hl]
  unfold FlEnd
  rw[e1]
  exact⟨U,rfl,h1,fun a ha=>by rw[hl] at ha;cases ha⟩
 | some a =>
  have hk:0<=k/\k<=8:=by
   by_cases x:0<=k/\k<=8
   ·exact x
   ·rw[qYq qo] at hl;cases hl
  obtain⟨k,rfl⟩:=Int.eq_ofNat_of_zero_le hk.1
  have hk9:k<9:=qo
  obtain⟨p,ok⟩:=hok a hl
  rw[Int.toNat_natCast] at ok
  rw[qUw hk9] at hl
  refine(qVv hn hq k hk9 (Z k) rfl a p _ ok hP hF h).mono ?_
  rintro e w' ⟨V,rfl,h1,h2⟩
  unfold FlEnd
  rw[qSI hk9 hl ok.page]
  refine⟨V,rfl,h1,fun a' ha' j j1 j2=>?_⟩
  rw[qUw hk9,hl] at ha'
  injection ha' with ha'
  subst ha'
  rw[ok.page,Int.toNat_natCast,Int.toNat_natCast] at *
  exact h2 j j1 (by unfold isF;rw[List.length_map];exact j2)

end
end
end Go.Proofs.YtjjfcaliippgpaaGreatDoor
