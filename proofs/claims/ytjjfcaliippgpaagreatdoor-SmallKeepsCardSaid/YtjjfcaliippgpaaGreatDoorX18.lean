/-
  What is held when one live slot of a slab came, or went, on a heap that is worked on. No program is named here but for the Views'.
-/
import Derived.Test.YtjjfcaliippgpaaGreatDoorX17
import Derived.Test.YtjjfcaliippgpaaGreatDoorX08
import Derived.Test.YtjjfcaliippgpaaGreatDoorX06
import Derived.Test.YtjjfcaliippgpaaGreatDoorX03
import Derived.Test.YtjjfcaliippgpaaGreatDoorX12
import Derived.Test.YtjjfcaliippgpaaGreatDoorX05
import Derived.Test.YtjjfcaliippgpaaGreatDoorX01
import Derived.Test.YtjjfcaliippgpaaGreatDoorX04
import Derived.ArgAppend
namespace Go.Proofs.YtjjfcaliippgpaaGreatDoor
theorem M1P {P:Prop}(h:P:=by
 refine qk ?_ (fun hHeld=>?_)
 ·exact Mp3
 clear hK K
 refine rdz 10 fun K hK=>?_
 go_simp
 refine(vGetA hn _ W3.o.at_).mono ?_;rintro e w4 ⟨rfl,h1,h2⟩;have W4:=qh (W3.o.call h1 h2);clear h1 h2 W3;rw[HV.o]
 exact M2z):P:=h
theorem M2z {P:Prop}(h:P:=by
 refine qk ?_ (fun hHeld=>?_)
 ·exact MRw
 clear hK K
 refine rdz 11 fun K hK=>?_
 go_simp
 refine(qMJ v kk l c ok hv32 HI.o _).mono ?_;rintro e w5 ⟨rfl,hb⟩;have W5:=qh (W4.o.keep hb);clear hb W4
 refine qk ?_ (fun hHeld=>?_)
 ·exact Mtd
 clear hK K
 refine tkz 12 ?_
 refine tkz 13 ?_
 refine tkz 14 ?_
 exact Mx7):P:=h
theorem Mx7 {P:Prop}(h:P:=by
 refine rdz 16 fun K hK=>?_
 obtain⟨z0,z1,z2⟩:=W5.o.h0.three
 have f0:=W5.o.h0.thawed 0
 have f1:=W5.o.h0.thawed 1
 have f2:=W5.o.h0.thawed 2
 go_simp
 have W6:=qh (((W5.o.put 0 (.int .i64 kk)).put 1 (.int .i64 l)).put 2 (.int .i64 c))
 clear W5 z0 z1 z2 f0 f1 f2
 refine qk ?_ (fun hHeld=>?_)
 ·exact⟨(W6.o.stay.held HGG.o HHD.o).hd4.1,(W6.o.stay.held HGG.o HHD.o).hd4.2.1,(W6.o.stay.held HGG.o HHD.o).hd4.2.2.1,(W6.o.stay.held HGG.o HHD.o).hd4.2.2.2⟩
 clear hK K
 refine tkz 17 ?_
 refine dnz ?_
 obtain⟨i0,i1,i2⟩:=W6.o.h0.three
 obtain⟨x0,x1,x2,x3⟩:=(W6.o.stay.held HGG.o HHD.o).hd4
 go_wp2
 go_ret
 exact⟨rfl,W6.o.fin⟩):P:=h
theorem M51 {P:Prop}(h:P:=by
 rintro e w1 ⟨rfl,rfl⟩
 go_wp2
 exact bodyPost_ret (v := .tuple #[.agg (pkC U),.bool false]) (by simp[results,Tryz.results103,go_sem,y0,y1,y2,y3,y4,y5,y6,y7,y8]) rfl ⟨rfl,Bnew (Bnew (B0 w) _) _⟩):P:=h
theorem Mdg {P:Prop}(h:P:=by
 (try dsimp only)
 exact⟨(W0.o.drew.stay.held HGG.o HHD.o).hd4.1,(W0.o.drew.stay.held HGG.o HHD.o).hd4.2.1,(W0.o.drew.stay.held HGG.o HHD.o).hd4.2.2.1,(W0.o.drew.stay.held HGG.o HHD.o).hd4.2.2.2⟩):P:=h
theorem Mmy {P:Prop}(h:P:=by exact⟨(W2.o.stay.held HGG.o HHD.o).hd4.1,(W2.o.stay.held HGG.o HHD.o).hd4.2.1,(W2.o.stay.held HGG.o HHD.o).hd4.2.2.1,(W2.o.stay.held HGG.o HHD.o).hd4.2.2.2⟩):P:=h
theorem Mp3 {P:Prop}(h:P:=by exact⟨(W3.o.stay.held HGG.o HHD.o).hd4.1,(W3.o.stay.held HGG.o HHD.o).hd4.2.1,(W3.o.stay.held HGG.o HHD.o).hd4.2.2.1,(W3.o.stay.held HGG.o HHD.o).hd4.2.2.2⟩):P:=h
theorem MRw {P:Prop}(h:P:=by exact⟨(W4.o.stay.held HGG.o HHD.o).hd4.1,(W4.o.stay.held HGG.o HHD.o).hd4.2.1,(W4.o.stay.held HGG.o HHD.o).hd4.2.2.1,(W4.o.stay.held HGG.o HHD.o).hd4.2.2.2⟩):P:=h
theorem Mtd {P:Prop}(h:P:=by exact⟨(W5.o.stay.held HGG.o HHD.o).hd4.1,(W5.o.stay.held HGG.o HHD.o).hd4.2.1,(W5.o.stay.held HGG.o HHD.o).hd4.2.2.1,(W5.o.stay.held HGG.o HHD.o).hd4.2.2.2⟩):P:=h
theorem MFE {P:Prop}(h:P:=by
 rw[f2,qGG,qGG,g2,qGG,qGG]
 simp only[List.append_assoc]):P:=h
end Go.Proofs.YtjjfcaliippgpaaGreatDoor
set_option linter.unusedVariables false
set_option linter.unusedSimpArgs false
set_option maxRecDepth 100000
set_option maxHeartbeats 25600000
namespace Go.Proofs.YtjjfcaliippgpaaGreatDoor
open Go.ChangeShapes Go.WideShapes Go.ChangeAt Go.RowKit Go.Maps
section
theorem qJz:∀ {P:List (Int × Int × Int)} {x:Int × Int × Int} {Q:List (Int × Int × Int)} {a b:Int},Contig a (P ++ [x]++Q) b->(∀ y∈blocksOf P,y.1<x.2.1)/\(∀ y∈blocksOf Q,x.2.1<y.1)/\a<=x.2.1
 | [],x,Q,a,b,h=>by
  obtain⟨⟨h1,h2,_,_⟩,h3⟩:=h
  refine⟨fun y hy=>by simp[blocksOf] at hy,fun y hy=>?_,qo⟩
  have:=(qX2 h3).1 y hy
  omega
 | z :: P,x,Q,a,b,h=>by
  obtain⟨⟨h1,h2,_,_⟩,h3⟩:=h
  obtain⟨g1,g2,g3⟩:=qJz (P:=P) h3
  refine⟨fun y hy=>?_,g2,qo⟩
  rw[show z :: P = [z]++P from rfl,qGG,List.mem_append] at hy
  rcases hy with hy|hy
  ·by_cases hk:z.1=2
   ·rw[qId hk,List.mem_singleton] at hy
    subst hy
    omega
   ·rw[qCe hk] at hy;simp at hy
  ·exact g1 y hy
section
variable {H H' : AuH} {q i : Nat}
theorem qXJ (hs:H'.s=H.s)(hk:H.K q=3)(hk':H'.K q=3)(hc:H'.Cl q=H.Cl q)(hlt:i<slotI (H.Cl q))(hi:(H.cel q 4).testBit i=false)(hb:∀ j,(H'.cel q 4).testBit j=((H.cel q 4).testBit j || decide (j=i))) :
  ∃ Q Q',H.partsAt q=H.slotsTo q i ++ [H.slotPart q i]++Q/\H'.partsAt q=H'.slotsTo q i ++ [H'.slotPart q i]++Q'/\blocksOf (H'.slotsTo q i)=blocksOf (H.slotsTo q i)/\blocksOf Q'=blocksOf Q /\
   blocksOf [H'.slotPart q i] = [(H.slotA q i,(H.zs q:Int))]/\blocksOf [H.slotPart q i] = []:=by
 have e1:H'.first q=H.first q:=by unfold AuH.first AuH.pg;rw[hs]
 have e2:H'.zs q=H.zs q:=by unfold AuH.zs;rw[hs,hc]
 have e3:H'.sl q=H.sl q:=by unfold AuH.sl;rw[hc]
 obtain⟨k,hkk⟩:∃ k,H.sl q=i+1+k:=⟨H.sl q-(i+1),by have:H.sl q=slotI (H.Cl q):=rfl;omega⟩
 obtain⟨b1,b2,b3,b4⟩:=qOL e1 e2 hi hb
 obtain⟨r,r',h1,h2,h3⟩:=b4 k
 refine⟨r++H.slack q,r'++H'.slack q,?_,?_,b1,by rw[qGG,qGG,h3,kindN_slack.2,kindN_slack.2],b2,b3⟩
 ·unfold AuH.partsAt
  rw[if_neg qo,if_neg qo,if_pos hk,hkk,h1,List.append_assoc]
 ·unfold AuH.partsAt
  rw[if_neg qo,if_neg qo,if_pos hk',e3,hkk,h2,List.append_assoc]
end
section
variable {H : AuH} {n c : Nat} {K : Nat -> Option Nat} {st : Vst} {L : Nat -> List Nat} {g : Nat -> Nat} {p v i : Nat}
theorem qM7 (HV:HeapV H n c)(h:H.Ok L)(W:Work H.t H.p H.s n K st L g)(S:LiveG H g p v) :
  (nowH H n K st).Ok L/\(∀ i,i<8->(nowH H n K st).V (22+i)=H.V (22+i))/\(nowH H n K st).V 0=H.V 0/\(nowH H n K st).V 1=g 1 /\
   (nowH H n K st).K p=3/\(nowH H n K st).Cl p=H.Cl p/\(nowH H n K st).cel p 5=H.cel p 5/\(nowH H n K st).cel p 4=v /\
   (∀ q,q<H.p->(nowH H n K st).K q=H.K q/\(nowH H n K st).Cl q=H.Cl q/\(nowH H n K st).cel q 5=H.cel q 5/\(q≠p->(nowH H n K st).cel q 4=H.cel q 4)) /\
   (∀ q i,(nowH H n K st).hand q i↔(q≠p/\H.hand q i)\/(q=p/\i<slotI (H.Cl p)/\(H.cel p 5).testBit i=true/\v.testBit i=false)):=by
 have hlen:=HV.len
 have hp:=S.at_
 have T:=qBW HV h W S
 have hc:∀ q b,q<H.p->b<6->b≠2->b≠3->¬ (q=p/\b=4)->(nowH H n K st).cel q b=H.cel q b:=fun q b hq hb h2 h3 hne=>(W.cel hlen hq hb h2 h3).trans (S.cells q b hq hb h2 h3 hne)
 have e4:(nowH H n K st).cel p 4=v:=(W.cel hlen hp (b:=4) qo qo qo).trans S.live_
 have eK:∀ q,q<H.p->(nowH H n K st).K q=H.K q:=fun q hq=>by unfold AuH.K;rw[hc q 0 hq qo qo qo qo]
 have eC:∀ q,q<H.p->(nowH H n K st).Cl q=H.Cl q:=fun q hq=>by unfold AuH.Cl;rw[hc q 0 hq qo qo qo qo]
 have e5:∀ q,q<H.p->(nowH H n K st).cel q 5=H.cel q 5:=fun q hq=>hc q 5 hq qo qo qo qo
 have e4':∀ q,q<H.p->q≠p->(nowH H n K st).cel q 4=H.cel q 4:=fun q hq hne=>hc q 4 hq qo qo qo qo
 refine⟨T.ok h (by have:=HV.fit.nums;omega),T.roots,(W.low hlen (.inl qo)).trans (S.low 0 (.inl rfl)),W.low hlen (i:=1) (.inl qo),(eK p hp).trans S.kind,eC p hp,e5 p hp,e4,
  fun q hq=>⟨eK q hq,eC q hq,e5 q hq,e4' q hq⟩,fun q i=>?_⟩
 constructor
 ·rintro ⟨a1,a2,a3,a4,a5⟩
  have a1:q<H.p:=a1
  rw[eK q a1] at a2
  rw[eC q a1] at a3
  rw[e5 q a1] at a4
  by_cases e:q=p
  ·subst e
   rw[e4] at a5
   exact .inr ⟨rfl,a3,a4,a5⟩
  ·rw[e4' q a1 e] at a5
   exact .inl ⟨e,a1,a2,a3,a4,a5⟩
 ·rintro (⟨e,a1,a2,a3,a4,a5⟩|⟨rfl,a3,a4,a5⟩)
  ·exact⟨a1,by rw[eK q a1];exact a2,by rw[eC q a1];exact a3,by rw[e5 q a1];exact a4,by rw[e4' q a1 e];exact a5⟩
  ·exact⟨hp,by rw[eK q hp];exact S.kind,by rw[eC q hp];exact a3,by rw[e5 q hp];exact a4,by rw[e4];exact a5⟩
theorem qGs (HV:HeapV H n c)(h:H.Ok L)(W:Work H.t H.p H.s n K st L g)(S:LiveG H g p v)(hlt:i<slotI (H.Cl p))(hi:(H.cel p 4).testBit i=false)(hb:∀ j,v.testBit j=((H.cel p 4).testBit j || decide (j=i))) :
  g 1=H.V 1+1/\∃ X Y,blocksOf H.parts=X++Y/\blocksOf (nowH H n K st).parts=X ++ [(H.slotA p i,(H.zs p:Int))]++Y/\(∀ x∈X,x.1<H.slotA p i)/\(∀ y∈Y,H.slotA p i<y.1):=by
 have T:=qBW HV h W S
 obtain⟨_,_,_,_,d5,d6,_,d8,_⟩:=qM7 HV h W S
 have h32:=qWU (H.Cl p)
 have ho:=qB3 (t:=v) hi 32 qo (fun j _=>hb j)
 refine⟨by have:=S.one;omega,?_⟩
 obtain⟨r,_,f1,f2⟩:=T.parts
 have f2:(nowH H n K st).parts=_:=f2
 obtain⟨Q,Q',q1,q2,q3,q4,q5,q6⟩:=qXJ (H:=H) (H':=nowH H n K st) (q:=p) (i:=i) rfl S.kind d5 d6 hlt hi (by rw[d8];exact hb)
 have g1:AuH.catTo (fun i=>H.partsAt (p+i)) 1=H.slotsTo p i ++ [H.slotPart p i]++Q:=by
  show []++H.partsAt (p+0)=_
  rw[Nat.add_zero,List.nil_append,q1]
 have g2:blocksOf (AuH.catTo (fun i=>(H.re (curV n (getV n K st) H.V)).partsAt (p+i)) 1)=blocksOf (H.slotsTo p i) ++ [(H.slotA p i,(H.zs p:Int))]++blocksOf Q:=by
  show blocksOf ([]++(nowH H n K st).partsAt (p+0))=_
  rw[Nat.add_zero,List.nil_append,q2,qGG,qGG,q3,q4,q5]
 rw[g1] at f1
 have hC:=AuH.parts_contig HV h.spans.tiled
 have e:AuH.catTo H.partsAt p++(H.slotsTo p i ++ [H.slotPart p i]++Q)++AuH.catTo (fun i=>H.partsAt (p+1+i)) r=(AuH.catTo H.partsAt p++H.slotsTo p i) ++ [H.slotPart p i]++(Q++AuH.catTo (fun i=>H.partsAt (p+1+i)) r):=by simp only[List.append_assoc]
 rw[f1,e] at hC
 obtain⟨m1,m2,_⟩:=qJz hC
 refine⟨blocksOf (AuH.catTo H.partsAt p++H.slotsTo p i),blocksOf (Q++AuH.catTo (fun i=>H.partsAt (p+1+i)) r),?_,?_,m1,m2⟩
 ·rw[f1,e,qGG,qGG,q6,List.append_nil]
 ·exact MFE
theorem qYy (HV:HeapV H n c)(h:H.Ok L)(W:Work H.t H.p H.s n K st L g)(S:LiveG H g p v)(hlt:i<slotI (H.Cl p))(hi:v.testBit i=false)(hb:∀ j,(H.cel p 4).testBit j=(v.testBit j || decide (j=i))) :
  g 1+1=H.V 1/\∃ X Y,blocksOf H.parts=X ++ [(H.slotA p i,(H.zs p:Int))]++Y/\blocksOf (nowH H n K st).parts=X++Y/\(∀ x∈X,x.1<H.slotA p i)/\(∀ y∈Y,H.slotA p i<y.1):=by
 have T:=qBW HV h W S
 obtain⟨_,_,_,_,d5,d6,_,d8,_⟩:=qM7 HV h W S
 have h32:=qWU (H.Cl p)
 have ho:=qB3 (u:=v) (t:=H.cel p 4) hi 32 qo (fun j _=>hb j)
 refine⟨by have:=S.one;omega,?_⟩
 obtain⟨r,_,f1,f2⟩:=T.parts
 have f2:(nowH H n K st).parts=_:=f2
 have ez:(nowH H n K st).zs p=H.zs p:=by unfold AuH.zs;rw[d6];rfl
 have es:(nowH H n K st).slotA p i=H.slotA p i:=by
  unfold AuH.slotA
  rw[ez]
  rfl
 obtain⟨Q,Q',q1,q2,q3,q4,q5,q6⟩:=qXJ (H:=nowH H n K st) (H':=H) (q:=p) (i:=i) rfl d5 S.kind d6.symm (by rw[d6];exact hlt) (by rw[d8];exact hi) (by rw[d8];exact hb)
 rw[es,ez] at q5
 have g1:AuH.catTo (fun i=>H.partsAt (p+i)) 1=H.slotsTo p i ++ [H.slotPart p i]++Q':=by
  show []++H.partsAt (p+0)=_
  rw[Nat.add_zero,List.nil_append,q2]
 have g2:blocksOf (AuH.catTo (fun i=>(H.re (curV n (getV n K st) H.V)).partsAt (p+i)) 1)=blocksOf (H.slotsTo p i)++blocksOf Q':=by
  show blocksOf ([]++(nowH H n K st).partsAt (p+0))=_
  rw[Nat.add_zero,List.nil_append,q1,qGG,qGG,q6,List.append_nil,q3,q4]
 rw[g1] at f1
 have hC:=AuH.parts_contig HV h.spans.tiled
 have e:AuH.catTo H.partsAt p++(H.slotsTo p i ++ [H.slotPart p i]++Q')++AuH.catTo (fun i=>H.partsAt (p+1+i)) r=(AuH.catTo H.partsAt p++H.slotsTo p i) ++ [H.slotPart p i]++(Q'++AuH.catTo (fun i=>H.partsAt (p+1+i)) r):=by simp only[List.append_assoc]
 rw[f1,e] at hC
 obtain⟨m1,m2,_⟩:=qJz hC
 refine⟨blocksOf (AuH.catTo H.partsAt p++H.slotsTo p i),blocksOf (Q'++AuH.catTo (fun i=>H.partsAt (p+1+i)) r),?_,?_,m1,m2⟩
 ·rw[f1,e,qGG,qGG,q5]
 ·exact MFE
end
end
section
section
variable {H H' : AuH} {n c c' : Nat} {L L' : Nat -> List Nat} {q p i : Nat}
theorem qSR (HV:HeapV H n c)(hk:H.K q=3)(hi:i<slotI (H.Cl q)):1<=H.zs q/\i*H.zs q+H.zs q<=H.pg:=by
 have h8:0<=H.Cl q/\H.Cl q<=8:=by have:=H.K_cases q;omega
 obtain⟨k,hkk⟩:=Int.eq_ofNat_of_zero_le h8.1
 have hs:10<=(H.s:Int)/\(H.s:Int)<=20:=by have:=HV.nums;omega
 unfold AuH.zs
 rw[hkk] at hi ⊢
 rw[qPN] at hi
 have hf:=qRy hs (k:=k) qo
 have hp:pageS (H.s:Int)=H.pg:=by unfold AuH.pg;rw[qVt hs,Int.toNat_natCast]
 rw[hp] at hf
 have h1:(i+1)*sizeN (H.s:Int) (k:Int)<=slotN k*sizeN (H.s:Int) (k:Int):=Nat.mul_le_mul_right _ hi
 have h2:=hf.2.2.1
 rw[Nat.mul_comm] at h2
 rw[Nat.add_mul,Nat.one_mul] at h1
 omega
theorem qPq (q i:Nat):H.slotA q i=(((q+1)*H.pg+i*H.zs q:Nat):Int):=by
 unfold AuH.slotA AuH.first
 push_cast
 rfl
theorem qBe (HV:HeapV H n c){q' i':Nat}(hk:H.K q=3)(hi:i<slotI (H.Cl q))(hk':H.K q'=3)(hi':i'<slotI (H.Cl q'))(e:H.slotA q i=H.slotA q' i'):q=q'/\i=i':=by
 obtain⟨z1,r1⟩:=qSR HV hk hi
 obtain⟨z2,r2⟩:=qSR HV hk' hi'
 rw[qPq,qPq] at e
 have e:(q+1)*H.pg+i*H.zs q=(q'+1)*H.pg+i'*H.zs q':=qo
 have hq:q=q':=by
  rcases Nat.lt_trichotomy q q' with h|h|h
  ·have h1:(q+1+1)*H.pg<=(q'+1)*H.pg:=Nat.mul_le_mul_right _ qo
   rw[Nat.add_mul (q+1),Nat.one_mul] at h1
   omega
  ·exact h
  ·have h1:(q'+1+1)*H.pg<=(q+1)*H.pg:=Nat.mul_le_mul_right _ qo
   rw[Nat.add_mul (q'+1),Nat.one_mul] at h1
   omega
 subst hq
 refine⟨rfl,?_⟩
 have e2:i*H.zs q=i'*H.zs q:=qo
 exact Nat.eq_of_mul_eq_mul_right qo e2
theorem qAC (HV:HeapV H n c)(h:H.Ok L)(z:Int):(pkA H.parts z).Nodup:=qT6 (AuH.parts_contig HV h.spans.tiled) z
theorem qZh (HV:HeapV H n c)(h:H.Ok L)(HV':HeapV H' n c')(h':H'.Ok L')(hs:H'.s=H.s)(p:Nat){m:List Nat}(hm:m.Nodup)
  (h1:∀ q i,H'.hand q i↔H.hand q i\/(q=p/\i∈m)) (h2:∀ i∈m,¬ H.hand p i) (h3:∀ q i,H.hand q i->H'.Cl q=H.Cl q) (z:Int) :
  (pkA H'.parts z).Perm (pkA H.parts z++if (H'.zs p:Int)=z then m.map (H'.slotA p) else []):=by
 have ez:∀ q i,H.hand q i->H'.zs q=H.zs q/\H'.slotA q i=H.slotA q i:=fun q i hq=>by
  have e:H'.zs q=H.zs q:=by unfold AuH.zs;rw[hs,h3 q i hq]
  refine⟨e,?_⟩
  unfold AuH.slotA AuH.first AuH.pg
  rw[e,hs]
 have hin:∀ i∈m,H'.hand p i:=fun i hi=>(h1 p i).2 (.inr ⟨rfl,hi⟩)
 have hinj:∀ q i q' i',H'.hand q i->H'.hand q' i'->H'.slotA q i=H'.slotA q' i'->q=q'/\i=i':=fun q i q' i' a b e=>qBe HV' a.2.1 a.2.2.1 b.2.1 b.2.2.1 e
 refine qOq (qAC HV' h' z) ?_ fun a=>?_
 ·refine List.nodup_append.2 ⟨qAC HV h z,?_,?_⟩
  ·split
   ·refine List.pairwise_map.2 (hm.imp_of_mem fun {i j} hi hj hne e=>hne (hinj p i p j (hin i hi) (hin j hj) e).2)
   ·exact List.nodup_nil
  ·intro a ha b hb e
   subst e
   split at hb
   ·obtain⟨j,hj,e⟩:=List.mem_map.1 hb
    obtain⟨q,i,hq,_,e2⟩:=mem_pkA.1 ha
    obtain⟨rfl,rfl⟩:=hinj q i p j ((h1 q i).2 (.inl hq)) (hin j hj) (by rw[(ez q i hq).2,e2,e])
    exact h2 i hj hq
   ·simp at hb
 ·rw[mem_pkA,List.mem_append,mem_pkA]
  constructor
  ·rintro ⟨q,i,hq,hz,ha⟩
   rcases(h1 q i).1 hq with h4|⟨rfl,h4⟩
   ·exact .inl ⟨q,i,h4,by rw[<- (ez q i h4).1];exact hz,by rw[<- (ez q i h4).2];exact ha⟩
   ·exact .inr (by rw[if_pos hz];exact List.mem_map.2 ⟨i,h4,ha⟩)
  ·rintro (⟨q,i,hq,hz,ha⟩|hb)
   ·exact⟨q,i,(h1 q i).2 (.inl hq),by rw[(ez q i hq).1];exact hz,by rw[(ez q i hq).2];exact ha⟩
   ·split at hb
    ·rename_i hz
     obtain⟨i,hi,rfl⟩:=List.mem_map.1 hb
     exact⟨p,i,hin i hi,hz,rfl⟩
    ·simp at hb
end
def putZ (Z:Nat->Nat->List Int) (t0 k0:Nat) (l:List Int):Nat->Nat->List Int:=fun t k=>if t=t0/\k=k0 then l else Z t k
section
variable {Z : Nat -> Nat -> List Int} {t0 k0 k : Nat} {l : List Int}
theorem qYc:putZ Z t0 k0 l t0 k0=l:=if_pos ⟨rfl,rfl⟩
theorem qLX {t:Nat}(h:¬ (t=t0/\k=k0)):putZ Z t0 k0 l t k=Z t k:=if_neg h
theorem qAN (hk:k≠k0):∀ T,haveT (putZ Z t0 k0 l) k T=haveT Z k T
 | 0=>rfl
 | T+1=>by unfold haveT;rw[qAN hk T,qLX (fun e=>hk e.2)]
theorem qX7 (a:Int):∀ T,(haveT (putZ Z t0 k0 l) k0 T).count a+(if t0<T then (Z t0 k0).count a else 0)=(haveT Z k0 T).count a+(if t0<T then l.count a else 0)
 | 0=>rfl
 | T+1=>by
  have ih:=qX7 a T
  unfold haveT
  rw[List.count_append,List.count_append]
  rcases Nat.lt_trichotomy t0 T with h|h|h
  ·rw[if_pos h,if_pos h] at ih
   rw[if_pos qo,if_pos qo,qLX qo]
   omega
  ·subst h
   rw[if_neg qo,if_neg qo] at ih
   rw[if_pos qo,if_pos qo,qYc]
   omega
  ·rw[if_neg qo,if_neg qo] at ih
   rw[if_neg qo,if_neg qo,qLX qo]
   omega
theorem FitsP.turn {parts parts':List (Int × Int × Int)}{sz:Nat->Int}{T:Nat}(h:FitsP parts sz T Z)(ht:t0<T)(hk:k0<9)(hl:l.length<=4)
  (ho:∀ j,j<9->j≠k0->(pkA parts' (sz j)).Perm (pkA parts (sz j))) {X Y:List Int} (h1:(pkA parts' (sz k0)++X).Perm (pkA parts (sz k0)++Y)) (h2:(l++X).Perm (Z t0 k0++Y)):FitsP parts' sz T (putZ Z t0 k0 l):=by
 refine⟨fun k hk t ht=>?_,fun k hk=>?_⟩
 ·by_cases e:t=t0/\k=k0
  ·obtain⟨rfl,rfl⟩:=e;rw[qYc];exact hl
  ·rw[qLX e];exact h.few k hk t ht
 ·by_cases e:k=k0
  ·subst e
   rw[List.perm_iff_count]
   intro a
   have g1:=h1.count_eq a
   have g2:=h2.count_eq a
   have g3:=(h.perm k hk).count_eq a
   have g4:=qX7 (Z:=Z) (t0:=t0) (k0:=k) (l:=l) a T
   rw[if_pos ht,if_pos ht] at g4
   rw[List.count_append,List.count_append] at g1 g2
   omega
  ·rw[qAN e]
   exact(h.perm k hk).trans (ho k hk e).symm
end
end
section
def qTk (x:Nat):Nat:=(x+1)%4294967296
def qS4 (x:Nat):Nat:=(x+4294967295)%4294967296
section
variable (n : Nat) (K : Nat -> Option Nat) (t q s : Int)
def onS (p i:Nat) (st:Vst):Vst :=
 putS n (getS n K (putS n (getS n K st (pageI t q s p 4)) (pageI t q s p 4) (getV n K st (pageI t q s p 4) ||| 2^i)) 1) 1
  (qTk (getV n K (putS n (getS n K st (pageI t q s p 4)) (pageI t q s p 4) (getV n K st (pageI t q s p 4) ||| 2^i)) 1))
def offS (p i:Nat) (st:Vst):Vst :=
 putS n (getS n K (putS n (getS n K st (pageI t q s p 4)) (pageI t q s p 4) (clrB (getV n K st (pageI t q s p 4)) i)) 1) 1
  (qS4 (getV n K (putS n (getS n K st (pageI t q s p 4)) (pageI t q s p 4) (clrB (getV n K st (pageI t q s p 4)) i)) 1))
end
structure LiveOn (H H':AuH) (L:Nat->List Nat) (p i:Nat):Prop where
 ok:H'.Ok L
 roots:∀ i,i<8->H'.V (22+i)=H.V (22+i)
 free:H'.V 0=H.V 0
 live:H'.V 1=H.V 1+1
 blocks:∃ X Y,blocksOf H.parts=X++Y/\blocksOf H'.parts=X ++ [(H.slotA p i,(H.zs p:Int))]++Y/\(∀ x∈X,x.1<H.slotA p i)/\(∀ y∈Y,H.slotA p i<y.1)
 hand:∀ q j,H.hand q j↔H'.hand q j\/(q=p/\j ∈ [i])
 bit:(H'.cel p 4).testBit i=true
 page:∀ q,q<H.p->H'.K q=H.K q/\H'.Cl q=H.Cl q/\H'.cel q 5=H.cel q 5/\(q≠p->H'.cel q 4=H.cel q 4)
structure LiveOff (H H':AuH) (L:Nat->List Nat) (p i:Nat):Prop where
 ok:H'.Ok L
 roots:∀ i,i<8->H'.V (22+i)=H.V (22+i)
 free:H'.V 0=H.V 0
 live:H'.V 1+1=H.V 1
 blocks:∃ X Y,blocksOf H.parts=X ++ [(H.slotA p i,(H.zs p:Int))]++Y/\blocksOf H'.parts=X++Y/\(∀ x∈X,x.1<H.slotA p i)/\(∀ y∈Y,H.slotA p i<y.1)
 hand:∀ q j,H'.hand q j↔H.hand q j\/(q=p/\j ∈ [i])
 bit:(H'.cel p 4).testBit i=false
 page:∀ q,q<H.p->H'.K q=H.K q/\H'.Cl q=H.Cl q/\H'.cel q 5=H.cel q 5/\(q≠p->H'.cel q 4=H.cel q 4)
section
variable {H : AuH} {n c : Nat} {K : Nat -> Option Nat} {st : Vst} {L : Nat -> List Nat} {p i : Nat}
theorem qWx (u i:Nat):∀ j,(u ||| 2^i).testBit j=(u.testBit j || decide (j=i)):=fun j=>by rw[Nat.testBit_or,qF3]
theorem qQq (h:H.Ok L)(hP:H.p<=1024)(hp:p<H.p)(hk:H.K p=3):HM.onesTo (H.cel p 4) 32<=H.V 1:=by
 rw[(qGU h hP).1]
 have:∀ m,p<m->H.liveF p<=AuH.sumTo H.liveF m:=fun m=>by
  induction m with
  | zero=>intro h;omega
  | succ m ih =>
   intro hm
   show _<=AuH.sumTo H.liveF m+H.liveF m
   by_cases e:p=m
   ·subst e;omega
   ·have:=ih qo;omega
 have h1:=this H.p hp
 unfold AuH.liveF at h1
 rw[if_neg qo,if_pos hk] at h1
 exact h1
theorem qYz (HV:HeapV H n c)(W:Work H.t H.p H.s n K st L H.V)(hp:p<H.p)(v m:Nat) :
  getV n K st (pageI H.t H.p H.s p 4)=H.cel p 4/\getV n K (putS n (getS n K st (pageI H.t H.p H.s p 4)) (pageI H.t H.p H.s p 4) v) 1=H.V 1 /\
   Work H.t H.p H.s n K (putS n (getS n K (putS n (getS n K st (pageI H.t H.p H.s p 4)) (pageI H.t H.p H.s p 4) v) 1) 1 m) L (updF (updF H.V (pc H.t p 4) v) 1 m):=by
 have hlen:=HV.len
 have hpg:pageI H.t H.p H.s p 4=((pc H.t p 4:Nat):Int):=HV.page (b:=4) hp qo
 have hfar:¬ LinkCell H.t ((pc H.t p 4:Nat):Int):=qXR (q:=p) (b:=4) qo qo qo
 have hin:pc H.t p 4<n:=by unfold pc;omega
 have h1in:1<n:=qo
 have hne:pc H.t p 4≠1:=by unfold pc;omega
 have W1:=W.get (pageI H.t H.p H.s p 4)
 rw[hpg] at W1 ⊢
 have W2:=W1.put hin hfar v
 have hl1:¬ LinkCell H.t ((1:Nat):Int):=qCT (.inl qo)
 refine⟨?_,?_,?_⟩
 ·rw[W.val (i:=pc H.t p 4) hin hfar];rfl
 ·have:=W2.val (i:=1) h1in hl1
  rw[show ((1:Nat):Int)=1 from rfl] at this
  rw[this]
  show updF H.V (pc H.t p 4) v 1=_
  unfold updF
  rw[if_neg (Ne.symm hne)]
 ·exact(W2.get 1).put (i:=1) h1in hl1 m
theorem qVV (HV:HeapV H n c){v m:Nat}(hp:p<H.p)(hk:H.K p=3)(hsub:SubB v (H.cel p 5))(hone:m+HM.onesTo (H.cel p 4) 32=H.V 1+HM.onesTo v 32)
  (hn:∀ i,i<8->H.V (22+i)≠0->(spotP H.t H.p H.s (H.V (22+i):Int)).toNat=p->v.testBit (slotR H.t H.p H.s (H.Cl p) (spotO H.t H.p H.s (H.V (22+i):Int))).toNat=true) :
  LiveG H (updF (updF H.V (pc H.t p 4) v) 1 m) p v:=by
 have hlen:=HV.len
 refine⟨hp,hk,hsub,?_,fun q b hq hb h2 h3 hne=>?_,fun i hi=>?_,?_,hn⟩
 ·rw[qR2 _ _ (by unfold pc;omega),qJN]
 ·rw[qR2 _ _ (by unfold pc;omega),qR2 _ _ (by unfold pc;omega)]
  rfl
 ·rw[qR2 _ _ qo,qR2 _ _ (by unfold pc;omega)]
 ·rw[qJN];exact hone
theorem qKO (HV:HeapV H n c)(h:H.Ok L)(W:Work H.t H.p H.s n K st L H.V)(hh:H.hand p i) :
  VW n K (onS n K H.t H.p H.s p i st)/\(∃ g,Work H.t H.p H.s n K (onS n K H.t H.p H.s p i st) L g)/\LiveOn H (nowH H n K (onS n K H.t H.p H.s p i st)) L p i:=by
 obtain⟨hp,hk,hlt,h5,h4⟩:=hh
 have hP:=HV.fit.nums.2
 have h32:=qWU (H.Cl p)
 have hb:=qWx (H.cel p 4) i
 have ho:=qB3 (t:=H.cel p 4 ||| 2^i) h4 32 qo (fun j _=>hb j)
 have hfew:=qGU h hP
 obtain⟨w1,w2,W'⟩:=qYz HV W hp (H.cel p 4 ||| 2^i) (H.V 1+1)
 have hinc:qTk (H.V 1)=H.V 1+1:=by unfold qTk;exact Nat.mod_eq_of_lt qo
 have S:=qVV HV (v:=H.cel p 4 ||| 2^i) (m:=H.V 1+1) hp hk (fun j hj hbj=>by
  rw[hb j] at hbj
  rcases Bool.or_eq_true_iff.1 hbj with h6|h6
  ·exact(qVa h hp hk).2.2 j hj h6
  ·rw[decide_eq_true_eq] at h6;subst h6;exact h5) qo (fun k hk8 hv he=>by
   rw[hb]
   obtain⟨_,b2⟩:=h.roots k hk8 hv
   rw[he] at b2
   rcases b2 with b2|⟨_,_,b2⟩
   ·omega
   ·rw[b2];rfl)
 have e:onS n K H.t H.p H.s p i st=putS n (getS n K (putS n (getS n K st (pageI H.t H.p H.s p 4)) (pageI H.t H.p H.s p 4) (H.cel p 4 ||| 2^i)) 1) 1 (H.V 1+1):=by
  unfold onS
  rw[w1,w2,hinc]
 rw[e]
 obtain⟨d1,d2,d3,d4,d5,d6,d7,d8,d9,d10⟩:=qM7 HV h W' S
 obtain⟨f1,f2⟩:=qGs HV h W' S hlt h4 hb
 refine⟨W'.vw,⟨_,W'⟩,d1,d2,d3,by rw[d4];exact f1,f2,fun q j=>?_,by rw[d8,hb];simp,d9⟩
 rw[d10]
 constructor
 ·intro hq
  by_cases e:q=p
  ·subst e
   by_cases ej:j=i
   ·exact .inr ⟨rfl,by rw[ej];exact List.mem_singleton.2 rfl⟩
   ·exact .inl (.inr ⟨rfl,hq.2.2.1,hq.2.2.2.1,by rw[hb,hq.2.2.2.2,decide_eq_false ej];rfl⟩)
  ·exact .inl (.inl ⟨e,hq⟩)
 ·rintro ((⟨_,hq⟩|⟨rfl,a3,a4,a5⟩)|⟨rfl,hj⟩)
  ·exact hq
  ·rw[hb] at a5
   exact⟨hp,hk,a3,a4,(Bool.or_eq_false_iff.1 a5).1⟩
  ·rw[List.mem_singleton] at hj
   subst hj
   exact⟨hp,hk,hlt,h5,h4⟩
theorem qDA (HV:HeapV H n c)(h:H.Ok L)(W:Work H.t H.p H.s n K st L H.V)(hp:p<H.p)(hk:H.K p=3)(hlt:i<slotI (H.Cl p))(h4:(H.cel p 4).testBit i=true)
  (hn:∀ k,k<8->H.V (22+k)≠0->(spotP H.t H.p H.s (H.V (22+k):Int)).toNat=p->(slotR H.t H.p H.s (H.Cl p) (spotO H.t H.p H.s (H.V (22+k):Int))).toNat≠i) :
  VW n K (offS n K H.t H.p H.s p i st)/\(∃ g,Work H.t H.p H.s n K (offS n K H.t H.p H.s p i st) L g)/\LiveOff H (nowH H n K (offS n K H.t H.p H.s p i st)) L p i:=by
 have hP:=HV.fit.nums.2
 have h32:=qWU (H.Cl p)
 have hc:=qWv h4
 have hci:(clrB (H.cel p 4) i).testBit i=false:=by rw[hc];simp
 have hb:∀ j,(H.cel p 4).testBit j=((clrB (H.cel p 4) i).testBit j || decide (j=i)):=fun j=>by
  rw[hc]
  by_cases e:j=i
  ·subst e;rw[h4];simp
  ·rw[decide_eq_false e];simp
 have ho:=qB3 (u:=clrB (H.cel p 4) i) (t:=H.cel p 4) hci 32 qo (fun j _=>hb j)
 have hfew:=qGU h hP
 have hone:1<=H.V 1:=by have:=qQq h hP hp hk;omega
 have h5:(H.cel p 5).testBit i=true:=(qVa h hp hk).2.2 i qo h4
 obtain⟨w1,w2,W'⟩:=qYz HV W hp (clrB (H.cel p 4) i) (H.V 1-1)
 have hdec:qS4 (H.V 1)=H.V 1-1:=by unfold qS4;omega
 have S:=qVV HV (v:=clrB (H.cel p 4) i) (m:=H.V 1-1) hp hk (fun j hj hbj=>by
  rw[hc] at hbj
  exact(qVa h hp hk).2.2 j hj (Bool.and_eq_true_iff.1 hbj).1) qo (fun k hk8 hv he=>by
   rw[hc]
   obtain⟨_,b2⟩:=h.roots k hk8 hv
   have hne:=hn k hk8 hv he
   rw[he] at b2
   rcases b2 with b2|⟨_,_,b2⟩
   ·omega
   ·rw[b2,decide_eq_false hne];rfl)
 have e:offS n K H.t H.p H.s p i st=putS n (getS n K (putS n (getS n K st (pageI H.t H.p H.s p 4)) (pageI H.t H.p H.s p 4) (clrB (H.cel p 4) i)) 1) 1 (H.V 1-1):=by
  unfold offS
  rw[w1,w2,hdec]
 rw[e]
 obtain⟨d1,d2,d3,d4,d5,d6,d7,d8,d9,d10⟩:=qM7 HV h W' S
 obtain⟨f1,f2⟩:=qYy HV h W' S hlt hci hb
 refine⟨W'.vw,⟨_,W'⟩,d1,d2,d3,by rw[d4];exact f1,f2,fun q j=>?_,by rw[d8];exact hci,d9⟩
 rw[d10]
 constructor
 ·rintro (⟨_,hq⟩|⟨rfl,a3,a4,a5⟩)
  ·exact .inl hq
  ·by_cases ej:j=i
   ·exact .inr ⟨rfl,by rw[ej];exact List.mem_singleton.2 rfl⟩
   ·refine .inl ⟨hp,hk,a3,a4,?_⟩
    rw[hb,a5,decide_eq_false ej];rfl
 ·rintro (hq|⟨rfl,hj⟩)
  ·by_cases e:q=p
   ·subst e
    refine .inr ⟨rfl,hq.2.2.1,hq.2.2.2.1,?_⟩
    rw[hc,hq.2.2.2.2];rfl
   ·exact .inl ⟨e,hq⟩
  ·rw[List.mem_singleton] at hj
   subst hj
   exact .inr ⟨rfl,hlt,h5,hci⟩
end
end
section
theorem qOK (s:Nat)(hs:s<32)(w:World):Calls Tryz.prog 102 #[.int .i64 (s:Int)] w fun e w'=>e = .returned (.int .u32 ((2^s:Nat):Int))/\w=w':=by
 have e:=qh (qMX hs)
 have e5:s<=31:=qo
 go_enter Tryz.func102,Tryz.ntmps102
 go_wp2
 go_ret
 exact⟨qSu e.o,rfl⟩
theorem qMo {i:Nat}(hi:i<32):2^i<2^32:=Nat.pow_lt_pow_right (by decide) hi
theorem qYm {v i:Nat}(hv:v<2^32)(hi:i<32):bits .or .u32 (v:Int) ((2^i:Nat):Int)=((v ||| 2^i:Nat):Int):=u32_or_nat v (2^i) hv (qMo hi)
theorem qSq {v i:Nat}(hv:v<2^32)(hi:i<32):v ||| 2^i<2^32:=Nat.or_lt_two_pow hv (qMo hi)
theorem qIY {b:Nat}{t q s:Int}{g:Nat}{U:Nat->Sl}(k:Nat)(hk:k<9)(a:Int)(h0 : -9223372036854775808<=a)(h1:a<=9223372036854775807)(hs:spotB t q s a=true)(hr:slotB t q s (k:Int) (spotO t q s a)=true)(w:World)(hT:SlotsLaid w)(hH:Held w g 83 (hdC b t q s U)) :
  Calls Tryz.prog 77 #[.pointer (some ⟨g,0,none⟩),.int .i64 (k:Int),.int .i64 a] w fun e w'=>e = .returned (.tuple #[.int .i64 (spotP t q s a),.int .i64 (slotR t q s (k:Int) (spotO t q s a))])/\Below w.heap.size w w':=by
 have HH:=qh hH
 have HT:=qh hT
 have HB:=qh (B0 w)
 have hob:=qSv hs
 obtain⟨o,ho⟩:∃ o,spotO t q s a=o:=⟨_,rfl⟩
 rw[ho] at hr hob ⊢
 have HO:=qh ho
 have HS:=qh hs
 have HR:=qh hr
 have o0:0<=o:=hob.2.2.2.2.2.1
 have o1:o<1048576:=hob.2.2.2.2.2.2
 clear ho hs hr hH hT hob
 obtain⟨x0,x1,x2,x3⟩:=HH.o.hd4
 go_enter Tryz.func77,Tryz.ntmps77
 go_wp2_with fail
 refine(qRN t q s a h0 h1 _).mono ?_
 rintro e w2 ⟨rfl,hb⟩
 rw[HO.o,HS.o]
 replace HH:=qh (HH.o.keep hb)
 replace HB:=qh (Bgo HB.o hb)
 clear hb x0 x1 x2 x3
 obtain⟨x0,x1,x2,x3⟩:=HH.o.hd4
 go_wp2_with fail
 refine(qPv t q s (k:Int) o qo qo qo qo _ (HT.o.below HB.o)).mono ?_
 rintro e w3 ⟨rfl,hb⟩
 rw[HR.o]
 replace HB:=qh (Bgo HB.o hb)
 clear hb
 go_wp2
 go_ret2
 exact⟨rfl,HB.o⟩
section
variable {base b n : Nat} {wh all : Bool} {K : Nat -> Option Nat} {st : Vst} {w w0 : World} {A G : Nat -> Prop} {t q s k : Int}

theorem qUs (hn:n<2^40)(p:Int)(i:Nat)(hi:i<32){g:Nat}{U:Nat->Sl}(hG:G g)(hH:Held w g 83 (hdC b t q s U))(h:(vOb base b n wh K).At w0 A G st w) :
  Calls Tryz.prog 76 #[.pointer (some ⟨g,0,none⟩),.int .i64 p,.int .i64 (i:Int)] w fun e w'=>e = .returned (.tuple #[])/\(vOb base b n wh K).At w0 A G (putS n (getS n K st (pageI t q s p 4)) (pageI t q s p 4) ((getV n K st (pageI t q s p 4)) ||| 2^i)) w'/\Stay G w w':=by
 have W0:=qh (WL.start h)
 have HGG:=qh hG
 have HHD:=qh hH
 obtain⟨v,hv⟩:∃ v,getV n K st (pageI t q s p 4)=v:=⟨_,rfl⟩
 have hv32:v<2^32:=by rw[<- hv];exact qHJ h _
 have HV:=qh hv
 rw[hv]
 obtain⟨u,hu⟩:∃ u,v ||| 2^i=u:=⟨_,rfl⟩
 have HU:qH (u<2^32):=qh (by rw[<- hu];exact qSq hv32 hi)
 obtain⟨x,hx⟩:∃ x,2^i=x:=⟨_,rfl⟩
 have HX:=qh hx
 have e1:bits .or .u32 (v:Int) (x:Int)=(u:Int):=by rw[<- hu,<- hx];exact qYm hv32 hi
 rw[hu]
 clear h hv hu hv32 hx hG hH
 go_enter Tryz.func76,Tryz.ntmps76
 obtain⟨x0,x1,x2,x3⟩:=(W0.o.stay.held HGG.o HHD.o).hd4
 go_wp2_with fail
 refine(qA3 t q s p _).mono ?_;rintro e w1 ⟨rfl,hb⟩;have W1:=qh (W0.o.keep hb);clear hb W0
 obtain⟨x0,x1,x2,x3⟩:=(W1.o.stay.held HGG.o HHD.o).hd4
 go_wp2_with fail
 refine wp_region_held_drew (S:=(fun w'=>w'.cell? ⟨g,0,none⟩=some (.pointer (some ⟨b,0,none⟩)))) qr ?_ (fun hHeld=>?_)
 ·(try dsimp only)
  exact(W1.o.drew.stay.held HGG.o HHD.o).hd4.1
 refine tkz 0 ?_
 refine tkz 1 ?_
 refine tkz 2 ?_
 refine tkz 3 ?_
 refine tkz 4 ?_
 refine tkz 5 ?_
 refine tkz 6 ?_
 refine tkz 7 ?_
 refine tkz 8 ?_
 refine tkz 9 ?_
 refine tkz 11 ?_
 refine rdz 10 fun K hK=>?_
 go_simp
 refine(vGetA hn _ W1.o.drew.at_).mono ?_;rintro e w2 ⟨rfl,h1,h2⟩;have W2:=qh (W1.o.drew.call h1 h2);clear h1 h2 W1;rw[HV.o]
 refine qk ?_ (fun hHeld=>?_)
 ·exact(W2.o.stay.held HGG.o HHD.o).hd4.1
 clear hK K
 refine rdz 12 fun K hK=>?_
 go_simp
 refine(qOK i hi _).mono ?_;rintro e w9 ⟨rfl,rfl⟩;rw[HX.o]
 refine qk ?_ (fun hHeld=>?_)
 ·exact(W2.o.stay.held HGG.o HHD.o).hd4.1
 clear hK K
 refine tkz 13 ?_
 refine rdz 14 fun K hK=>?_
 go_simp
 refine(vPutA hn _ u HU.o W2.o.at_).mono ?_;rintro e w3 ⟨rfl,h1,h2⟩;have W3:=qh (W2.o.call h1 h2);clear h1 h2 W2
 refine qk ?_ (fun hHeld=>?_)
 ·exact(W3.o.stay.held HGG.o HHD.o).hd4.1
 clear hK K
 refine dnz ?_
 obtain⟨x0,x1,x2,x3⟩:=(W3.o.stay.held HGG.o HHD.o).hd4
 go_wp2
 go_end0
 exact⟨rfl,W3.o.fin⟩

theorem qRk (hn:n<2^40)(p:Int)(i:Nat)(hi:i<32){g:Nat}{U:Nat->Sl}(hG:G g)(hH:Held w g 83 (hdC b t q s U))(h:(vOb base b n wh K).At w0 A G st w) :
  Calls Tryz.prog 61 #[.pointer (some ⟨g,0,none⟩),.int .i64 p,.int .i64 (i:Int)] w fun e w'=>e = .returned (.tuple #[])/\(vOb base b n wh K).At w0 A G (putS n (getS n K st (pageI t q s p 4)) (pageI t q s p 4) (clrB (getV n K st (pageI t q s p 4)) i)) w'/\Stay G w w':=by
 have W0:=qh (WL.start h)
 have HGG:=qh hG
 have HHD:=qh hH
 obtain⟨v,hv⟩:∃ v,getV n K st (pageI t q s p 4)=v:=⟨_,rfl⟩
 have hv32:v<2^32:=by rw[<- hv];exact qHJ h _
 have HV:=qh hv
 rw[hv]
 obtain⟨u,hu⟩:∃ u,clrB v i=u:=⟨_,rfl⟩
 have HU:qH (u<2^32):=qh (by rw[<- hu];exact qYB hv32)
 obtain⟨x,hx⟩:∃ x,2^i=x:=⟨_,rfl⟩
 have HX:=qh hx
 have e1:bits .andNot .u32 (v:Int) (x:Int)=(u:Int):=by rw[<- hu,<- hx];exact qNV hv32 hi
 rw[hu]
 clear h hv hu hv32 hx hG hH
 go_enter Tryz.func61,Tryz.ntmps61
 obtain⟨x0,x1,x2,x3⟩:=(W0.o.stay.held HGG.o HHD.o).hd4
 go_wp2_with fail
 refine(qA3 t q s p _).mono ?_;rintro e w1 ⟨rfl,hb⟩;have W1:=qh (W0.o.keep hb);clear hb W0
 obtain⟨x0,x1,x2,x3⟩:=(W1.o.stay.held HGG.o HHD.o).hd4
 go_wp2_with fail
 refine wp_region_held_drew (S:=(fun w'=>w'.cell? ⟨g,0,none⟩=some (.pointer (some ⟨b,0,none⟩)))) qr ?_ (fun hHeld=>?_)
 ·(try dsimp only)
  exact(W1.o.drew.stay.held HGG.o HHD.o).hd4.1
 refine tkz 0 ?_
 refine tkz 1 ?_
 refine tkz 2 ?_
 refine tkz 3 ?_
 refine tkz 4 ?_
 refine tkz 5 ?_
 refine tkz 6 ?_
 refine tkz 7 ?_
 refine tkz 8 ?_
 refine tkz 9 ?_
 refine tkz 11 ?_
 refine rdz 10 fun K hK=>?_
 go_simp
 refine(vGetA hn _ W1.o.drew.at_).mono ?_;rintro e w2 ⟨rfl,h1,h2⟩;have W2:=qh (W1.o.drew.call h1 h2);clear h1 h2 W1;rw[HV.o]
 refine qk ?_ (fun hHeld=>?_)
 ·exact(W2.o.stay.held HGG.o HHD.o).hd4.1
 clear hK K
 refine rdz 12 fun K hK=>?_
 go_simp
 refine(qOK i hi _).mono ?_;rintro e w9 ⟨rfl,rfl⟩;rw[HX.o]
 refine qk ?_ (fun hHeld=>?_)
 ·exact(W2.o.stay.held HGG.o HHD.o).hd4.1
 clear hK K
 refine tkz 13 ?_
 refine rdz 14 fun K hK=>?_
 go_simp
 refine(vPutA hn _ u HU.o W2.o.at_).mono ?_;rintro e w3 ⟨rfl,h1,h2⟩;have W3:=qh (W2.o.call h1 h2);clear h1 h2 W2
 refine qk ?_ (fun hHeld=>?_)
 ·exact(W3.o.stay.held HGG.o HHD.o).hd4.1
 clear hK K
 refine dnz ?_
 obtain⟨x0,x1,x2,x3⟩:=(W3.o.stay.held HGG.o HHD.o).hd4
 go_wp2
 go_end0
 exact⟨rfl,W3.o.fin⟩

theorem qP9 (hn:n<2^40){g:Nat}{U:Nat->Sl}(hG:G g)(hH:Held w g 83 (hdC b t q s U))(h:(vOb base b n wh K).At w0 A G st w) :
  Calls Tryz.prog 39 #[.pointer (some ⟨g,0,none⟩),.int .i64 1] w fun e w'=>e = .returned (.tuple #[])/\(vOb base b n wh K).At w0 A G (putS n (getS n K st 1) 1 (qTk (getV n K st 1))) w'/\Stay G w w':=by
 have W0:=qh (WL.start h)
 have HGG:=qh hG
 have HHD:=qh hH
 obtain⟨v,hv⟩:∃ v,getV n K st 1=v:=⟨_,rfl⟩
 have hv32:v<2^32:=by rw[<- hv];exact qHJ h _
 have HV:=qh hv
 rw[hv]
 obtain⟨u,hu⟩:∃ u,qTk v=u:=⟨_,rfl⟩
 have HU:qH (u<2^32):=qh (by rw[<- hu];exact Nat.mod_lt _ (by decide))
 have e1:((v:Int)+1)%4294967296=(u:Int):=by rw[<- hu];unfold qTk;omega
 have e2:IntKind.u32.wrap ((v:Int)+1)=(u:Int):=by unfold IntKind.wrap;simpa [IntKind.bits,IntKind.signed] using e1
 have e3:IntKind.u32.wrap 1=1:=by decide
 rw[hu]
 clear h hv hu hv32 hG hH
 go_enter Tryz.func39,Tryz.ntmps39
 obtain⟨x0,x1,x2,x3⟩:=(W0.o.stay.held HGG.o HHD.o).hd4
 go_wp2_with fail
 refine wp_region_held_drew (S:=(fun w'=>w'.cell? ⟨g,0,none⟩=some (.pointer (some ⟨b,0,none⟩)))) qr ?_ (fun hHeld=>?_)
 ·(try dsimp only)
  exact(W0.o.drew.stay.held HGG.o HHD.o).hd4.1
 refine tkz 0 ?_
 refine tkz 1 ?_
 refine tkz 2 ?_
 refine tkz 3 ?_
 refine tkz 4 ?_
 refine tkz 5 ?_
 refine tkz 6 ?_
 refine tkz 7 ?_
 refine tkz 9 ?_
 refine tkz 10 ?_
 refine rdz 8 fun K hK=>?_
 go_simp
 refine(vGetA hn 1 W0.o.drew.at_).mono ?_;rintro e w1 ⟨rfl,h1,h2⟩;have W1:=qh (W0.o.drew.call h1 h2);clear h1 h2 W0;rw[HV.o]
 refine qk ?_ (fun hHeld=>?_)
 ·exact(W1.o.stay.held HGG.o HHD.o).hd4.1
 clear hK K
 refine tkz 11 ?_
 refine rdz 12 fun K hK=>?_
 go_simp
 refine(vPutA hn 1 u HU.o W1.o.at_).mono ?_;rintro e w2 ⟨rfl,h1,h2⟩;have W2:=qh (W1.o.call h1 h2);clear h1 h2 W1
 refine qk ?_ (fun hHeld=>?_)
 ·exact(W2.o.stay.held HGG.o HHD.o).hd4.1
 clear hK K
 refine dnz ?_
 obtain⟨x0,x1,x2,x3⟩:=(W2.o.stay.held HGG.o HHD.o).hd4
 go_wp2
 go_end0
 exact⟨rfl,W2.o.fin⟩

theorem qR9 (hn:n<2^40){g:Nat}{U:Nat->Sl}(hG:G g)(hH:Held w g 83 (hdC b t q s U))(h:(vOb base b n wh K).At w0 A G st w) :
  Calls Tryz.prog 39 #[.pointer (some ⟨g,0,none⟩),.int .i64 (-1)] w fun e w'=>e = .returned (.tuple #[])/\(vOb base b n wh K).At w0 A G (putS n (getS n K st 1) 1 (qS4 (getV n K st 1))) w'/\Stay G w w':=by
 have W0:=qh (WL.start h)
 have HGG:=qh hG
 have HHD:=qh hH
 obtain⟨v,hv⟩:∃ v,getV n K st 1=v:=⟨_,rfl⟩
 have hv32:v<2^32:=by rw[<- hv];exact qHJ h _
 have HV:=qh hv
 rw[hv]
 obtain⟨u,hu⟩:∃ u,qS4 v=u:=⟨_,rfl⟩
 have HU:qH (u<2^32):=qh (by rw[<- hu];exact Nat.mod_lt _ (by decide))
 have e1:((v:Int)+4294967295)%4294967296=(u:Int):=by rw[<- hu];unfold qS4;omega
 have e2:IntKind.u32.wrap ((v:Int)+4294967295)=(u:Int):=by unfold IntKind.wrap;simpa [IntKind.bits,IntKind.signed] using e1
 have e3:IntKind.u32.wrap (-1)=4294967295:=by decide
 rw[hu]
 clear h hv hu hv32 hG hH
 go_enter Tryz.func39,Tryz.ntmps39
 obtain⟨x0,x1,x2,x3⟩:=(W0.o.stay.held HGG.o HHD.o).hd4
 go_wp2_with fail
 refine wp_region_held_drew (S:=(fun w'=>w'.cell? ⟨g,0,none⟩=some (.pointer (some ⟨b,0,none⟩)))) qr ?_ (fun hHeld=>?_)
 ·(try dsimp only)
  exact(W0.o.drew.stay.held HGG.o HHD.o).hd4.1
 refine tkz 0 ?_
 refine tkz 1 ?_
 refine tkz 2 ?_
 refine tkz 3 ?_
 refine tkz 4 ?_
 refine tkz 5 ?_
 refine tkz 6 ?_
 refine tkz 7 ?_
 refine tkz 9 ?_
 refine tkz 10 ?_
 refine rdz 8 fun K hK=>?_
 go_simp
 refine(vGetA hn 1 W0.o.drew.at_).mono ?_;rintro e w1 ⟨rfl,h1,h2⟩;have W1:=qh (W0.o.drew.call h1 h2);clear h1 h2 W0;rw[HV.o]
 refine qk ?_ (fun hHeld=>?_)
 ·exact(W1.o.stay.held HGG.o HHD.o).hd4.1
 clear hK K
 refine tkz 11 ?_
 refine rdz 12 fun K hK=>?_
 go_simp
 refine(vPutA hn 1 u HU.o W1.o.at_).mono ?_;rintro e w2 ⟨rfl,h1,h2⟩;have W2:=qh (W1.o.call h1 h2);clear h1 h2 W1
 refine qk ?_ (fun hHeld=>?_)
 ·exact(W2.o.stay.held HGG.o HHD.o).hd4.1
 clear hK K
 refine dnz ?_
 obtain⟨x0,x1,x2,x3⟩:=(W2.o.stay.held HGG.o HHD.o).hd4
 go_wp2
 go_end0
 exact⟨rfl,W2.o.fin⟩

theorem qCN (hn:n<2^40)(hq:q<=1024)(p i:Nat)(hp:p<=1024)(hi:i<32)(hT:SlotsLaid w0)(hA:¬ A 0)(c0:0<=(infoOf n K t q s p st).2.2.1)(c8:(infoOf n K t q s p st).2.2.1<=8){g:Nat}{U:Nat->Sl}(hG:G g)(hH:Held w g 83 (hdC b t q s U))(h:(vOb base b n wh K).At w0 A G st w) :
  Calls Tryz.prog 63 #[.pointer (some ⟨g,0,none⟩),.int .i64 (p:Int),.int .i64 (i:Int)] w fun e w'=>e = .returned (.tuple #[])/\(vOb base b n wh K).At w0 A G (giveS n K t q s p i st) w'/\Stay G w w':=by
 have W0:=qh (WL.start h)
 have HGG:=qh hG
 have HHD:=qh hH
 have HTL:=qh hT
 have C0:=qh c0
 have C8:=qh c8
 have HNA:=qh hA
 clear h hT c0 c8 hA hG hH
 go_enter Tryz.func63,Tryz.ntmps63
 obtain⟨x0,x1,x2,x3⟩:=(W0.o.stay.held HGG.o HHD.o).hd4
 go_wp2_with fail
 refine wp_region_held_drew (S:=(fun w'=>w'.cell? ⟨g,0,none⟩=some (.pointer (some ⟨b,0,none⟩))/\w'.cell? ⟨g,1,none⟩=some (.int .i64 t)/\w'.cell? ⟨g,2,none⟩=some (.int .i64 q)/\w'.cell? ⟨g,3,none⟩=some (.int .i64 s))) qr ?_ (fun hHeld=>?_)
 ·exact Mdg
 refine tkz 0 ?_
 refine tkz 1 ?_
 refine tkz 2 ?_
 refine tkz 3 ?_
 refine tkz 4 ?_
 refine tkz 5 ?_
 refine tkz 6 ?_
 refine tkz 7 ?_
 refine tkz 8 ?_
 refine tkz 9 ?_
 refine rdz 10 fun K hK=>?_
 go_simp
 refine(qFH hn hq p i hp hi HTL.o HNA.o C0.o C8.o W0.o.drew.at_).mono ?_;rintro e w1 ⟨rfl,h1,h2⟩;have W1:=qh (W0.o.drew.call h1 h2);clear h1 h2 W0
 refine qk ?_ (fun hHeld=>?_)
 ·exact⟨(W1.o.stay.held HGG.o HHD.o).hd4.1,(W1.o.stay.held HGG.o HHD.o).hd4.2.1,(W1.o.stay.held HGG.o HHD.o).hd4.2.2.1,(W1.o.stay.held HGG.o HHD.o).hd4.2.2.2⟩
 clear hK K
 refine dnz ?_
 obtain⟨x0,x1,x2,x3⟩:=(W1.o.stay.held HGG.o HHD.o).hd4
 go_wp2
 go_end0
 exact⟨rfl,W1.o.fin⟩

theorem qHo (hn:n<2^40)(p kk l c:Int)(ok:Bool)(hI:infoOf n K t q s p st=(kk,l,c,ok)){g:Nat}{U:Nat->Sl}(hG:G g)(hH:Held w g 83 (hdC b t q s U))(h:(vOb base b n wh K).At w0 A G st w) :
  Calls Tryz.prog 60 #[.pointer (some ⟨g,0,none⟩),.int .i64 p] w fun e w'=>e = .returned (.int .i64 c)/\(vOb base b n wh K).At w0 A G (getS n K st (pageI t q s p 0)) w'/\Stay G w w':=by
 have W0:=qh (WL.start h)
 have HGG:=qh hG
 have HHD:=qh hH
 obtain⟨v,hv⟩:∃ v,getV n K st (pageI t q s p 0)=v:=⟨_,rfl⟩
 have hv32:v<2^32:=by rw[<- hv];exact qHJ h _
 have HI:qH (infoG v=(kk,l,c,ok)):=qh (by rw[<- hv];exact hI)
 have HV:=qh hv
 clear h hI hv hG hH
 go_enter Tryz.func60,Tryz.ntmps60
 obtain⟨x0,x1,x2,x3⟩:=(W0.o.stay.held HGG.o HHD.o).hd4
 go_wp2_with fail
 refine wp_region_held_drew (S:=(fun w'=>w'.cell? ⟨g,0,none⟩=some (.pointer (some ⟨b,0,none⟩))/\w'.cell? ⟨g,1,none⟩=some (.int .i64 t)/\w'.cell? ⟨g,2,none⟩=some (.int .i64 q)/\w'.cell? ⟨g,3,none⟩=some (.int .i64 s))) qr ?_ (fun hHeld=>?_)
 ·exact Mdg
 have W1:=qh W0.o.drew
 clear W0 x0 x1 x2 x3
 generalize hwd:w.drew=w1 at *
 clear hwd
 refine tkz 0 ?_
 refine tkz 1 ?_
 refine tkz 2 ?_
 refine tkz 3 ?_
 refine tkz 4 ?_
 refine tkz 5 ?_
 refine tkz 6 ?_
 refine tkz 7 ?_
 refine tkz 8 ?_
 refine wpAnyH_ready (rs := [9,15]) qr (by simp) ?_
 refine AllReadyH.cons (o:=_) rfl (fun K hK=>?_) (AllReadyH.cons (o:=_) rfl (fun K hK=>?_) AllReadyH.nil)
 ·skip
  go_simp
  refine(qSM t q s p _).mono ?_;rintro e w2 ⟨rfl,hb⟩;have W2:=qh (W1.o.keep hb);clear hb W1
  refine qk ?_ (fun hHeld=>?_)
  ·exact Mmy
  clear hK K
  refine wpAnyH_ready (rs := [10,15]) qr (by simp) ?_
  refine AllReadyH.cons (o:=_) rfl (fun K hK=>?_) (AllReadyH.cons (o:=_) rfl (fun K hK=>?_) AllReadyH.nil)
  ·skip
   go_simp
   refine(vGetA hn _ W2.o.at_).mono ?_;rintro e w3 ⟨rfl,h1,h2⟩;have W3:=qh (W2.o.call h1 h2);clear h1 h2 W2;rw[HV.o]
   refine qk ?_ (fun hHeld=>?_)
   ·exact Mp3
   clear hK K
   refine wpAnyH_ready (rs := [11,15]) qr (by simp) ?_
   refine AllReadyH.cons (o:=_) rfl (fun K hK=>?_) (AllReadyH.cons (o:=_) rfl (fun K hK=>?_) AllReadyH.nil)
   ·skip
    go_simp
    refine(qMJ v kk l c ok hv32 HI.o _).mono ?_;rintro e w4 ⟨rfl,hb⟩;have W4:=qh (W3.o.keep hb);clear hb W3
    refine qk ?_ (fun hHeld=>?_)
    ·exact MRw
    clear hK K
    refine tkz 12 ?_
    refine tkz 13 ?_
    refine tkz 14 ?_
    refine rdz 15 fun K hK=>?_
    go_simp
    generalize hNI:w4.heap.size=NI at *
    have W5:=qh (W4.o.new 119 #[.int .i64 0,.int .i64 0,.int .i64 0])
    rw[hNI] at W5
    generalize hwn:w4.alloc (.cells #[.int .i64 0,.int .i64 0,.int .i64 0] 119)=w5 at *
    clear W4 hwn hNI
    refine qk ?_ (fun hHeld=>?_)
    ·exact Mtd
    clear hK K
    exact Mx7
   ·skip
    go_simp
    generalize hNI:w3.heap.size=NI at *
    have W4:=qh (W3.o.new 119 #[.int .i64 0,.int .i64 0,.int .i64 0])
    rw[hNI] at W4
    generalize hwn:w3.alloc (.cells #[.int .i64 0,.int .i64 0,.int .i64 0] 119)=w4 at *
    clear W3 hwn hNI
    exact M2z
  ·skip
   go_simp
   generalize hNI:w2.heap.size=NI at *
   have W3:=qh (W2.o.new 119 #[.int .i64 0,.int .i64 0,.int .i64 0])
   rw[hNI] at W3
   generalize hwn:w2.alloc (.cells #[.int .i64 0,.int .i64 0,.int .i64 0] 119)=w3 at *
   clear W2 hwn hNI
   exact M1P
 ·skip
  go_simp
  generalize hNI:w1.heap.size=NI at *
  have W2:=qh (W1.o.new 119 #[.int .i64 0,.int .i64 0,.int .i64 0])
  rw[hNI] at W2
  generalize hwn:w1.alloc (.cells #[.int .i64 0,.int .i64 0,.int .i64 0] 119)=w2 at *
  clear W1 hwn hNI
  refine qk ?_ (fun hHeld=>?_)
  ·exact Mmy
  clear hK K
  refine rdz 9 fun K hK=>?_
  go_simp
  refine(qSM t q s p _).mono ?_;rintro e w3 ⟨rfl,hb⟩;have W3:=qh (W2.o.keep hb);clear hb W2
  exact M1P

end
end
section
theorem qUL {w:World}{base:Nat}{u:Value}{l:List Int}(h:w.ownsRow base 2 1 u l.length (lgVs l))(hb:∀ z∈l,-9223372036854775808<=z/\z<=9223372036854775807):LongsAt w u l:=by
 have hx:∀ {A:Option Addr} {c:Nat},u = .slice A l.length c->A≠none->True:=fun _ _=>trivial
 rcases h.2 with ⟨hu,hn⟩|⟨g,cap,cur,hu,hbs,hg,hnc,hcm,hr⟩
 ·have hl:l = []:=List.length_eq_zero_iff.1 hn
  subst hl
  exact⟨none,0,hu,Nat.le_refl _,Nat.zero_le _,hb,fun _=>⟨rfl,rfl⟩,fun ad e=>by cases e⟩
 ·refine⟨some ⟨g,0,none⟩,cap,hu,hnc,hcm,hb,(fun e=>by cases e),fun ad e=>?_⟩
  injection e with e
  subst e
  refine⟨fun _=>(h.lt g (by rw[hu];rfl)).2,fun i z hz=>?_⟩
  have hi:i<l.length:=by
   rcases Nat.lt_or_ge i l.length with h1|h1
   ·exact h1
   ·rw[List.getElem?_eq_none h1] at hz;cases hz
  subst hu
  have h1:=h.cellAt i qo
  rw[show (⟨g,0,none⟩:Addr).add i=⟨g,i,none⟩ by unfold Addr.add;by_cases h0:i=0 <;> simp[h0]]
  rw[h1]
  unfold lgVs
  rw[List.getElem?_map,hz]
  rfl
end
section
def fullP (Z:Nat->List Int) (k:Int):Prop:=k<0\/8<k\/3<(Z k.toNat).length
theorem qQj {w w':World}{row:Option Nat}{g:Nat}{t:TypeId}{cs:Array Value}(h:Held w g t cs)(hg:w.grownBy w' row)(hr:row≠some g):Held w' g t cs:=(hg.block g h.lt (fun e=>hr e.symm)).trans h
end
section
theorem qKE {k:Int}(h:0<=k/\k<=8):0<slotI k:=by
 obtain⟨k,rfl⟩:=Int.eq_ofNat_of_zero_le h.1
 rw[qPN]
 have hk:k<9:=qo
 match k,hk with
 | 0,_|1,_|2,_|3,_|4,_|5,_|6,_|7,_|8,_=>decide
theorem qDJ (k:Int)(h0 : -9223372036854775808<=k)(h1:k<=9223372036854775807)(b:Bool)(hb:b=true↔0<=k/\k<=8)(w:World)(hT:SlotsLaid w) :
  Calls Tryz.prog 129 #[.int .i64 k] w fun e w'=>e = .returned (.bool b)/\w=w':=by
 have HT:=qh hT
 obtain⟨n,hn⟩:∃ n,slotI k=n:=⟨_,rfl⟩
 have hB:b=decide (0<(n:Int)):=by
  rw[<- hn,Bool.eq_iff_iff,hb,decide_eq_true_eq]
  constructor
  ·intro h;have:=qKE h;omega
  ·intro h
   by_cases a:0<=k/\k<=8
   ·exact a
   ·rw[qXI qo] at h;omega
 subst hB
 clear hT hb
 have HN:=qh hn
 clear hn
 go_enter Tryz.func129,Tryz.ntmps129
 go_wp2_with fail
 refine(qCz k h0 h1 _ HT.o).mono ?_
 rintro e w1 ⟨rfl,rfl⟩
 rw[HN.o]
 go_wp2
 go_ret
 exact⟨by simp,rfl⟩
theorem qH1 (A:Option Addr)(n c:Nat)(hnc:n<=c)(hcm:c<=maxLen)(hno:A=none->n=0/\c=0)(w:World) :
  Calls Tryz.prog 136 #[.slice A n c] w fun e w'=>e = .returned (.slice A n n)/\w=w':=by
 have hc2:c<=9223372036854775807:=by unfold maxLen at hcm;omega
 go_enter Tryz.func136,Tryz.ntmps136
 cases A with
 | none =>
  obtain⟨rfl,rfl⟩:=hno rfl
  go_wp2
  go_ret
  exact⟨rfl,rfl⟩
 | some ad =>
  go_wp2
  go_ret
  exact⟨rfl,rfl⟩

theorem qVc (U:Nat->Sl)(Z:Nat->List Int)(k:Int)(h0 : -9223372036854775808<=k)(h1:k<=9223372036854775807)(w:World)(hT:SlotsLaid w)(h:PkV w U Z) :
  Calls Tryz.prog 94 #[.agg (pkC U),.int .i64 k] w fun e w'=>e = .returned (lastV (lastP Z k))/\Below w.heap.size w w':=by
 have HG:=qh (Held.new w 36 (pkC U))
 have HB:=qh (Bnew (B0 w) (.cells (pkC U) 36))
 have HP:=qh h
 have HT:=qh hT
 clear h hT
 by_cases hk:0<=k/\k<=8
 ·obtain⟨k,rfl⟩:=Int.eq_ofNat_of_zero_le hk.1
  have hk9:k<9:=qo
  rw[qUw hk9]
  obtain⟨A,c,hu,hlc,hcm,_,hno,hcl⟩:=HP.o k hk9
  have hc:=HG.o.pk hk9
  rw[hu] at hc
  clear hu
  rcases List.eq_nil_or_concat (Z k) with hz|⟨ys,a,hz⟩
  ·rw[hz] at hc hlc ⊢
   have t2:((([]:List Int).length:Int)==0)=true:=rfl
   go_enter Tryz.func94,Tryz.ntmps94
   go_wp2_with fail
   refine(qDJ (k:Int) qo qo true (by simp;try omega) _ (HT.o.below HB.o)).mono ?_
   rintro e w1 ⟨rfl,rfl⟩
   go_wp2
   go_ret2
   exact⟨rfl,HB.o⟩
  ·rw[hz] at hc hlc hcl hno ⊢
   obtain⟨n,hn⟩:∃ n,ys.length=n:=⟨_,rfl⟩
   have hl:(ys.concat a).length=n+1:=by rw[List.length_concat,hn]
   have hg:(ys.concat a).getLast?=some a:=by rw[List.concat_eq_append];simp
   have hx:(ys.concat a)[n]?=some a:=by rw[List.concat_eq_append,<- hn];simp
   rw[hl] at hc hlc
   rw[hg]
   cases A with
   | none=>exact absurd (hno rfl).1 (by rw[List.concat_eq_append];simp)
   | some ad =>
    have hb:=(hcl ad rfl).1 (by rw[List.concat_eq_append];simp)
    have hc2:=((hcl ad rfl).2 n a hx)
    have hc3:(w.alloc (.cells (pkC U) 36)).cell? (ad.add n)=some (.int .i64 a):=((Bnew (B0 w) (.cells (pkC U) 36)).cell (p:=ad.add n) (by rw[qXL];exact hb)).trans hc2
    have t2:(((n+1:Nat):Int)==0)=false:=by rw[beq_eq_false_iff_ne];omega
    have t3:((n+1:Nat):Int)-1=(n:Int):=qo
    have hn9:n+1<=9223372036854775807:=by unfold maxLen at hcm;omega
    clear hcl hno hz hl hg hx hn hc2
    go_enter Tryz.func94,Tryz.ntmps94
    go_wp2_with fail
    refine(qDJ (k:Int) qo qo true (by simp;try omega) _ (HT.o.below HB.o)).mono ?_
    rintro e w1 ⟨rfl,rfl⟩
    go_wp2_with fail
    go_region
    go_wp2
    go_ret2
    exact⟨rfl,Bgo HB.o (Bdrew (B0 _))⟩
 ·rw[qYq qo]
  go_enter Tryz.func94,Tryz.ntmps94
  go_wp2_with fail
  refine(qDJ k qo qo false (by simp;try omega) _ (HT.o.below HB.o)).mono ?_
  rintro e w1 ⟨rfl,rfl⟩
  go_wp2
  go_ret2
  exact⟨rfl,HB.o⟩

theorem qJ2 (U:Nat->Sl)(Z:Nat->List Int)(k a:Int)(h0 : -9223372036854775808<=k)(h1:k<=9223372036854775807)(w:World)(hT:SlotsLaid w)(h:PkV w U Z)(hn:fullP Z k) :
  Calls Tryz.prog 103 #[.agg (pkC U),.int .i64 k,.int .i64 a] w fun e w'=>e = .returned (.tuple #[.agg (pkC U),.bool false])/\Below w.heap.size w w':=by
 have HG:=qh ((Held.new w 36 (pkC U)).alloc (.cells #[.slice none 0 0,.slice none 0 0,.slice none 0 0,.slice none 0 0,.slice none 0 0,.slice none 0 0,.slice none 0 0,.slice none 0 0,.slice none 0 0] 36))
 have HR:qH (Held ((w.alloc (.cells (pkC U) 36)).alloc (.cells #[.slice none 0 0,.slice none 0 0,.slice none 0 0,.slice none 0 0,.slice none 0 0,.slice none 0 0,.slice none 0 0,.slice none 0 0,.slice none 0 0] 36)) (w.heap.size+1) 36 (pkC zeroU)):=qh (Held.new2 w (.cells (pkC U) 36) 36 #[.slice none 0 0,.slice none 0 0,.slice none 0 0,.slice none 0 0,.slice none 0 0,.slice none 0 0,.slice none 0 0,.slice none 0 0,.slice none 0 0])
 have HB:=qh (Bnew (Bnew (B0 w) (.cells (pkC U) 36)) (.cells #[.slice none 0 0,.slice none 0 0,.slice none 0 0,.slice none 0 0,.slice none 0 0,.slice none 0 0,.slice none 0 0,.slice none 0 0,.slice none 0 0] 36))
 have HT:=qh hT
 obtain⟨x0,x1,x2,x3,x4,x5,x6,x7,x8⟩:=HG.o.nineP
 obtain⟨z0,z1,z2,z3,z4,z5,z6,z7,z8⟩:=HR.o.nineP
 obtain⟨f0,f1,f2,f3,f4,f5,f6,f7,f8⟩:=HR.o.thawP
 obtain⟨y0,y1,y2,y3,y4,y5,y6,y7,y8⟩:=(show Held ((w.alloc (.cells (pkC U) 36)).alloc (.cells (pkC U) 36)) (w.heap.size+1) 36 (pkC U) from Held.new2 w (.cells (pkC U) 36) 36 (pkC U)).nineP
 clear hT
 by_cases hk:0<=k/\k<=8
 ·obtain⟨k,rfl⟩:=Int.eq_ofNat_of_zero_le hk.1
  have hk9:k<9:=qo
  obtain⟨A,c,hu,hlc,hcm,_,hno,hcl⟩:=h k hk9
  have hc:=HG.o.pk hk9
  rw[hu] at hc
  obtain⟨n,hn1⟩:∃ n,(Z k).length=n:=⟨_,rfl⟩
  have h3:3<n:=by
   rcases hn with hn|hn|hn
   ·omega
   ·omega
   ·rw[Int.toNat_natCast,hn1] at hn;exact hn
  rw[hn1] at hc
  have t2:decide ((4:Int)<=(n:Int))=true:=qt
  have t2n:decide (4<=n)=true:=decide_eq_true h3
  clear hu hn hn1 hno hcl
  go_enter Tryz.func103,Tryz.ntmps103
  go_wp2_with fail
  refine(qDJ (k:Int) qo qo true (by simp;try omega) _ (HT.o.below HB.o)).mono ?_
  exact M51
 ·go_enter Tryz.func103,Tryz.ntmps103
  go_wp2_with fail
  refine(qDJ k qo qo false (by simp;try omega) _ (HT.o.below HB.o)).mono ?_
  exact M51
theorem qD8 (U:Nat->Sl)(Z:Nat->List Int)(k:Nat)(a:Int)(ha : -9223372036854775808<=a/\a<=9223372036854775807)(hk:k<9)(h3:(Z k).length<=3)(w:World)(hT:SlotsLaid w)(h:PkV w U Z) :
    Calls Tryz.prog 103 #[.agg (pkC U),.int .i64 (k:Int),.int .i64 a] w fun e w'=>∃ x:Sl,e = .returned (.tuple #[.agg (pkC (updF U k x)),.bool true])/\(∀ ad,x.a=some ad->w.heap.size<=ad.block)/\PkV w' (updF U k x) (updF Z k (Z k ++ [a]))/\Below w.heap.size w w':=by
  have HG:=qh ((Held.new w 36 (pkC U)).alloc (.cells #[.slice none 0 0,.slice none 0 0,.slice none 0 0,.slice none 0 0,.slice none 0 0,.slice none 0 0,.slice none 0 0,.slice none 0 0,.slice none 0 0] 36))
  have HR:qH (Held ((w.alloc (.cells (pkC U) 36)).alloc (.cells #[.slice none 0 0,.slice none 0 0,.slice none 0 0,.slice none 0 0,.slice none 0 0,.slice none 0 0,.slice none 0 0,.slice none 0 0,.slice none 0 0] 36)) (w.heap.size+1) 36 (pkC zeroU)):=qh (Held.new2 w (.cells (pkC U) 36) 36 #[.slice none 0 0,.slice none 0 0,.slice none 0 0,.slice none 0 0,.slice none 0 0,.slice none 0 0,.slice none 0 0,.slice none 0 0,.slice none 0 0])
  have HB:=qh (Bnew (Bnew (B0 w) (.cells (pkC U) 36)) (.cells #[.slice none 0 0,.slice none 0 0,.slice none 0 0,.slice none 0 0,.slice none 0 0,.slice none 0 0,.slice none 0 0,.slice none 0 0,.slice none 0 0] 36))
  have HP:=qh h
  have HT:=qh hT
  have hc1:=HG.o.pk hk
  obtain⟨A,c,hu,hlc,hcm,hbd,hno,hcl⟩:=h k hk
  obtain⟨n,hn⟩:∃ n,(Z k).length=n:=⟨_,rfl⟩
  rw[hn] at hu hlc h3
  rw[hu] at hc1
  have HN:=qh hn
  have HNO:qH (A=none->n=0/\c=0):=qh (fun e=>⟨by rw[<- hn,(hno e).1];rfl,(hno e).2⟩)
  have HCL:=qh hcl
  have HBD:=qh hbd
  obtain⟨i0,hi0,hz0,hz1,hz2⟩:=info_parts longInfo
  have t2:decide ((4:Int)<=(n:Int))=false:=qf
  have t2n:decide (4<=n)=false:=qf
  clear h hT hu hn hbd hcl hno
  go_enter Tryz.func103,Tryz.ntmps103
  go_wp2_with fail
  refine(qDJ (k:Int) qo qo true (by simp;try omega) _ (HT.o.below HB.o)).mono ?_
  rintro e w1 ⟨rfl,rfl⟩
  go_wp2_with fail
  refine(qH1 A n c hlc hcm HNO.o _).mono ?_
  rintro e w1 ⟨rfl,rfl⟩
  go_wp2_with (first
    | (at_builtin
       refine wpList_append_grows _ rfl _ _ 34 rfl 2 i0 (.int .i64 0) 1 8 Tryz.underlying34 hi0 hz0 hz1 hz2 rfl (by decide) A n n (lgVs (Z k)) rfl ?d0 ?d1 ?d2 ⟨_,0,none⟩ 1 1 [.int .i64 a] rfl rfl ?c1 ?c2 ?c3 ?c4 ?c5 ?_
       case d0=>intro e;exact⟨(HNO.o e).1,(HNO.o e).1⟩
       case d1=>rw[qP5,HN.o];omega
       case d2=>intro ad hA j y hy;obtain⟨z,hz,rfl⟩:=qSW hy;exact((Bnew HB.o (.cells #[.int .i64 a] 2)).cell (p:=ad.add j) (by rw[qXL];exact(HCL.o ad hA).1 (fun e=>by rw[e] at hz;simp at hz))).trans ((HCL.o ad hA).2 j z hz)
       case c1=>intro j y hy;rcases j with _|j;(· simp at hy;subst hy;have h9:=(Held.new ((w.alloc (.cells (pkC U) 36)).alloc (.cells #[.slice none 0 0,.slice none 0 0,.slice none 0 0,.slice none 0 0,.slice none 0 0,.slice none 0 0,.slice none 0 0,.slice none 0 0,.slice none 0 0] 36)) 2 #[.int .i64 a]).cell 0;simpa [Addr.add] using h9);(· simp at hy)
       case c2=>simp[Value.oneCell']
       case c3=>omega
       case c4=>unfold maxLen;omega
       case c5=>omega
       intro u7 w7 hown7 hgrow
       have HO7:qH (w7.ownsRow (w.heap.size+3) 2 1 u7 (n+1) (lgVs (Z k ++ [a]))):=qh (by
         have:((w.alloc (.cells (pkC U) 36)).alloc (.cells #[.slice none 0 0,.slice none 0 0,.slice none 0 0,.slice none 0 0,.slice none 0 0,.slice none 0 0,.slice none 0 0,.slice none 0 0,.slice none 0 0] 36)).heap.size+1=w.heap.size+3:=by simp
         unfold lgVs at hown7 ⊢
         rw[List.map_append]
         simpa using hown7)
       obtain⟨A7,c7,hu7⟩:=qKK HO7.o
       subst hu7
       have HF7:qH (∀ ad,A7=some ad->w.heap.size<=ad.block):=qh (fun ad e=>by
         subst e
         have:=(HO7.o.lt ad.block (by unfold Value.ownBlock;rfl)).1
         omega)
       have HB7:=qh ((Bnew HB.o (.cells #[.int .i64 a] 2)).grown hgrow (by have:=HB.o.size;simp;omega) (fun j hj=>by cases hj))
       have HG7:=qh (qQj (HG.o.alloc (.cells #[.int .i64 a] 2)) hgrow (fun e=>by cases e))
       have HR7:=qh (qQj (HR.o.alloc (.cells #[.int .i64 a] 2)) hgrow (fun e=>by cases e))
       clear hown7 hgrow HB HG HR HCL hc1
       have c0:=HG7.o.pk hk
       have g0:=HG7.o.thawed k
       obtain⟨U2,hU2⟩:∃ U2,updF U k ⟨A7,n+1,c7⟩=U2:=⟨_,rfl⟩
       have HU2:=qh hU2
       have HG8:qH (Held (w7.setCell ⟨w.heap.size,k,none⟩ (.slice A7 (n+1) c7)) w.heap.size 36 (pkC U2)):=qh (by rw[<- hU2];exact HG7.o.putP hk ⟨A7,n+1,c7⟩)
       have HR8:qH (Held (w7.setCell ⟨w.heap.size,k,none⟩ (.slice A7 (n+1) c7)) (w.heap.size+1) 36 (pkC zeroU)):=qh (HR7.o.far (p:=⟨w.heap.size,k,none⟩) (by show w.heap.size+1≠w.heap.size;omega) _)
       clear hU2
       obtain⟨x0,x1,x2,x3,x4,x5,x6,x7,x8⟩:=HG8.o.nineP
       obtain⟨z0,z1,z2,z3,z4,z5,z6,z7,z8⟩:=HR8.o.nineP
       obtain⟨f0,f1,f2,f3,f4,f5,f6,f7,f8⟩:=HR8.o.thawP)
    | fail)
  obtain⟨WF,hWF⟩:∃ WF,setP (w7.setCell ⟨w.heap.size,k,none⟩ (.slice A7 (n+1) c7)) (w.heap.size+1) U2=WF:=⟨_,rfl⟩
  have zz:=Held.setP HR8.o U2
  have hBF:=qMg (g:=w.heap.size+1) (Bput HB7.o (p:=⟨w.heap.size,k,none⟩) (Nat.le_refl _) (.slice A7 (n+1) c7)) qo U2
  have hOF:(setP (w7.setCell ⟨w.heap.size,k,none⟩ (.slice A7 (n+1) c7)) (w.heap.size+1) U2).ownsRow (w.heap.size+3) 2 1 (.slice A7 (n+1) c7) (n+1) (lgVs (Z k ++ [a])):=qWQ HO7.o (fun j hj=>by
    have:=(HO7.o.lt j hj).1
    rw[qDL qo,Below.heap_setCell _ _ _ _ (by show j≠w.heap.size;omega)])
  rw[hWF] at zz hBF hOF
  unfold setP at hWF
  rw[hWF]
  obtain⟨y0,y1,y2,y3,y4,y5,y6,y7,y8⟩:=zz.nineP
  clear x0 x1 x2 x3 x4 x5 x6 x7 x8 z0 z1 z2 z3 z4 z5 z6 z7 z8 f0 f1 f2 f3 f4 f5 f6 f7 f8
  refine bodyPost_ret (v := .tuple #[.agg (pkC U2),.bool true]) (by simp[results,Tryz.results103,go_sem,y0,y1,y2,y3,y4,y5,y6,y7,y8]) rfl ⟨⟨A7,n+1,c7⟩,by rw[HU2.o],HF7.o,fun j hj=>?_,hBF⟩
  by_cases e:j=k
  · subst e
    rw[qJN,qJN]
    have hl:(Z j ++ [a]).length=n+1:=by rw[List.length_append,HN.o];rfl
    refine qUL (base:=w.heap.size+3) (by rw[hl];exact hOF) (fun z hz=>?_)
    rcases List.mem_append.1 hz with hz|hz
    · exact HBD.o z hz
    · rw[List.mem_singleton] at hz;subst hz;exact ha
  · rw[qR2 _ _ e,qR2 _ _ e]
    exact(HP.o j hj).below hBF
end
end Go.Proofs.YtjjfcaliippgpaaGreatDoor
