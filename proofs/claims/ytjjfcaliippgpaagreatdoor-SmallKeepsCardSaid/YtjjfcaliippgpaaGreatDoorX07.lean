/-
  Whole spans side by side are laid anew, in any way that keeps the rules there (slabs, too): it is a heap; its live blocks. No program is named here.
-/
import Derived.Test.YtjjfcaliippgpaaGreatDoorX06
namespace Go.Proofs.YtjjfcaliippgpaaGreatDoor
theorem RSH {P Q:Prop}(kq:Q)(h:HQ Q->P:=by
 intro kq
 have hlen:=HV.len
 have hp:=S.at_
 have hc:∀ q b,q<H.p->b<6->b≠2->b≠3->(H.re (curV n (getV n K st) H.V)).cel q b=g (pc H.t q b):=fun q b hq hb h2 h3=>W.cel hlen hq hb h2 h3
 revert hlen hp hc
 exact kq.o):P:=h ⟨kq⟩
theorem Mb2 {P:Prop}(h:P:=by
 subst e
 rw[qJN,hl]
 rw[hl] at hnd
 simp only[List.mem_append,List.mem_cons]
 rw[List.nodup_append] at hnd
 constructor
 ·rintro (h|h)
  ·exact⟨.inl h,fun e=>hnd.2.2 y h p (List.mem_cons_self ..) e⟩
  ·exact⟨.inr (.inr h),fun e=>(List.nodup_cons.1 hnd.2.1).1 (e ▸ h)⟩
 ·rintro ⟨h|h|h,hne⟩
  ·exact .inl h
  ·exact absurd h hne
  ·exact .inr h):P:=h
theorem Mm8 {P:Prop}(h:P:=by
 show H.V 0+(0+H.freeF (p+0))=H.V 0+(0+(H.re (curV n (getV n K st) H.V)).freeF (p+0))
 rw[Nat.add_zero]
 unfold AuH.freeF
 rw[hKp.1,hKp.2.1]):P:=h
theorem MuI {P:Prop}(h:P:=by
 intro q a1 a2 a3 a4
 simp(disch:=omega) only[qDr,qB0,qJR,qIZ]
 exact(hin q qo qo).1):P:=h
theorem MBj {P:Prop}(h:P:=by
 intro q a1 a2 a3 a4
 simp(disch:=omega) only[qDr,qB0,qJR,qIZ]
 exact hft q a1 qo):P:=h
theorem MUN {P:Prop}(h:P:=by
 have:((p:Int)+(m:Int)-1)=((p+m-1:Nat):Int):=qo
 rw[this]
 exact hf.foot qo):P:=h
theorem Mli {P:Prop}(h:P:=by
 intro q a1 a2
 simp(disch:=omega) only[qDr,qB0,qJR,qIZ]):P:=h
theorem M1J {P:Prop}(h:P:=by
 intro _
 simp(disch:=omega) only[qDr,qB0,qJR,qIZ]):P:=h
end Go.Proofs.YtjjfcaliippgpaaGreatDoor
set_option linter.unusedVariables false
set_option linter.unusedSimpArgs false
set_option maxRecDepth 100000
set_option maxHeartbeats 25600000
namespace Go.Proofs.YtjjfcaliippgpaaGreatDoor
open Go.ChangeShapes Go.WideShapes Go.ChangeAt Go.RowKit Go.Maps
section
namespace AuH
variable {H : AuH} {V : Nat -> Nat} {L L' : Nat -> List Nat} {A m n c : Nat}
structure Laid (H:AuH) (V:Nat->Nat) (L L':Nat->List Nat) (A m:Nat):Prop where
 cut:H.Recut V A (A+m)
 foot:∀ q,A<=q->q<A+m->(H.re V).K q≠0->(H.re V).Foot q
 feet:∀ q,q<H.p->¬ (A<=q/\q<A+m)->(H.re V).cel q 1=H.cel q 1
 left:∀ q,q<A->H.K q=1->H.nx q=A->(H.re V).K A≠1
 mid:∀ q,A<=q->q<A+m->(H.re V).K q=1->(H.re V).nx q<A+m->(H.re V).K ((H.re V).nx q)≠1
 right:∀ q,A<=q->q<A+m->(H.re V).K q=1->(H.re V).nx q=A+m->A+m<H.p->H.K (A+m)≠1
 slot:∀ q,A<=q->q<A+m->(H.re V).Slot5 q
 bits:∀ q,q<H.p->¬ (A<=q/\q<A+m)->(H.re V).cel q 4=H.cel q 4/\(H.re V).cel q 5=H.cel q 5
 list:∀ hd:Nat,2<=hd->hd<=21->IsL H.p (nxH H.t) (pvH H.t) hd (fun c=>V c.toNat) (L' hd)
 memIn:∀ hd:Nat,2<=hd->hd<=21->∀ y,A<=y->y<A+m->(y∈L' hd↔(H.re V).tgt y=hd)
 memOut:∀ hd:Nat,2<=hd->hd<=21->∀ y,¬ (A<=y/\y<A+m)->(y∈L' hd↔y∈L hd)
 bare:∀ q,A<=q->q<A+m->(H.re V).tgt q = -1->(H.re V).cel q 2=0/\(H.re V).cel q 3=0
 loose:∀ q,q<H.p->¬ (A<=q/\q<A+m)->H.tgt q = -1->(H.re V).cel q 2=H.cel q 2/\(H.re V).cel q 3=H.cel q 3
 free:V 0+sumTo (fun i=>H.freeF (A+i)) m=H.V 0+sumTo (fun i=>(H.re V).freeF (A+i)) m
 live:V 1+sumTo (fun i=>H.liveF (A+i)) m=H.V 1+sumTo (fun i=>(H.re V).liveF (A+i)) m
 few:V 0<4294967296/\V 1<4294967296
 roots:∀ i,i<8->V (22+i)=H.V (22+i)
 named:∀ i,i<8->H.V (22+i)≠0->A<=(spotP H.t H.p H.s (H.V (22+i):Int)).toNat->(spotP H.t H.p H.s (H.V (22+i):Int)).toNat<A+m->(H.re V).LiveAt (H.V (22+i):Int)
theorem Laid.ok (T:H.Laid V L L' A m)(h:H.Ok L)(hp10:H.p<=1024):(H.re V).Ok L':=by
 have hS:=h.spans
 have R:=T.cut
 have hw:=R.whole.le
 have t3:∀ q,q<H.p->¬ (A<=q/\q<A+m)->(H.re V).tgt q=H.tgt q:=fun q h1 h2=>by
  unfold AuH.tgt
  rw[R.K h1 h2,R.ln h1 h2,R.Cl h1 h2,(T.bits q h1 h2).2]
 refine⟨R.spans hS,R.feet hS h.feet T.feet T.foot,R.apart hS h.apart T.left T.mid T.right,fun q hq=>?_,T.list,fun hd h2 h21 y=>?_,fun q hq ht=>?_,?_,fun i hi hv=>?_⟩
 ·-- slots
  have hq:q<H.p:=hq
  by_cases h1:A<=q/\q<A+m
  ·exact T.slot q h1.1 h1.2
  ·have h0:=h.slots q hq
   unfold Slot5 at h0 ⊢
   rw[(T.bits q hq h1).1,(T.bits q hq h1).2,R.K hq h1,R.Cl hq h1]
   exact h0
 ·-- lists
  show _↔y<H.p/\_
  by_cases h1:A<=y/\y<A+m
  ·rw[T.memIn hd h2 h21 y h1.1 h1.2]
   exact⟨fun h3=>⟨qo,h3⟩,fun h3=>h3.2⟩
  ·rw[T.memOut hd h2 h21 y h1,h.mem hd h2 h21 y]
   constructor
   ·rintro ⟨h4,h5⟩;exact⟨h4,by rw[t3 y h4 h1];exact h5⟩
   ·rintro ⟨h4,h5⟩;rw[t3 y h4 h1] at h5;exact⟨h4,h5⟩
 ·-- what is in no list
  have hq:q<H.p:=hq
  by_cases h1:A<=q/\q<A+m
  ·exact T.bare q h1.1 h1.2 ht
  ·rw[t3 q hq h1] at ht
   obtain⟨a1,a2⟩:=T.loose q hq h1 ht
   rw[a1,a2]
   exact h.loose q hq ht
 ·-- counts
  obtain⟨c1,c2⟩:=h.counts
  have e1:=qKZ (f:=H.freeF) (g:=(H.re V).freeF) (a:=A) (m:=m) (p:=H.p) qo (fun q h1 h2=>by
   unfold freeF
   rw[R.K h1 h2,R.ln h1 h2])
  have e2:=qKZ (f:=H.liveF) (g:=(H.re V).liveF) (a:=A) (m:=m) (p:=H.p) qo (fun q h1 h2=>by
   unfold liveF
   rw[R.K h1 h2,(T.bits q h1 h2).1])
  have b1:=sums_le (H:=H) H.p hp10
  have b2:=sums_le (H:=H.re V) H.p hp10
  rw[Nat.mod_eq_of_lt qo] at c1 c2
  have hf:=T.free
  have hv:=T.live
  refine⟨?_,?_⟩
  ·show V 0=sumTo (H.re V).freeF H.p%4294967296
   rw[Nat.mod_eq_of_lt qo]
   omega
  ·show V 1=sumTo (H.re V).liveF H.p%4294967296
   rw[Nat.mod_eq_of_lt qo]
   omega
 ·-- roots
  have e0:(H.re V).V (22+i)=H.V (22+i):=T.roots i hi
  rw[e0] at hv ⊢
  obtain⟨s1,s2⟩:=h.roots i hi hv
  have hnm:=T.named i hi hv
  have hsp:(spotP H.t H.p H.s (H.V (22+i):Int)).toNat<H.p:=by
   have h1:=(qSv s1).1
   unfold addrB at h1
   rw[Bool.and_eq_true,decide_eq_true_iff] at h1
   have:=h1.2
   omega
  by_cases hin:A<=(spotP H.t H.p H.s (H.V (22+i):Int)).toNat/\(spotP H.t H.p H.s (H.V (22+i):Int)).toNat<A+m
  ·exact hnm hin.1 hin.2
  ·refine⟨s1,?_⟩
   show ((H.re V).K (spotP H.t H.p H.s (H.V (22+i):Int)).toNat=2/\_)\/((H.re V).K (spotP H.t H.p H.s (H.V (22+i):Int)).toNat=3/\slotB H.t H.p H.s ((H.re V).Cl (spotP H.t H.p H.s (H.V (22+i):Int)).toNat) _=true/\((H.re V).cel (spotP H.t H.p H.s (H.V (22+i):Int)).toNat 4).testBit (slotR H.t H.p H.s ((H.re V).Cl (spotP H.t H.p H.s (H.V (22+i):Int)).toNat) _).toNat=true)
   rw[R.K hsp hin,R.Cl hsp hin,(T.bits _ hsp hin).1]
   exact s2
theorem Laid.parts (T:H.Laid V L L' A m):∃ r,H.p=A+m+r/\H.parts=catTo H.partsAt A++catTo (fun i=>H.partsAt (A+i)) m++catTo (fun i=>H.partsAt (A+m+i)) r /\
  (H.re V).parts=catTo H.partsAt A++catTo (fun i=>(H.re V).partsAt (A+i)) m++catTo (fun i=>H.partsAt (A+m+i)) r:=by
 have R:=T.cut
 have hw:=R.whole.le
 obtain⟨r,hr⟩:∃ r,H.p=A+m+r:=⟨H.p-(A+m),qo⟩
 have hout:∀ q,q<H.p->¬ (A<=q/\q<A+m)->(H.re V).partsAt q=H.partsAt q:=fun q h1 h2=>by
  obtain⟨b4,b5⟩:=T.bits q h1 h2
  unfold partsAt slotsTo slack slotPart sl zs first pg
  rw[R.K h1 h2,R.ln h1 h2,R.Cl h1 h2,b4,b5]
  rfl
 refine⟨r,hr,?_,?_⟩
 ·unfold AuH.parts
  rw[hr,qLQ _ (A+m) r,qLQ _ A m]
 ·unfold AuH.parts
  show catTo (H.re V).partsAt H.p=_
  rw[hr,qLQ _ (A+m) r,qLQ _ A m,
   qNy (f:=(H.re V).partsAt) (g:=H.partsAt) A (fun i hi=>hout i qo qo),
   qNy (f:=fun i=>(H.re V).partsAt (A+m+i)) (g:=fun i=>H.partsAt (A+m+i)) r (fun i hi=>hout _ qo qo)]
theorem Laid.blocks (T:H.Laid V L L' A m)(hb:blocksOf (catTo (fun i=>(H.re V).partsAt (A+i)) m)=blocksOf (catTo (fun i=>H.partsAt (A+i)) m)):blocksOf (H.re V).parts=blocksOf H.parts:=by
 obtain⟨r,_,e1,e2⟩:=T.parts
 rw[e1,e2,qGG,qGG,qGG,qGG,hb]
end AuH
end
section
section
variable {n : Nat} {K : Nat -> Option Nat} {st : Vst} {t P s : Nat}
def ftH (t p:Nat):Int:=((30+4*t+6*p+1:Nat):Int)
theorem Fit.foot (h:Fit t P s n){p:Nat}(hp:p<P):pageI (t:Int) (P:Int) (s:Int) (p:Int) 1=ftH t p:=by
 rw[qKF h.right qo qo qo qo]
 unfold ftH
 push_cast
 omega
end

section
variable {H : AuH} {n c : Nat} {K : Nat -> Option Nat}
end
end
section
structure Lists (t P n:Nat) (K:Nat->Option Nat) (st:Vst) (L:Nat->List Nat):Prop where
 vw:VW n K st
 has:∀ hd:Nat,2<=hd->hd<=21->HasL t P hd n K st (L hd)
 apart:∀ a b:Nat,2<=a->a<=21->2<=b->b<=21->a≠b->∀ u∈L a,¬ u∈L b
def LinkCell (t:Nat) (c:Int):Prop:=(∃ hd:Nat,2<=hd/\hd<=21/\c=hd)\/∃ u,c=nxH t u\/c=pvH t u
section
variable {t P s n : Nat} {K : Nat -> Option Nat} {st : Vst} {L : Nat -> List Nat} {hd p : Nat} {l1 l2 : List Nat}
theorem ListCell.link {l:List Nat}(h2:2<=hd)(h21:hd<=21){c:Int}(h:ListCell t hd l c):LinkCell t c:=by
 rcases h with h|⟨u,_,h⟩
 ·exact .inl ⟨hd,h2,h21,h⟩
 ·exact .inr ⟨u,h⟩
theorem HasL.congr {st':Vst}{l:List Nat}(h:HasL t P hd n K st l)(hh:getV n K st' (hd:Int)=getV n K st (hd:Int))(hf:∀ u∈l,getV n K st' (nxH t u)=getV n K st (nxH t u)/\getV n K st' (pvH t u)=getV n K st (pvH t u)):HasL t P hd n K st' l:=by
 obtain⟨⟨a,hs⟩,hn⟩:=h
 refine⟨⟨a,?_⟩,hn⟩
 rw[hh]
 exact hs.frame hf
theorem Lists.pull (h:Lists t P n K st L)(hf:Fit t P s n)(h2:2<=hd)(h21:hd<=21)(hl:L hd=l1++p :: l2) :
  Lists t P n K (pullS n K t P s hd p st) (updF L hd (l1++l2))/\(∀ c:Int,¬ ListCell t hd (L hd) c->getV n K (pullS n K t P s hd p st) c=getV n K st c) /\
  getV n K (pullS n K t P s hd p st) (nxH t p)=0/\getV n K (pullS n K t P s hd p st) (pvH t p)=0:=by
 have hH:=h.has hd h2 h21
 rw[hl] at hH
 have hlk:=hH.links
 obtain⟨b1,b2⟩:=hf.pull (hd:=hd) qo h.vw hlk.1 hlk.2.1 hlk.2.2
 have hP:=hH.pull hf qo h.vw
 refine⟨⟨b1,fun x x2 x21=>?_,fun a b a2 a21 b2' b21 hne u hu=>?_⟩,fun c hc=>?_,?_,?_⟩
 ·by_cases e:x=hd
  ·subst e;rw[qJN];exact hP.1
  ·rw[qR2 _ _ e]
   exact hH.other hf qo h.vw (h.has x x2 x21) e qo (fun u hu=>by rw[<- hl];exact h.apart x hd x2 x21 h2 h21 e u hu)
 ·have hsub:∀ x:Nat,∀ u,u∈updF L hd (l1++l2) x->u∈L x:=fun x u hu=>by
   by_cases e:x=hd
   ·subst e
    rw[qJN] at hu
    rw[hl]
    rcases List.mem_append.1 hu with hu|hu <;> simp[hu]
   ·rwa [qR2 _ _ e] at hu
  exact fun hv=>h.apart a b a2 a21 b2' b21 hne u (hsub a u hu) (hsub b u hv)
 ·rw[b2]
  rw[hl] at hc
  obtain⟨⟨aa,hs0⟩,hnd⟩:=id hH
  exact qG5 qo hnd hs0 hc
 ·rw[b2]
  unfold pullG
  rw[qAu _ _ ((geo P t hd qo).np p p),qXM]
 ·rw[b2]
  unfold pullG
  exact qXM _ _ _
theorem Lists.push (h:Lists t P n K st L)(hf:Fit t P s n)(h2:2<=hd)(h21:hd<=21)(hp:p<P)(hno:∀ x:Nat,2<=x->x<=21->¬ p∈L x) :
  Lists t P n K (pushS n K t P s hd p st) (updF L hd (p :: L hd))/\∀ c:Int,¬ ListCell t hd (p :: L hd) c->getV n K (pushS n K t P s hd p st) c=getV n K st c:=by
 have hH:=h.has hd h2 h21
 have hx:getV n K st hd=0\/getV n K st hd-1<P:=by
  obtain⟨⟨a,hs⟩,_⟩:=id hH
  have:=hs.first
  cases hll:L hd with
  | nil=>rw[hll] at this;exact .inl this
  | cons u r =>
   right
   rw[hll] at this hs
   have h2:=hs.lt u (by simp)
   have h3:getV n K st hd=u+1:=this
   omega
 obtain⟨b1,b2⟩:=hf.push (hd:=hd) qo h.vw hp hx
 have hP:=hH.push hf qo h.vw hp (hno hd h2 h21)
 have far:∀ c:Int,¬ ListCell t hd (p :: L hd) c->getV n K (pushS n K t P s hd p st) c=getV n K st c:=fun c hc=>by
  rw[b2]
  obtain⟨⟨aa,hs0⟩,hnd⟩:=id hH
  exact qLn qo hs0 hc
 refine⟨⟨b1,fun x x2 x21=>?_,fun a b a2 a21 b2' b21 hne u hu hv=>?_⟩,far⟩
 ·by_cases e:x=hd
  ·subst e;rw[qJN];exact hP.1
  ·rw[qR2 _ _ e]
   have hap:=h.apart x hd x2 x21 h2 h21 e
   have hpx:=hno x x2 x21
   have hne:∀ u∈L x,∀ v∈p :: L hd,u≠v:=fun u hu v hv e2=>by
    subst e2
    rcases List.mem_cons.1 hv with e3|e3
    ·subst e3;exact hpx hu
    ·exact hap u hu e3
   refine(h.has x x2 x21).congr (far _ ?_) (fun u hu=>⟨far _ ?_,far _ ?_⟩)
   ·rintro (h3|⟨u,_,h3|h3⟩)
    ·omega
    ·unfold nxH at h3;omega
    ·unfold pvH at h3;omega
   ·rintro (h3|⟨v,hv,h3|h3⟩)
    ·unfold nxH at h3;omega
    ·unfold nxH at h3;exact hne u hu v hv qo
    ·unfold nxH pvH at h3;omega
   ·rintro (h3|⟨v,hv,h3|h3⟩)
    ·unfold pvH at h3;omega
    ·unfold nxH pvH at h3;omega
    ·unfold pvH at h3;exact hne u hu v hv qo
 ·have hsub:∀ x:Nat,2<=x->x<=21->∀ u,u∈updF L hd (p :: L hd) x->u∈L x\/(u=p/\x=hd):=fun x x2 x21 u hu=>by
   by_cases e:x=hd
   ·subst e
    rw[qJN] at hu
    rcases List.mem_cons.1 hu with e2|e2
    ·exact .inr ⟨e2,rfl⟩
    ·exact .inl e2
   ·rw[qR2 _ _ e] at hu;exact .inl hu
  rcases hsub a a2 a21 u hu with h3|⟨h3,h4⟩ <;> rcases hsub b b2' b21 u hv with h5|⟨h5,h6⟩
  ·exact h.apart a b a2 a21 b2' b21 hne u h3 h5
  ·subst h5;exact hno a a2 a21 h3
  ·subst h3;exact hno b b2' b21 h5
  ·omega
theorem Lists.put (h:Lists t P n K st L){i:Nat}(hi:i<n)(hc:¬ LinkCell t (i:Int))(v:Nat) :
  Lists t P n K (putS n st (i:Int) v) L/\getV n K (putS n st (i:Int) v)=upd (getV n K st) (i:Int) v:=by
 obtain⟨b1,b2⟩:=h.vw.put hi v
 refine⟨⟨b1,fun x x2 x21=>(h.has x x2 x21).congr ?_ (fun u hu=>⟨?_,?_⟩),h.apart⟩,b2⟩
 ·rw[b2,qAu]
  exact fun e=>hc (.inl ⟨x,x2,x21,e.symm⟩)
 ·rw[b2,qAu]
  exact fun e=>hc (.inr ⟨u,.inl e.symm⟩)
 ·rw[b2,qAu]
  exact fun e=>hc (.inr ⟨u,.inr e.symm⟩)
theorem Lists.get (h:Lists t P n K st L)(c:Int):Lists t P n K (getS n K st c) L/\getV n K (getS n K st c)=getV n K st:=by
 obtain⟨b1,b2⟩:=h.vw.get c
 refine⟨⟨b1,fun x x2 x21=>?_,h.apart⟩,b2⟩
 unfold HasL
 rw[b2]
 exact h.has x x2 x21
theorem qOZ {q b:Nat}(hb:b<6)(h2:b≠2)(h3:b≠3):¬ LinkCell t ((30+4*t+6*q+b:Nat):Int):=by
 rintro (⟨hd,_,_,e⟩|⟨u,e|e⟩)
 ·omega
 ·unfold nxH at e;omega
 ·unfold pvH at e;omega
theorem qCT {i:Nat}(h:i<2\/(22<=i/\i<30)):¬ LinkCell t (i:Int):=by
 rintro (⟨hd,_,_,e⟩|⟨u,e|e⟩)
 ·omega
 ·unfold nxH at e;omega
 ·unfold pvH at e;omega
end
section
variable {H : AuH} {n c : Nat} {K : Nat -> Option Nat} {st : Vst} {L : Nat -> List Nat}
theorem Lists.of_ok (h:H.Ok L)(HV:HeapV H n c)(hK:∀ i,i<n->K i=some (H.V i)):Lists H.t H.p n K freshS L:=by
 have hV:VW n K freshS:=⟨fun i hi=>⟨_,hK i hi⟩,rfl⟩
 have hlen:=HV.len
 have hg:∀ i:Nat,i<n->getV n K freshS (i:Int)=H.V i:=fun i hi=>by rw[hV.at_ hi,hK i hi];rfl
 refine⟨hV,fun hd h2 h21=>?_,fun a b a2 a21 b2 b21 hne u hu hv=>?_⟩
 ·obtain⟨⟨a,hs⟩,hn⟩:=h.list hd h2 h21
  refine⟨⟨a,?_⟩,hn⟩
  rw[hg hd qo]
  simp only[Int.toNat_natCast] at hs
  refine hs.frame (fun u hu=>?_)
  have hup:=((h.mem hd h2 h21 u).1 hu).1
  unfold nxH pvH
  rw[hg _ qo,hg _ qo]
  simp only[Int.toNat_natCast]
  exact⟨trivial,trivial⟩
 ·have e1:=((h.mem a a2 a21 u).1 hu).2
  have e2:=((h.mem b b2 b21 u).1 hv).2
  omega
theorem Lists.isL (h:Lists H.t H.p n K st L)(HV:HeapV H n c){hd:Nat}(h2:2<=hd)(h21:hd<=21):IsL H.p (nxH H.t) (pvH H.t) hd (fun c=>curV n (getV n K st) H.V c.toNat) (L hd):=by
 have hlen:=HV.len
 obtain⟨⟨a,hs⟩,hn⟩:=h.has hd h2 h21
 have e:∀ i:Nat,i<n->curV n (getV n K st) H.V i=getV n K st (i:Int):=fun i hi=>qG7 hi
 refine⟨⟨a,?_⟩,hn⟩
 show Seg H.p (nxH H.t) (pvH H.t) (fun c=>curV n (getV n K st) H.V c.toNat) 0 (curV n (getV n K st) H.V ((hd:Int).toNat)) (L hd) a 0
 rw[Int.toNat_natCast,e hd qo]
 refine hs.frame (fun u hu=>?_)
 have hup:=hs.lt u hu
 unfold nxH pvH
 simp only[Int.toNat_natCast]
 rw[e _ qo,e _ qo]
 exact⟨rfl,rfl⟩
end
end
section
structure Work (t P s n:Nat) (K:Nat->Option Nat) (st:Vst) (L:Nat->List Nat) (g:Nat->Nat):Prop where
 lists:Lists t P n K st L
 near:∀ i:Nat,i<n->¬ LinkCell t (i:Int)->getV n K st (i:Int)=g i
 o:∀ q,q<P->(∀ hd:Nat,2<=hd->hd<=21->¬ q∈L hd)->getV n K st (nxH t q)=0/\getV n K st (pvH t q)=0
def pc (t q b:Nat):Nat:=30+4*t+6*q+b
theorem qXR {t q b:Nat}(hb:b<6)(h2:b≠2)(h3:b≠3):¬ LinkCell t ((pc t q b:Nat):Int):=qOZ hb h2 h3
section
variable {t P s n : Nat} {K : Nat -> Option Nat} {st : Vst} {L : Nat -> List Nat} {g : Nat -> Nat}
theorem Work.vw (W:Work t P s n K st L g):VW n K st:=W.lists.vw
theorem Work.val (W:Work t P s n K st L g){i:Nat}(hi:i<n)(hc:¬ LinkCell t (i:Int)):getV n K st (i:Int)=g i:=W.near i hi hc
theorem Work.get (W:Work t P s n K st L g)(c:Int):Work t P s n K (getS n K st c) L g:=by
 obtain⟨h1,h2⟩:=W.lists.get c
 exact⟨h1,fun i hi hc=>by rw[h2];exact W.near i hi hc,fun q hq h=>by rw[h2];exact W.o q hq h⟩
theorem Work.put (W:Work t P s n K st L g){i:Nat}(hi:i<n)(hc:¬ LinkCell t (i:Int))(v:Nat):Work t P s n K (putS n st (i:Int) v) L (updF g i v):=by
 obtain⟨h1,h2⟩:=W.lists.put hi hc v
 refine⟨h1,fun j hj hcj=>?_,fun q hq h=>?_⟩
 ·rw[h2]
  by_cases e:j=i
  ·subst e;rw[qXM,qJN]
  ·rw[qAu _ _ qo,qR2 _ _ e]
   exact W.near j hj hcj
 ·rw[h2,qAu _ _ (fun e=>hc (.inr ⟨q,.inl e.symm⟩)),qAu _ _ (fun e=>hc (.inr ⟨q,.inr e.symm⟩))]
  exact W.o q hq h
theorem Work.drop (W:Work t P s n K st L g)(hf:Fit t P s n){p l:Nat}(hp:p<P)(hi:infoG (g (pc t p 0))=(1,(l:Int),0,true)){k:Nat}(hk:ofI (l:Int)=(k:Int))(hk10:k<=10)(hm:p∈L (2+k)) :
  dropV n K t P s p st=(l:Int)/\∃ L',Work t P s n K (dropS n K t P s p st) L' g/\∀ hd:Nat,2<=hd->hd<=21->∀ y,y∈L' hd↔y∈L hd/\y≠p:=by
 have hlen:=hf.len
 have epg:pgB (P:Int) (p:Int)=true:=(qHC _ _).2 ⟨qo,qo⟩
 have hin:30+4*t+6*p<n:=qo
 have e0:pageI (t:Int) (P:Int) (s:Int) (p:Int) 0=inH t p:=hf.inf hp
 have ei:infoOf n K t P s p st=(1,(l:Int),0,true):=by
  unfold infoOf
  rw[e0]
  unfold inH
  rw[W.near _ hin (qXR (b:=0) qo qo qo)]
  exact hi
 have ebin:binH (l:Int)=((2+k:Nat):Int):=qHt hk hk10
 refine⟨by unfold dropV;rw[if_pos epg,ei];rfl,?_⟩
 have eds:dropS n K t P s p st=pullS n K t P s ((2+k:Nat):Int) p (getS n K st (inH t p)):=by
  unfold dropS
  rw[if_pos epg,ei]
  simp only[if_true]
  rw[ebin,e0,(qK2 epg).2]
 have W1:=W.get (inH t p)
 obtain⟨l1,l2,hl⟩:=List.append_of_mem hm
 obtain⟨h1,h2,h3,h4⟩:=W1.lists.pull hf (hd:=2+k) qo qo hl
 rw[<- eds] at h1 h2 h3 h4
 have hnd:(L (2+k)).Nodup:=(W.lists.has (2+k) qo qo).nodup
 have hmem:∀ hd:Nat,2<=hd->hd<=21->∀ y,y∈updF L (2+k) (l1++l2) hd↔y∈L hd/\y≠p:=fun hd a2 a21 y=>by
  by_cases e:hd=2+k
  ·exact Mb2
  ·rw[qR2 _ _ e]
   exact⟨fun h=>⟨h,fun e2=>W.lists.apart hd (2+k) a2 a21 qo qo e y h (e2 ▸ hm)⟩,fun h=>h.1⟩
 refine⟨_,⟨h1,fun i hi' hc=>?_,fun q hq h=>?_⟩,hmem⟩
 ·rw[h2 _ (fun hx=>hc (hx.link qo qo))]
  exact W1.near i hi' hc
 ·by_cases e:q=p
  ·subst e;exact⟨h3,h4⟩
  ·have hno:∀ hd:Nat,2<=hd->hd<=21->¬ q∈L hd:=fun hd a2 a21 hm2=>h hd a2 a21 ((hmem hd a2 a21 q).2 ⟨hm2,e⟩)
   have hq2:=hno (2+k) qo qo
   rw[h2 _ (by
    rintro (e1|⟨u,hu,e1|e1⟩)
    ·unfold nxH at e1;omega
    ·have:q=u:=by unfold nxH at e1;omega
     exact hq2 (this ▸ hu)
    ·unfold nxH pvH at e1;omega),h2 _ (by
    rintro (e1|⟨u,hu,e1|e1⟩)
    ·unfold pvH at e1;omega
    ·unfold nxH pvH at e1;omega
    ·have:q=u:=by unfold pvH at e1;omega
     exact hq2 (this ▸ hu))]
   exact W1.o q hq hno
theorem Work.add (W:Work t P s n K st L g)(hf:Fit t P s n){p m:Nat}(h1:1<=m)(h2:p+m<=P)(hno:∀ hd:Nat,2<=hd->hd<=21->¬ p∈L hd) :
  ∃ L',Work t P s n K (addS n K t P s p m st) L' (updF (updF g (pc t p 0) (infoV 1 (m:Int) 0)) (pc t (p+m-1) 1) (p+1))/\∀ hd:Nat,2<=hd->hd<=21->∀ y,y∈L' hd↔y∈L hd\/(y=p/\((hd:Nat):Int)=2+HM.logI (m:Int)):=by
 have hlen:=hf.len
 have hP:=hf.nums
 have epg:pgB (P:Int) (p:Int)=true:=(qHC _ _).2 ⟨qo,qo⟩
 obtain⟨k,hk,hk10,_⟩:=qIH (n:=m) h1 qo
 have ebin:binH (m:Int)=((2+k:Nat):Int):=qHt hk hk10
 have elog:HM.logI (m:Int)=(k:Int):=by
  unfold ofI at hk
  rw[if_neg qo] at hk
  exact hk
 have hin:pc t p 0<n:=by unfold pc;omega
 have hfn:pc t (p+m-1) 1<n:=by unfold pc;omega
 have e0:pageI (t:Int) (P:Int) (s:Int) (p:Int) 0=((pc t p 0:Nat):Int):=hf.inf qo
 have e1:pageI (t:Int) (P:Int) (s:Int) ((p:Int)+(m:Int)-1) 1=((pc t (p+m-1) 1:Nat):Int):=by
  exact MUN
 have W2:=(W.put hin (qXR qo qo qo) (infoV 1 (m:Int) 0)).put hfn (qXR qo qo qo) (p+1)
 have eas:addS n K t P s p m st=pushS n K t P s ((2+k:Nat):Int) p (putS n (putS n st ((pc t p 0:Nat):Int) (infoV 1 (m:Int) 0)) ((pc t (p+m-1) 1:Nat):Int) (p+1)):=by
  unfold addS
  rw[if_pos ⟨epg,qo,qo⟩,ebin,(qK2 epg).1,e0,e1]
  rfl
 obtain⟨g1,g2⟩:=W2.lists.push hf (hd:=2+k) qo qo (p:=p) qo hno
 rw[<- eas] at g1 g2
 have hmem:∀ hd:Nat,2<=hd->hd<=21->∀ y,y∈updF L (2+k) (p :: L (2+k)) hd↔y∈L hd\/(y=p/\((hd:Nat):Int)=2+HM.logI (m:Int)):=fun hd a2 a21 y=>by
  rw[elog]
  by_cases e:hd=2+k
  ·subst e
   rw[qJN,List.mem_cons]
   constructor
   ·rintro (h|h)
    ·exact .inr ⟨h,qo⟩
    ·exact .inl h
   ·rintro (h|h)
    ·exact .inr h
    ·exact .inl h.1
  ·rw[qR2 _ _ e]
   exact⟨fun h => .inl h,fun h=>by
    rcases h with h|h
    ·exact h
    ·omega⟩
 refine⟨_,⟨g1,fun i hi hc=>?_,fun q hq h=>?_⟩,hmem⟩
 ·rw[g2 _ (fun hx=>hc (hx.link qo qo))]
  exact W2.near i hi hc
 ·have hq2:¬ q∈p :: L (2+k):=by
   have:=h (2+k) qo qo
   rwa [qJN] at this
  have hno2:∀ hd:Nat,2<=hd->hd<=21->¬ q∈L hd:=fun hd a2 a21 hm2=>h hd a2 a21 ((hmem hd a2 a21 q).2 (.inl hm2))
  rw[g2 _ (by
   rintro (e2|⟨u,hu,e2|e2⟩)
   ·unfold nxH at e2;omega
   ·have:q=u:=by unfold nxH at e2;omega
    exact hq2 (this ▸ hu)
   ·unfold nxH pvH at e2;omega),g2 _ (by
   rintro (e2|⟨u,hu,e2|e2⟩)
   ·unfold pvH at e2;omega
   ·unfold nxH pvH at e2;omega
   ·have:q=u:=by unfold pvH at e2;omega
    exact hq2 (this ▸ hu))]
  exact W2.o q hq hno2
end
section
variable {H : AuH} {n c : Nat} {K : Nat -> Option Nat} {st : Vst} {L : Nat -> List Nat} {g : Nat -> Nat}
theorem Work.of_ok (h:H.Ok L)(HV:HeapV H n c)(hK:∀ i,i<n->K i=some (H.V i)):Work H.t H.p H.s n K freshS L H.V:=by
 have hL:=Lists.of_ok h HV hK
 have hlen:=HV.len
 have hg:∀ i:Nat,i<n->getV n K freshS (i:Int)=H.V i:=fun i hi=>by rw[hL.vw.at_ hi,hK i hi];rfl
 refine⟨hL,fun i hi _=>hg i hi,fun q hq hno=>?_⟩
 have htg:H.tgt q = -1:=by
  rcases H.K_cases q with h3|⟨h3|h3,_⟩|⟨h3,_,h4,h5⟩
  ·exact AuH.tgt_none h3.1
  ·exfalso
   have h4:=H.ln_pos q qo
   obtain⟨k,hk,hk10,_⟩:=qIH (n:=H.ln q) h4.1 h4.2
   unfold ofI at hk
   rw[if_neg qo] at hk
   exact hno (2+k) qo qo ((h.mem (2+k) qo qo q).2 ⟨hq,by rw[AuH.tgt_free h3,hk];push_cast;rfl⟩)
  ·exact AuH.tgt_used h3
  ·by_cases hfull:H.cel q 5=2^slotI (H.Cl q)-1
   ·exact AuH.tgt_full h3 hfull
   ·exfalso
    refine hno (13+(H.Cl q).toNat) qo qo ((h.mem (13+(H.Cl q).toNat) qo qo q).2 ⟨hq,?_⟩)
    rw[AuH.tgt_slab h3 hfull]
    push_cast
    omega
 obtain⟨h6,h7⟩:=h.loose q hq htg
 unfold nxH pvH
 rw[hg _ qo,hg _ qo]
 exact⟨h6,h7⟩
theorem Work.cel (W:Work H.t H.p H.s n K st L g)(hlen:n=30+4*H.t+6*H.p){q b:Nat}(hq:q<H.p)(hb:b<6)(h2:b≠2)(h3:b≠3):(H.re (curV n (getV n K st) H.V)).cel q b=g (pc H.t q b):=by
 show curV n (getV n K st) H.V (30+4*H.t+6*q+b)=_
 rw[qG7 qo]
 exact W.near _ qo (qXR hb h2 h3)
theorem Work.low (W:Work H.t H.p H.s n K st L g)(hlen:n=30+4*H.t+6*H.p){i:Nat}(h:i<2\/(22<=i/\i<30)):curV n (getV n K st) H.V i=g i:=by
 rw[qG7 qo]
 exact W.near _ qo (qCT h)
theorem Work.links (W:Work H.t H.p H.s n K st L g)(hlen:n=30+4*H.t+6*H.p){q:Nat}(hq:q<H.p)(hno:∀ hd:Nat,2<=hd->hd<=21->¬ q∈L hd):(H.re (curV n (getV n K st) H.V)).cel q 2=0/\(H.re (curV n (getV n K st) H.V)).cel q 3=0:=by
 obtain⟨h1,h2⟩:=W.o q hq hno
 refine⟨?_,?_⟩
 ·show curV n (getV n K st) H.V (30+4*H.t+6*q+2)=0
  rw[qG7 qo]
  exact h1
 ·show curV n (getV n K st) H.V (30+4*H.t+6*q+3)=0
  rw[qG7 qo]
  exact h2
end
end
section
def qOO (a:Nat) (m:Int):Nat:=(((a:Int)+m)%4294967296).toNat
def qZB (a:Nat) (m:Int):Nat:=(((a:Int)-m)%4294967296).toNat
theorem qCG (a:Nat)(m:Int):qOO a m<2^32:=by unfold qOO;have:=Int.emod_lt_of_pos ((a:Int)+m) (show (0:Int)<4294967296 by omega);have:=Int.emod_nonneg ((a:Int)+m) (show (4294967296:Int)≠0 by omega);omega
theorem qCv {a m:Nat}(h:m<=a)(h2:a<4294967296):qZB a m=a-m:=by unfold qZB;rw[Int.emod_eq_of_lt qo qo];omega
section
variable (n : Nat) (K : Nat -> Option Nat) (t q s : Int)
def usedS (p m:Nat) (st:Vst):Vst:=putS n (putS n st (pageI t q s p 0) (infoV 2 (m:Int) 0)) (pageI t q s ((p:Int)+(m:Int)-1) 1) (p+1)
def restS (p m:Nat) (l:Int) (st:Vst):Vst:=if (m:Int)<l then addS n K t q s ((p:Int)+(m:Int)) (l-(m:Int)) st else st
def lessS (m:Nat) (st:Vst):Vst:=putS n (getS n K st 0) 0 (qZB (getV n K st 0) (m:Int))
def moreS (m:Nat) (st:Vst):Vst:=putS n (getS n K st 0) 0 (qOO (getV n K st 0) (m:Int))
def takeS (p m:Nat) (st:Vst):Vst:=lessS n K m (restS n K t q s p m (dropV n K t q s p st) (usedS n t q s p m (dropS n K t q s p st)))
def takeI (m:Int) (st:Vst):Option Nat × Vst:=match (findI n K t q s m st).1 with
 | some p=>(some p,takeS n K t q s p m.toNat (findI n K t q s m st).2)
 | none=>(none,(findI n K t q s m st).2)
def relL (p:Nat) (st:Vst):Vst × Int × Int:=if p=0 then (st,(p:Int),0) else
  (let f:Int:=((getV n K st (pageI t q s ((p:Int)-1) 1):Nat):Int)
   let st1:=getS n K st (pageI t q s ((p:Int)-1) 1)
   let st2:=getS n K st1 (pageI t q s (f-1) 0)
   if (infoOf n K t q s (f-1) st1).1=1 then (putS n (putS n (dropS n K t q s (f-1) st2) (pageI t q s p 0) 0) (pageI t q s ((p:Int)-1) 1) 0,f-1,dropV n K t q s (f-1) st2)
   else (st2,(p:Int),0))
def relR (r:Nat) (st:Vst):Vst × Int:=if (r:Int)<q then
  (let st1:=getS n K st (pageI t q s r 0)
   if (infoOf n K t q s r st).1=1 then (putS n (putS n (dropS n K t q s r st1) (pageI t q s r 0) 0) (pageI t q s ((r:Int)-1) 1) 0,dropV n K t q s r st1)
   else (st1,0))
  else (st,0)
def releaseS (p m:Nat) (st:Vst):Vst :=
 moreS n K m (addS n K t q s (relL n K t q s p st).2.1 ((m:Int)+(relL n K t q s p st).2.2+(relR n K t q s (p+m) (relL n K t q s p st).1).2) (relR n K t q s (p+m) (relL n K t q s p st).1).1)
end
end
section
structure RelaidG (H:AuH) (g:Nat->Nat) (L L':Nat->List Nat) (A k e:Nat):Prop where
 pos:0<k+e
 whole:H.Whole A (A+k+e)
 noslab:∀ q,A<=q->q<A+k+e->H.K q≠3
 left:k=0->∀ q,q<A->H.K q=1->H.nx q≠A
 right:0<e->A+k+e<H.p->H.K (A+k+e)≠1
 used:0<k->g (pc H.t A 0)=infoV 2 (k:Int) 0
 rest:0<e->g (pc H.t (A+k) 0)=infoV 1 (e:Int) 0
 blank:∀ q,A<=q->q<A+k+e->¬ (0<k/\q=A)->¬ (0<e/\q=A+k)->g (pc H.t q 0)=0
 infos:∀ q,q<H.p->¬ (A<=q/\q<A+k+e)->g (pc H.t q 0)=H.cel q 0
 footu:0<k->g (pc H.t (A+k-1) 1)=A+1
 footr:0<e->g (pc H.t (A+k+e-1) 1)=A+k+1
 blankf:∀ q,A<=q->q<A+k+e->¬ (0<k/\q=A+k-1)->¬ (0<e/\q=A+k+e-1)->g (pc H.t q 1)=0
 feet:∀ q,q<H.p->¬ (A<=q/\q<A+k+e)->g (pc H.t q 1)=H.cel q 1
 bits:∀ q,q<H.p->g (pc H.t q 4)=H.cel q 4/\g (pc H.t q 5)=H.cel q 5
 mem:∀ hd:Nat,2<=hd->hd<=21->∀ y,y∈L' hd↔(y∈L hd/\¬ (A<=y/\y<A+k+e))\/(0<e/\y=A+k/\((hd:Nat):Int)=2+HM.logI (e:Int))
 free:g 0+AuH.sumTo (fun i=>H.freeF (A+i)) (k+e)=H.V 0+e
 roots:∀ i,i<8->g (22+i)=H.V (22+i)
section
variable {H : AuH} {n c : Nat} {K : Nat -> Option Nat} {st : Vst} {L L' : Nat -> List Nat} {g : Nat -> Nat} {A k e : Nat}
theorem qRA (h:H.Ok L){p:Nat}(hp:p<H.p)(hk:H.K p≠0)(hs:H.K p≠3):H.nx p=p+H.ln p/\1<=H.ln p/\p+H.ln p<=H.p/\(p+H.ln p<H.p->H.K (p+H.ln p)≠0)/\(∀ q,p<q->q<p+H.ln p->H.cel q 0=0/\H.K q=0)/\(∀ q,p<=q->q+1<p+H.ln p->H.cel q 1=0)/\H.cel (p+H.ln p-1) 1=p+1:=by
 have hl:=H.ln_pos p (by rcases H.K_cases p with h1|h1|h1 <;> omega)
 have hnx:H.nx p=p+H.ln p:=rfl
 have hf:=h.spans.fit p hp hk
 obtain⟨f1,f2⟩:=h.feet p hp hk
 refine⟨hnx,hl.1,qo,fun h1=>by have:=h.spans.next p hp hk qo;rwa [hnx] at this,fun q h1 h2=>?_,fun q h1 h2=>f1 q h1 h2,f2⟩
 have:=h.spans.inside p q hp hk h1 qo
 exact⟨this,(H.K_zero q this).1⟩
theorem qHy (h:H.Ok L){p:Nat}(hp:p<H.p)(hk:H.K p≠0)(hs:H.K p≠3):H.Whole p (p+H.ln p):=by
 obtain⟨_,h1,h2,h3,_⟩:=qRA h hp hk hs
 exact⟨qo,h2,hk,h3⟩
theorem qI8 (h:H.Ok L){i:Nat}(hi:i<8)(hv:H.V (22+i)≠0):H.K (spotP H.t H.p H.s (H.V (22+i):Int)).toNat=2\/H.K (spotP H.t H.p H.s (H.V (22+i):Int)).toNat=3:=by
 obtain⟨_,h2|h2⟩:=h.roots i hi hv
 ·exact .inl h2.1
 ·exact .inr h2.1
theorem qZx (h:H.Ok L){p:Nat}(hp:p<H.p)(hk:H.K p=1):∃ k:Nat,ofI (H.ln p:Int)=(k:Int)/\k<=10/\p∈L (2+k):=by
 have hl:=H.ln_pos p qo
 obtain⟨k,e,hk10,_⟩:=qIH hl.1 hl.2
 refine⟨k,e,hk10,(h.mem (2+k) qo qo p).2 ⟨hp,?_⟩⟩
 unfold ofI at e
 rw[if_neg qo] at e
 rw[AuH.tgt_free hk,e]
 push_cast
 rfl
theorem qHx {p:Nat}(hk:H.K p=1):infoG (H.cel p 0)=(1,(H.ln p:Int),0,true):=by
 rw[H.info_eq,hk,H.L_ln,H.ok_of p qo]
 rcases H.K_cases p with h1|⟨_,_,_,h1⟩|h1
 ·omega
 ·rw[h1]
 ·omega
theorem qUO (h:H.Ok L){q:Nat}(hq:H.K q=0):∀ hd:Nat,2<=hd->hd<=21->¬ q∈L hd:=fun hd a2 a21 hm=>by
 have:=((h.mem hd a2 a21 q).1 hm).2
 rw[AuH.tgt_none hq] at this
 omega
theorem Work.used (W:Work H.t H.p H.s n K st L' g)(hf:Fit H.t H.p H.s n){p m:Nat}(h1:1<=m)(h2:p+m<=H.p) :
  Work H.t H.p H.s n K (usedS n H.t H.p H.s p m st) L' (updF (updF g (pc H.t p 0) (infoV 2 (m:Int) 0)) (pc H.t (p+m-1) 1) (p+1)):=by
 have hlen:=hf.len
 have e0:pageI (H.t:Int) (H.p:Int) (H.s:Int) (p:Int) 0=((pc H.t p 0:Nat):Int):=hf.inf qo
 have e1:pageI (H.t:Int) (H.p:Int) (H.s:Int) ((p:Int)+(m:Int)-1) 1=((pc H.t (p+m-1) 1:Nat):Int):=by
  exact MUN
 unfold usedS
 rw[e0,e1]
 exact(W.put (by unfold pc;omega) (qXR qo qo qo) _).put (by unfold pc;omega) (qXR qo qo qo) _
theorem Work.less (W:Work H.t H.p H.s n K st L' g)(hf:Fit H.t H.p H.s n){m:Nat}(h1:m<=g 0)(h2:g 0<4294967296):Work H.t H.p H.s n K (lessS n K m st) L' (updF g 0 (g 0-m)):=by
 have hlen:=hf.len
 unfold lessS
 have e:getV n K st 0=g 0:=W.near 0 qo (qCT (i:=0) (.inl qo))
 rw[e,qCv h1 h2]
 exact(W.get 0).put (i:=0) qo (qCT (.inl qo)) _
end
end
section
theorem qB0 {α:Type}{t q b q' b':Nat}(g:Nat->α)(v:α)(hb:b<6)(hb':b'<6)(h:q'≠q\/b'≠b):updF g (pc t q b) v (pc t q' b')=g (pc t q' b'):=by
 unfold updF pc
 rw[if_neg qo]
theorem qJR {α:Type}{t q b q':Nat}(g:Nat->α)(v:α)(h:q'=q):updF g (pc t q b) v (pc t q' b)=v:=by
 subst h
 exact if_pos rfl
theorem qDr {α:Type}{t q b:Nat}(g:Nat->α)(v:α):updF g 0 v (pc t q b)=g (pc t q b):=by unfold updF pc;rw[if_neg qo]
theorem qKp {α:Type}{t q b i:Nat}(g:Nat->α)(v:α)(h:i<30):updF g (pc t q b) v i=g i:=by unfold updF pc;rw[if_neg qo]
section
variable {H : AuH} {n c : Nat} {K : Nat -> Option Nat} {st : Vst} {L L' : Nat -> List Nat} {g : Nat -> Nat}
theorem qIZ (q b:Nat):H.V (pc H.t q b)=H.cel q b:=rfl
theorem qCx (h:H.Ok L){p:Nat}(hp:p<H.p)(hk:H.K p≠0)(hs:H.K p≠3) :
  AuH.sumTo (fun i=>H.freeF (p+i)) (H.ln p)=H.freeF p/\AuH.sumTo (fun i=>H.liveF (p+i)) (H.ln p)=H.liveF p:=by
 obtain⟨_,h1,_,_,h4,_⟩:=qRA h hp hk hs
 refine⟨?_,?_⟩
 ·exact AuH.sumTo_first (f:=fun i=>H.freeF (p+i)) qo (fun i h5 h6=>AuH.freeF_no (h4 (p+i) qo qo).2)
 ·exact AuH.sumTo_first (f:=fun i=>H.liveF (p+i)) qo (fun i h5 h6=>AuH.liveF_no (h4 (p+i) qo qo).2)
theorem qFj (h:H.Ok L)(hP:H.p<=1024):H.V 0=AuH.sumTo H.freeF H.p/\H.V 0<=1024:=by
 have h1:=AuH.sum_free_le h.spans H.p (Nat.le_refl _) (.inl rfl)
 have h2:=h.counts.1
 rw[Nat.mod_eq_of_lt qo] at h2
 exact⟨h2,qo⟩
theorem qTJ (h:H.Ok L)(hP:H.p<=1024){p:Nat}(hp:p<H.p)(hk:H.K p=1):H.ln p<=H.V 0:=by
 obtain⟨_,h1,h2,_⟩:=qRA h hp qo qo
 obtain⟨e,he⟩:∃ e,H.p=p+H.ln p+e:=⟨H.p-(p+H.ln p),qo⟩
 have h3:=AuH.sumTo_split H.freeF (p+H.ln p) e
 rw[<- he] at h3
 have h4:=AuH.sumTo_split H.freeF p (H.ln p)
 have h5:=(qCx h hp qo qo).1
 have h6:H.freeF p=H.ln p:=by unfold AuH.freeF;rw[if_pos hk]
 have h7:=(qFj h hP).1
 omega
theorem qZZ (HV:HeapV H n c)(h:H.Ok L)(W:Work H.t H.p H.s n K st L H.V){p m:Nat}(hp:p<H.p)(hk:H.K p=1)(h1:1<=m)(h2:m<=H.ln p) :
  ∃ L' g',Work H.t H.p H.s n K (takeS n K H.t H.p H.s p m st) L' g'/\RelaidG H g' L L' p m (H.ln p-m)/\g' 1=H.V 1/\g' 0=H.V 0-m/\m<=H.V 0:=by
 have hf:=HV.fit
 have hP:=hf.nums
 obtain⟨hnx,hl1,hle,hnext,hin,hft,hfe⟩:=qRA h hp qo qo
 have hsum:=(qCx h hp qo qo).1
 have hfp:H.freeF p=H.ln p:=by unfold AuH.freeF;rw[if_pos hk]
 have hv0:=qTJ h hP.2 hp hk
 have hv1:=(qFj h hP.2).2
 obtain⟨k,hk1,hk10,hmem⟩:=qZx h hp hk
 obtain⟨ed,L1,W1,m1⟩:=W.drop hf hp (by rw[qIZ];exact qHx hk) hk1 hk10 hmem
 generalize hl:H.ln p=l at *
 have W2:=W1.used hf (p:=p) (m:=m) h1 qo
 have hwhole:H.Whole p (p+m+(l-m)):=by
  have:=qHy h hp qo qo
  rw[hl] at this
  rw[show p+m+(l-m)=p+l by omega]
  exact this
 have hns:∀ q,p<=q->q<p+m+(l-m)->H.K q≠3:=fun q a1 a2=>by
  by_cases e:q=p
  ·rw[e];omega
  ·have:=(hin q qo qo).2;omega
 have hright:0<l-m->p+m+(l-m)<H.p->H.K (p+m+(l-m))≠1:=fun a1 a2=>by
  have:=h.apart p hp hk (by rw[hnx];omega)
  rwa [hnx,show p+l=p+m+(l-m) by omega] at this
 have hroom:∀ q,p<=q->q<p+m+(l-m)->q≠p->H.K q=0:=fun q a1 a2 a3=>(hin q qo qo).2
 have hmm:∀ hd:Nat,2<=hd->hd<=21->∀ y,(y∈L hd/\y≠p)↔(y∈L hd/\¬ (p<=y/\y<p+m+(l-m))):=fun hd a2 a21 y=>by
  constructor
  ·rintro ⟨b1,b2⟩
   exact⟨b1,fun b3=>qUO h (hroom y b3.1 b3.2 b2) hd a2 a21 b1⟩
  ·rintro ⟨b1,b2⟩
   exact⟨b1,fun e=>b2 ⟨qo,qo⟩⟩
 by_cases hlm:m<l
 ·have hnop:∀ hd:Nat,2<=hd->hd<=21->¬ p+m∈L1 hd:=fun hd a2 a21 hx=>qUO h (hroom (p+m) qo qo qo) hd a2 a21 ((m1 hd a2 a21 _).1 hx).1
  obtain⟨L3,W3,m3⟩:=W2.add hf (p:=p+m) (m:=l-m) qo qo hnop
  have est:restS n K H.t H.p H.s p m (dropV n K H.t H.p H.s p st) (usedS n H.t H.p H.s p m (dropS n K H.t H.p H.s p st))=addS n K H.t H.p H.s ((p+m:Nat):Int) ((l-m:Nat):Int) (usedS n H.t H.p H.s p m (dropS n K H.t H.p H.s p st)):=by
   unfold restS
   rw[ed,if_pos qo]
   congr 1
   omega
  rw[<- est] at W3
  have W4:=W3.less hf (m:=m) (by rw[qKp _ _ qo,qKp _ _ qo,qKp _ _ qo,qKp _ _ qo];omega) (by rw[qKp _ _ qo,qKp _ _ qo,qKp _ _ qo,qKp _ _ qo];omega)
  refine⟨L3,_,W4,?_,?_,?_,qo⟩
  ·refine⟨qo,hwhole,hns,fun e=>by omega,hright,?_,?_,?_,?_,?_,?_,?_,?_,?_,?_,?_,?_⟩
   ·exact M1J
   ·exact M1J
   ·exact MuI
   ·exact Mli
   ·exact M1J
   ·exact M1J
   ·exact MBj
   ·exact Mli
   ·intro q a1
    simp(disch:=omega) only[qDr,qB0,qJR,qIZ,and_self]
   ·intro hd a2 a21 y
    rw[m3 hd a2 a21 y,m1 hd a2 a21 y,hmm hd a2 a21 y]
    constructor
    ·rintro (b1|⟨b1,b2⟩)
     ·exact .inl b1
     ·exact .inr ⟨qo,b1,b2⟩
    ·rintro (b1|⟨_,b1,b2⟩)
     ·exact .inl b1
     ·exact .inr ⟨b1,b2⟩
   ·rw[qJN,qKp _ _ qo,qKp _ _ qo,qKp _ _ qo,qKp _ _ qo,show m+(l-m)=l by omega,hsum,hfp]
    omega
   ·intro i hi
    rw[qR2 _ _ qo,qKp _ _ qo,qKp _ _ qo,qKp _ _ qo,qKp _ _ qo]
  ·rw[qR2 _ _ qo,qKp _ _ qo,qKp _ _ qo,qKp _ _ qo,qKp _ _ qo]
  ·rw[qJN,qKp _ _ qo,qKp _ _ qo,qKp _ _ qo,qKp _ _ qo]
 ·obtain rfl:m=l:=qo
  have est:restS n K H.t H.p H.s p m (dropV n K H.t H.p H.s p st) (usedS n H.t H.p H.s p m (dropS n K H.t H.p H.s p st))=usedS n H.t H.p H.s p m (dropS n K H.t H.p H.s p st):=by
   unfold restS
   rw[ed,if_neg qo]
  rw[<- est] at W2
  have W4:=W2.less hf (m:=m) (by rw[qKp _ _ qo,qKp _ _ qo];omega) (by rw[qKp _ _ qo,qKp _ _ qo];omega)
  refine⟨L1,_,W4,?_,?_,?_,qo⟩
  ·refine⟨qo,hwhole,hns,fun e=>by omega,hright,?_,fun e=>by omega,?_,?_,?_,fun e=>by omega,?_,?_,?_,?_,?_,?_⟩
   ·exact M1J
   ·exact MuI
   ·exact Mli
   ·exact M1J
   ·exact MBj
   ·exact Mli
   ·intro q a1
    simp(disch:=omega) only[qDr,qB0,qJR,qIZ,and_self]
   ·intro hd a2 a21 y
    rw[m1 hd a2 a21 y,hmm hd a2 a21 y]
    constructor
    ·exact fun b1 => .inl b1
    ·rintro (b1|⟨b0,_⟩)
     ·exact b1
     ·omega
   ·rw[qJN,qKp _ _ qo,qKp _ _ qo,show m+(m-m)=m by omega,hsum,hfp]
    omega
   ·intro i hi
    rw[qR2 _ _ qo,qKp _ _ qo,qKp _ _ qo]
  ·rw[qR2 _ _ qo,qKp _ _ qo,qKp _ _ qo]
  ·rw[qJN,qKp _ _ qo,qKp _ _ qo]
end
end
section
section
variable {t P s n : Nat} {K : Nat -> Option Nat} {st : Vst} {L : Nat -> List Nat} {g : Nat -> Nat} {hd p : Nat}
theorem Work.pull (W:Work t P s n K st L g)(hf:Fit t P s n)(h2:2<=hd)(h21:hd<=21)(hp:p<P)(hm:p∈L hd) :
  ∃ L',Work t P s n K (pullI n K t P s (hd:Int) p st) L' g/\∀ x:Nat,2<=x->x<=21->∀ y,y∈L' x↔y∈L x/\y≠p:=by
 have hlen:=hf.len
 have epg:pgB (P:Int) (p:Int)=true:=(qHC _ _).2 ⟨qo,qo⟩
 have e0:pullI n K t P s (hd:Int) p st=pullS n K t P s ((hd:Nat):Int) p st:=by
  unfold pullI
  rw[if_pos epg,Int.toNat_natCast]
 obtain⟨l1,l2,hl⟩:=List.append_of_mem hm
 obtain⟨h1,h2',h3,h4⟩:=W.lists.pull hf h2 h21 hl
 rw[<- e0] at h1 h2' h3 h4
 have hnd:(L hd).Nodup:=(W.lists.has hd h2 h21).nodup
 have hmem:∀ x:Nat,2<=x->x<=21->∀ y,y∈updF L hd (l1++l2) x↔y∈L x/\y≠p:=fun x a2 a21 y=>by
  by_cases e:x=hd
  ·exact Mb2
  ·rw[qR2 _ _ e]
   exact⟨fun h=>⟨h,fun e2=>W.lists.apart x hd a2 a21 h2 h21 e y h (e2 ▸ hm)⟩,fun h=>h.1⟩
 refine⟨_,⟨h1,fun i hi' hc=>?_,fun q hq h=>?_⟩,hmem⟩
 ·rw[h2' _ (fun hx=>hc (hx.link h2 h21))]
  exact W.near i hi' hc
 ·by_cases e:q=p
  ·subst e;exact⟨h3,h4⟩
  ·have hno:∀ x:Nat,2<=x->x<=21->¬ q∈L x:=fun x a2 a21 hm2=>h x a2 a21 ((hmem x a2 a21 q).2 ⟨hm2,e⟩)
   have hq2:=hno hd h2 h21
   rw[h2' _ (by
    rintro (e1|⟨u,hu,e1|e1⟩)
    ·unfold nxH at e1;omega
    ·have:q=u:=by unfold nxH at e1;omega
     exact hq2 (this ▸ hu)
    ·unfold nxH pvH at e1;omega),h2' _ (by
    rintro (e1|⟨u,hu,e1|e1⟩)
    ·unfold pvH at e1;omega
    ·unfold nxH pvH at e1;omega
    ·have:q=u:=by unfold pvH at e1;omega
     exact hq2 (this ▸ hu))]
   exact W.o q hq hno
theorem Work.push (W:Work t P s n K st L g)(hf:Fit t P s n)(h2:2<=hd)(h21:hd<=21)(hp:p<P)(hno:∀ x:Nat,2<=x->x<=21->¬ p∈L x) :
  ∃ L',Work t P s n K (pushI n K t P s (hd:Int) p st) L' g/\∀ x:Nat,2<=x->x<=21->∀ y,y∈L' x↔y∈L x\/(y=p/\x=hd):=by
 have hlen:=hf.len
 have epg:pgB (P:Int) (p:Int)=true:=(qHC _ _).2 ⟨qo,qo⟩
 have e0:pushI n K t P s (hd:Int) p st=pushS n K t P s ((hd:Nat):Int) p st:=by
  unfold pushI
  rw[if_pos epg,Int.toNat_natCast]
 obtain⟨g1,g2⟩:=W.lists.push hf h2 h21 hp hno
 rw[<- e0] at g1 g2
 have hmem:∀ x:Nat,2<=x->x<=21->∀ y,y∈updF L hd (p :: L hd) x↔y∈L x\/(y=p/\x=hd):=fun x a2 a21 y=>by
  by_cases e:x=hd
  ·subst e
   rw[qJN,List.mem_cons]
   constructor
   ·rintro (h|h)
    ·exact .inr ⟨h,rfl⟩
    ·exact .inl h
   ·rintro (h|h)
    ·exact .inr h
    ·exact .inl h.1
  ·rw[qR2 _ _ e]
   exact⟨fun h => .inl h,fun h=>by
    rcases h with h|h
    ·exact h
    ·exact absurd h.2 e⟩
 refine⟨_,⟨g1,fun i hi hc=>?_,fun q hq h=>?_⟩,hmem⟩
 ·rw[g2 _ (fun hx=>hc (hx.link h2 h21))]
  exact W.near i hi hc
 ·have hq2:¬ q∈p :: L hd:=by
   have:=h hd h2 h21
   rwa [qJN] at this
  have hno2:∀ x:Nat,2<=x->x<=21->¬ q∈L x:=fun x a2 a21 hm2=>h x a2 a21 ((hmem x a2 a21 q).2 (.inl hm2))
  rw[g2 _ (by
   rintro (e2|⟨u,hu,e2|e2⟩)
   ·unfold nxH at e2;omega
   ·have:q=u:=by unfold nxH at e2;omega
    exact hq2 (this ▸ hu)
   ·unfold nxH pvH at e2;omega),g2 _ (by
   rintro (e2|⟨u,hu,e2|e2⟩)
   ·unfold pvH at e2;omega
   ·unfold nxH pvH at e2;omega
   ·have:q=u:=by unfold pvH at e2;omega
    exact hq2 (this ▸ hu))]
  exact W.o q hq hno2
end
section
variable {H : AuH} {n c : Nat} {K : Nat -> Option Nat} {st : Vst} {L L' : Nat -> List Nat} {g : Nat -> Nat} {p u : Nat}
theorem qXl (h:H.Ok L)(hp:p<H.p)(hk:H.K p=3):H.ln p=1/\H.nx p=p+1/\(p+1<H.p->H.K (p+1)≠0):=by
 have hl:H.ln p=1:=by have:=H.K_cases p;omega
 have hnx:H.nx p=p+1:=by unfold AuH.nx;rw[hl]
 refine⟨hl,hnx,fun h1=>?_⟩
 have:=h.spans.next p hp qo (by rw[hnx];exact h1)
 rwa [hnx] at this
structure SlabG (H:AuH) (g:Nat->Nat) (L L':Nat->List Nat) (p u:Nat):Prop where
 at_:p<H.p
 kind:H.K p=3
 some_:u≠0
 lim:u<2^slotI (H.Cl p)
 sub:SubB (H.cel p 4) u
 taken:g (pc H.t p 5)=u
 cells:∀ q b,q<H.p->b<6->b≠2->b≠3->¬ (q=p/\b=5)->g (pc H.t q b)=H.cel q b
 low:∀ i,i<2\/(22<=i/\i<30)->g i=H.V i
 mem:∀ hd:Nat,2<=hd->hd<=21->∀ y,y∈L' hd↔(y∈L hd/\y≠p)\/(y=p/\u≠2^slotI (H.Cl p)-1/\((hd:Nat):Int)=13+H.Cl p)
theorem qRf (HV:HeapV H n c)(h:H.Ok L)(W:Work H.t H.p H.s n K st L' g)(S:SlabG H g L L' p u):H.Laid (curV n (getV n K st) H.V) L L' p 1:=by
 refine RSH ?_;intro hlen hp hc
 have h0:∀ q,q<H.p->(H.re (curV n (getV n K st) H.V)).cel q 0=H.cel q 0:=fun q hq=>by rw[hc q 0 hq qo qo qo,S.cells q 0 hq qo qo qo qo]
 have h1:∀ q,q<H.p->(H.re (curV n (getV n K st) H.V)).cel q 1=H.cel q 1:=fun q hq=>by rw[hc q 1 hq qo qo qo,S.cells q 1 hq qo qo qo qo]
 have h4:∀ q,q<H.p->(H.re (curV n (getV n K st) H.V)).cel q 4=H.cel q 4:=fun q hq=>by rw[hc q 4 hq qo qo qo,S.cells q 4 hq qo qo qo qo]
 have h5:∀ q,q<H.p->q≠p->(H.re (curV n (getV n K st) H.V)).cel q 5=H.cel q 5:=fun q hq hne=>by rw[hc q 5 hq qo qo qo,S.cells q 5 hq qo qo qo qo]
 have h5p:(H.re (curV n (getV n K st) H.V)).cel p 5=u:=by rw[hc p 5 hp qo qo qo,S.taken]
 have hK:∀ q,q<H.p->(H.re (curV n (getV n K st) H.V)).K q=H.K q/\(H.re (curV n (getV n K st) H.V)).ln q=H.ln q/\(H.re (curV n (getV n K st) H.V)).Cl q=H.Cl q/\(H.re (curV n (getV n K st) H.V)).nx q=H.nx q:=fun q hq=>by
  unfold AuH.nx AuH.ln AuH.L AuH.K AuH.Cl
  rw[h0 q hq]
  exact⟨rfl,rfl,rfl,rfl⟩
 obtain⟨s1,s2,s3⟩:=qXl h hp S.kind
 have hKp:=hK p hp
 have hlow:∀ i,i<2\/(22<=i/\i<30)->curV n (getV n K st) H.V i=H.V i:=fun i hi=>(W.low hlen hi).trans (S.low i hi)
 have hr:HM.onesTo (H.cel p 4) 32=HM.onesTo (H.cel p 4) 32:=rfl
 have hb:=AuH.sums_le (H:=H) H.p (by have:=HV.fit.nums;omega)
 have hcnt:=h.counts
 have e3:(H.re (curV n (getV n K st) H.V)).K p=3:=by rw[hKp.1];exact S.kind
 exact {
  cut:=⟨⟨qo,qo,by rw[S.kind];decide,s3⟩,fun q hq _=>h0 q hq,by rw[e3];decide,fun q a1 a2 _=>by
    obtain rfl:q=p:=qo
    rw[hKp.2.2.2,s2];exact Nat.le_refl _,fun q a1 a2 _ a3=>by
    obtain rfl:q=p:=qo
    rw[hKp.2.2.2,s2] at a3;omega,fun q r a1 a2 _ a3 a4=>by
    obtain rfl:q=p:=qo
    rw[hKp.2.2.2,s2] at a4;omega,fun q a1 a2 a3=>by
    obtain rfl:q=p:=qo
    rw[e3] at a3;omega⟩
  foot:=fun q a1 a2 _=>by
   obtain rfl:q=p:=qo
   obtain⟨f1,f2⟩:=h.feet q hp (by rw[S.kind];decide)
   unfold AuH.Foot
   rw[hKp.2.1,s1] at *
   exact⟨fun r b1 b2=>by omega,by rw[h1 _ qo];exact f2⟩
  feet:=fun q hq _=>h1 q hq
  left:=fun q _ _ _=>by rw[e3];decide
  mid:=fun q a1 a2 a3=>by
   obtain rfl:q=p:=qo
   rw[e3] at a3;omega
  right:=fun q a1 a2 a3=>by
   obtain rfl:q=p:=qo
   rw[e3] at a3;omega
  slot:=fun q a1 a2=>by
   obtain rfl:q=p:=qo
   unfold AuH.Slot5
   rw[h5p,h4 q hp,hKp.2.2.1]
   exact⟨fun _=>⟨S.some_,S.lim,S.sub⟩,fun a3=>absurd e3 a3⟩
  bits:=fun q hq a=>⟨h4 q hq,h5 q hq qo⟩
  list:=fun hd h2 h21=>W.lists.isL HV h2 h21
  memIn:=fun hd h2 h21 y a1 a2=>by
   obtain rfl:y=p:=qo
   rw[S.mem hd h2 h21 y]
   by_cases hfull:u=2^slotI (H.Cl y)-1
   ·rw[AuH.tgt_full e3 (by rw[h5p,hKp.2.2.1];exact hfull)]
    constructor
    ·rintro (⟨_,a3⟩|⟨_,a3,_⟩)
     ·exact absurd rfl a3
     ·exact absurd hfull a3
    ·intro a3;omega
   ·rw[AuH.tgt_slab e3 (by rw[h5p,hKp.2.2.1];exact hfull),hKp.2.2.1]
    constructor
    ·rintro (⟨_,a3⟩|⟨_,_,a3⟩)
     ·exact absurd rfl a3
     ·exact a3.symm
    ·intro a3;exact .inr ⟨rfl,hfull,a3.symm⟩
  memOut:=fun hd h2 h21 y a=>by
   rw[S.mem hd h2 h21 y]
   constructor
   ·rintro (⟨a3,_⟩|⟨a3,_⟩)
    ·exact a3
    ·omega
   ·intro a3;exact .inl ⟨a3,qo⟩
  bare:=fun q a1 a2 a3=>by
   obtain rfl:q=p:=qo
   refine W.links hlen hp (fun hd h2 h21 hm=>?_)
   rcases(S.mem hd h2 h21 q).1 hm with ⟨_,b⟩|⟨_,b1,b2⟩
   ·exact b rfl
   ·rw[AuH.tgt_slab e3 (by rw[h5p,hKp.2.2.1];exact b1),hKp.2.2.1] at a3
    omega
  loose:=fun q hq a ht=>by
   have hno:∀ hd:Nat,2<=hd->hd<=21->¬ q∈L' hd:=fun hd h2 h21 hm=>by
    rcases(S.mem hd h2 h21 q).1 hm with ⟨b,_⟩|⟨b,_⟩
    ·have:=((h.mem hd h2 h21 q).1 b).2
     omega
    ·omega
   obtain⟨b1,b2⟩:=W.links hlen hq hno
   obtain⟨b3,b4⟩:=h.loose q hq ht
   rw[b1,b2,b3,b4]
   exact⟨rfl,rfl⟩
  free:=by
   rw[hlow 0 qo]
   exact Mm8
  live:=by
   rw[hlow 1 qo]
   show H.V 1+(0+H.liveF (p+0))=H.V 1+(0+(H.re (curV n (getV n K st) H.V)).liveF (p+0))
   rw[Nat.add_zero]
   unfold AuH.liveF
   rw[hKp.1,h4 p hp]
  few:=by
   rw[hlow 0 qo,hlow 1 qo]
   obtain⟨c1,c2⟩:=hcnt
   exact⟨qo,qo⟩
  roots:=fun i hi=>hlow (22+i) qo
  named:=fun i hi hv a1 a2=>by
   obtain⟨b1,b2⟩:=h.roots i hi hv
   have e:(spotP H.t H.p H.s (H.V (22+i):Int)).toNat=p:=qo
   refine⟨b1,?_⟩
   show ((H.re (curV n (getV n K st) H.V)).K (spotP H.t H.p H.s (H.V (22+i):Int)).toNat=2/\_)\/((H.re (curV n (getV n K st) H.V)).K (spotP H.t H.p H.s (H.V (22+i):Int)).toNat=3/\slotB H.t H.p H.s ((H.re (curV n (getV n K st) H.V)).Cl (spotP H.t H.p H.s (H.V (22+i):Int)).toNat) _=true/\((H.re (curV n (getV n K st) H.V)).cel (spotP H.t H.p H.s (H.V (22+i):Int)).toNat 4).testBit (slotR H.t H.p H.s ((H.re (curV n (getV n K st) H.V)).Cl (spotP H.t H.p H.s (H.V (22+i):Int)).toNat) _).toNat=true)
   rw[e] at b2 ⊢
   rw[hKp.1,hKp.2.2.1,h4 p hp]
   exact b2 }
end
end
section
section
variable {H : AuH} {n c : Nat} {K : Nat -> Option Nat} {st : Vst} {L L' : Nat -> List Nat} {g : Nat -> Nat} {A k e : Nat}
def nowH (H:AuH) (n:Nat) (K:Nat->Option Nat) (st:Vst):AuH:=H.re (curV n (getV n K st) H.V)
theorem Work.again (W:Work H.t H.p H.s n K st L g):Work H.t H.p H.s n K st L (nowH H n K st).V :=
 ⟨W.lists,fun i hi _=>(qG7 hi).symm,W.o⟩
theorem qN5 (HV:HeapV H n c)(hok:VOk n st)(h32:∀ i x,K i=some x->x<2^32){cp:Nat}(hcp:n<=cp)(hcm:cp<=maxLen):HeapV (nowH H n K st) n cp :=
 ⟨HV.right,HV.len,hcp,hcm,fun i hi=>by
  show curV n (getV n K st) H.V i<2^32
  rw[qG7 hi]
  exact qBk hok h32⟩
theorem qRe {f:Nat->List (Int × Int × Int)}:∀ m,(∀ i,i<m->blocksOf (f i) = [])->blocksOf (AuH.catTo f m) = []
 | 0,_=>rfl
 | m+1,h=>by
  show blocksOf (AuH.catTo f m++f m)=_
  rw[qGG,qRe m (fun i hi=>h i qo),h m qo]
  rfl
theorem qSQ {q:Nat}(hk:H.K q=0\/H.K q=1):blocksOf (H.partsAt q) = []:=by
 unfold AuH.partsAt
 rcases hk with h|h
 ·rw[if_neg qo,if_neg qo,if_neg qo];rfl
 ·rw[if_pos h];exact qCe (by simp)
theorem qFy (h:H.Ok L){p:Nat}(hp:p<H.p)(hk:H.K p=1):blocksOf (AuH.catTo (fun i=>H.partsAt (p+i)) (H.ln p)) = []:=by
 obtain⟨_,_,_,_,h4,_⟩:=qRA h hp qo qo
 refine qRe _ (fun i hi=>qSQ ?_)
 by_cases e:i=0
 ·subst e;exact .inr hk
 ·exact .inl (h4 (p+i) qo qo).2
theorem qNI (h:H.Ok L){p:Nat}(hp:p<H.p)(hk:H.K p=1){i:Nat}(hi:i<8)(hv:H.V (22+i)≠0)(h1:p<=(spotP H.t H.p H.s (H.V (22+i):Int)).toNat)(h2:(spotP H.t H.p H.s (H.V (22+i):Int)).toNat<p+H.ln p):False:=by
 obtain⟨_,_,_,_,h4,_⟩:=qRA h hp qo qo
 have h5:=qI8 h hi hv
 generalize (spotP H.t H.p H.s (H.V (22+i):Int)).toNat=q at *
 by_cases e:q=p
 ·subst e;omega
 ·have:=(h4 q qo h2).2
  omega
end
end
section
def kindN (d:Int) (l:List (Int × Int × Int)):Nat:=(l.filter fun x=>decide (x.1=d)).length
theorem qYw (d:Int)(l m:List (Int × Int × Int)):kindN d (l++m)=kindN d l+kindN d m:=by unfold kindN;rw[List.filter_append,List.length_append]
def idleB (u v:Nat):Nat->Nat
 | 0=>0
 | k+1=>idleB u v k+if u.testBit k=true/\v.testBit k=false then 1 else 0
section
variable {H H' : AuH} {q : Nat}
theorem qHe (u v:Nat)(i:Nat):(slotKd u v i=2↔v.testBit i=true)/\(slotKd u v i=4↔u.testBit i=true/\v.testBit i=false):=by
 unfold slotKd
 cases hv:v.testBit i <;> cases hu:u.testBit i <;> simp[hv,hu]
theorem qBo (k:Nat):kindN 4 (H.slotsTo q k)=idleB (H.cel q 5) (H.cel q 4) k:=by
 induction k with
 | zero=>rfl
 | succ k ih =>
  rw[AuH.slotsTo_succ,qYw,ih]
  show _+kindN 4 [H.slotPart q k]=idleB _ _ k+_
  have h:=(qHe (H.cel q 5) (H.cel q 4) k).2
  congr 1
  unfold kindN AuH.slotPart
  by_cases hb:(H.cel q 5).testBit k=true/\(H.cel q 4).testBit k=false
  ·rw[if_pos hb,h.2 hb];rfl
  ·rw[if_neg hb]
   have:((slotKd (H.cel q 5) (H.cel q 4) k:Nat):Int)≠4:=fun e=>hb (h.1 qo)
   simp[this]
theorem kindN_slack:kindN 4 (H.slack q)=0/\blocksOf (H.slack q) = []:=by
 unfold AuH.slack kindN
 split
 ·exact⟨by simp,qCe (by simp)⟩
 ·exact⟨rfl,rfl⟩
theorem qNz (hk:H.K q=3):kindN 4 (H.partsAt q)=idleB (H.cel q 5) (H.cel q 4) (slotI (H.Cl q)):=by
 unfold AuH.partsAt
 rw[if_neg qo,if_neg qo,if_pos hk,qYw,qBo,kindN_slack.1]
 rfl
theorem qXQ (hf:H'.first q=H.first q)(hz:H'.zs q=H.zs q)(h4:H'.cel q 4=H.cel q 4)(k:Nat):blocksOf (H'.slotsTo q k)=blocksOf (H.slotsTo q k):=by
 induction k with
 | zero=>rfl
 | succ k ih =>
  rw[AuH.slotsTo_succ,AuH.slotsTo_succ,qGG,qGG,ih]
  congr 1
  have h1:=(qHe (H.cel q 5) (H.cel q 4) k).1
  have h2:=(qHe (H'.cel q 5) (H'.cel q 4) k).1
  rw[h4] at h2
  unfold AuH.slotPart
  rw[hf,hz,h4]
  by_cases hb:(H.cel q 4).testBit k=true
  ·rw[h1.2 hb,h2.2 hb]
  ·rw[qCe (by intro e;exact hb (h2.1 (by have e:((slotKd (H'.cel q 5) (H.cel q 4) k:Nat):Int)=2:=e;omega))),qCe (by intro e;exact hb (h1.1 (by have e:((slotKd (H.cel q 5) (H.cel q 4) k:Nat):Int)=2:=e;omega)))]
theorem qZV (hs:H'.s=H.s)(hk:H.K q=3)(hk':H'.K q=3)(hc:H'.Cl q=H.Cl q)(h4:H'.cel q 4=H.cel q 4):blocksOf (H'.partsAt q)=blocksOf (H.partsAt q):=by
 have e1:H'.first q=H.first q:=by unfold AuH.first AuH.pg;rw[hs]
 have e2:H'.zs q=H.zs q:=by unfold AuH.zs;rw[hs,hc]
 have e3:H'.sl q=H.sl q:=by unfold AuH.sl;rw[hc]
 unfold AuH.partsAt
 rw[if_neg qo,if_neg qo,if_pos hk',if_neg qo,if_neg qo,if_pos hk,qGG,qGG,kindN_slack.2,kindN_slack.2,e3,qXQ e1 e2 h4]
end
section
variable {H : AuH} {n c : Nat} {K : Nat -> Option Nat} {st : Vst} {L L' : Nat -> List Nat} {g : Nat -> Nat} {p u : Nat}
theorem qWF (HV:HeapV H n c)(h:H.Ok L)(W:Work H.t H.p H.s n K st L' g)(S:SlabG H g L L' p u) :
  (nowH H n K st).Ok L'/\(∀ i,i<8->(nowH H n K st).V (22+i)=H.V (22+i))/\(nowH H n K st).V 0=H.V 0/\(nowH H n K st).V 1=H.V 1/\blocksOf (nowH H n K st).parts=blocksOf H.parts /\
   (nowH H n K st).K p=3/\(nowH H n K st).Cl p=H.Cl p/\(nowH H n K st).cel p 5=u/\(nowH H n K st).cel p 4=H.cel p 4 /\
   kindN 4 (nowH H n K st).parts+idleB (H.cel p 5) (H.cel p 4) (slotI (H.Cl p))=kindN 4 H.parts+idleB u (H.cel p 4) (slotI (H.Cl p)):=by
 have hlen:=HV.len
 have hp:=S.at_
 have T:=qRf HV h W S
 have e0:(nowH H n K st).cel p 0=H.cel p 0:=(W.cel hlen hp (b:=0) qo qo qo).trans (S.cells p 0 hp qo qo qo qo)
 have e4:(nowH H n K st).cel p 4=H.cel p 4:=(W.cel hlen hp (b:=4) qo qo qo).trans (S.cells p 4 hp qo qo qo qo)
 have e5:(nowH H n K st).cel p 5=u:=(W.cel hlen hp (b:=5) qo qo qo).trans S.taken
 have eK:(nowH H n K st).K p=3:=by unfold AuH.K;rw[e0];exact S.kind
 have eC:(nowH H n K st).Cl p=H.Cl p:=by unfold AuH.Cl;rw[e0]
 have hbl:=qZV (H:=H) (H':=nowH H n K st) rfl S.kind eK eC e4
 refine⟨T.ok h (by have:=HV.fit.nums;omega),T.roots,(W.low hlen (.inl qo)).trans (S.low 0 qo),(W.low hlen (.inl qo)).trans (S.low 1 qo),?_,eK,eC,e5,e4,?_⟩
 ·refine T.blocks ?_
  show blocksOf ([]++(nowH H n K st).partsAt (p+0))=blocksOf ([]++H.partsAt (p+0))
  rw[Nat.add_zero,List.nil_append,List.nil_append]
  exact hbl
 ·obtain⟨r,_,f1,f2⟩:=T.parts
  have f2:(nowH H n K st).parts=_:=f2
  rw[f1,f2,qYw,qYw,qYw,qYw]
  have g1:kindN 4 (AuH.catTo (fun i=>H.partsAt (p+i)) 1)=idleB (H.cel p 5) (H.cel p 4) (slotI (H.Cl p)):=by
   show kindN 4 ([]++H.partsAt (p+0))=_
   rw[Nat.add_zero,List.nil_append]
   exact qNz S.kind
  have g2:kindN 4 (AuH.catTo (fun i=>(nowH H n K st).partsAt (p+i)) 1)=idleB u (H.cel p 4) (slotI (H.Cl p)):=by
   show kindN 4 ([]++(nowH H n K st).partsAt (p+0))=_
   rw[Nat.add_zero,List.nil_append,qNz eK,e5,e4,eC]
  rw[g1]
  have g2:kindN 4 (AuH.catTo (fun i=>(H.re (curV n (getV n K st) H.V)).partsAt (p+i)) 1)=idleB u (H.cel p 4) (slotI (H.Cl p)):=g2
  rw[g2]
  omega
end
end
section
theorem qL3 {k:Int}(h1:0<=k)(h2:k<=8):infoG (infoV 3 1 k)=(3,1,k,true):=qX1 (qPX (by unfold infoP;omega))
structure AnewG (H:AuH) (g:Nat->Nat) (L L':Nat->List Nat) (A s e:Nat) (k:Int) (u:Nat):Prop where
 pos:0<s+e
 one:s<=1
 k0:0<=k
 k8:k<=8
 whole:H.Whole A (A+s+e)
 left:s=0->∀ q,q<A->H.K q=1->H.nx q≠A
 right:0<e->A+s+e<H.p->H.K (A+s+e)≠1
 slab:0<s->g (pc H.t A 0)=infoV 3 1 k
 rest:0<e->g (pc H.t (A+s) 0)=infoV 1 (e:Int) 0
 blank:∀ q,A<=q->q<A+s+e->¬ (0<s/\q=A)->¬ (0<e/\q=A+s)->g (pc H.t q 0)=0
 infos:∀ q,q<H.p->¬ (A<=q/\q<A+s+e)->g (pc H.t q 0)=H.cel q 0
 footu:0<s->g (pc H.t A 1)=A+1
 footr:0<e->g (pc H.t (A+s+e-1) 1)=A+s+1
 blankf:∀ q,A<=q->q<A+s+e->¬ (0<s/\q=A)->¬ (0<e/\q=A+s+e-1)->g (pc H.t q 1)=0
 feet:∀ q,q<H.p->¬ (A<=q/\q<A+s+e)->g (pc H.t q 1)=H.cel q 1
 taken:0<s->g (pc H.t A 5)=u/\g (pc H.t A 4)=0/\u≠0/\u<2^slotI k
 bare:∀ q,A<=q->q<A+s+e->¬ (0<s/\q=A)->g (pc H.t q 4)=0/\g (pc H.t q 5)=0
 bits:∀ q,q<H.p->¬ (A<=q/\q<A+s+e)->g (pc H.t q 4)=H.cel q 4/\g (pc H.t q 5)=H.cel q 5
 mem:∀ hd:Nat,2<=hd->hd<=21->∀ y,y∈L' hd↔(y∈L hd/\¬ (A<=y/\y<A+s+e))\/(0<e/\y=A+s/\((hd:Nat):Int)=2+HM.logI (e:Int))\/(0<s/\y=A/\u≠2^slotI k-1/\((hd:Nat):Int)=13+k)
 free:g 0+AuH.sumTo (fun i=>H.freeF (A+i)) (s+e)=H.V 0+e
 live:g 1+AuH.sumTo (fun i=>H.liveF (A+i)) (s+e)=H.V 1
 few:g 0<4294967296
 roots:∀ i,i<8->g (22+i)=H.V (22+i)
 bareroot:∀ i,i<8->H.V (22+i)≠0->¬ (A<=(spotP H.t H.p H.s (H.V (22+i):Int)).toNat/\(spotP H.t H.p H.s (H.V (22+i):Int)).toNat<A+s+e)
section
variable {H : AuH} {n c : Nat} {K : Nat -> Option Nat} {st : Vst} {L L' : Nat -> List Nat} {g : Nat -> Nat} {A s e u : Nat} {k : Int}
theorem qF2 (HV:HeapV H n c)(h:H.Ok L)(W:Work H.t H.p H.s n K st L' g)(R:AnewG H g L L' A s e k u):H.Laid (curV n (getV n K st) H.V) L L' A (s+e):=by
 have hlen:=HV.len
 have hw:=R.whole.le
 have hpos:=R.pos
 have hone:=R.one
 have hP:=HV.fit.nums
 obtain⟨V',hV'⟩:∃ V',curV n (getV n K st) H.V=V':=⟨_,rfl⟩
 have hc:∀ q b,q<H.p->b<6->b≠2->b≠3->(H.re V').cel q b=g (pc H.t q b):=fun q b hq hb h2 h3=>by rw[<- hV'];exact W.cel hlen hq hb h2 h3
 have hlk:∀ q,q<H.p->(∀ hd:Nat,2<=hd->hd<=21->¬ q∈L' hd)->(H.re V').cel q 2=0/\(H.re V').cel q 3=0:=fun q hq hno=>by rw[<- hV'];exact W.links hlen hq hno
 have hlow:∀ i,i<2\/(22<=i/\i<30)->V' i=g i:=fun i hi=>by rw[<- hV'];exact W.low hlen hi
 have hli:∀ hd:Nat,2<=hd->hd<=21->IsL H.p (nxH H.t) (pvH H.t) hd (fun c=>V' c.toNat) (L' hd):=fun hd h2 h21=>by rw[<- hV'];exact W.lists.isL HV h2 h21
 rw[hV']
 have hs:0<s->(H.re V').K A=3/\(H.re V').ln A=1/\(H.re V').Cl A=k/\(H.re V').nx A=A+s:=fun h0=>by
  have e1:(H.re V').K A=3/\(H.re V').ln A=1/\(H.re V').Cl A=k:=by
   unfold AuH.ln AuH.L AuH.K AuH.Cl
   rw[hc A 0 qo qo qo qo,R.slab h0,qL3 R.k0 R.k8]
   exact⟨rfl,rfl,rfl⟩
  exact⟨e1.1,e1.2.1,e1.2.2,by unfold AuH.nx;rw[e1.2.1];omega⟩
 have he:0<e->(H.re V').K (A+s)=1/\(H.re V').ln (A+s)=e/\(H.re V').nx (A+s)=A+s+e:=fun h0=>by
  have e1:(H.re V').K (A+s)=1/\(H.re V').ln (A+s)=e:=by
   unfold AuH.ln AuH.L AuH.K
   rw[hc (A+s) 0 qo qo qo qo,R.rest h0,qQt h0 qo]
   exact⟨rfl,by simp⟩
  exact⟨e1.1,e1.2,by unfold AuH.nx;rw[e1.2]⟩
 have hb:∀ q,A<=q->q<A+s+e->¬ (0<s/\q=A)->¬ (0<e/\q=A+s)->(H.re V').cel q 0=0:=fun q a1 a2 a3 a4=>by rw[hc q 0 qo qo qo qo];exact R.blank q a1 a2 a3 a4
 have hn:∀ q,A<=q->q<A+s+e->¬ (0<s/\q=A)->¬ (0<e/\q=A+s)->(H.re V').K q=0:=fun q a1 a2 a3 a4=>((H.re V').K_zero q (hb q a1 a2 a3 a4)).1
 have cases:∀ q,A<=q->q<A+s+e->(H.re V').K q≠0->(0<s/\q=A)\/(0<e/\q=A+s):=fun q a1 a2 a3=>by
  by_cases b1:0<s/\q=A
  ·exact .inl b1
  ·by_cases b2:0<e/\q=A+s
   ·exact .inr b2
   ·exact absurd (hn q a1 a2 b1 b2) a3
 have hout:∀ q,q<H.p->¬ (A<=q/\q<A+s+e)->(H.re V').cel q 0=H.cel q 0:=fun q a1 a2=>by rw[hc q 0 a1 qo qo qo];exact R.infos q a1 a2
 have eas:A+(s+e)=A+s+e:=qo
 have tS:0<s->(H.re V').tgt A=if u≠2^slotI k-1 then 13+k else -1:=fun h0=>by
  have h5:(H.re V').cel A 5=u:=by rw[hc A 5 qo qo qo qo];exact(R.taken h0).1
  by_cases hf:u=2^slotI k-1
  ·rw[if_neg (fun x=>x hf)]
   exact AuH.tgt_full (hs h0).1 (by rw[h5,(hs h0).2.2.1];exact hf)
  ·rw[if_pos hf,AuH.tgt_slab (hs h0).1 (by rw[h5,(hs h0).2.2.1];exact hf),(hs h0).2.2.1]
 have tF:0<e->(H.re V').tgt (A+s)=2+HM.logI (e:Int):=fun h0=>by rw[AuH.tgt_free (he h0).1,(he h0).2.1]
 have tN:∀ q,A<=q->q<A+s+e->¬ (0<s/\q=A)->¬ (0<e/\q=A+s)->(H.re V').tgt q = -1:=fun q a1 a2 a3 a4=>AuH.tgt_none (hn q a1 a2 a3 a4)
 have hlg:0<e->0<=HM.logI (e:Int)/\HM.logI (e:Int)<=10:=fun h0=>AuH.log_few h0 qo
 have k0:=R.k0
 have k8:=R.k8
 exact {
  cut:=by
   refine⟨by rw[eas];exact R.whole,fun q a1 a2=>hout q a1 qo,?_,fun q a1 a2 a3=>?_,fun q a1 a2 a3 a4=>?_,fun q r a1 a2 a3 a4 a5=>?_,fun q a1 a2 a3=>?_⟩
   ·rcases Nat.eq_zero_or_pos s with h0|h0
    ·have:=(he qo).1
     rw[h0,Nat.add_zero] at this
     omega
    ·have:=(hs h0).1;omega
   ·rcases cases q a1 qo a3 with ⟨b1,rfl⟩|⟨b1,rfl⟩
    ·have:=(hs b1).2.2.2;omega
    ·have:=(he b1).2.2;omega
   ·rcases cases q a1 qo a3 with ⟨b1,rfl⟩|⟨b1,rfl⟩
    ·have h1:=(hs b1).2.2.2
     rw[h1] at a4 ⊢
     have:=(he qo).1
     omega
    ·have:=(he b1).2.2;omega
   ·rcases cases q a1 qo a3 with ⟨b1,rfl⟩|⟨b1,rfl⟩
    ·have h1:=(hs b1).2.2.2
     exact hb r qo qo qo qo
    ·have h1:=(he b1).2.2
     exact hb r qo qo qo qo
   ·refine hb q a1 qo (fun b=>?_) (fun b=>?_)
    ·obtain⟨b1,rfl⟩:=b;have:=(hs b1).1;omega
    ·obtain⟨b1,rfl⟩:=b;have:=(he b1).1;omega
  foot:=fun q a1 a2 a3=>by
   rcases cases q a1 qo a3 with ⟨b1,rfl⟩|⟨b1,rfl⟩
   ·unfold AuH.Foot
    rw[(hs b1).2.1]
    refine⟨fun r h5 h6=>by omega,?_⟩
    show (H.re V').cel q 1=q+1
    rw[hc q 1 qo qo qo qo]
    exact R.footu b1
   ·unfold AuH.Foot
    rw[(he b1).2.1]
    refine⟨fun r h5 h6=>?_,?_⟩
    ·rw[hc r 1 qo qo qo qo]
     exact R.blankf r qo qo qo qo
    ·rw[hc _ 1 qo qo qo qo]
     exact R.footr b1
  feet:=fun q a1 a2=>by rw[hc q 1 a1 qo qo qo];exact R.feet q a1 qo
  left:=fun q a1 a2 a3=>by
   rcases Nat.eq_zero_or_pos s with h0|h0
   ·exact absurd a3 (R.left h0 q a1 a2)
   ·rw[(hs h0).1];decide
  mid:=fun q a1 a2 a3 a4=>by
   rcases cases q a1 qo qo with ⟨b1,rfl⟩|⟨b1,rfl⟩
   ·have:=(hs b1).1;omega
   ·have:=(he b1).2.2;omega
  right:=fun q a1 a2 a3 a4 a5=>by
   rcases cases q a1 qo qo with ⟨b1,rfl⟩|⟨b1,rfl⟩
   ·have:=(hs b1).1;omega
   ·rw[eas] at a5 ⊢;exact R.right b1 a5
  slot:=fun q a1 a2=>by
   unfold AuH.Slot5
   rw[hc q 4 qo qo qo qo,hc q 5 qo qo qo qo]
   by_cases b:0<s/\q=A
   ·obtain⟨b1,rfl⟩:=b
    obtain⟨c1,c2,c3,c4⟩:=R.taken b1
    rw[c1,c2,(hs b1).2.2.1]
    refine⟨fun _=>⟨c3,c4,fun i _ hx=>?_⟩,fun x=>absurd (hs b1).1 x⟩
    rw[Nat.zero_testBit] at hx
    cases hx
   ·obtain⟨c1,c2⟩:=R.bare q a1 qo b
    rw[c1,c2]
    refine⟨fun x=>?_,fun _=>⟨rfl,rfl⟩⟩
    rcases cases q a1 qo qo with b2|⟨b2,rfl⟩
    ·exact absurd b2 b
    ·have:=(he b2).1;omega
  bits:=fun q a1 a2=>by
   rw[hc q 4 a1 qo qo qo,hc q 5 a1 qo qo qo]
   exact R.bits q a1 qo
  list:=hli
  memIn:=fun hd h2 h21 y a1 a2=>by
   rw[R.mem hd h2 h21 y]
   by_cases b1:0<s/\y=A
   ·obtain⟨b1,rfl⟩:=b1
    rw[tS b1]
    constructor
    ·rintro (⟨_,x⟩|⟨x1,x2,_⟩|⟨_,_,x3,x4⟩)
     ·exact absurd ⟨a1,qo⟩ x
     ·omega
     ·rw[if_pos x3];omega
    ·intro x
     split at x
     ·rename_i x3;exact .inr (.inr ⟨b1,rfl,x3,qo⟩)
     ·omega
   ·by_cases b2:0<e/\y=A+s
    ·obtain⟨b2,rfl⟩:=b2
     rw[tF b2]
     constructor
     ·rintro (⟨_,x⟩|⟨_,_,x3⟩|⟨x1,x2,_⟩)
      ·exact absurd ⟨a1,qo⟩ x
      ·omega
      ·exact absurd ⟨x1,x2⟩ b1
     ·intro x;exact .inr (.inl ⟨b2,rfl,qo⟩)
    ·rw[tN y a1 qo b1 b2]
     constructor
     ·rintro (⟨_,x⟩|⟨x1,x2,_⟩|⟨x1,x2,_⟩)
      ·exact absurd ⟨a1,qo⟩ x
      ·exact absurd ⟨x1,x2⟩ b2
      ·exact absurd ⟨x1,x2⟩ b1
     ·intro x;omega
  memOut:=fun hd h2 h21 y a=>by
   rw[R.mem hd h2 h21 y]
   constructor
   ·rintro (⟨x,_⟩|⟨x1,x2,_⟩|⟨x1,x2,_⟩)
    ·exact x
    ·omega
    ·omega
   ·intro x;exact .inl ⟨x,qo⟩
  bare:=fun q a1 a2 a3=>by
   refine hlk q qo (fun hd h2 h21 hm=>?_)
   rcases(R.mem hd h2 h21 q).1 hm with ⟨_,x⟩|⟨x1,x2,x3⟩|⟨x1,x2,x3,x4⟩
   ·exact x ⟨a1,qo⟩
   ·subst x2;rw[tF x1] at a3;have:=hlg x1;omega
   ·subst x2;rw[tS x1,if_pos x3] at a3;omega
  loose:=fun q a1 a2 a3=>by
   have hno:∀ hd:Nat,2<=hd->hd<=21->¬ q∈L' hd:=fun hd h2 h21 hm=>by
    rcases(R.mem hd h2 h21 q).1 hm with ⟨x,_⟩|⟨x1,x2,_⟩|⟨x1,x2,_⟩
    ·have:=((h.mem hd h2 h21 q).1 x).2;omega
    ·omega
    ·omega
   obtain⟨b1,b2⟩:=hlk q a1 hno
   obtain⟨b3,b4⟩:=h.loose q a1 a3
   rw[b1,b2,b3,b4]
   exact⟨rfl,rfl⟩
  free:=by
   rw[hlow 0 qo,R.free]
   congr 1
   rcases Nat.eq_zero_or_pos s with h0|h0
   ·subst h0
    have h1:=he qo
    rw[AuH.sumTo_first qo (fun i b1 b2=>AuH.freeF_no (hn (A+i) qo qo qo qo))]
    show e=(H.re V').freeF (A+0)
    unfold AuH.freeF
    rw[if_pos h1.1,h1.2.1]
   ·obtain rfl:s=1:=qo
    have h1:=(hs h0).1
    have z0:(H.re V').freeF A=0:=by unfold AuH.freeF;rw[if_neg qo]
    rcases Nat.eq_zero_or_pos e with h2|h2
    ·subst h2
     rw[AuH.sumTo_first qo (fun i b1 b2=>by omega)]
     exact z0.symm
    ·rw[AuH.sumTo_pair (k:=1) qo qo (fun i b1 b2 b3=>AuH.freeF_no (hn (A+i) qo qo qo qo))]
     have z1:(H.re V').freeF (A+1)=e:=by unfold AuH.freeF;rw[if_pos (he h2).1,(he h2).2.1]
     show e=(H.re V').freeF (A+0)+(H.re V').freeF (A+1)
     rw[Nat.add_zero,z0,z1];omega
  live:=by
   rw[hlow 1 qo,R.live]
   have z:∀ i,i<s+e->(H.re V').liveF (A+i)=0:=fun i hi=>by
    unfold AuH.liveF
    by_cases b1:0<s/\A+i=A
    ·rw[b1.2,if_neg (by have:=(hs b1.1).1;omega),if_pos (hs b1.1).1,hc A 4 qo qo qo qo,(R.taken b1.1).2.1]
     decide
    ·by_cases b2:0<e/\A+i=A+s
     ·rw[b2.2,if_neg (by have:=(he b2.1).1;omega),if_neg (by have:=(he b2.1).1;omega)]
     ·have:=hn (A+i) qo qo b1 b2
      rw[if_neg qo,if_neg qo]
   rw[AuH.sumTo_congr (f:=fun i=>(H.re V').liveF (A+i)) (g:=fun _=>0) (s+e) (fun i hi=>z i hi),AuH.sumTo_zero]
   rfl
  few:=by
   rw[hlow 0 qo,hlow 1 qo]
   have hbl:=AuH.sums_le (H:=H) H.p qo
   obtain⟨_,c2⟩:=h.counts
   have:=R.live
   exact⟨R.few,qo⟩
  roots:=fun i hi=>by rw[hlow (22+i) qo];exact R.roots i hi
  named:=fun i hi hv a1 a2=>absurd ⟨a1,qo⟩ (R.bareroot i hi hv) }
end
end
end Go.Proofs.YtjjfcaliippgpaaGreatDoor
