/-
  Whole spans side by side become a slab (or none), and free pages behind it: it is a heap. No program is named here but for the Views'.
-/
import Derived.Test.YtjjfcaliippgpaaGreatDoorW07
import Derived.Test.YtjjfcaliippgpaaGreatDoorW06
import Derived.Test.YtjjfcaliippgpaaGreatDoorW01
set_option linter.unusedVariables false
set_option linter.unusedSimpArgs false
set_option maxRecDepth 100000
set_option maxHeartbeats 25600000
namespace Go.Proofs.YtjjfcaliippgpaaGreatDoor
open Go.ChangeShapes Go.WideShapes Go.ChangeAt Go.RowKit Go.Maps
section
theorem qL3 {k:Int}(h1:0<=k)(h2:k<=8):infoG (infoV 3 1 k)=(3,1,k,true):=qX1 (qPX (by unfold infoP;omega))
structure AnewG (H:AuH) (g:Nat->Nat) (L L':Nat->List Nat) (A s e:Nat) (k:Int) (u:Nat):Prop where
 pos:0<s+e
 one:s<=1
 k0:0<=k
 k8:k<=8
 whole:H.Whole A (A+s+e)
 left:s=0->∀ q,q<A->H.K q=1->H.nx q≠A
 right:0<e->A+s+e<H.p->H.K (A+s+e)≠1
 slab:0<s->g (pc H.t A 0)=infoV 3 1 k
 rest:0<e->g (pc H.t (A+s) 0)=infoV 1 (e:Int) 0
 blank:∀ q,A<=q->q<A+s+e->¬ (0<s/\q=A)->¬ (0<e/\q=A+s)->g (pc H.t q 0)=0
 infos:∀ q,q<H.p->¬ (A<=q/\q<A+s+e)->g (pc H.t q 0)=H.cel q 0
 footu:0<s->g (pc H.t A 1)=A+1
 footr:0<e->g (pc H.t (A+s+e-1) 1)=A+s+1
 blankf:∀ q,A<=q->q<A+s+e->¬ (0<s/\q=A)->¬ (0<e/\q=A+s+e-1)->g (pc H.t q 1)=0
 feet:∀ q,q<H.p->¬ (A<=q/\q<A+s+e)->g (pc H.t q 1)=H.cel q 1
 taken:0<s->g (pc H.t A 5)=u/\g (pc H.t A 4)=0/\u≠0/\u<2^slotI k
 bare:∀ q,A<=q->q<A+s+e->¬ (0<s/\q=A)->g (pc H.t q 4)=0/\g (pc H.t q 5)=0
 bits:∀ q,q<H.p->¬ (A<=q/\q<A+s+e)->g (pc H.t q 4)=H.cel q 4/\g (pc H.t q 5)=H.cel q 5
 mem:∀ hd:Nat,2<=hd->hd<=21->∀ y,y∈L' hd↔(y∈L hd/\¬ (A<=y/\y<A+s+e))\/(0<e/\y=A+s/\((hd:Nat):Int)=2+HM.logI (e:Int))\/(0<s/\y=A/\u≠2^slotI k-1/\((hd:Nat):Int)=13+k)
 free:g 0+AuH.sumTo (fun i=>H.freeF (A+i)) (s+e)=H.V 0+e
 live:g 1+AuH.sumTo (fun i=>H.liveF (A+i)) (s+e)=H.V 1
 few:g 0<4294967296
 roots:∀ i,i<8->g (22+i)=H.V (22+i)
 bareroot:∀ i,i<8->H.V (22+i)≠0->¬ (A<=(spotP H.t H.p H.s (H.V (22+i):Int)).toNat/\(spotP H.t H.p H.s (H.V (22+i):Int)).toNat<A+s+e)
section
variable {H : AuH} {n c : Nat} {K : Nat -> Option Nat} {st : Vst} {L L' : Nat -> List Nat} {g : Nat -> Nat} {A s e u : Nat} {k : Int}
theorem qF2 (HV:HeapV H n c)(h:H.Ok L)(W:Work H.t H.p H.s n K st L' g)(R:AnewG H g L L' A s e k u):H.Laid (curV n (getV n K st) H.V) L L' A (s+e):=by
 have hlen:=HV.len
 have hw:=R.whole.le
 have hpos:=R.pos
 have hone:=R.one
 have hP:=HV.fit.nums
 obtain⟨V',hV'⟩:∃ V',curV n (getV n K st) H.V=V':=⟨_,rfl⟩
 have hc:∀ q b,q<H.p->b<6->b≠2->b≠3->(H.re V').cel q b=g (pc H.t q b):=fun q b hq hb h2 h3=>by rw[<- hV'];exact W.cel hlen hq hb h2 h3
 have hlk:∀ q,q<H.p->(∀ hd:Nat,2<=hd->hd<=21->¬ q∈L' hd)->(H.re V').cel q 2=0/\(H.re V').cel q 3=0:=fun q hq hno=>by rw[<- hV'];exact W.links hlen hq hno
 have hlow:∀ i,i<2\/(22<=i/\i<30)->V' i=g i:=fun i hi=>by rw[<- hV'];exact W.low hlen hi
 have hli:∀ hd:Nat,2<=hd->hd<=21->IsL H.p (nxH H.t) (pvH H.t) hd (fun c=>V' c.toNat) (L' hd):=fun hd h2 h21=>by rw[<- hV'];exact W.lists.isL HV h2 h21
 rw[hV']
 have hs:0<s->(H.re V').K A=3/\(H.re V').ln A=1/\(H.re V').Cl A=k/\(H.re V').nx A=A+s:=fun h0=>by
  have e1:(H.re V').K A=3/\(H.re V').ln A=1/\(H.re V').Cl A=k:=by
   unfold AuH.ln AuH.L AuH.K AuH.Cl
   rw[hc A 0 qo qo qo qo,R.slab h0,qL3 R.k0 R.k8]
   exact⟨rfl,rfl,rfl⟩
  exact⟨e1.1,e1.2.1,e1.2.2,by unfold AuH.nx;rw[e1.2.1];omega⟩
 have he:0<e->(H.re V').K (A+s)=1/\(H.re V').ln (A+s)=e/\(H.re V').nx (A+s)=A+s+e:=fun h0=>by
  have e1:(H.re V').K (A+s)=1/\(H.re V').ln (A+s)=e:=by
   unfold AuH.ln AuH.L AuH.K
   rw[hc (A+s) 0 qo qo qo qo,R.rest h0,qQt h0 qo]
   exact⟨rfl,by simp⟩
  exact⟨e1.1,e1.2,by unfold AuH.nx;rw[e1.2]⟩
 have hb:∀ q,A<=q->q<A+s+e->¬ (0<s/\q=A)->¬ (0<e/\q=A+s)->(H.re V').cel q 0=0:=fun q a1 a2 a3 a4=>by rw[hc q 0 qo qo qo qo];exact R.blank q a1 a2 a3 a4
 have hn:∀ q,A<=q->q<A+s+e->¬ (0<s/\q=A)->¬ (0<e/\q=A+s)->(H.re V').K q=0:=fun q a1 a2 a3 a4=>((H.re V').K_zero q (hb q a1 a2 a3 a4)).1
 have cases:∀ q,A<=q->q<A+s+e->(H.re V').K q≠0->(0<s/\q=A)\/(0<e/\q=A+s):=fun q a1 a2 a3=>by
  by_cases b1:0<s/\q=A
  ·exact .inl b1
  ·by_cases b2:0<e/\q=A+s
   ·exact .inr b2
   ·exact absurd (hn q a1 a2 b1 b2) a3
 have hout:∀ q,q<H.p->¬ (A<=q/\q<A+s+e)->(H.re V').cel q 0=H.cel q 0:=fun q a1 a2=>by rw[hc q 0 a1 qo qo qo];exact R.infos q a1 a2
 have eas:A+(s+e)=A+s+e:=qo
 have tS:0<s->(H.re V').tgt A=if u≠2^slotI k-1 then 13+k else -1:=fun h0=>by
  have h5:(H.re V').cel A 5=u:=by rw[hc A 5 qo qo qo qo];exact(R.taken h0).1
  by_cases hf:u=2^slotI k-1
  ·rw[if_neg (fun x=>x hf)]
   exact AuH.tgt_full (hs h0).1 (by rw[h5,(hs h0).2.2.1];exact hf)
  ·rw[if_pos hf,AuH.tgt_slab (hs h0).1 (by rw[h5,(hs h0).2.2.1];exact hf),(hs h0).2.2.1]
 have tF:0<e->(H.re V').tgt (A+s)=2+HM.logI (e:Int):=fun h0=>by rw[AuH.tgt_free (he h0).1,(he h0).2.1]
 have tN:∀ q,A<=q->q<A+s+e->¬ (0<s/\q=A)->¬ (0<e/\q=A+s)->(H.re V').tgt q = -1:=fun q a1 a2 a3 a4=>AuH.tgt_none (hn q a1 a2 a3 a4)
 have hlg:0<e->0<=HM.logI (e:Int)/\HM.logI (e:Int)<=10:=fun h0=>AuH.log_few h0 qo
 have k0:=R.k0
 have k8:=R.k8
 exact {
  cut:=by
   refine⟨by rw[eas];exact R.whole,fun q a1 a2=>hout q a1 qo,?_,fun q a1 a2 a3=>?_,fun q a1 a2 a3 a4=>?_,fun q r a1 a2 a3 a4 a5=>?_,fun q a1 a2 a3=>?_⟩
   ·rcases Nat.eq_zero_or_pos s with h0|h0
    ·have:=(he qo).1
     rw[h0,Nat.add_zero] at this
     omega
    ·have:=(hs h0).1;omega
   ·rcases cases q a1 qo a3 with ⟨b1,rfl⟩|⟨b1,rfl⟩
    ·have:=(hs b1).2.2.2;omega
    ·have:=(he b1).2.2;omega
   ·rcases cases q a1 qo a3 with ⟨b1,rfl⟩|⟨b1,rfl⟩
    ·have h1:=(hs b1).2.2.2
     rw[h1] at a4 ⊢
     have:=(he qo).1
     omega
    ·have:=(he b1).2.2;omega
   ·rcases cases q a1 qo a3 with ⟨b1,rfl⟩|⟨b1,rfl⟩
    ·have h1:=(hs b1).2.2.2
     exact hb r qo qo qo qo
    ·have h1:=(he b1).2.2
     exact hb r qo qo qo qo
   ·refine hb q a1 qo (fun b=>?_) (fun b=>?_)
    ·obtain⟨b1,rfl⟩:=b;have:=(hs b1).1;omega
    ·obtain⟨b1,rfl⟩:=b;have:=(he b1).1;omega
  foot:=fun q a1 a2 a3=>by
   rcases cases q a1 qo a3 with ⟨b1,rfl⟩|⟨b1,rfl⟩
   ·unfold AuH.Foot
    rw[(hs b1).2.1]
    refine⟨fun r h5 h6=>by omega,?_⟩
    show (H.re V').cel q 1=q+1
    rw[hc q 1 qo qo qo qo]
    exact R.footu b1
   ·unfold AuH.Foot
    rw[(he b1).2.1]
    refine⟨fun r h5 h6=>?_,?_⟩
    ·rw[hc r 1 qo qo qo qo]
     exact R.blankf r qo qo qo qo
    ·rw[hc _ 1 qo qo qo qo]
     exact R.footr b1
  feet:=fun q a1 a2=>by rw[hc q 1 a1 qo qo qo];exact R.feet q a1 qo
  left:=fun q a1 a2 a3=>by
   rcases Nat.eq_zero_or_pos s with h0|h0
   ·exact absurd a3 (R.left h0 q a1 a2)
   ·rw[(hs h0).1];decide
  mid:=fun q a1 a2 a3 a4=>by
   rcases cases q a1 qo qo with ⟨b1,rfl⟩|⟨b1,rfl⟩
   ·have:=(hs b1).1;omega
   ·have:=(he b1).2.2;omega
  right:=fun q a1 a2 a3 a4 a5=>by
   rcases cases q a1 qo qo with ⟨b1,rfl⟩|⟨b1,rfl⟩
   ·have:=(hs b1).1;omega
   ·rw[eas] at a5 ⊢;exact R.right b1 a5
  slot:=fun q a1 a2=>by
   unfold AuH.Slot5
   rw[hc q 4 qo qo qo qo,hc q 5 qo qo qo qo]
   by_cases b:0<s/\q=A
   ·obtain⟨b1,rfl⟩:=b
    obtain⟨c1,c2,c3,c4⟩:=R.taken b1
    rw[c1,c2,(hs b1).2.2.1]
    refine⟨fun _=>⟨c3,c4,fun i _ hx=>?_⟩,fun x=>absurd (hs b1).1 x⟩
    rw[Nat.zero_testBit] at hx
    cases hx
   ·obtain⟨c1,c2⟩:=R.bare q a1 qo b
    rw[c1,c2]
    refine⟨fun x=>?_,fun _=>⟨rfl,rfl⟩⟩
    rcases cases q a1 qo qo with b2|⟨b2,rfl⟩
    ·exact absurd b2 b
    ·have:=(he b2).1;omega
  bits:=fun q a1 a2=>by
   rw[hc q 4 a1 qo qo qo,hc q 5 a1 qo qo qo]
   exact R.bits q a1 qo
  list:=hli
  memIn:=fun hd h2 h21 y a1 a2=>by
   rw[R.mem hd h2 h21 y]
   by_cases b1:0<s/\y=A
   ·obtain⟨b1,rfl⟩:=b1
    rw[tS b1]
    constructor
    ·rintro (⟨_,x⟩|⟨x1,x2,_⟩|⟨_,_,x3,x4⟩)
     ·exact absurd ⟨a1,qo⟩ x
     ·omega
     ·rw[if_pos x3];omega
    ·intro x
     split at x
     ·rename_i x3;exact .inr (.inr ⟨b1,rfl,x3,qo⟩)
     ·omega
   ·by_cases b2:0<e/\y=A+s
    ·obtain⟨b2,rfl⟩:=b2
     rw[tF b2]
     constructor
     ·rintro (⟨_,x⟩|⟨_,_,x3⟩|⟨x1,x2,_⟩)
      ·exact absurd ⟨a1,qo⟩ x
      ·omega
      ·exact absurd ⟨x1,x2⟩ b1
     ·intro x;exact .inr (.inl ⟨b2,rfl,qo⟩)
    ·rw[tN y a1 qo b1 b2]
     constructor
     ·rintro (⟨_,x⟩|⟨x1,x2,_⟩|⟨x1,x2,_⟩)
      ·exact absurd ⟨a1,qo⟩ x
      ·exact absurd ⟨x1,x2⟩ b2
      ·exact absurd ⟨x1,x2⟩ b1
     ·intro x;omega
  memOut:=fun hd h2 h21 y a=>by
   rw[R.mem hd h2 h21 y]
   constructor
   ·rintro (⟨x,_⟩|⟨x1,x2,_⟩|⟨x1,x2,_⟩)
    ·exact x
    ·omega
    ·omega
   ·intro x;exact .inl ⟨x,qo⟩
  bare:=fun q a1 a2 a3=>by
   refine hlk q qo (fun hd h2 h21 hm=>?_)
   rcases(R.mem hd h2 h21 q).1 hm with ⟨_,x⟩|⟨x1,x2,x3⟩|⟨x1,x2,x3,x4⟩
   ·exact x ⟨a1,qo⟩
   ·subst x2;rw[tF x1] at a3;have:=hlg x1;omega
   ·subst x2;rw[tS x1,if_pos x3] at a3;omega
  loose:=fun q a1 a2 a3=>by
   have hno:∀ hd:Nat,2<=hd->hd<=21->¬ q∈L' hd:=fun hd h2 h21 hm=>by
    rcases(R.mem hd h2 h21 q).1 hm with ⟨x,_⟩|⟨x1,x2,_⟩|⟨x1,x2,_⟩
    ·have:=((h.mem hd h2 h21 q).1 x).2;omega
    ·omega
    ·omega
   obtain⟨b1,b2⟩:=hlk q a1 hno
   obtain⟨b3,b4⟩:=h.loose q a1 a3
   rw[b1,b2,b3,b4]
   exact⟨rfl,rfl⟩
  free:=by
   rw[hlow 0 qo,R.free]
   congr 1
   rcases Nat.eq_zero_or_pos s with h0|h0
   ·subst h0
    have h1:=he qo
    rw[AuH.sumTo_first qo (fun i b1 b2=>AuH.freeF_no (hn (A+i) qo qo qo qo))]
    show e=(H.re V').freeF (A+0)
    unfold AuH.freeF
    rw[if_pos h1.1,h1.2.1]
   ·obtain rfl:s=1:=qo
    have h1:=(hs h0).1
    have z0:(H.re V').freeF A=0:=by unfold AuH.freeF;rw[if_neg qo]
    rcases Nat.eq_zero_or_pos e with h2|h2
    ·subst h2
     rw[AuH.sumTo_first qo (fun i b1 b2=>by omega)]
     exact z0.symm
    ·rw[AuH.sumTo_pair (k:=1) qo qo (fun i b1 b2 b3=>AuH.freeF_no (hn (A+i) qo qo qo qo))]
     have z1:(H.re V').freeF (A+1)=e:=by unfold AuH.freeF;rw[if_pos (he h2).1,(he h2).2.1]
     show e=(H.re V').freeF (A+0)+(H.re V').freeF (A+1)
     rw[Nat.add_zero,z0,z1];omega
  live:=by
   rw[hlow 1 qo,R.live]
   have z:∀ i,i<s+e->(H.re V').liveF (A+i)=0:=fun i hi=>by
    unfold AuH.liveF
    by_cases b1:0<s/\A+i=A
    ·rw[b1.2,if_neg (by have:=(hs b1.1).1;omega),if_pos (hs b1.1).1,hc A 4 qo qo qo qo,(R.taken b1.1).2.1]
     decide
    ·by_cases b2:0<e/\A+i=A+s
     ·rw[b2.2,if_neg (by have:=(he b2.1).1;omega),if_neg (by have:=(he b2.1).1;omega)]
     ·have:=hn (A+i) qo qo b1 b2
      rw[if_neg qo,if_neg qo]
   rw[AuH.sumTo_congr (f:=fun i=>(H.re V').liveF (A+i)) (g:=fun _=>0) (s+e) (fun i hi=>z i hi),AuH.sumTo_zero]
   rfl
  few:=by
   rw[hlow 0 qo,hlow 1 qo]
   have hbl:=AuH.sums_le (H:=H) H.p qo
   obtain⟨_,c2⟩:=h.counts
   have:=R.live
   exact⟨R.few,qo⟩
  roots:=fun i hi=>by rw[hlow (22+i) qo];exact R.roots i hi
  named:=fun i hi hv a1 a2=>absurd ⟨a1,qo⟩ (R.bareroot i hi hv) }
end
end
section
section
variable (n : Nat) (K : Nat -> Option Nat) (t q s : Int)
def slabS (k:Int) (p:Nat) (st:Vst):Vst:=pushI n K t q s (13+k) p (putS n st (pageI t q s p 0) (infoV 3 1 k))
def bitsS (k:Int) (p u:Nat) (full:Bool) (st:Vst):Vst :=
 if full=true then pullI n K t q s (13+k) p (putS n (getS n K st (pageI t q s p 5)) (pageI t q s p 5) u)
 else putS n (getS n K st (pageI t q s p 5)) (pageI t q s p 5) u
end
theorem Fit.taken {t P s n:Nat}(h:Fit t P s n){p:Nat}(hp:p<P):pageI (t:Int) (P:Int) (s:Int) (p:Int) 5=((pc t p 5:Nat):Int):=by
 rw[qKF h.right qo qo qo qo]
 unfold pc
 push_cast
 omega
section
variable {t P s n : Nat} {K : Nat -> Option Nat} {st : Vst} {L : Nat -> List Nat} {g : Nat -> Nat} {p u : Nat} {k : Int}
end
section
variable {H : AuH} {n c : Nat} {K : Nat -> Option Nat} {st : Vst} {L L1 : Nat -> List Nat} {g1 : Nat -> Nat} {p u : Nat} {k : Int}
end
end
section
section
variable (n : Nat) (K : Nat -> Option Nat) (t q s : Int)
def emptyS (k:Int) (p:Nat) (full:Bool) (st:Vst):Vst :=
 releaseS n K t q s p 1 (putS n (if full=true then st else pullI n K t q s (13+k) p st) (pageI t q s p 5) 0)
end
structure AroundS (H:AuH) (p A la lr:Nat):Prop where
 slab:H.K p=3
 ahead:A+la=p
 le:p+1+lr<=H.p
 firstK:H.K A≠0
 lastK:p+1+lr<H.p->H.K (p+1+lr)≠0/\H.K (p+1+lr)≠1
 kinds:∀ q,A<=q->q<p+1+lr->(q=p/\H.K q=3)\/(0<la/\q=A/\H.K q=1)\/(0<lr/\q=p+1/\H.K q=1)\/(H.K q=0/\H.cel q 0=0/\q≠p/\¬ (0<la/\q=A)/\¬ (0<lr/\q=p+1))
 feet:∀ q,A<=q->q<p+1+lr->q≠p->¬ (0<la/\q+1=p)->¬ (0<lr/\q+1=p+1+lr)->H.cel q 1=0
 free:AuH.sumTo (fun i=>H.freeF (A+i)) (la+1+lr)=la+lr
 live:AuH.sumTo (fun i=>H.liveF (A+i)) (la+1+lr)=H.liveF p
section
variable {H : AuH} {n c : Nat} {K : Nat -> Option Nat} {st : Vst} {L : Nat -> List Nat}
theorem aroundS (h:H.Ok L){p A la lr:Nat}(hp:p<H.p)(hk:H.K p=3)(hA:A+la=p)(hle:p+1+lr<=H.p)
  (hl:0<la->H.K A=1/\H.ln A=la) (hr:0<lr->H.K (p+1)=1/\H.ln (p+1)=lr) (hlast:p+1+lr<H.p->H.K (p+1+lr)≠0/\H.K (p+1+lr)≠1) :
  AroundS H p A la lr:=by
 have hL:0<la->(∀ q,A<q->q<p->H.cel q 0=0/\H.K q=0)/\∀ q,A<=q->q+1<p->H.cel q 1=0:=fun h0=>by
  obtain⟨_,_,_,_,b4,b5,_⟩:=qRA h (p:=A) qo (by have:=(hl h0).1;omega) (by have:=(hl h0).1;omega)
  rw[(hl h0).2,hA] at b4 b5
  exact⟨b4,b5⟩
 have hR:0<lr->(∀ q,p+1<q->q<p+1+lr->H.cel q 0=0/\H.K q=0)/\∀ q,p+1<=q->q+1<p+1+lr->H.cel q 1=0:=fun h0=>by
  obtain⟨_,_,_,_,b4,b5,_⟩:=qRA h (p:=p+1) qo (by have:=(hr h0).1;omega) (by have:=(hr h0).1;omega)
  rw[(hr h0).2] at b4 b5
  exact⟨b4,b5⟩
 have kinds:∀ q,A<=q->q<p+1+lr->(q=p/\H.K q=3)\/(0<la/\q=A/\H.K q=1)\/(0<lr/\q=p+1/\H.K q=1)\/(H.K q=0/\H.cel q 0=0/\q≠p/\¬ (0<la/\q=A)/\¬ (0<lr/\q=p+1)):=fun q h1 h2=>by
  by_cases e1:q=p
  ·exact .inl ⟨e1,e1 ▸ hk⟩
  ·by_cases e2:0<la/\q=A
   ·exact .inr (.inl ⟨e2.1,e2.2,e2.2 ▸ (hl e2.1).1⟩)
   ·by_cases e3:0<lr/\q=p+1
    ·exact .inr (.inr (.inl ⟨e3.1,e3.2,e3.2 ▸ (hr e3.1).1⟩))
    ·refine .inr (.inr (.inr ?_))
     rcases Nat.lt_or_ge q p with h3|h3
     ·have:=(hL qo).1 q qo h3
      exact⟨this.2,this.1,e1,e2,e3⟩
     ·have:=(hR qo).1 q qo h2
      exact⟨this.2,this.1,e1,e2,e3⟩
 have hsplit:∀ f:Nat->Nat,AuH.sumTo (fun i=>f (A+i)) (la+1+lr)=AuH.sumTo (fun i=>f (A+i)) la+f p+AuH.sumTo (fun i=>f (p+1+i)) lr:=fun f=>by
  rw[AuH.sumTo_split (fun i=>f (A+i)) (la+1) lr,AuH.sumTo_split (fun i=>f (A+i)) la 1]
  have e2:(fun i=>f (A+(la+1+i)))=fun i=>f (p+1+i):=by funext i;congr 1;omega
  rw[e2]
  show _+(0+f (A+(la+0)))+_=_
  rw[Nat.add_zero,hA,Nat.zero_add]
 have ff:∀ q,H.K q=1->H.freeF q=H.ln q/\H.liveF q=0:=fun q h1=>by unfold AuH.freeF AuH.liveF;rw[if_pos h1,if_neg qo,if_neg qo];exact⟨rfl,rfl⟩
 have side:∀ a m,a+m<=H.p->(0<m->H.K a=1/\H.ln a=m)->AuH.sumTo (fun i=>H.freeF (a+i)) m=m/\AuH.sumTo (fun i=>H.liveF (a+i)) m=0:=fun a m h1 h2=>by
  rcases Nat.eq_zero_or_pos m with h0|h0
  ·subst h0;exact⟨rfl,rfl⟩
  ·have:=qCx h (p:=a) qo (by have:=(h2 h0).1;omega) (by have:=(h2 h0).1;omega)
   rw[(h2 h0).2,(ff a (h2 h0).1).1,(ff a (h2 h0).1).2,(h2 h0).2] at this
   exact this
 have s1:=side A la qo hl
 have s2:=side (p+1) lr qo hr
 exact {
  slab:=hk,ahead:=hA,le:=hle
  firstK:=by
   rcases Nat.eq_zero_or_pos la with h0|h0
   ·have:A=p:=qo
    rw[this];omega
   ·have:=(hl h0).1;omega
  lastK:=hlast,kinds:=kinds
  feet:=fun q h1 h2 h3 h4 h5=>by
   rcases Nat.lt_or_ge q p with h6|h6
   ·exact(hL qo).2 q h1 qo
   ·exact(hR qo).2 q qo qo
  free:=by
   rw[hsplit,s1.1,s2.1]
   have:H.freeF p=0:=by unfold AuH.freeF;rw[if_neg qo]
   omega
  live:=by rw[hsplit,s1.2,s2.2,Nat.zero_add,Nat.add_zero] }
theorem qPl:∀ k,HM.onesTo 0 k=0
 | 0=>rfl
 | k+1=>by rw[HM.onesTo_succ,qPl k,Nat.zero_testBit];rfl
theorem AroundS.root {p A la lr:Nat}(a:AroundS H p A la lr)(h:H.Ok L)(h4:H.cel p 4=0){i:Nat}(hi:i<8)(hv:H.V (22+i)≠0)(h1:A<=(spotP H.t H.p H.s (H.V (22+i):Int)).toNat)(h2:(spotP H.t H.p H.s (H.V (22+i):Int)).toNat<p+1+lr):False:=by
 obtain⟨_,h3⟩:=h.roots i hi hv
 have hk:=a.kinds _ h1 h2
 generalize (spotP H.t H.p H.s (H.V (22+i):Int)).toNat=q at *
 rcases h3 with ⟨h5,_⟩|⟨h5,_,h6⟩
 ·rcases hk with ⟨_,h7⟩|⟨_,_,h7⟩|⟨_,_,h7⟩|⟨h7,_⟩ <;> omega
 ·rcases hk with ⟨h7,_⟩|⟨_,_,h7⟩|⟨_,_,h7⟩|⟨h7,_⟩
  ·rw[h7,h4,Nat.zero_testBit] at h6
   cases h6
  ·omega
  ·omega
  ·omega
theorem qGZ (HV:HeapV H n c)(h:H.Ok L)(W:Work H.t H.p H.s n K st L H.V){p:Nat}(hp:p<H.p)(hk:H.K p=3)(h4:H.cel p 4=0) :
  ∃ L' g' A la lr,Work H.t H.p H.s n K (emptyS n K H.t H.p H.s (H.Cl p) p (decide (H.cel p 5=2^slotI (H.Cl p)-1)) st) L' g'/\AnewG H g' L L' A 0 (la+1+lr) 0 0/\AroundS H p A la lr/\g' 1=H.V 1/\g' 0=H.V 0+1:=by
 have hf:=HV.fit
 have hP:=hf.nums
 have hlen:=hf.len
 have hv1:=(qFj h hP.2).2
 obtain⟨hl1,hnx,s3⟩:=qXl h hp hk
 have hcl:0<=H.Cl p/\H.Cl p<=8:=by have:=H.K_cases p;omega
 obtain⟨A,la,hA,l0,l1,l2,l3⟩:=qHM h hp qo qo
 obtain⟨lr,r0,r1,r2,r3,r4,r5⟩:=qE3 h (r:=p+1) s3 qo
 have a:=aroundS h hp hk hA r0 l2 r3 r5
 -- out of its rack
 have hp1:∃ L1,Work H.t H.p H.s n K (if decide (H.cel p 5=2^slotI (H.Cl p)-1)=true then st else pullI n K H.t H.p H.s (13+H.Cl p) p st) L1 H.V/\∀ x:Nat,2<=x->x<=21->∀ y,y∈L1 x↔y∈L x/\y≠p:=by
  by_cases hfull:H.cel p 5=2^slotI (H.Cl p)-1
  ·rw[if_pos (decide_eq_true hfull)]
   refine⟨L,W,fun x a2 a21 y=>⟨fun hy=>⟨hy,fun e=>?_⟩,fun hy=>hy.1⟩⟩
   have:=((h.mem x a2 a21 y).1 hy).2
   rw[e,AuH.tgt_full hk hfull] at this
   omega
  ·rw[if_neg (by simpa using hfull)]
   have eh:13+H.Cl p=((13+(H.Cl p).toNat:Nat):Int):=qo
   have hm:p∈L (13+(H.Cl p).toNat):=(h.mem _ qo qo p).2 ⟨hp,by rw[AuH.tgt_slab hk hfull];omega⟩
   rw[eh]
   exact W.pull hf qo qo hp hm
 obtain⟨L1,W1,m1⟩:=hp1
 have W2:=W1.put (i:=pc H.t p 5) (by unfold pc;omega) (qXR qo qo qo) 0
 rw[<- hf.taken hp] at W2
 have g0:∀ q b,b<5->updF H.V (pc H.t p 5) 0 (pc H.t q b)=H.V (pc H.t q b):=fun q b hb=>qB0 _ _ qo qo qo
 have gl:∀ i,i<30->updF H.V (pc H.t p 5) 0 i=H.V i:=fun i hi=>qKp _ _ hi
 obtain⟨L',g',W',m',z0,z1,zi,zf,zb⟩:=W2.release hf (p:=p) (m:=1) (A:=A) (la:=la) (lr:=lr) qo r0 hA
  (fun e=>by
   rcases l0 e with e|⟨f,kk,ll,cc,ok,b1,b2,b3,b4⟩
   ·exact .inl e
   ·exact .inr ⟨f,kk,ll,cc,ok,b1,by rw[g0 _ _ qo];exact b2,by rw[g0 _ _ qo];exact b3,b4⟩)
  (fun e=>by
   obtain⟨b1,b2,k,b3,b4,b5⟩:=l1 e
   exact⟨by rw[g0 _ _ qo];exact b1,by rw[g0 _ _ qo];exact b2,k,b3,b4,(m1 _ qo qo _).2 ⟨b5,qo⟩⟩)
  (fun e e2=>by
   rw[g0 _ _ qo]
   exact r1 e e2)
  (fun e=>by
   obtain⟨b1,b2,k,b3,b4,b5⟩:=r2 e
   exact⟨b1,by rw[g0 _ _ qo];exact b2,k,b3,b4,(m1 _ qo qo _).2 ⟨b5,qo⟩⟩)
  (fun hd a2 a21 hx=>by
   rcases Nat.eq_zero_or_pos la with e|e
   ·exact absurd (show A=p by omega) ((m1 hd a2 a21 A).1 hx).2
   ·exact e)
  (by rw[gl 0 qo];omega)
 refine⟨L',g',A,la,lr,W',?_,a,by rw[z1 1 qo qo,gl 1 qo],by rw[z0,gl 0 qo]⟩
 have e:A+0+(la+1+lr)=p+1+lr:=qo
 exact {
  pos:=qo
  one:=qo
  k0:=qo
  k8:=qo
  whole:=by rw[e];exact⟨qo,r0,a.firstK,fun h1=>(a.lastK h1).1⟩
  left:=fun _=>l3
  right:=fun _ h1=>by rw[e] at h1 ⊢;exact(a.lastK h1).2
  slab:=fun h1=>by omega
  rest:=fun _=>by rw[Nat.add_zero,zi,if_pos rfl]
  blank:=fun q h1 h2 h3 h5=>by
   rw[zi,if_neg qo]
   split
   ·rfl
   ·rename_i h6
    rw[g0 _ _ qo]
    rcases a.kinds q h1 qo with ⟨h7,_⟩|⟨_,h7,_⟩|⟨h7,h8,_⟩|⟨_,h7,_⟩
    ·exfalso;exact h6 (.inl ⟨qo,h7⟩)
    ·omega
    ·exact absurd (.inr ⟨h7,h8⟩) h6
    ·exact h7
  infos:=fun q h1 h2=>by rw[zi,if_neg qo,if_neg qo,g0 _ _ qo];rfl
  footu:=fun h1=>by omega
  footr:=fun _=>by rw[zf,if_pos qo]
  blankf:=fun q h1 h2 h3 h5=>by
   rw[zf,if_neg qo]
   split
   ·rfl
   ·rename_i h6
    rw[g0 _ _ qo]
    exact a.feet q h1 qo qo qo qo
  feet:=fun q h1 h2=>by rw[zf,if_neg qo,if_neg qo,g0 _ _ qo];rfl
  taken:=fun h1=>by omega
  bare:=fun q h1 h2 _=>by
   rw[(zb q).1,(zb q).2,g0 _ _ qo]
   by_cases e2:q=p
   ·rw[e2]
    exact⟨h4,qJR _ _ rfl⟩
   ·rw[qB0 _ _ qo qo qo]
    have hk3:H.K q≠3:=by
     rcases a.kinds q h1 qo with ⟨h7,_⟩|⟨_,_,h7⟩|⟨_,_,h7⟩|⟨h7,_⟩
     ·exact absurd h7 e2
     ·omega
     ·omega
     ·omega
    exact⟨((h.slots q qo).2 hk3).2,((h.slots q qo).2 hk3).1⟩
  bits:=fun q h1 h2=>by
   rw[(zb q).1,(zb q).2,g0 _ _ qo,qB0 _ _ qo qo qo]
   exact⟨rfl,rfl⟩
  mem:=fun hd a2 a21 y=>by
   rw[m' hd a2 a21 y,m1 hd a2 a21 y,e]
   have out:y∈L hd->A<=y->y<p+1+lr->y=p\/(0<la/\y=A)\/(0<lr/\y=p+1):=fun b1 b2 b3=>by
    rcases a.kinds y b2 b3 with ⟨h5,_⟩|⟨h5,h6,_⟩|⟨h5,h6,_⟩|⟨h5,_⟩
    ·exact .inl h5
    ·exact .inr (.inl ⟨h5,h6⟩)
    ·exact .inr (.inr ⟨h5,h6⟩)
    ·exact absurd b1 (qUO h h5 hd a2 a21)
   constructor
   ·rintro (⟨⟨b1,b2⟩,b3,b4⟩|⟨h1,h2⟩)
    ·refine .inl ⟨b1,fun b5=>?_⟩
     rcases out b1 b5.1 b5.2 with h5|h5|h5
     ·exact b2 h5
     ·exact b3 h5
     ·exact b4 h5
    ·exact .inr (.inl ⟨qo,qo,h2⟩)
   ·rintro (⟨b1,b2⟩|⟨_,h1,h2⟩|⟨h1,_⟩)
    ·exact .inl ⟨⟨b1,qo⟩,qo,qo⟩
    ·exact .inr ⟨qo,h2⟩
    ·omega
  free:=by rw[z0,gl 0 qo,Nat.zero_add,a.free];omega
  live:=by
   rw[z1 1 qo qo,gl 1 qo,Nat.zero_add,a.live]
   have:H.liveF p=0:=by unfold AuH.liveF;rw[if_neg qo,if_pos hk,h4,qPl]
   omega
  few:=by rw[z0,gl 0 qo];omega
  roots:=fun i hi=>by rw[z1 (22+i) qo qo,gl (22+i) qo]
  bareroot:=fun i hi hv hh=>a.root h h4 hi hv hh.1 qo }
end
end
section
section
variable {H : AuH} {q : Nat}
theorem qHV (h4:H.cel q 4=0)(k:Nat):blocksOf (H.slotsTo q k) = []:=by
 induction k with
 | zero=>rfl
 | succ k ih =>
  rw[AuH.slotsTo_succ,qGG,ih,List.nil_append]
  have h:=(qHe (H.cel q 5) 0 k).1
  rw[Nat.zero_testBit] at h
  refine qCe fun e=>?_
  unfold AuH.slotPart at e
  rw[h4] at e
  have h2:((slotKd (H.cel q 5) 0 k:Nat):Int)=2:=e
  exact absurd (h.1 qo) (by simp)
theorem qV3 (hk:H.K q=3)(h4:H.cel q 4=0):blocksOf (H.partsAt q) = []:=by
 unfold AuH.partsAt
 rw[if_neg qo,if_neg qo,if_pos hk,qGG,qHV h4,kindN_slack.2]
 rfl
theorem qS0 (hk:H.K q=0\/H.K q=1):kindN 4 (H.partsAt q)=0:=by
 unfold AuH.partsAt
 rcases hk with h|h
 ·rw[if_neg qo,if_neg qo,if_neg qo];rfl
 ·rw[if_pos h];rfl
theorem qN1 {f:Nat->List (Int × Int × Int)}:∀ m,(∀ i,i<m->kindN 4 (f i)=0)->kindN 4 (AuH.catTo f m)=0
 | 0,_=>rfl
 | m+1,h=>by
  show kindN 4 (AuH.catTo f m++f m)=_
  rw[qYw,qN1 m (fun i hi=>h i qo),h m qo]
theorem qLh {f:Nat->List (Int × Int × Int)}{i0:Nat}:∀ m,i0<m->(∀ i,i<m->i≠i0->kindN 4 (f i)=0)->kindN 4 (AuH.catTo f m)=kindN 4 (f i0)
 | 0,h,_=>by omega
 | m+1,h,ho=>by
  show kindN 4 (AuH.catTo f m++f m)=_
  rw[qYw]
  rcases Nat.lt_or_ge i0 m with h1|h1
  ·rw[qLh m h1 (fun i hi hne=>ho i qo hne),ho m qo qo,Nat.add_zero]
  ·obtain rfl:i0=m:=qo
   rw[qN1 i0 (fun i hi=>ho i qo qo),Nat.zero_add]
end
section
variable {H : AuH} {n c : Nat} {K : Nat -> Option Nat} {st : Vst} {L L' : Nat -> List Nat} {g : Nat -> Nat} {A s e u : Nat} {k : Int}
theorem qCr (HV:HeapV H n c)(h:H.Ok L)(W:Work H.t H.p H.s n K st L' g)(R:AnewG H g L L' A s e k u)(hold:blocksOf (AuH.catTo (fun i=>H.partsAt (A+i)) (s+e)) = []) :
  (nowH H n K st).Ok L'/\(∀ i,i<8->(nowH H n K st).V (22+i)=H.V (22+i))/\(nowH H n K st).V 0=g 0/\(nowH H n K st).V 1=g 1/\blocksOf (nowH H n K st).parts=blocksOf H.parts /\
   (0<s->(nowH H n K st).K A=3/\(nowH H n K st).Cl A=k/\(nowH H n K st).cel A 5=u/\(nowH H n K st).cel A 4=0) /\
   kindN 4 (nowH H n K st).parts+kindN 4 (AuH.catTo (fun i=>H.partsAt (A+i)) (s+e))=kindN 4 H.parts+if 0<s then idleB u 0 (slotI k) else 0:=by
 have hlen:=HV.len
 have hP:=HV.fit.nums
 have hw:=R.whole.le
 have hone:=R.one
 have T:=qF2 HV h W R
 have hc:∀ q b,q<H.p->b<6->b≠2->b≠3->(nowH H n K st).cel q b=g (pc H.t q b):=fun q b hq hb h2 h3=>W.cel hlen hq hb h2 h3
 have hs:0<s->(nowH H n K st).K A=3/\(nowH H n K st).Cl A=k/\(nowH H n K st).cel A 5=u/\(nowH H n K st).cel A 4=0:=fun h0=>by
  refine⟨?_,?_,?_,?_⟩
  ·unfold AuH.K;rw[hc A 0 qo qo qo qo,R.slab h0,qL3 R.k0 R.k8]
  ·unfold AuH.Cl;rw[hc A 0 qo qo qo qo,R.slab h0,qL3 R.k0 R.k8]
  ·rw[hc A 5 qo qo qo qo];exact(R.taken h0).1
  ·rw[hc A 4 qo qo qo qo];exact(R.taken h0).2.1
 have hr:∀ q,A<=q->q<A+s+e->¬ (0<s/\q=A)->(nowH H n K st).K q=0\/(nowH H n K st).K q=1:=fun q a1 a2 a3=>by
  by_cases b:0<e/\q=A+s
  ·obtain⟨b1,rfl⟩:=b
   refine .inr ?_
   unfold AuH.K
   rw[hc (A+s) 0 qo qo qo qo,R.rest b1,qQt b1 qo]
  ·refine .inl ((nowH H n K st).K_zero q ?_).1
   rw[hc q 0 qo qo qo qo]
   exact R.blank q a1 a2 a3 b
 refine⟨T.ok h hP.2,T.roots,W.low hlen (.inl qo),W.low hlen (.inl qo),T.blocks ?_,hs,?_⟩
 ·rw[hold]
  refine qRe _ fun i hi=>?_
  by_cases b:0<s/\A+i=A
  ·show blocksOf ((nowH H n K st).partsAt (A+i)) = []
   rw[b.2]
   exact qV3 (hs b.1).1 (hs b.1).2.2.2
  ·exact qSQ (H:=nowH H n K st) (hr (A+i) qo qo b)
 ·obtain⟨r,_,f1,f2⟩:=T.parts
  have f2:(nowH H n K st).parts=_:=f2
  rw[f1,f2,qYw,qYw,qYw,qYw]
  have g2:kindN 4 (AuH.catTo (fun i=>(H.re (curV n (getV n K st) H.V)).partsAt (A+i)) (s+e))=if 0<s then idleB u 0 (slotI k) else 0:=by
   show kindN 4 (AuH.catTo (fun i=>(nowH H n K st).partsAt (A+i)) (s+e))=_
   by_cases h0:0<s
   ·rw[if_pos h0,qLh (i0:=0) _ qo (fun i hi hne=>qS0 (H:=nowH H n K st) (hr (A+i) qo qo qo))]
    show kindN 4 ((nowH H n K st).partsAt (A+0))=_
    rw[Nat.add_zero,qNz (hs h0).1,(hs h0).2.1,(hs h0).2.2.1,(hs h0).2.2.2]
   ·rw[if_neg h0]
    exact qN1 _ (fun i hi=>qS0 (H:=nowH H n K st) (hr (A+i) qo qo qo))
  rw[g2]
  omega
theorem AroundS.parts {p A la lr:Nat}(a:AroundS H p A la lr)(h4:H.cel p 4=0):blocksOf (AuH.catTo (fun i=>H.partsAt (A+i)) (la+1+lr)) = []/\kindN 4 (AuH.catTo (fun i=>H.partsAt (A+i)) (la+1+lr))=idleB (H.cel p 5) 0 (slotI (H.Cl p)):=by
 have hA:=a.ahead
 have hk:∀ i,i<la+1+lr->i≠la->H.K (A+i)=0\/H.K (A+i)=1:=fun i hi hne=>by
  rcases a.kinds (A+i) qo qo with ⟨h1,_⟩|⟨_,_,h1⟩|⟨_,_,h1⟩|⟨h1,_⟩
  ·omega
  ·exact .inr h1
  ·exact .inr h1
  ·exact .inl h1
 refine⟨qRe _ fun i hi=>?_,?_⟩
 ·by_cases e1:i=la
  ·show blocksOf (H.partsAt (A+i)) = []
   rw[e1,hA]
   exact qV3 a.slab h4
  ·exact qSQ (hk i hi e1)
 ·rw[qLh (i0:=la) _ qo (fun i hi hne=>qS0 (hk i hi hne))]
  show kindN 4 (H.partsAt (A+la))=_
  rw[hA,qNz a.slab,h4]
end
end
section
section
variable (n : Nat) (K : Nat -> Option Nat) (t q s : Int)
def backS (k:Int) (p u:Nat) (full:Bool) (st:Vst):Vst :=
 if full=true then pushI n K t q s (13+k) p (putS n st (pageI t q s p 5) u) else putS n st (pageI t q s p 5) u
end
section
variable {t P s n : Nat} {K : Nat -> Option Nat} {st : Vst} {L : Nat -> List Nat} {g : Nat -> Nat} {p u : Nat} {k : Int}
theorem Work.back (W:Work t P s n K st L g)(hf:Fit t P s n)(hp:p<P)(k0:0<=k)(k8:k<=8){full:Bool}(hno:full=true->∀ x:Nat,2<=x->x<=21->¬ p∈L x) :
  ∃ L',Work t P s n K (backS n K t P s k p u full st) L' (updF g (pc t p 5) u)/\∀ x:Nat,2<=x->x<=21->∀ y,y∈L' x↔y∈L x\/(full=true/\y=p/\((x:Nat):Int)=13+k):=by
 have hlen:=hf.len
 have eh:13+k=((13+k.toNat:Nat):Int):=qo
 have W1:=W.put (i:=pc t p 5) (by unfold pc;omega) (qXR qo qo qo) u
 unfold backS
 rw[hf.taken hp]
 cases full with
 | false =>
  rw[if_neg (by simp)]
  exact⟨L,W1,fun x _ _ y=>by simp⟩
 | true =>
  rw[if_pos rfl]
  obtain⟨L',W2,m⟩:=W1.push hf (hd:=13+k.toNat) qo qo hp (hno rfl)
  refine⟨L',by rw[eh];exact W2,fun x a2 a21 y=>?_⟩
  rw[m x a2 a21 y]
  constructor
  ·rintro (h|⟨h1,h2⟩)
   ·exact .inl h
   ·exact .inr ⟨rfl,h1,qo⟩
  ·rintro (h|⟨_,h1,h2⟩)
   ·exact .inl h
   ·exact .inr ⟨h1,qo⟩
end
section
variable {H : AuH} {n c : Nat} {K : Nat -> Option Nat} {st : Vst} {L L' : Nat -> List Nat} {p u : Nat}
theorem qPL (h:H.Ok L)(hp:p<H.p)(hk:H.K p=3)(hu0:u≠0)(hu:u<2^slotI (H.Cl p))(hs:SubB (H.cel p 4) u)
  (hm:∀ hd:Nat,2<=hd->hd<=21->∀ y,y∈L' hd↔(y∈L hd/\y≠p)\/(y=p/\u≠2^slotI (H.Cl p)-1/\((hd:Nat):Int)=13+H.Cl p)) :
  SlabG H (updF H.V (pc H.t p 5) u) L L' p u where
 at_:=hp
 kind:=hk
 some_:=hu0
 lim:=hu
 sub:=hs
 taken:=qJR _ _ rfl
 cells:=fun q b hq hb h2 h3 h4=>by rw[qB0 _ _ qo hb qo];rfl
 low:=fun i hi=>qKp _ _ qo
 mem:=hm
theorem qC3 (h:H.Ok L)(hp:p<H.p)(hk:H.K p=3){hd:Nat}(h2:2<=hd)(h21:hd<=21):p∈L hd↔H.cel p 5≠2^slotI (H.Cl p)-1/\((hd:Nat):Int)=13+H.Cl p:=by
 rw[h.mem hd h2 h21 p]
 by_cases hf:H.cel p 5=2^slotI (H.Cl p)-1
 ·rw[AuH.tgt_full hk hf]
  constructor
  ·rintro ⟨_,x⟩;omega
  ·rintro ⟨x,_⟩;exact absurd hf x
 ·rw[AuH.tgt_slab hk hf]
  constructor
  ·rintro ⟨_,x⟩;exact⟨hf,qo⟩
  ·rintro ⟨_,x⟩;exact⟨hp,qo⟩
theorem qMe (hk:H.K p=3):0<=H.Cl p/\H.Cl p<=8:=by have:=H.K_cases p;omega
theorem qVY (HV:HeapV H n c)(h:H.Ok L)(W:Work H.t H.p H.s n K st L H.V)(hp:p<H.p)(hk:H.K p=3)(hu0:u≠0)(hu:u<2^slotI (H.Cl p))(hs:SubB (H.cel p 4) u)(hlt:u≠2^slotI (H.Cl p)-1) :
  ∃ L',Work H.t H.p H.s n K (backS n K H.t H.p H.s (H.Cl p) p u (decide (H.cel p 5=2^slotI (H.Cl p)-1)) st) L' (updF H.V (pc H.t p 5) u)/\SlabG H (updF H.V (pc H.t p 5) u) L L' p u:=by
 obtain⟨k0,k8⟩:=qMe hk
 obtain⟨L',W',m⟩:=W.back HV.fit (u:=u) hp k0 k8 (full:=decide (H.cel p 5=2^slotI (H.Cl p)-1)) (fun hf x a2 a21 hx=>((qC3 h hp hk a2 a21).1 hx).1 (by simpa using hf))
 refine⟨L',W',qPL h hp hk hu0 hu hs fun hd a2 a21 y=>?_⟩
 rw[m hd a2 a21 y]
 simp only[decide_eq_true_eq]
 by_cases e:y=p
 ·subst e
  rw[qC3 h hp hk a2 a21]
  constructor
  ·rintro (b1|⟨_,_,b2⟩)
   ·exact .inr ⟨rfl,hlt,b1.2⟩
   ·exact .inr ⟨rfl,hlt,b2⟩
  ·rintro (b1|⟨_,_,b3⟩)
   ·exact absurd rfl b1.2
   ·by_cases hf:H.cel y 5=2^slotI (H.Cl y)-1
    ·exact .inr ⟨hf,rfl,b3⟩
    ·exact .inl ⟨hf,b3⟩
 ·constructor
  ·rintro (b1|b1)
   ·exact .inl ⟨b1,e⟩
   ·exact absurd b1.2.1 e
  ·rintro (b1|b1)
   ·exact .inl b1.1
   ·exact absurd b1.1 e
end
end
section
def layB (t:Nat) (l:List Nat):Nat:=l.foldl (fun u i=>u ||| 2^i) t
theorem qF3 (i j:Nat):(2^i).testBit j=decide (j=i):=by
 rw[Nat.testBit_two_pow]
 by_cases h:i=j
 ·rw[decide_eq_true h,decide_eq_true h.symm]
 ·rw[decide_eq_false h,decide_eq_false (fun e=>h e.symm)]
theorem qII (j:Nat):∀ (l:List Nat) (t:Nat),(layB t l).testBit j=(t.testBit j || decide (j∈l))
 | [],t=>by simp[layB]
 | i :: l,t=>by
  show (layB (t ||| 2^i) l).testBit j=_
  rw[qII j l,Nat.testBit_or,qF3,Bool.or_assoc]
  congr 1
  simp[List.mem_cons]
theorem qJE {m:Nat}:∀ (l:List Nat) (t:Nat),t<2^m->(∀ i∈l,i<m)->layB t l<2^m
 | [],t,h,_=>h
 | i :: l,t,h,hl=>qJE l _ (Nat.or_lt_two_pow h (Nat.pow_lt_pow_right qo (hl i (by simp)))) (fun j hj=>hl j (by simp[hj]))
def someF (t m w:Nat):List Nat:=(HM.freeTo t m).take w
theorem qDT {u t v:Nat}:∀ m,(∀ j,j<m->t.testBit j=u.testBit j)->idleB t v m=idleB u v m
 | 0,_=>rfl
 | m+1,h=>by
  show idleB t v m+_=idleB u v m+_
  rw[qDT m (fun j hj=>h j qo),h m qo]
theorem qJa {u t v i:Nat}(hu:u.testBit i=false)(hv:v.testBit i=false):∀ m,i<m->(∀ j,j<m->t.testBit j=(u.testBit j || decide (j=i)))->idleB t v m=idleB u v m+1
 | 0,h,_=>by omega
 | m+1,hi,h=>by
  show idleB t v m+_=idleB u v m+_+1
  rw[h m qo]
  rcases Nat.lt_or_ge i m with h1|h1
  ·rw[qJa hu hv m h1 (fun j hj=>h j qo),qf,Bool.or_false]
   omega
  ·obtain rfl:i=m:=qo
   rw[qDT (u:=u) (t:=t) i (fun j hj=>by rw[h j qo,qf,Bool.or_false]),decide_eq_true rfl,Bool.or_true,hu,if_pos ⟨rfl,hv⟩,if_neg (by simp)]
theorem qB3 {u t i:Nat}(hu:u.testBit i=false):∀ m,i<m->(∀ j,j<m->t.testBit j=(u.testBit j || decide (j=i)))->HM.onesTo t m=HM.onesTo u m+1
 | 0,h,_=>by omega
 | m+1,hi,h=>by
  rw[HM.onesTo_succ,HM.onesTo_succ,h m qo]
  rcases Nat.lt_or_ge i m with h1|h1
  ·rw[qB3 hu m h1 (fun j hj=>h j qo),qf,Bool.or_false]
   omega
  ·obtain rfl:i=m:=qo
   have e:∀ k,k<=i->HM.onesTo t k=HM.onesTo u k:=fun k=>by
    induction k with
    | zero=>intro _;rfl
    | succ k ih=>intro hk;rw[HM.onesTo_succ,HM.onesTo_succ,ih qo,h k qo,qf,Bool.or_false]
   rw[e i (Nat.le_refl _),decide_eq_true rfl,Bool.or_true,hu]
   simp
theorem qW5 {u:Nat}:∀ m,u<2^m->(HM.onesTo u m=0↔u=0):=fun m hm=>by
 constructor
 ·intro h
  apply Nat.eq_of_testBit_eq
  intro j
  rw[Nat.zero_testBit]
  rcases Nat.lt_or_ge j m with h1|h1
  ·cases hb:u.testBit j
   ·rfl
   ·exfalso
    unfold HM.onesTo at h
    have:j∈(List.range m).filter fun i=>u.testBit i:=List.mem_filter.2 ⟨List.mem_range.2 h1,hb⟩
    rw[List.length_eq_zero_iff.1 h] at this
    cases this
  ·exact Nat.testBit_lt_two_pow (Nat.lt_of_lt_of_le hm (Nat.pow_le_pow_right qo h1))
 ·rintro rfl
  unfold HM.onesTo
  simp
end
section
def pkA (parts:List (Int × Int × Int)) (z:Int):List Int:=(parts.filter fun x=>decide (x.1=4)&&decide (x.2.2=z)).map fun x=>x.2.1
structure FitsP (parts:List (Int × Int × Int)) (sz:Nat->Int) (T:Nat) (Z:Nat->Nat->List Int):Prop where
 few:∀ k,k<9->∀ t,t<T->(Z t k).length<=4
 perm:∀ k,k<9->(haveT Z k T).Perm (pkA parts (sz k))
theorem qYJ:∀ {ps l:List Int},ps.Nodup->(∀ a∈ps,l.count a=1)->∃ r,l.Perm (ps++r)
 | [],l,_,_=>⟨l,List.Perm.refl _⟩
 | a :: ps,l,hn,h=>by
  have hn':=List.nodup_cons.1 hn
  have ha:a∈l:=List.count_pos_iff.1 (by rw[h a (List.mem_cons_self ..)];omega)
  have e1:l.Perm (a :: l.erase a):=List.perm_cons_erase ha
  obtain⟨r,hr⟩:=qYJ (ps:=ps) (l:=l.erase a) hn'.2 (fun b hb=>by
   have hne:b≠a:=fun e=>hn'.1 (e ▸ hb)
   have h1:=h b (List.mem_cons_of_mem _ hb)
   rw[e1.count_eq b,List.count_cons] at h1
   simpa [Ne.symm hne] using h1)
  exact⟨r,e1.trans (hr.cons a)⟩
theorem qAs {ps l:List Int}(hn:ps.Nodup)(h:∀ a∈ps,l.count a=1):ps.length<=l.length/\(l.length=ps.length->l.Perm ps):=by
 obtain⟨r,hr⟩:=qYJ hn h
 have h1:=hr.length_eq
 rw[List.length_append] at h1
 refine⟨qo,fun e=>?_⟩
 have h2:r = []:=List.length_eq_zero_iff.1 qo
 rw[h2,List.append_nil] at hr
 exact hr
def overN (parts:List (Int × Int × Int)) (sz:Nat->Int) (T:Nat) (Z:Nat->Nat->List Int):Nat->Int
 | 0=>0
 | j+1=>overN parts sz T Z j+((haveT Z j T).length:Int)-((pkA parts (sz j)).length:Int)
def OnceP (parts:List (Int × Int × Int)) (sz:Nat->Int) (T:Nat) (Z:Nat->Nat->List Int) (k:Nat):Prop :=
 (∀ t,t<T->(Z t k).length<=4)/\∀ a∈pkA parts (sz k),(haveT Z k T).count a=1
section
variable {parts : List (Int × Int × Int)} {sz : Nat -> Int} {T : Nat} {Z : Nat -> Nat -> List Int}
theorem qP3 (hn:∀ k,k<9->(pkA parts (sz k)).Nodup)(h:∀ k,k<9->OnceP parts sz T Z k):∀ j,j<=9->0<=overN parts sz T Z j/\(overN parts sz T Z j=0->∀ k,k<j->(haveT Z k T).Perm (pkA parts (sz k)))
 | 0,_=>⟨Int.le_refl _,fun _ k hk=>absurd hk (Nat.not_lt_zero _)⟩
 | j+1,hj=>by
  obtain⟨h1,h2⟩:=qP3 hn h j qo
  obtain⟨h3,h4⟩:=qAs (hn j qo) (h j qo).2
  refine⟨by unfold overN;omega,fun e k hk=>?_⟩
  unfold overN at e
  by_cases hkj:k=j
  ·subst hkj;exact h4 qo
  ·exact h2 qo k qo
theorem qWH (hn:∀ k,k<9->(pkA parts (sz k)).Nodup):((∀ k,k<9->OnceP parts sz T Z k)/\overN parts sz T Z 9=0)↔FitsP parts sz T Z:=by
 constructor
 ·intro ⟨h,h0⟩
  exact⟨fun k hk=>(h k hk).1,(qP3 hn h 9 (Nat.le_refl _)).2 h0⟩
 ·intro h
  have h1:∀ k,k<9->OnceP parts sz T Z k:=fun k hk=>⟨h.few k hk,fun a ha=>by
   rw[(h.perm k hk).count_eq a]
   rw[(hn k hk).count,if_pos ha]⟩
  refine⟨h1,?_⟩
  have:∀ j,j<=9->overN parts sz T Z j=0:=fun j=>by
   induction j with
   | zero=>intro _;rfl
   | succ j ih =>
    intro hj
    unfold overN
    rw[ih qo,(h.perm j qo).length_eq]
    omega
  exact this 9 (Nat.le_refl _)
end
theorem qUi:∀ {l:List (Int × Int × Int)} {a b:Int},Contig a l b->(∀ x∈l,a<=x.2.1)/\(l.map fun x=>x.2.1).Nodup
 | [],a,b,h=>⟨fun x hx=>by simp at hx,List.nodup_nil⟩
 | x :: l,a,b,h=>by
  obtain⟨⟨h1,h2,_,_⟩,h3⟩:=h
  obtain⟨g1,g2⟩:=qUi h3
  refine⟨fun y hy=>?_,?_⟩
  ·rcases List.mem_cons.1 hy with rfl|hy
   ·omega
   ·have:=g1 y hy;omega
  ·rw[List.map_cons]
   refine List.nodup_cons.2 ⟨fun hm=>?_,g2⟩
   obtain⟨y,hy,e⟩:=List.mem_map.1 hm
   have:=g1 y hy
   omega
theorem qEy {l:List (Int × Int × Int)}{a b:Int}(h:Contig a l b)(z:Int):(pkA l z).Nodup:=by
 unfold pkA
 exact(qUi h).2.sublist (List.filter_sublist.map _)
end
section
theorem qOi {l:List (Int × Int × Int)}{z a:Int}:a∈pkA l z ↔ ∃ x∈l,x.1=4/\x.2.2=z/\x.2.1=a:=by
 unfold pkA
 simp only[List.mem_map,List.mem_filter,Bool.and_eq_true,decide_eq_true_eq]
 constructor
 ·rintro ⟨x,⟨h1,h2,h3⟩,h4⟩;exact⟨x,h1,h2,h3,h4⟩
 ·rintro ⟨x,h1,h2,h3,h4⟩;exact⟨x,⟨h1,h2,h3⟩,h4⟩
theorem mem_catTo {α:Type}{f:Nat->List α}{x:α}:∀ {n:Nat},x∈AuH.catTo f n ↔ ∃ i,i<n/\x∈f i
 | 0=>by simp[AuH.catTo]
 | n+1=>by
  show x∈AuH.catTo f n++f n↔_
  rw[List.mem_append,mem_catTo]
  constructor
  ·rintro (⟨i,h1,h2⟩|h)
   ·exact⟨i,qo,h2⟩
   ·exact⟨n,qo,h⟩
  ·rintro ⟨i,h1,h2⟩
   by_cases h:i=n
   ·subst h;exact .inr h2
   ·exact .inl ⟨i,qo,h2⟩
def AuH.hand (H:AuH) (q i:Nat):Prop:=q<H.p/\H.K q=3/\i<slotI (H.Cl q)/\(H.cel q 5).testBit i=true/\(H.cel q 4).testBit i=false
def AuH.slotA (H:AuH) (q i:Nat):Int:=H.first q+(i:Int)*(H.zs q:Int)
section
variable {H H' : AuH}
theorem mem_pkA {z a:Int}:a∈pkA H.parts z ↔ ∃ q i,H.hand q i/\(H.zs q:Int)=z/\H.slotA q i=a:=by
 rw[qOi]
 unfold AuH.parts
 constructor
 ·rintro ⟨x,hx,h4,hz,ha⟩
  obtain⟨q,hq,hx⟩:=mem_catTo.1 hx
  unfold AuH.partsAt at hx
  split at hx
  ·rw[List.mem_singleton] at hx;subst hx;exact absurd (show (1:Int)=4 from h4) (by decide)
  ·split at hx
   ·rw[List.mem_singleton] at hx;subst hx;exact absurd (show (2:Int)=4 from h4) (by decide)
   ·split at hx
    ·rename_i hk
     rcases List.mem_append.1 hx with hx|hx
     ·unfold AuH.slotsTo at hx
      obtain⟨i,hi,rfl⟩:=List.mem_map.1 hx
      rw[List.mem_range] at hi
      have h5:slotKd (H.cel q 5) (H.cel q 4) i=4:=by
       have:((slotKd (H.cel q 5) (H.cel q 4) i:Nat):Int)=4:=h4
       omega
      obtain⟨h6,h7⟩:=(qHe (H.cel q 5) (H.cel q 4) i).2.1 h5
      exact⟨q,i,⟨hq,hk,hi,h6,h7⟩,hz,ha⟩
     ·unfold AuH.slack at hx
      split at hx
      ·rw[List.mem_singleton] at hx;subst hx;exact absurd (show (5:Int)=4 from h4) (by decide)
      ·simp at hx
    ·simp at hx
 ·rintro ⟨q,i,⟨hq,hk,hi,h6,h7⟩,hz,ha⟩
  refine⟨H.slotPart q i,mem_catTo.2 ⟨q,hq,?_⟩,?_,hz,ha⟩
  ·unfold AuH.partsAt
   rw[if_neg qo,if_neg qo,if_pos hk]
   exact List.mem_append_left _ (List.mem_map.2 ⟨i,List.mem_range.2 hi,rfl⟩)
  ·show ((slotKd (H.cel q 5) (H.cel q 4) i:Nat):Int)=4
   rw[(qHe (H.cel q 5) (H.cel q 4) i).2.2 ⟨h6,h7⟩]
   rfl
theorem qWR {s:Int}(h:10<=s/\s<=20):∀ {k j:Nat},j<k->k<9->sizeN s (j:Int)<sizeN s (k:Int)
 | 0,j,hj,_=>absurd hj (Nat.not_lt_zero _)
 | k+1,j,hj,hk=>by
  have h1:=(qRy h hk).2.2.2.2.2 qo
  rw[Nat.add_sub_cancel] at h1
  by_cases e:j=k
  ·subst e;exact h1
  ·exact Nat.lt_trans (qWR h qo qo) h1
theorem qAj {s:Int}(h:10<=s/\s<=20){k j:Int}(hk:0<=k/\k<=8)(hj:0<=j/\j<=8)(e:sizeN s k=sizeN s j):k=j:=by
 obtain⟨a,rfl⟩:=Int.eq_ofNat_of_zero_le hk.1
 obtain⟨b,rfl⟩:=Int.eq_ofNat_of_zero_le hj.1
 rcases Nat.lt_trichotomy a b with h1|h1|h1
 ·have:=qWR h h1 qo;omega
 ·omega
 ·have:=qWR h h1 qo;omega
theorem qOq {l m:List Int}(hl:l.Nodup)(hm:m.Nodup)(h:∀ a,a∈l↔a∈m):l.Perm m:=by
 rw[List.perm_iff_count]
 intro a
 rw[hl.count,hm.count]
 by_cases e:a∈l
 ·rw[if_pos e,if_pos ((h a).1 e)]
 ·rw[if_neg e,if_neg (fun x=>e ((h a).2 x))]
end
end
section
structure HandG (H H':AuH) (P:Nat->Nat->Prop):Prop where
 hand:∀ q i,H'.hand q i↔P q i
 cls:∀ q,q<H.p->H.K q=3->H'.K q=3->H'.Cl q=H.Cl q/\H'.cel q 4=H.cel q 4
section
variable {H : AuH} {n c : Nat} {K : Nat -> Option Nat} {st : Vst} {L L' : Nat -> List Nat} {g : Nat -> Nat} {p u : Nat}
theorem qUt (HV:HeapV H n c)(W:Work H.t H.p H.s n K st L' g)(S:SlabG H g L L' p u) :
  HandG H (nowH H n K st) (fun q i=>(q≠p/\H.hand q i)\/(q=p/\i<slotI (H.Cl p)/\u.testBit i=true/\(H.cel p 4).testBit i=false)):=by
 have hlen:=HV.len
 have hp:=S.at_
 have hc:∀ q b,q<H.p->b<6->b≠2->b≠3->¬ (q=p/\b=5)->(nowH H n K st).cel q b=H.cel q b:=fun q b hq hb h2 h3 hne=>(W.cel hlen hq hb h2 h3).trans (S.cells q b hq hb h2 h3 hne)
 have eK:∀ q,q<H.p->(nowH H n K st).K q=H.K q:=fun q hq=>by unfold AuH.K;rw[hc q 0 hq qo qo qo qo]
 have eC:∀ q,q<H.p->(nowH H n K st).Cl q=H.Cl q:=fun q hq=>by unfold AuH.Cl;rw[hc q 0 hq qo qo qo qo]
 have e5:(nowH H n K st).cel p 5=u:=(W.cel hlen hp (b:=5) qo qo qo).trans S.taken
 refine⟨fun q i=>?_,fun q hq _ _=>⟨eC q hq,hc q 4 hq qo qo qo qo⟩⟩
 constructor
 ·rintro ⟨a1,a2,a3,a4,a5⟩
  have a1:q<H.p:=a1
  rw[eK q a1] at a2
  rw[eC q a1] at a3
  rw[hc q 4 a1 qo qo qo qo] at a5
  by_cases e:q=p
  ·subst e
   rw[e5] at a4
   exact .inr ⟨rfl,a3,a4,a5⟩
  ·rw[hc q 5 a1 qo qo qo qo] at a4
   exact .inl ⟨e,a1,a2,a3,a4,a5⟩
 ·rintro (⟨e,a1,a2,a3,a4,a5⟩|⟨rfl,a3,a4,a5⟩)
  ·exact⟨a1,by rw[eK q a1];exact a2,by rw[eC q a1];exact a3,by rw[hc q 5 a1 qo qo qo qo];exact a4,by rw[hc q 4 a1 qo qo qo qo];exact a5⟩
  ·exact⟨hp,by rw[eK q hp];exact S.kind,by rw[eC q hp];exact a3,by rw[e5];exact a4,by rw[hc q 4 hp qo qo qo qo];exact a5⟩
end
section
variable {H : AuH} {n c : Nat} {K : Nat -> Option Nat} {st : Vst} {L L' : Nat -> List Nat} {g : Nat -> Nat} {A s e u : Nat} {k : Int}
theorem qSq (HV:HeapV H n c)(h:H.Ok L)(W:Work H.t H.p H.s n K st L' g)(R:AnewG H g L L' A s e k u)(hold:blocksOf (AuH.catTo (fun i=>H.partsAt (A+i)) (s+e)) = [])
  (hk:∀ q,A<=q->q<A+s+e->H.K q=3->¬ (0<s/\q=A)) :
  HandG H (nowH H n K st) (fun q i=>(¬ (A<=q/\q<A+s+e)/\H.hand q i)\/(0<s/\q=A/\i<slotI k/\u.testBit i=true)):=by
 have hlen:=HV.len
 have hP:=HV.fit.nums
 have hw:=R.whole.le
 have hone:=R.one
 obtain⟨_,_,_,_,_,hs,_⟩:=qCr HV h W R hold
 have hc:∀ q b,q<H.p->b<6->b≠2->b≠3->(nowH H n K st).cel q b=g (pc H.t q b):=fun q b hq hb h2 h3=>W.cel hlen hq hb h2 h3
 have hin:∀ q,A<=q->q<A+s+e->¬ (0<s/\q=A)->(nowH H n K st).K q≠3:=fun q a1 a2 a3=>by
  by_cases b:0<e/\q=A+s
  ·obtain⟨b1,rfl⟩:=b
   have:(nowH H n K st).K (A+s)=1:=by
    unfold AuH.K
    rw[hc (A+s) 0 qo qo qo qo,R.rest b1,qQt b1 qo]
   omega
  ·have:=((nowH H n K st).K_zero q (by rw[hc q 0 qo qo qo qo];exact R.blank q a1 a2 a3 b)).1
   omega
 have ho:∀ q,q<H.p->¬ (A<=q/\q<A+s+e)->(nowH H n K st).cel q 0=H.cel q 0/\(nowH H n K st).cel q 4=H.cel q 4/\(nowH H n K st).cel q 5=H.cel q 5:=fun q hq hne =>
  ⟨(hc q 0 hq qo qo qo).trans (R.infos q hq hne),(hc q 4 hq qo qo qo).trans (R.bits q hq hne).1,(hc q 5 hq qo qo qo).trans (R.bits q hq hne).2⟩
 refine⟨fun q i=>?_,fun q hq h3 h3'=>?_⟩
 ·constructor
  ·rintro ⟨a1,a2,a3,a4,a5⟩
   have a1:q<H.p:=a1
   by_cases hi:A<=q/\q<A+s+e
   ·by_cases b:0<s/\q=A
    ·obtain⟨b1,rfl⟩:=b
     obtain⟨c1,c2,c3,c4⟩:=hs b1
     exact .inr ⟨b1,rfl,by rw[<- c2];exact a3,by rw[<- c3];exact a4⟩
    ·exact absurd a2 (hin q hi.1 hi.2 b)
   ·obtain⟨b0,b4,b5⟩:=ho q a1 hi
    unfold AuH.K at a2
    unfold AuH.Cl at a3
    rw[b0] at a2 a3
    exact .inl ⟨hi,a1,a2,a3,by rw[<- b5];exact a4,by rw[<- b4];exact a5⟩
  ·rintro (⟨hi,a1,a2,a3,a4,a5⟩|⟨b1,rfl,a3,a4⟩)
   ·obtain⟨b0,b4,b5⟩:=ho q a1 hi
    unfold AuH.K at a2
    unfold AuH.Cl at a3
    rw[<- b0] at a2 a3
    exact⟨a1,a2,a3,by rw[b5];exact a4,by rw[b4];exact a5⟩
   ·obtain⟨c1,c2,c3,c4⟩:=hs b1
    exact⟨by show q<H.p;omega,c1,by rw[c2];exact a3,by rw[c3];exact a4,by rw[c4];exact Nat.zero_testBit i⟩
 ·by_cases hi:A<=q/\q<A+s+e
  ·exact absurd h3' (hin q hi.1 hi.2 (hk q hi.1 hi.2 h3))
  ·obtain⟨b0,b4,_⟩:=ho q hq hi
   exact⟨by unfold AuH.Cl;rw[b0],b4⟩
end
end
section
section
variable {H : AuH} {n c : Nat} {K : Nat -> Option Nat} {st st' : Vst} {L L' : Nat -> List Nat} {g : Nat -> Nat}
theorem qVa (h:H.Ok L){p:Nat}(hp:p<H.p)(hk:H.K p=3):H.cel p 5≠0/\H.cel p 5<2^slotI (H.Cl p)/\SubB (H.cel p 4) (H.cel p 5):=(h.slots p hp).1 hk
end
end
section
section
variable {H : AuH} {n c : Nat} {K : Nat -> Option Nat} {st st' : Vst} {L L' : Nat -> List Nat} {g : Nat -> Nat}
structure GivenBack (H:AuH) (n:Nat) (K:Nat->Option Nat) (st:Vst) (L:Nat->List Nat) (p s:Nat):Prop where
 ok:(nowH H n K st).Ok L
 roots:∀ i,i<8->(nowH H n K st).V (22+i)=H.V (22+i)
 live:(nowH H n K st).V 1=H.V 1
 blocks:blocksOf (nowH H n K st).parts=blocksOf H.parts
 less:kindN 4 (nowH H n K st).parts+1=kindN 4 H.parts
 left:(HM.onesTo (H.cel p 5) 32=1/\(nowH H n K st).K p≠3/\(nowH H n K st).V 0=H.V 0+1) \/
  (HM.onesTo (H.cel p 5) 32≠1/\(nowH H n K st).K p=3/\(nowH H n K st).V 0=H.V 0/\((nowH H n K st).cel p 5).testBit s=false)
 hand:∀ q i,H.hand q i↔(nowH H n K st).hand q i\/(q=p/\i=s)
 gone:¬ (nowH H n K st).hand p s
 cls_:∀ q,q<H.p->H.K q=3->(nowH H n K st).K q=3->(nowH H n K st).Cl q=H.Cl q/\(nowH H n K st).cel q 4=H.cel q 4
structure Off (H:AuH) (p s u:Nat):Prop where
 at_:p<H.p
 kind:H.K p=3
 taken:(H.cel p 5).testBit s=true
 idle:(H.cel p 4).testBit s=false
 bits:∀ j,u.testBit j=((H.cel p 5).testBit j && !decide (j=s))
theorem Off.slot {p s u:Nat}(o:Off H p s u)(h:H.Ok L):s<slotI (H.Cl p)/\slotI (H.Cl p)<=32:=by
 obtain⟨_,b1,_⟩:=qVa h o.at_ o.kind
 refine⟨?_,qWU _⟩
 rcases Nat.lt_or_ge s (slotI (H.Cl p)) with h1|h1
 ·exact h1
 ·have:=Nat.testBit_lt_two_pow (Nat.lt_of_lt_of_le b1 (Nat.pow_le_pow_right qo h1))
  rw[o.taken] at this
  cases this
theorem Off.lim {p s u:Nat}(o:Off H p s u)(h:H.Ok L):u<2^slotI (H.Cl p):=by
 obtain⟨_,b1,_⟩:=qVa h o.at_ o.kind
 refine Nat.lt_pow_two_of_testBit _ fun j hj=>?_
 rw[o.bits,Nat.testBit_lt_two_pow (Nat.lt_of_lt_of_le b1 (Nat.pow_le_pow_right qo hj))]
 rfl
theorem Off.on {p s u:Nat}(o:Off H p s u):u.testBit s=false/\∀ j,(H.cel p 5).testBit j=(u.testBit j || decide (j=s)):=by
 refine⟨by rw[o.bits,decide_eq_true rfl];simp,fun j=>?_⟩
 rw[o.bits]
 by_cases e:j=s
 ·rw[e,o.taken];simp
 ·rw[decide_eq_false e];simp
theorem Off.ones {p s u:Nat}(o:Off H p s u)(h:H.Ok L):HM.onesTo (H.cel p 5) 32=1↔u=0:=by
 obtain⟨a1,a2⟩:=o.slot h
 have h1:=qB3 o.on.1 32 qo (fun j _=>o.on.2 j)
 have h2:=qW5 (u:=u) 32 (Nat.lt_of_lt_of_le (o.lim h) (Nat.pow_le_pow_right qo a2))
 omega
theorem Off.less {p s u:Nat}(o:Off H p s u)(h:H.Ok L):idleB (H.cel p 5) (H.cel p 4) (slotI (H.Cl p))=idleB u (H.cel p 4) (slotI (H.Cl p))+1 :=
 qJa o.on.1 o.idle _ (o.slot h).1 (fun j _=>o.on.2 j)
theorem qXY (HV:HeapV H n c)(h:H.Ok L)(W:Work H.t H.p H.s n K st L H.V){p s u:Nat}(o:Off H p s u)(hu:u≠0) :
  ∃ L',Work H.t H.p H.s n K (backS n K H.t H.p H.s (H.Cl p) p u (decide (H.cel p 5=2^slotI (H.Cl p)-1)) st) L' (updF H.V (pc H.t p 5) u) /\
   GivenBack H n K (backS n K H.t H.p H.s (H.Cl p) p u (decide (H.cel p 5=2^slotI (H.Cl p)-1)) st) L' p s:=by
 obtain⟨b0,b1,b2⟩:=qVa h o.at_ o.kind
 have hsub:SubB (H.cel p 4) u:=fun j hj hb=>by
  rw[o.bits,b2 j hj hb]
  have:j≠s:=fun e=>by rw[e,o.idle] at hb;cases hb
  simp[this]
 have hlt:u≠2^slotI (H.Cl p)-1:=fun e=>by
  have h1:=o.on.1
  rw[e,Nat.testBit_two_pow_sub_one,decide_eq_true (o.slot h).1] at h1
  cases h1
 obtain⟨L',W',S⟩:=qVY HV h W o.at_ o.kind hu (o.lim h) hsub hlt
 obtain⟨d1,d2,d3,d4,d5,d6,d7,d8,d9,d10⟩:=qWF HV h W' S
 have hl:=o.less h
 obtain⟨k1,k2⟩:=qUt HV W' S
 have hgone:¬ (nowH H n K (backS n K H.t H.p H.s (H.Cl p) p u (decide (H.cel p 5=2^slotI (H.Cl p)-1)) st)).hand p s:=fun hx=>by
  rcases(k1 p s).1 hx with ⟨e,_⟩|⟨_,_,e,_⟩
  ·exact e rfl
  ·rw[o.on.1] at e;cases e
 refine⟨L',W',d1,d2,d4,d5,qo,.inr ⟨fun e=>hu ((o.ones h).1 e),d6,d3,?_⟩,fun q i=>?_,hgone,k2⟩
 ·rw[d8];exact o.on.1
 ·rw[k1]
  constructor
  ·intro hq
   by_cases e:q=p
   ·subst e
    by_cases ei:i=s
    ·exact .inr ⟨rfl,ei⟩
    ·exact .inl (.inr ⟨rfl,hq.2.2.1,by rw[o.bits,hq.2.2.2.1,decide_eq_false ei];rfl,hq.2.2.2.2⟩)
   ·exact .inl (.inl ⟨e,hq⟩)
  ·rintro ((⟨_,hq⟩|⟨rfl,a3,a4,a5⟩)|⟨rfl,rfl⟩)
   ·exact hq
   ·rw[o.bits,Bool.and_eq_true] at a4
    exact⟨o.at_,o.kind,a3,a4.1,a5⟩
   ·exact⟨o.at_,o.kind,(o.slot h).1,o.taken,o.idle⟩
theorem qX4 (HV:HeapV H n c)(h:H.Ok L)(W:Work H.t H.p H.s n K st L H.V){p s:Nat}(o:Off H p s 0) :
  ∃ L' g',Work H.t H.p H.s n K (emptyS n K H.t H.p H.s (H.Cl p) p (decide (H.cel p 5=2^slotI (H.Cl p)-1)) st) L' g' /\
   GivenBack H n K (emptyS n K H.t H.p H.s (H.Cl p) p (decide (H.cel p 5=2^slotI (H.Cl p)-1)) st) L' p s:=by
 have hlen:=HV.len
 obtain⟨b0,b1,b2⟩:=qVa h o.at_ o.kind
 have hp:=o.at_
 have h4:H.cel p 4=0:=by
  have hb:H.cel p 4<2^32:=HV.lt (pc H.t p 4) (by unfold pc;omega)
  apply Nat.eq_of_testBit_eq
  intro j
  rw[Nat.zero_testBit]
  rcases Nat.lt_or_ge j 32 with hj|hj
  ·cases hb4:(H.cel p 4).testBit j
   ·rfl
   ·exfalso
    have h5:=b2 j hj hb4
    rw[o.on.2 j,Nat.zero_testBit,Bool.false_or,decide_eq_true_eq] at h5
    rw[h5,o.idle] at hb4
    cases hb4
  ·exact Nat.testBit_lt_two_pow (Nat.lt_of_lt_of_le hb (Nat.pow_le_pow_right qo hj))
 obtain⟨L',g',A,la,lr,W',R,a,z1,z0⟩:=qGZ HV h W hp o.kind h4
 have hA:=a.ahead
 have hle:=a.le
 obtain⟨p1,p2⟩:=a.parts h4
 have p1':blocksOf (AuH.catTo (fun i=>H.partsAt (A+i)) (0+(la+1+lr))) = []:=by rw[Nat.zero_add];exact p1
 obtain⟨d1,d2,d3,d4,d5,_,d7⟩:=qCr HV h W' R p1'
 rw[Nat.zero_add,p2,if_neg qo] at d7
 have hl:=o.less h
 have hz:∀ v m,idleB 0 v m=0:=fun v m=>by
  induction m with
  | zero=>rfl
  | succ m ih=>show idleB 0 v m+_=0;rw[ih,Nat.zero_testBit];simp
 rw[hz,h4] at hl
 obtain⟨k1,k2⟩:=qSq HV h W' R p1' (fun q _ _ _ b=>by omega)
 have hkin:∀ q,A<=q->q<A+0+(la+1+lr)->q≠p->H.K q≠3:=fun q a1 a2 a3=>by
  rcases a.kinds q qo qo with ⟨h1,_⟩|⟨_,_,h1⟩|⟨_,_,h1⟩|⟨h1,_⟩
  ·exact absurd h1 a3
  ·omega
  ·omega
  ·omega
 have hnin:∀ q i,(nowH H n K (emptyS n K H.t H.p H.s (H.Cl p) p (decide (H.cel p 5=2^slotI (H.Cl p)-1)) st)).hand q i->¬ (A<=q/\q<A+0+(la+1+lr))/\H.hand q i:=fun q i hx=>by
  rcases(k1 q i).1 hx with e|⟨e,_⟩
  ·exact e
  ·omega
 have hgone:¬ (nowH H n K (emptyS n K H.t H.p H.s (H.Cl p) p (decide (H.cel p 5=2^slotI (H.Cl p)-1)) st)).hand p s:=fun hx=>(hnin p s hx).1 ⟨qo,qo⟩
 have hhand:∀ q i,H.hand q i↔(nowH H n K (emptyS n K H.t H.p H.s (H.Cl p) p (decide (H.cel p 5=2^slotI (H.Cl p)-1)) st)).hand q i\/(q=p/\i=s):=fun q i=>by
  constructor
  ·intro hq
   by_cases e:q=p
   ·subst e
    have h5:=hq.2.2.2.1
    rw[o.on.2 i,Nat.zero_testBit,Bool.false_or,decide_eq_true_eq] at h5
    exact .inr ⟨rfl,h5⟩
   ·exact .inl ((k1 q i).2 (.inl ⟨fun e2=>hkin q e2.1 e2.2 e hq.2.1,hq⟩))
  ·rintro (hq|⟨rfl,rfl⟩)
   ·exact(hnin q i hq).2
   ·exact⟨o.at_,o.kind,(o.slot h).1,o.taken,o.idle⟩
 refine⟨L',g',W',d1,d2,by rw[d4,z1],d5,qo,.inl ⟨(o.ones h).2 rfl,?_,by rw[d3,z0]⟩,hhand,hgone,k2⟩
 have e0:(nowH H n K (emptyS n K H.t H.p H.s (H.Cl p) p (decide (H.cel p 5=2^slotI (H.Cl p)-1)) st)).cel p 0=g' (pc H.t p 0):=W'.cel hlen hp qo qo qo
 by_cases hpA:p=A
 ·have:(nowH H n K (emptyS n K H.t H.p H.s (H.Cl p) p (decide (H.cel p 5=2^slotI (H.Cl p)-1)) st)).K p=1:=by
   unfold AuH.K
   rw[e0]
   have:=R.rest qo
   rw[Nat.add_zero,<- hpA] at this
   rw[this,qQt qo (by have:=HV.fit.nums;omega)]
  omega
 ·have:=((nowH H n K (emptyS n K H.t H.p H.s (H.Cl p) p (decide (H.cel p 5=2^slotI (H.Cl p)-1)) st)).K_zero p (by
   rw[e0]
   exact R.blank p qo qo qo qo)).1
  omega
end
end
section
def fullB (u:Nat) (k:Int):Bool:=decide (HM.onesTo u 32=slotI k)
theorem qUk {u:Nat}{k:Int}(hu:u<2^slotI k):fullB u k=decide (u=2^slotI k-1):=decide_eq_decide.2 (AuH.ones_full hu (qWU k))
def clrB (u i:Nat):Nat:=if u.testBit i=true then u-2^i else u
section
variable (n : Nat) (K : Nat -> Option Nat) (t q s : Int)
def pickAt (k:Int) (p w:Nat) (st:Vst):Option (Nat × List Nat) × Vst :=
 if someF (getV n K st (pageI t q s p 5)) (slotI k) w = [] then (none,getS n K st (pageI t q s p 5))
 else (some (p,someF (getV n K st (pageI t q s p 5)) (slotI k) w),bitsS n K t q s k p (layB (getV n K st (pageI t q s p 5)) (someF (getV n K st (pageI t q s p 5)) (slotI k) w)) (fullB (layB (getV n K st (pageI t q s p 5)) (someF (getV n K st (pageI t q s p 5)) (slotI k) w)) k) st)
def pickI (k:Int) (w:Nat) (st:Vst):Option (Nat × List Nat) × Vst :=
 if getV n K st (13+k)=0 then
  (match (takeI n K t q s 1 (getS n K st (13+k))).1 with
   | some p=>pickAt n K t q s k p w (slabS n K t q s k p (takeI n K t q s 1 (getS n K st (13+k))).2)
   | none=>(none,(takeI n K t q s 1 (getS n K st (13+k))).2))
 else pickAt n K t q s k (getV n K st (13+k)-1) w (getS n K st (13+k))
def giveAt (k:Int) (p i:Nat) (st:Vst):Vst :=
 if clrB (getV n K st (pageI t q s p 5)) i=0 then emptyS n K t q s k p (fullB (getV n K st (pageI t q s p 5)) k) (getS n K st (pageI t q s p 5))
 else backS n K t q s k p (clrB (getV n K st (pageI t q s p 5)) i) (fullB (getV n K st (pageI t q s p 5)) k) (getS n K st (pageI t q s p 5))
def giveS (p i:Nat) (st:Vst):Vst:=giveAt n K t q s (infoOf n K t q s p st).2.2.1 p i (getS n K st (pageI t q s p 0))
def pickP (x:Option (Nat × List Nat)):Int:=match x with
 | some (p,_)=>(p:Int)
 | none => -1
def pickL (x:Option (Nat × List Nat)):List Nat:=match x with
 | some (_,l)=>l
 | none => []
end
section
variable {n : Nat} {K : Nat -> Option Nat} {t q s : Int} {st s1 : Vst} {k : Int} {p w v : Nat}
theorem qQq (hv:getV n K st (pageI t q s p 5)=v)(h:someF v (slotI k) w = []):pickAt n K t q s k p w st=(none,getS n K st (pageI t q s p 5)):=by
 subst hv
 unfold pickAt
 rw[if_pos h]
theorem qTY (hv:getV n K st (pageI t q s p 5)=v){l:List Nat}(hl:someF v (slotI k) w=l)(h:l ≠ []):pickAt n K t q s k p w st=(some (p,l),bitsS n K t q s k p (layB v l) (fullB (layB v l) k) st):=by
 subst hv hl
 unfold pickAt
 rw[if_neg h]
theorem qRT {r:Nat}(h:getV n K st (13+k)=r+1):pickI n K t q s k w st=pickAt n K t q s k r w (getS n K st (13+k)):=by
 unfold pickI
 rw[if_neg qo,h,Nat.add_sub_cancel]
theorem qUP (h:getV n K st (13+k)=0)(ht:takeI n K t q s 1 (getS n K st (13+k))=(none,s1)):pickI n K t q s k w st=(none,s1):=by
 unfold pickI
 rw[if_pos h,ht]
theorem qBM (h:getV n K st (13+k)=0)(ht:takeI n K t q s 1 (getS n K st (13+k))=(some p,s1)):pickI n K t q s k w st=pickAt n K t q s k p w (slabS n K t q s k p s1):=by
 unfold pickI
 rw[if_pos h,ht]
end
section
variable {H : AuH} {n c : Nat} {K : Nat -> Option Nat} {st st' : Vst} {L L' : Nat -> List Nat} {g : Nat -> Nat}
theorem qAv {t m w:Nat}(h:1<=(someF t m w).length):someF t m w ≠ []:=fun e=>by rw[e] at h;simp at h
theorem qVB {a b:Nat}(h:a &&& b=0):a+b=a ||| b:=by
 have ha:a<2^(a+b+1):=Nat.lt_of_le_of_lt qo (Nat.lt_two_pow_self (n:=a+b+1))
 have hb:b<2^(a+b+1):=Nat.lt_of_le_of_lt qo (Nat.lt_two_pow_self (n:=a+b+1))
 have hs:a+b<2^(a+b+1):=Nat.lt_of_le_of_lt qo (Nat.lt_two_pow_self (n:=a+b+1))
 have h1:BitVec.ofNat (a+b+1) a &&& BitVec.ofNat (a+b+1) b=0#(a+b+1):=by
  apply BitVec.eq_of_toNat_eq
  rw[BitVec.toNat_and,BitVec.toNat_ofNat,BitVec.toNat_ofNat,Nat.mod_eq_of_lt ha,Nat.mod_eq_of_lt hb,h]
  simp
 have h2:=congrArg BitVec.toNat (BitVec.add_eq_or_of_and_eq_zero _ _ h1)
 rw[BitVec.toNat_or,BitVec.toNat_add,BitVec.toNat_ofNat,BitVec.toNat_ofNat,Nat.mod_eq_of_lt ha,Nat.mod_eq_of_lt hb,Nat.mod_eq_of_lt hs] at h2
 exact h2
theorem qWv {u i:Nat}(h:u.testBit i=true):∀ j,(clrB u i).testBit j=(u.testBit j && !decide (j=i)):=fun j=>by
 have e:clrB u i+2^i=u:=by
  unfold clrB
  rw[if_pos h]
  have:=Nat.ge_two_pow_of_testBit h
  omega
 have e0:(clrB u i).testBit i=false:=by
  have h2:(2^i+clrB u i).testBit i = !(clrB u i).testBit i:=Nat.testBit_two_pow_add_eq _ _
  rw[Nat.add_comm,e,h] at h2
  cases hb:(clrB u i).testBit i
  ·rfl
  ·rw[hb] at h2;cases h2
 have e2:2^i ||| clrB u i=u:=by
  have hx:2^i &&& clrB u i=0:=by
   apply Nat.eq_of_testBit_eq
   intro j
   rw[Nat.testBit_and,Nat.zero_testBit,qF3]
   by_cases hj:j=i
   ·subst hj;rw[e0];simp
   ·rw[decide_eq_false hj];rfl
  have:=qVB hx
  omega
 have e3:=congrArg (fun x=>Nat.testBit x j) e2
 simp only[Nat.testBit_or,qF3] at e3
 rw[<- e3]
 by_cases hj:j=i
 ·subst hj;rw[e0];simp
 ·rw[decide_eq_false hj];simp
theorem qCi {p i:Nat}(hp:p<H.p)(hk:H.K p=3)(h5:(H.cel p 5).testBit i=true)(h4:(H.cel p 4).testBit i=false):Off H p i (clrB (H.cel p 5) i):=⟨hp,hk,h5,h4,qWv h5⟩
theorem qIY (HV:HeapV H n c)(h:H.Ok L)(W:Work H.t H.p H.s n K st L H.V){p i:Nat}(o:Off H p i (clrB (H.cel p 5) i)) :
  infoOf n K H.t H.p H.s p st=infoG (H.cel p 0)/\∃ L',VW n K (giveS n K H.t H.p H.s p i st)/\GivenBack H n K (giveS n K H.t H.p H.s p i st) L' p i/\∃ g,Work H.t H.p H.s n K (giveS n K H.t H.p H.s p i st) L' g:=by
 have hlen:=HV.len
 have hp:=o.at_
 have W1:=W.get (pageI H.t H.p H.s p 0)
 have W2:=W1.get (pageI H.t H.p H.s p 5)
 have ei:infoOf n K H.t H.p H.s p st=infoG (H.cel p 0):=by
  unfold infoOf
  rw[HV.fit.inf hp]
  show infoG (getV n K st ((pc H.t p 0:Nat):Int))=_
  rw[W.near (pc H.t p 0) (by unfold pc;omega) (qXR (t:=H.t) (q:=p) (b:=0) qo qo qo)]
  rfl
 have e5:getV n K (getS n K st (pageI H.t H.p H.s p 0)) (pageI H.t H.p H.s p 5)=H.cel p 5:=by
  rw[HV.fit.taken hp,W1.val (i:=pc H.t p 5) (by unfold pc;omega) (qXR qo qo qo)]
  rfl
 obtain⟨b0,b1,b2⟩:=qVa h hp o.kind
 refine⟨ei,?_⟩
 unfold giveS giveAt
 rw[ei,show (infoG (H.cel p 0)).2.2.1=H.Cl p from rfl,e5,qUk b1]
 by_cases hu:clrB (H.cel p 5) i=0
 ·rw[if_pos hu]
  rw[hu] at o
  obtain⟨L',g',w1,w2⟩:=qX4 HV h W2 o
  exact⟨L',w1.vw,w2,_,w1⟩
 ·rw[if_neg hu]
  obtain⟨L',w1,w2⟩:=qXY HV h W2 o hu
  exact⟨L',w1.vw,w2,_,w1⟩
end
end
end Go.Proofs.YtjjfcaliippgpaaGreatDoor
