/-
  Some whole spans side by side, no slab among them, are laid anew: k pages used, e pages free behind them (k or e may be 0): it is a heap. No program is named here.
-/
import Derived.Test.YtgifnhcknodekaaGreatC07
import Derived.Test.YtgifnhcknodekaaGreatC06
import Derived.Test.YtgifnhcknodekaaGreatC05
namespace Go.Proofs.YtgifnhcknodekaaGreat
theorem MbJ {P:Prop}(h:P:=by
 rw[m3 hd a2 a21 y]
 constructor
 ·exact fun h=>⟨h.1,fun h2=>h.2 h2.2⟩
 ·exact fun h=>⟨h.1,fun h2=>h.2 ⟨qo,h2⟩⟩):P:=h
theorem M7s {P:Prop}(h:P:=by
 rw[H.info_eq,hk,H.L_ln,H.ok_of p qo]
 rcases H.K_cases p with h1|⟨_,_,_,h1⟩|h1
 ·omega
 ·rw[h1]
 ·omega):P:=h
theorem MUN {P:Prop}(h:P:=by
 have:((p:Int)+(m:Int)-1)=((p+m-1:Nat):Int):=qo
 rw[this]
 exact hf.foot qo):P:=h
end Go.Proofs.YtgifnhcknodekaaGreat
set_option linter.unusedVariables false
set_option linter.unusedSimpArgs false
set_option maxRecDepth 100000
set_option maxHeartbeats 25600000
namespace Go.Proofs.YtgifnhcknodekaaGreat
open Go.ChangeShapes Go.WideShapes Go.ChangeAt Go.RowKit Go.Maps
section
theorem qCV {m:Nat}(h1:1<=m)(h2:m<=1024):infoG (infoV 2 (m:Int) 0)=(2,(m:Int),0,true):=qX1 (qAG (by unfold infoP;omega))
theorem qQt {m:Nat}(h1:1<=m)(h2:m<=1024):infoG (infoV 1 (m:Int) 0)=(1,(m:Int),0,true):=qX1 (qAG (by unfold infoP;omega))
namespace AuH
variable {H : AuH} {V : Nat -> Nat} {L L' : Nat -> List Nat} {A k e : Nat}
structure Relaid (H:AuH) (V:Nat->Nat) (L L':Nat->List Nat) (A k e:Nat):Prop where
 pos:0<k+e
 whole:H.Whole A (A+k+e)
 noslab:∀ q,A<=q->q<A+k+e->H.K q≠3
 left:k=0->∀ q,q<A->H.K q=1->H.nx q≠A
 right:0<e->A+k+e<H.p->H.K (A+k+e)≠1
 used:0<k->(H.re V).cel A 0=infoV 2 (k:Int) 0
 rest:0<e->(H.re V).cel (A+k) 0=infoV 1 (e:Int) 0
 blank:∀ q,A<=q->q<A+k+e->¬ (0<k/\q=A)->¬ (0<e/\q=A+k)->(H.re V).cel q 0=0
 infos:∀ q,q<H.p->¬ (A<=q/\q<A+k+e)->(H.re V).cel q 0=H.cel q 0
 footu:0<k->(H.re V).cel (A+k-1) 1=A+1
 footr:0<e->(H.re V).cel (A+k+e-1) 1=A+k+1
 blankf:∀ q,A<=q->q<A+k+e->¬ (0<k/\q=A+k-1)->¬ (0<e/\q=A+k+e-1)->(H.re V).cel q 1=0
 feet:∀ q,q<H.p->¬ (A<=q/\q<A+k+e)->(H.re V).cel q 1=H.cel q 1
 bits:∀ q,q<H.p->(H.re V).cel q 4=H.cel q 4/\(H.re V).cel q 5=H.cel q 5
 list:∀ hd:Nat,2<=hd->hd<=21->IsL H.p (nxH H.t) (pvH H.t) hd (fun c=>V c.toNat) (L' hd)
 mem:∀ hd:Nat,2<=hd->hd<=21->∀ y,y∈L' hd↔(y∈L hd/\¬ (A<=y/\y<A+k+e))\/(0<e/\y=A+k/\((hd:Nat):Int)=2+HM.logI (e:Int))
 bare:∀ q,A<=q->q<A+k+e->¬ (0<e/\q=A+k)->(H.re V).cel q 2=0/\(H.re V).cel q 3=0
 loose:∀ q,q<H.p->¬ (A<=q/\q<A+k+e)->H.tgt q = -1->(H.re V).cel q 2=H.cel q 2/\(H.re V).cel q 3=H.cel q 3
 free:V 0+sumTo (fun i=>H.freeF (A+i)) (k+e)=H.V 0+e
 live:V 1+sumTo (fun i=>H.liveF (A+i)) (k+e)=H.V 1+(if 0<k then 1 else 0)
 roots:∀ i,i<8->V (22+i)=H.V (22+i)
 named:∀ i,i<8->H.V (22+i)≠0->A<=(spotP H.t H.p H.s (H.V (22+i):Int)).toNat->(spotP H.t H.p H.s (H.V (22+i):Int)).toNat<A+k+e->0<k/\(spotP H.t H.p H.s (H.V (22+i):Int)).toNat=A
theorem sum_free_le (h:H.Spans)(x:Nat)(hx:x<=H.p)(hk:x=H.p\/H.K x≠0):sumTo H.freeF x<=x:=by
 have ha:=h.reach x x (Nat.le_refl _) hx hk
 induction ha with
 | zero=>exact Nat.le_refl _
 | step ha hc ih =>
  rename_i q
  have hcan:=(H.can_iff q).1 hc
  have h1:=ih qo (.inr hcan.2.1)
  have h2:=h.tiled.sum (f:=H.freeF) ha hcan.1 (fun r hr hz=>by unfold freeF;rw[if_neg qo])
  have h3:H.freeF q<=H.ln q:=by unfold freeF;split <;> omega
  have h4:H.nx q=q+H.ln q:=rfl
  omega
theorem qHf (H:AuH):sumTo H.liveF H.p<=H.p*32:=sumTo_le H.liveF 32 H.p (fun q _=>by
 unfold liveF
 split
 ·omega
 ·split
  ·exact HM.onesTo_le _ _
  ·omega)
structure RelaidK (H:AuH) (V:Nat->Nat) (A k e:Nat):Prop where
 used:0<k->(H.re V).K A=2/\(H.re V).ln A=k/\(H.re V).nx A=A+k
 rest:0<e->(H.re V).K (A+k)=1/\(H.re V).ln (A+k)=e/\(H.re V).nx (A+k)=A+k+e
 none:∀ q,A<=q->q<A+k+e->¬ (0<k/\q=A)->¬ (0<e/\q=A+k)->(H.re V).K q=0
 o:∀ q,q<H.p->¬ (A<=q/\q<A+k+e)->(H.re V).K q=H.K q/\(H.re V).ln q=H.ln q/\(H.re V).Cl q=H.Cl q
theorem Relaid.kinds (T:H.Relaid V L L' A k e)(hp10:H.p<=1024):H.RelaidK V A k e:=by
 have hw:=T.whole.le
 refine⟨fun hk=>?_,fun he=>?_,fun q h1 h2 h3 h4=>((H.re V).K_zero q (T.blank q h1 h2 h3 h4)).1,fun q h1 h2=>?_⟩
 ·have e1:(H.re V).K A=2/\(H.re V).ln A=k:=by
   unfold AuH.ln AuH.L AuH.K
   rw[T.used hk,qCV hk qo]
   exact⟨rfl,by simp⟩
  exact⟨e1.1,e1.2,by unfold AuH.nx;rw[e1.2]⟩
 ·have e1:(H.re V).K (A+k)=1/\(H.re V).ln (A+k)=e:=by
   unfold AuH.ln AuH.L AuH.K
   rw[T.rest he,qQt he qo]
   exact⟨rfl,by simp⟩
  exact⟨e1.1,e1.2,by unfold AuH.nx;rw[e1.2]⟩
 ·unfold AuH.ln AuH.L AuH.K AuH.Cl
  rw[T.infos q h1 h2]
  exact⟨rfl,rfl,rfl⟩
theorem RelaidK.cases (I:H.RelaidK V A k e){q:Nat}(h1:A<=q)(h2:q<A+k+e)(h3:(H.re V).K q≠0):(0<k/\q=A)\/(0<e/\q=A+k):=by
 by_cases a1:0<k/\q=A
 ·exact .inl a1
 ·by_cases a2:0<e/\q=A+k
  ·exact .inr a2
  ·exact absurd (I.none q h1 h2 a1 a2) h3
theorem Relaid.recut (T:H.Relaid V L L' A k e)(I:H.RelaidK V A k e):H.Recut V A (A+k+e):=by
 have hpos:=T.pos
 refine⟨T.whole,T.infos,?_,fun q h1 h2 h3=>?_,fun q h1 h2 h3 h4=>?_,fun q r h1 h2 h3 h4 h5=>?_,fun q h1 h2 h3=>?_⟩
 ·rcases Nat.eq_zero_or_pos k with h0|h0
  ·have h5:=(I.rest qo).1
   have e0:A+k=A:=qo
   rw[e0] at h5
   omega
  ·have:=(I.used h0).1;omega
 ·rcases I.cases h1 h2 h3 with ⟨a1,rfl⟩|⟨a1,rfl⟩
  ·have:=(I.used a1).2.2;omega
  ·have:=(I.rest a1).2.2;omega
 ·rcases I.cases h1 h2 h3 with ⟨a1,rfl⟩|⟨a1,rfl⟩
  ·have e1:=(I.used a1).2.2
   rw[e1] at h4 ⊢
   have:=(I.rest qo).1
   omega
  ·have:=(I.rest a1).2.2;omega
 ·rcases I.cases h1 h2 h3 with ⟨a1,rfl⟩|⟨a1,rfl⟩
  ·have e1:=(I.used a1).2.2
   exact T.blank r qo qo qo qo
  ·have e1:=(I.rest a1).2.2
   exact T.blank r qo qo qo qo
 ·refine T.blank q h1 h2 (fun h4=>?_) (fun h4=>?_)
  ·obtain⟨a1,rfl⟩:=h4;have:=(I.used a1).1;omega
  ·obtain⟨a1,rfl⟩:=h4;have:=(I.rest a1).1;omega
theorem Relaid.ok (T:H.Relaid V L L' A k e)(h:H.Ok L)(hp10:H.p<=1024):(H.re V).Ok L':=by
 have hS:=h.spans
 have hpos:=T.pos
 have hw:=T.whole.le
 have I:=T.kinds hp10
 have R:=T.recut I
 have t2:0<e->(H.re V).tgt (A+k)=2+HM.logI (e:Int):=fun he=>by rw[tgt_free (I.rest he).1,(I.rest he).2.1]
 have t1:∀ q,A<=q->q<A+k+e->¬ (0<e/\q=A+k)->(H.re V).tgt q = -1:=fun q h1 h2 h3=>by
  by_cases h4:(H.re V).K q=0
  ·exact tgt_none h4
  ·rcases I.cases h1 h2 h4 with ⟨a1,rfl⟩|a1
   ·exact tgt_used (I.used a1).1
   ·exact absurd a1 h3
 have t3:∀ q,q<H.p->¬ (A<=q/\q<A+k+e)->(H.re V).tgt q=H.tgt q:=fun q h1 h2=>by
  obtain⟨a1,a2,a3⟩:=I.o q h1 h2
  unfold AuH.tgt
  rw[a1,a2,a3,(T.bits q h1).2]
 refine⟨R.spans hS,?_,?_,fun q hq=>?_,T.list,fun hd h2 h21 y=>?_,fun q hq ht=>?_,?_,fun i hi hv=>?_⟩
 ·-- feet
  refine R.feet hS h.feet T.feet (fun q h1 h2 h3=>?_)
  rcases I.cases h1 h2 h3 with ⟨a1,rfl⟩|⟨a1,rfl⟩
  ·unfold Foot
   rw[(I.used a1).2.1]
   exact⟨fun r h5 h6=>T.blankf r qo qo qo qo,T.footu a1⟩
  ·unfold Foot
   rw[(I.rest a1).2.1]
   exact⟨fun r h5 h6=>T.blankf r qo qo qo qo,T.footr a1⟩
 ·-- no two free ones side by side
  refine R.apart hS h.apart (fun q h1 h2 h3=>?_) (fun q h1 h2 h3 h4=>?_) (fun q h1 h2 h3 h4 h5=>?_)
  ·rcases Nat.eq_zero_or_pos k with h0|h0
   ·exact absurd h3 (T.left h0 q h1 h2)
   ·rw[(I.used h0).1];omega
  ·rcases I.cases h1 h2 qo with ⟨a1,rfl⟩|⟨a1,rfl⟩
   ·have:=(I.used a1).1;omega
   ·have:=(I.rest a1).2.2;omega
  ·rcases I.cases h1 h2 qo with ⟨a1,rfl⟩|⟨a1,rfl⟩
   ·have:=(I.used a1).1;omega
   ·exact T.right a1 h5
 ·-- slots
  have hq:q<H.p:=hq
  have h0:=h.slots q hq
  unfold Slot5 at h0 ⊢
  rw[(T.bits q hq).1,(T.bits q hq).2]
  by_cases h1:A<=q/\q<A+k+e
  ·refine⟨fun h2=>?_,fun _=>h0.2 (T.noslab q h1.1 h1.2)⟩
   rcases I.cases h1.1 h1.2 qo with ⟨a1,rfl⟩|⟨a1,rfl⟩
   ·have:=(I.used a1).1;omega
   ·have:=(I.rest a1).1;omega
  ·obtain⟨a1,a2,a3⟩:=I.o q hq h1
   rw[a1,a3]
   exact h0
 ·-- lists
  rw[T.mem hd h2 h21 y,h.mem hd h2 h21 y]
  show _↔y<H.p/\_
  by_cases h1:A<=y/\y<A+k+e
  ·by_cases h3:0<e/\y=A+k
   ·obtain⟨h4,rfl⟩:=h3
    rw[t2 h4]
    constructor
    ·rintro (⟨_,h6⟩|⟨_,_,h6⟩)
     ·exact absurd h1 h6
     ·exact⟨qo,qo⟩
    ·rintro ⟨_,h6⟩;exact .inr ⟨h4,rfl,qo⟩
   ·rw[t1 y h1.1 h1.2 h3]
    constructor
    ·rintro (⟨_,h6⟩|⟨h6,h7,_⟩)
     ·exact absurd h1 h6
     ·exact absurd ⟨h6,h7⟩ h3
    ·rintro ⟨_,h6⟩;omega
  ·constructor
   ·rintro (⟨⟨h4,h5⟩,_⟩|⟨h4,h5,_⟩)
    ·exact⟨h4,by rw[t3 y h4 h1];exact h5⟩
    ·omega
   ·rintro ⟨h4,h5⟩
    rw[t3 y h4 h1] at h5
    exact .inl ⟨⟨h4,h5⟩,h1⟩
 ·-- what is in no list
  have hq:q<H.p:=hq
  by_cases h1:A<=q/\q<A+k+e
  ·by_cases h2:0<e/\q=A+k
   ·obtain⟨h2,rfl⟩:=h2
    rw[t2 h2] at ht
    have:=log_few (n:=e) qo qo
    omega
   ·exact T.bare q h1.1 h1.2 h2
  ·rw[t3 q hq h1] at ht
   obtain⟨a1,a2⟩:=T.loose q hq h1 ht
   rw[a1,a2]
   exact h.loose q hq ht
 ·-- counts
  obtain⟨c1,c2⟩:=h.counts
  have hle:=sum_free_le hS H.p (Nat.le_refl _) (.inl rfl)
  have e1:=qKZ (f:=H.freeF) (g:=(H.re V).freeF) (a:=A) (m:=k+e) (p:=H.p) qo (fun q h1 h2=>by
   obtain⟨a1,a2,_⟩:=I.o q h1 qo
   unfold freeF
   rw[a1,a2])
  have e2:=qKZ (f:=H.liveF) (g:=(H.re V).liveF) (a:=A) (m:=k+e) (p:=H.p) qo (fun q h1 h2=>by
   obtain⟨a1,a2,_⟩:=I.o q h1 qo
   unfold liveF
   rw[a1,(T.bits q h1).1])
  have g0:∀ i,i<k+e->¬ (0<k/\i=0)->¬ (0<e/\i=k)->(H.re V).freeF (A+i)=0/\(H.re V).liveF (A+i)=0:=fun i h1 h2 h3=>by
   have:=I.none (A+i) qo qo qo qo
   exact⟨freeF_no this,liveF_no this⟩
  have gu:0<k->(H.re V).freeF A=0/\(H.re V).liveF A=1:=fun hk=>by
   have:=(I.used hk).1
   unfold freeF liveF
   exact⟨if_neg qo,if_pos this⟩
  have gr:0<e->(H.re V).freeF (A+k)=e/\(H.re V).liveF (A+k)=0:=fun he=>by
   have h1:=I.rest he
   unfold freeF liveF
   exact⟨by rw[if_pos h1.1,h1.2.1],by rw[if_neg qo,if_neg qo]⟩
  have z:sumTo (fun i=>(H.re V).freeF (A+i)) (k+e)=e/\sumTo (fun i=>(H.re V).liveF (A+i)) (k+e)=if 0<k then 1 else 0:=by
   rcases Nat.eq_zero_or_pos k with hk|hk
   ·subst hk
    have h1:=gr qo
    rw[sumTo_first qo (fun i h2 h3=>(g0 i h3 qo qo).1),sumTo_first qo (fun i h2 h3=>(g0 i h3 qo qo).2)]
    exact⟨h1.1,h1.2⟩
   ·rw[if_pos hk]
    rcases Nat.eq_zero_or_pos e with he|he
    ·subst he
     rw[sumTo_first qo (fun i h2 h3=>(g0 i h3 qo qo).1),sumTo_first qo (fun i h2 h3=>(g0 i h3 qo qo).2)]
     exact gu hk
    ·rw[qYD (k:=k) qo qo (fun i h2 h3 h4=>(g0 i h3 qo qo).1),qYD (k:=k) qo qo (fun i h2 h3 h4=>(g0 i h3 qo qo).2)]
     have h1:=gr he
     have h2:=gu hk
     exact⟨by show (H.re V).freeF A+(H.re V).freeF (A+k)=e;omega,by show (H.re V).liveF A+(H.re V).liveF (A+k)=1;omega⟩
  rw[z.1] at e1
  rw[z.2] at e2
  have hf:=T.free
  have hv:=T.live
  have hlive:=qHf H
  have hin1:sumTo (fun i=>H.freeF (A+i)) (k+e)<=sumTo H.freeF H.p:=by
   obtain⟨r,hr⟩:∃ r,H.p=A+(k+e)+r:=⟨H.p-(A+(k+e)),qo⟩
   rw[hr,sumTo_split H.freeF (A+(k+e)) r,sumTo_split H.freeF A (k+e)]
   omega
  have hin2:sumTo (fun i=>H.liveF (A+i)) (k+e)<=sumTo H.liveF H.p:=by
   obtain⟨r,hr⟩:∃ r,H.p=A+(k+e)+r:=⟨H.p-(A+(k+e)),qo⟩
   rw[hr,sumTo_split H.liveF (A+(k+e)) r,sumTo_split H.liveF A (k+e)]
   omega
  refine⟨?_,?_⟩
  ·show V 0=sumTo (H.re V).freeF H.p%4294967296
   omega
  ·show V 1=sumTo (H.re V).liveF H.p%4294967296
   split at hv <;> split at e2 <;> omega
 ·-- roots
  have e0:(H.re V).V (22+i)=H.V (22+i):=T.roots i hi
  rw[e0] at hv ⊢
  obtain⟨s1,s2⟩:=h.roots i hi hv
  have hnm:=T.named i hi hv
  have hsp:(spotP H.t H.p H.s (H.V (22+i):Int)).toNat<H.p:=by
   have h1:=(qSv s1).1
   unfold addrB at h1
   rw[Bool.and_eq_true,decide_eq_true_iff] at h1
   have:=h1.2
   omega
  generalize hPG:(spotP H.t H.p H.s (H.V (22+i):Int)).toNat=r at *
  refine⟨s1,?_⟩
  show ((H.re V).K (spotP H.t H.p H.s (H.V (22+i):Int)).toNat=2/\_)\/((H.re V).K (spotP H.t H.p H.s (H.V (22+i):Int)).toNat=3/\slotB H.t H.p H.s ((H.re V).Cl (spotP H.t H.p H.s (H.V (22+i):Int)).toNat) _=true/\((H.re V).cel (spotP H.t H.p H.s (H.V (22+i):Int)).toNat 4).testBit (slotR H.t H.p H.s ((H.re V).Cl (spotP H.t H.p H.s (H.V (22+i):Int)).toNat) _).toNat=true)
  rw[hPG]
  by_cases hin:A<=r/\r<A+k+e
  ·obtain⟨h1,h2⟩:=hnm hin.1 hin.2
   have h3:=T.noslab r hin.1 hin.2
   rcases s2 with s2|s2
   ·subst h2
    exact .inl ⟨(I.used h1).1,s2.2⟩
   ·exact absurd s2.1 h3
  ·obtain⟨a1,a2,a3⟩:=I.o r hsp hin
   rw[a1,a3,(T.bits r hsp).1]
   exact s2
end AuH
end
section
section
variable {n : Nat} {K : Nat -> Option Nat} {st : Vst} {t P s : Nat}
def ftH (t p:Nat):Int:=((30+4*t+6*p+1:Nat):Int)
theorem Fit.foot (h:Fit t P s n){p:Nat}(hp:p<P):pageI (t:Int) (P:Int) (s:Int) (p:Int) 1=ftH t p:=by
 rw[qKF h.right qo qo qo qo]
 unfold ftH
 push_cast
 omega
end

section
variable {H : AuH} {n c : Nat} {K : Nat -> Option Nat}
end
end
section
structure Lists (t P n:Nat) (K:Nat->Option Nat) (st:Vst) (L:Nat->List Nat):Prop where
 vw:VW n K st
 has:∀ hd:Nat,2<=hd->hd<=21->HasL t P hd n K st (L hd)
 apart:∀ a b:Nat,2<=a->a<=21->2<=b->b<=21->a≠b->∀ u∈L a,¬ u∈L b
def LinkCell (t:Nat) (c:Int):Prop:=(∃ hd:Nat,2<=hd/\hd<=21/\c=hd)\/∃ u,c=nxH t u\/c=pvH t u
section
variable {t P s n : Nat} {K : Nat -> Option Nat} {st : Vst} {L : Nat -> List Nat} {hd p : Nat} {l1 l2 : List Nat}
theorem ListCell.link {l:List Nat}(h2:2<=hd)(h21:hd<=21){c:Int}(h:ListCell t hd l c):LinkCell t c:=by
 rcases h with h|⟨u,_,h⟩
 ·exact .inl ⟨hd,h2,h21,h⟩
 ·exact .inr ⟨u,h⟩
theorem HasL.congr {st':Vst}{l:List Nat}(h:HasL t P hd n K st l)(hh:getV n K st' (hd:Int)=getV n K st (hd:Int))(hf:∀ u∈l,getV n K st' (nxH t u)=getV n K st (nxH t u)/\getV n K st' (pvH t u)=getV n K st (pvH t u)):HasL t P hd n K st' l:=by
 obtain⟨⟨a,hs⟩,hn⟩:=h
 refine⟨⟨a,?_⟩,hn⟩
 rw[hh]
 exact hs.frame hf
theorem Lists.pull (h:Lists t P n K st L)(hf:Fit t P s n)(h2:2<=hd)(h21:hd<=21)(hl:L hd=l1++p :: l2) :
  Lists t P n K (pullS n K t P s hd p st) (updF L hd (l1++l2))/\(∀ c:Int,¬ ListCell t hd (L hd) c->getV n K (pullS n K t P s hd p st) c=getV n K st c) /\
  getV n K (pullS n K t P s hd p st) (nxH t p)=0/\getV n K (pullS n K t P s hd p st) (pvH t p)=0:=by
 have hH:=h.has hd h2 h21
 rw[hl] at hH
 have hlk:=hH.links
 obtain⟨b1,b2⟩:=hf.pull (hd:=hd) qo h.vw hlk.1 hlk.2.1 hlk.2.2
 have hP:=hH.pull hf qo h.vw
 refine⟨⟨b1,fun x x2 x21=>?_,fun a b a2 a21 b2' b21 hne u hu=>?_⟩,fun c hc=>?_,?_,?_⟩
 ·by_cases e:x=hd
  ·subst e;rw[qJN];exact hP.1
  ·rw[qR2 _ _ e]
   exact hH.other hf qo h.vw (h.has x x2 x21) e qo (fun u hu=>by rw[<- hl];exact h.apart x hd x2 x21 h2 h21 e u hu)
 ·have hsub:∀ x:Nat,∀ u,u∈updF L hd (l1++l2) x->u∈L x:=fun x u hu=>by
   by_cases e:x=hd
   ·subst e
    rw[qJN] at hu
    rw[hl]
    rcases List.mem_append.1 hu with hu|hu <;> simp[hu]
   ·rwa [qR2 _ _ e] at hu
  exact fun hv=>h.apart a b a2 a21 b2' b21 hne u (hsub a u hu) (hsub b u hv)
 ·rw[b2]
  rw[hl] at hc
  obtain⟨⟨aa,hs0⟩,hnd⟩:=id hH
  exact qQC qo hnd hs0 hc
 ·rw[b2]
  unfold pullG
  rw[qAu _ _ ((geo P t hd qo).np p p),qXM]
 ·rw[b2]
  unfold pullG
  exact qXM _ _ _
theorem Lists.push (h:Lists t P n K st L)(hf:Fit t P s n)(h2:2<=hd)(h21:hd<=21)(hp:p<P)(hno:∀ x:Nat,2<=x->x<=21->¬ p∈L x) :
  Lists t P n K (pushS n K t P s hd p st) (updF L hd (p :: L hd))/\∀ c:Int,¬ ListCell t hd (p :: L hd) c->getV n K (pushS n K t P s hd p st) c=getV n K st c:=by
 have hH:=h.has hd h2 h21
 have hx:getV n K st hd=0\/getV n K st hd-1<P:=by
  obtain⟨⟨a,hs⟩,_⟩:=id hH
  have:=hs.first
  cases hll:L hd with
  | nil=>rw[hll] at this;exact .inl this
  | cons u r =>
   right
   rw[hll] at this hs
   have h2:=hs.lt u (by simp)
   have h3:getV n K st hd=u+1:=this
   omega
 obtain⟨b1,b2⟩:=hf.push (hd:=hd) qo h.vw hp hx
 have hP:=hH.push hf qo h.vw hp (hno hd h2 h21)
 have far:∀ c:Int,¬ ListCell t hd (p :: L hd) c->getV n K (pushS n K t P s hd p st) c=getV n K st c:=fun c hc=>by
  rw[b2]
  obtain⟨⟨aa,hs0⟩,hnd⟩:=id hH
  exact qUi qo hs0 hc
 refine⟨⟨b1,fun x x2 x21=>?_,fun a b a2 a21 b2' b21 hne u hu hv=>?_⟩,far⟩
 ·by_cases e:x=hd
  ·subst e;rw[qJN];exact hP.1
  ·rw[qR2 _ _ e]
   have hap:=h.apart x hd x2 x21 h2 h21 e
   have hpx:=hno x x2 x21
   have hne:∀ u∈L x,∀ v∈p :: L hd,u≠v:=fun u hu v hv e2=>by
    subst e2
    rcases List.mem_cons.1 hv with e3|e3
    ·subst e3;exact hpx hu
    ·exact hap u hu e3
   refine(h.has x x2 x21).congr (far _ ?_) (fun u hu=>⟨far _ ?_,far _ ?_⟩)
   ·rintro (h3|⟨u,_,h3|h3⟩)
    ·omega
    ·unfold nxH at h3;omega
    ·unfold pvH at h3;omega
   ·rintro (h3|⟨v,hv,h3|h3⟩)
    ·unfold nxH at h3;omega
    ·unfold nxH at h3;exact hne u hu v hv qo
    ·unfold nxH pvH at h3;omega
   ·rintro (h3|⟨v,hv,h3|h3⟩)
    ·unfold pvH at h3;omega
    ·unfold nxH pvH at h3;omega
    ·unfold pvH at h3;exact hne u hu v hv qo
 ·have hsub:∀ x:Nat,2<=x->x<=21->∀ u,u∈updF L hd (p :: L hd) x->u∈L x\/(u=p/\x=hd):=fun x x2 x21 u hu=>by
   by_cases e:x=hd
   ·subst e
    rw[qJN] at hu
    rcases List.mem_cons.1 hu with e2|e2
    ·exact .inr ⟨e2,rfl⟩
    ·exact .inl e2
   ·rw[qR2 _ _ e] at hu;exact .inl hu
  rcases hsub a a2 a21 u hu with h3|⟨h3,h4⟩ <;> rcases hsub b b2' b21 u hv with h5|⟨h5,h6⟩
  ·exact h.apart a b a2 a21 b2' b21 hne u h3 h5
  ·subst h5;exact hno a a2 a21 h3
  ·subst h3;exact hno b b2' b21 h5
  ·omega
theorem Lists.put (h:Lists t P n K st L){i:Nat}(hi:i<n)(hc:¬ LinkCell t (i:Int))(v:Nat) :
  Lists t P n K (putS n st (i:Int) v) L/\getV n K (putS n st (i:Int) v)=upd (getV n K st) (i:Int) v:=by
 obtain⟨b1,b2⟩:=h.vw.put hi v
 refine⟨⟨b1,fun x x2 x21=>(h.has x x2 x21).congr ?_ (fun u hu=>⟨?_,?_⟩),h.apart⟩,b2⟩
 ·rw[b2,qAu]
  exact fun e=>hc (.inl ⟨x,x2,x21,e.symm⟩)
 ·rw[b2,qAu]
  exact fun e=>hc (.inr ⟨u,.inl e.symm⟩)
 ·rw[b2,qAu]
  exact fun e=>hc (.inr ⟨u,.inr e.symm⟩)
theorem Lists.get (h:Lists t P n K st L)(c:Int):Lists t P n K (getS n K st c) L/\getV n K (getS n K st c)=getV n K st:=by
 obtain⟨b1,b2⟩:=h.vw.get c
 refine⟨⟨b1,fun x x2 x21=>?_,h.apart⟩,b2⟩
 unfold HasL
 rw[b2]
 exact h.has x x2 x21
theorem qOZ {q b:Nat}(hb:b<6)(h2:b≠2)(h3:b≠3):¬ LinkCell t ((30+4*t+6*q+b:Nat):Int):=by
 rintro (⟨hd,_,_,e⟩|⟨u,e|e⟩)
 ·omega
 ·unfold nxH at e;omega
 ·unfold pvH at e;omega
theorem qCT {i:Nat}(h:i<2\/(22<=i/\i<30)):¬ LinkCell t (i:Int):=by
 rintro (⟨hd,_,_,e⟩|⟨u,e|e⟩)
 ·omega
 ·unfold nxH at e;omega
 ·unfold pvH at e;omega
end
section
variable {H : AuH} {n c : Nat} {K : Nat -> Option Nat} {st : Vst} {L : Nat -> List Nat}
theorem Lists.of_ok (h:H.Ok L)(HV:HeapV H n c)(hK:∀ i,i<n->K i=some (H.V i)):Lists H.t H.p n K freshS L:=by
 have hV:VW n K freshS:=⟨fun i hi=>⟨_,hK i hi⟩,rfl⟩
 have hlen:=HV.len
 have hg:∀ i:Nat,i<n->getV n K freshS (i:Int)=H.V i:=fun i hi=>by rw[hV.at_ hi,hK i hi];rfl
 refine⟨hV,fun hd h2 h21=>?_,fun a b a2 a21 b2 b21 hne u hu hv=>?_⟩
 ·obtain⟨⟨a,hs⟩,hn⟩:=h.list hd h2 h21
  refine⟨⟨a,?_⟩,hn⟩
  rw[hg hd qo]
  simp only[Int.toNat_natCast] at hs
  refine hs.frame (fun u hu=>?_)
  have hup:=((h.mem hd h2 h21 u).1 hu).1
  unfold nxH pvH
  rw[hg _ qo,hg _ qo]
  simp only[Int.toNat_natCast]
  exact⟨trivial,trivial⟩
 ·have e1:=((h.mem a a2 a21 u).1 hu).2
  have e2:=((h.mem b b2 b21 u).1 hv).2
  omega
theorem Lists.isL (h:Lists H.t H.p n K st L)(HV:HeapV H n c){hd:Nat}(h2:2<=hd)(h21:hd<=21):IsL H.p (nxH H.t) (pvH H.t) hd (fun c=>curV n (getV n K st) H.V c.toNat) (L hd):=by
 have hlen:=HV.len
 obtain⟨⟨a,hs⟩,hn⟩:=h.has hd h2 h21
 have e:∀ i:Nat,i<n->curV n (getV n K st) H.V i=getV n K st (i:Int):=fun i hi=>qG7 hi
 refine⟨⟨a,?_⟩,hn⟩
 show Seg H.p (nxH H.t) (pvH H.t) (fun c=>curV n (getV n K st) H.V c.toNat) 0 (curV n (getV n K st) H.V ((hd:Int).toNat)) (L hd) a 0
 rw[Int.toNat_natCast,e hd qo]
 refine hs.frame (fun u hu=>?_)
 have hup:=hs.lt u hu
 unfold nxH pvH
 simp only[Int.toNat_natCast]
 rw[e _ qo,e _ qo]
 exact⟨rfl,rfl⟩
end
end
open Go.Shelf
section
namespace AuH
theorem mem_catTo {α:Type}{f:Nat->List α}{x:α}:∀ n,x∈catTo f n ↔ ∃ q,q<n/\x∈f q
 | 0=>by simp[catTo]
 | n+1=>by
  show x∈catTo f n++f n↔_
  rw[List.mem_append,mem_catTo n]
  constructor
  ·rintro (⟨q,h1,h2⟩|h)
   ·exact⟨q,qo,h2⟩
   ·exact⟨n,qo,h⟩
  ·rintro ⟨q,h1,h2⟩
   rcases Nat.lt_or_ge q n with h|h
   ·exact .inl ⟨q,h,h2⟩
   ·obtain rfl:q=n:=qo
    exact .inr h2
end AuH
theorem mem_blocksOf {l:List (Int × Int × Int)}{x:Int × Int}:x∈blocksOf l↔(2,x)∈l:=by
 unfold blocksOf
 rw[List.mem_map]
 constructor
 ·rintro ⟨y,h1,rfl⟩
  rw[List.mem_filter] at h1
  obtain⟨h1,h2⟩:=h1
  have:y.1=2:=by simpa using h2
  rw[<- this]
  exact h1
 ·intro h
  exact⟨(2,x),List.mem_filter.2 ⟨h,by simp⟩,rfl⟩
namespace AuH
theorem qMi {H:AuH}{n c:Nat}(HV:HeapV H n c){q o:Nat}(hq:q<H.p)(ho:o<H.pg) :
  addrB H.t H.p H.s q o=true/\addrI H.t H.p H.s q o=H.first q+(o:Int):=by
 have hg:=qMQ HV
 have hB:addrB H.t H.p H.s q o=true:=by unfold addrB;rw[HV.right,hg.2.2.2,Bool.true_and,decide_eq_true_iff];omega
 refine⟨hB,?_⟩
 unfold addrI
 rw[if_pos hB,hg.2.2.2]
 rfl
theorem qTB {H:AuH}{n c:Nat}(HV:HeapV H n c){q o:Nat}(hq:q<H.p)(ho:o<H.pg) :
  spotB H.t H.p H.s (H.first q+(o:Int))=true/\spotP H.t H.p H.s (H.first q+(o:Int))=q/\spotO H.t H.p H.s (H.first q+(o:Int))=o:=by
 obtain⟨h1,h2⟩:=qMi HV hq ho
 have h:=qNk h1
 rw[h2] at h
 exact⟨h.2.1,h.2.2.1,h.2.2.2.1⟩
theorem qIr {a b i:Nat}(h:((slotKd a b i:Nat):Int)=2):b.testBit i=true:=by
 unfold slotKd at h
 cases hb:b.testBit i
 ·rw[hb,if_neg (by simp)] at h
  split at h <;> omega
 ·rfl
theorem live_iff {H:AuH}{n c:Nat}(HV:HeapV H n c)(a:Int):(∃ x∈blocksOf H.parts,x.1=a)↔H.LiveAt a:=by
 have hs:=HV.nums
 have hg:=qMQ HV
 constructor
 ·rintro ⟨⟨a',z⟩,hx,rfl⟩
  obtain⟨q,hq,hx⟩:=(mem_catTo H.p).1 (mem_blocksOf.1 hx)
  show H.LiveAt a'
  unfold partsAt at hx
  by_cases h1:H.K q=1
  ·rw[if_pos h1] at hx
   simp at hx
  ·rw[if_neg h1] at hx
   by_cases h2:H.K q=2
   ·rw[if_pos h2] at hx
    simp at hx
    obtain⟨g1,g2,g3⟩:=qTB HV hq (show 0<H.pg by omega)
    rw[show H.first q+((0:Nat):Int)=a' by rw[hx.1];simp] at g1 g2 g3
    refine⟨g1,.inl ⟨?_,g3⟩⟩
    rw[g2,Int.toNat_natCast]
    exact h2
   ·rw[if_neg h2] at hx
    by_cases h3:H.K q=3
    ·rw[if_pos h3] at hx
     rcases List.mem_append.1 hx with hx|hx
     ·unfold slotsTo at hx
      obtain⟨i,hi,he⟩:=List.mem_map.1 hx
      have hi:=List.mem_range.1 hi
      unfold slotPart at he
      injection he with e1 e2
      injection e2 with e2 e3
      have hin:=qJd (s:=(H.s:Int)) (k:=H.Cl q) qo (show i<slotI (H.Cl q) from hi)
      have hz:H.zs q=sizeN (H.s:Int) (H.Cl q):=rfl
      have ho:i*H.zs q<H.pg:=by
       have h:=hin.1
       rw[Nat.succ_mul] at h
       rw[hz,hg.2.2.1]
       omega
      obtain⟨g1,g2,g3⟩:=qTB HV hq ho
      have hcast:((i*H.zs q:Nat):Int)=(i:Int)*(H.zs q:Int):=by push_cast;rfl
      rw[show H.first q+((i*H.zs q:Nat):Int)=a' by rw[hcast];exact e2] at g1 g2 g3
      have hsl:=qF9 (t:=H.t) (p:=H.p) (s:=H.s) (k:=H.Cl q) HV.right i hi (o:=((i*H.zs q:Nat):Int)) hcast
      refine⟨g1,.inr ?_⟩
      rw[g2,g3,Int.toNat_natCast]
      exact⟨h3,hsl.1,by rw[hsl.2,Int.toNat_natCast];exact qIr e1⟩
     ·unfold slack at hx
      split at hx
      ·simp at hx
      ·simp at hx
    ·rw[if_neg h3] at hx
     simp at hx
 ·rintro ⟨hs1,h⟩
  obtain⟨h1,h2,_⟩:=qSv hs1
  obtain⟨_,⟨h9,h10⟩,h11,h12⟩:=qRw h1
  obtain⟨q,hqq⟩:∃ q:Nat,spotP H.t H.p H.s a=q:=⟨(spotP H.t H.p H.s a).toNat,qo⟩
  rw[hqq] at h1 h2 h h10
  rw[Int.toNat_natCast] at h
  have hq:q<H.p:=qo
  have hA:a=H.first q+spotO H.t H.p H.s a:=by
   have:addrI H.t H.p H.s q (spotO H.t H.p H.s a)=H.first q+spotO H.t H.p H.s a:=by
    unfold addrI
    rw[if_pos h1,hg.2.2.2]
    rfl
   rw[<- this]
   exact h2.symm
  rcases h with ⟨hk,ho⟩|⟨hk,hsb,htb⟩
  ·rw[ho] at hA
   refine⟨(a,(H.ln q:Int)*(H.pg:Int)),mem_blocksOf.2 ((mem_catTo H.p).2 ⟨q,hq,?_⟩),rfl⟩
   unfold partsAt
   rw[if_neg qo,if_pos hk,hA,Int.add_zero]
   simp
  ·obtain⟨_,i,g1,g2,g3⟩:=qFM hsb
   rw[g3,Int.toNat_natCast] at htb
   refine⟨(a,(H.zs q:Int)),mem_blocksOf.2 ((mem_catTo H.p).2 ⟨q,hq,?_⟩),rfl⟩
   unfold partsAt
   rw[if_neg qo,if_neg qo,if_pos hk]
   refine List.mem_append_left _ (List.mem_map.2 ⟨i,List.mem_range.2 g1,?_⟩)
   unfold slotPart slotKd
   rw[if_pos htb,hA,g2]
   rfl
end AuH
end
section
def Contig:Int->List (Int × Int × Int)->Int->Prop
 | a,[],b=>a=b
 | a,x :: l,b=>(x.2.1=a/\1<=x.2.2/\1<=x.1/\x.1<=5)/\Contig (a+x.2.2) l b
theorem Contig.app:∀ {l:List (Int × Int × Int)} {a b c:Int} {m:List (Int × Int × Int)},Contig a l b->Contig b m c->Contig a (l++m) c
 | [],a,b,c,m,h,h'=>by
  have:a=b:=h
  subst this
  exact h'
 | x :: l,a,b,c,m,h,h'=>⟨h.1,Contig.app h.2 h'⟩
theorem Contig.one {k a z:Int}(hk:1<=k/\k<=5)(hz:1<=z):Contig a [(k,a,z)] (a+z):=⟨⟨rfl,hz,hk.1,hk.2⟩,rfl⟩
theorem Contig.le:∀ {l:List (Int × Int × Int)} {a b:Int},Contig a l b->a<=b
 | [],a,b,h=>by have:a=b:=h;omega
 | x :: l,a,b,h=>by have:=Contig.le h.2;have:=h.1.2.1;omega
namespace AuH
variable {H : AuH}
theorem qGx (q m:Nat):H.first q+(m:Int)*(H.pg:Int)=H.first (q+m):=by
 unfold first
 rw[<- Int.add_mul]
 congr 1
 push_cast
 omega
theorem qLR (q i:Nat):1<=(H.slotPart q i).1/\(H.slotPart q i).1<=5:=by
 show 1<=((slotKd _ _ i:Nat):Int)/\((slotKd _ _ i:Nat):Int)<=5
 unfold slotKd
 split
 ·decide
 ·split <;> decide
theorem qOc (q:Nat)(hz:1<=H.zs q):∀ k,Contig (H.first q) (H.slotsTo q k) (H.first q+(k:Int)*(H.zs q:Int))
 | 0=>by
  have e:H.first q+((0:Nat):Int)*(H.zs q:Int)=H.first q:=by simp
  rw[e]
  exact rfl
 | k+1=>by
  rw[slotsTo_succ]
  have e:H.first q+((k+1:Nat):Int)*(H.zs q:Int)=(H.first q+(k:Int)*(H.zs q:Int))+(H.zs q:Int):=by
   push_cast
   rw[Int.add_mul]
   omega
  rw[e]
  exact(qOc q hz k).app ⟨⟨rfl,by show 1<=(H.zs q:Int);omega,(qLR q k).1,(qLR q k).2⟩,rfl⟩
theorem qPY {n c:Nat}(HV:HeapV H n c){q:Nat}(hk:H.K q≠0):Contig (H.first q) (H.partsAt q) (H.first (H.nx q)):=by
 have hg:=qMQ HV
 have hs:=HV.nums
 have hkc:=H.K_cases q
 have hnx:H.first (H.nx q)=H.first q+(H.ln q:Int)*(H.pg:Int):=(qGx q (H.ln q)).symm
 have hpos:∀ m:Nat,1<=m->1<=(m:Int)*(H.pg:Int):=fun m hm=>by
  have h1:1*1<=m*H.pg:=Nat.mul_le_mul hm qo
  have h2:((m*H.pg:Nat):Int)=(m:Int)*(H.pg:Int):=by push_cast;rfl
  rw[<- h2]
  omega
 rw[hnx]
 unfold partsAt
 by_cases h1:H.K q=1
 ·rw[if_pos h1]
  exact Contig.one qo (hpos _ qo)
 ·rw[if_neg h1]
  by_cases h2:H.K q=2
  ·rw[if_pos h2]
   exact Contig.one qo (hpos _ qo)
  ·have h3:H.K q=3:=qo
   have hl:H.ln q=1:=qo
   rw[if_neg h2,if_pos h3,hl]
   obtain⟨kc,hkc2⟩:∃ kc:Nat,H.Cl q=kc:=⟨(H.Cl q).toNat,qo⟩
   have hf:=qRy (s:=(H.s:Int)) qo (k:=kc) qo
   have hz:H.zs q=sizeN (H.s:Int) (kc:Int):=by unfold zs;rw[hkc2]
   have hsl:H.sl q=slotN kc:=by unfold sl;rw[hkc2,qPN]
   have hfit:H.sl q*H.zs q<=H.pg:=by rw[hz,hsl,hg.2.2.1,Nat.mul_comm];exact hf.2.2.1
   have hc:=qOc (H:=H) q (by rw[hz];omega) (H.sl q)
   have e1:(H.sl q:Int)*(H.zs q:Int)=((H.sl q*H.zs q:Nat):Int):=by push_cast;rfl
   rw[e1] at hc
   unfold slack
   have e2:H.first q+((1:Nat):Int)*(H.pg:Int)=H.first q+(H.pg:Int):=by simp
   rw[e2]
   by_cases h4:H.sl q*H.zs q<H.pg
   ·rw[if_pos h4]
    have:=hc.app (Contig.one (k:=5) (a:=H.first q+((H.sl q*H.zs q:Nat):Int)) (z:=(H.pg:Int)-((H.sl q*H.zs q:Nat):Int)) qo qo)
    have e3:H.first q+((H.sl q*H.zs q:Nat):Int)+((H.pg:Int)-((H.sl q*H.zs q:Nat):Int))=H.first q+(H.pg:Int):=qo
    rwa [e3] at this
   ·rw[if_neg h4,List.append_nil]
    have e3:((H.sl q*H.zs q:Nat):Int)=(H.pg:Int):=qo
    rwa [e3] at hc
end AuH
end
section
theorem Contig.mem:∀ {l:List (Int × Int × Int)} {a b:Int},Contig a l b->∀ x∈l,a<=x.2.1/\x.2.1<b
 | [],a,b,h,x,hx=>by cases hx
 | y :: r,a,b,⟨⟨h1,h2,h3⟩,h4⟩,x,hx=>by
  have hle:=h4.le
  rcases List.mem_cons.1 hx with rfl|hx
  ·omega
  ·have:=Contig.mem h4 x hx
   omega
namespace AuH
variable {H : AuH} {V : Nat -> Nat} {L L' : Nat -> List Nat} {A k e n c : Nat}
theorem catTo_split {α:Type}(f:Nat->List α)(a:Nat):∀ m,catTo f (a+m)=catTo f a++catTo (fun i=>f (a+i)) m
 | 0=>by simp[catTo]
 | m+1=>by
  show catTo f (a+m)++f (a+m)=catTo f a++(catTo (fun i=>f (a+i)) m++f (a+m))
  rw[catTo_split f a m,List.append_assoc]
theorem qBj {α:Type}{f g:Nat->List α}:∀ m,(∀ i,i<m->f i=g i)->catTo f m=catTo g m
 | 0,_=>rfl
 | m+1,h=>by
  show catTo f m++f m=catTo g m++g m
  rw[qBj m (fun i hi=>h i qo),h m qo]
theorem qYP {f:Nat->List (Int × Int × Int)}:∀ m,0<m->(∀ i,0<i->i<m->blocksOf (f i) = [])->blocksOf (catTo f m)=blocksOf (f 0)
 | 0,h,_=>by omega
 | 1,_,_=>by show blocksOf ([]++f 0)=_;rw[List.nil_append]
 | m+2,_,h=>by
  show blocksOf (catTo f (m+1)++f (m+1))=_
  rw[qGG,qYP (m+1) qo (fun i h1 h2=>h i h1 qo),h (m+1) qo qo,List.append_nil]
theorem blocks_page (HV:HeapV H n c){q:Nat}{x:Int × Int}(hx:x∈blocksOf (H.partsAt q)):H.K q≠0/\H.first q<=x.1/\x.1<H.first (H.nx q):=by
 have hm:=mem_blocksOf.1 hx
 have hk:H.K q≠0:=fun h=>by rw[partsAt_no h] at hm;cases hm
 exact⟨hk,(qPY HV hk).mem _ hm⟩
theorem first_mono (H:AuH){a b:Nat}(h:a<=b):H.first a<=H.first b:=by
 unfold first
 exact Int.mul_le_mul_of_nonneg_right qo qo
theorem blocks_relaid (T:H.Relaid V L L' A k e)(h:H.Ok L)(HV:HeapV H n c)(hp10:H.p<=1024) :
  ∃ X Y,blocksOf H.parts=X++blocksOf (catTo (fun i=>H.partsAt (A+i)) (k+e))++Y /\
   blocksOf (H.re V).parts=X++(if 0<k then [(H.first A,(k:Int)*(H.pg:Int))] else [])++Y /\
   (∀ b∈X,b.1<H.first A)/\∀ b∈Y,H.first (A+k+e)<=b.1:=by
 have hS:=h.spans
 have hw:=T.whole.le
 have hpos:=T.pos
 have I:=T.kinds hp10
 obtain⟨r,hr⟩:∃ r,H.p=A+(k+e)+r:=⟨H.p-(A+(k+e)),qo⟩
 have hout:∀ q,q<H.p->¬ (A<=q/\q<A+k+e)->(H.re V).partsAt q=H.partsAt q:=fun q h1 h2=>by
  obtain⟨a1,a2,a3⟩:=I.o q h1 h2
  obtain⟨b4,b5⟩:=T.bits q h1
  unfold partsAt slotsTo slack slotPart sl zs first pg
  rw[a1,a2,a3,b4,b5]
  rfl
 refine⟨blocksOf (catTo H.partsAt A),blocksOf (catTo (fun i=>H.partsAt (A+(k+e)+i)) r),?_,?_,fun b hb=>?_,fun b hb=>?_⟩
 ·unfold parts
  rw[hr,catTo_split _ (A+(k+e)) r,catTo_split _ A (k+e),qGG,qGG]
 ·unfold parts
  show blocksOf (catTo (H.re V).partsAt H.p)=_
  rw[hr,catTo_split _ (A+(k+e)) r,catTo_split _ A (k+e),qGG,qGG,
   qBj (f:=(H.re V).partsAt) (g:=H.partsAt) A (fun i hi=>hout i qo qo),
   qBj (f:=fun i=>(H.re V).partsAt (A+(k+e)+i)) (g:=fun i=>H.partsAt (A+(k+e)+i)) r (fun i hi=>hout _ qo qo)]
  congr 2
  rw[qYP (k+e) qo (fun i h1 h2=>by
   by_cases h3:0<e/\i=k
   ·obtain⟨h3,rfl⟩:=h3
    show blocksOf ((H.re V).partsAt (A+i)) = []
    unfold partsAt
    rw[if_pos (I.rest h3).1]
    exact qCe (by simp)
   ·show blocksOf ((H.re V).partsAt (A+i)) = []
    rw[partsAt_no (I.none (A+i) qo qo qo qo)]
    rfl)]
  show blocksOf ((H.re V).partsAt (A+0))=_
  rw[Nat.add_zero]
  by_cases hk:0<k
  ·rw[if_pos hk]
   have h1:=I.used hk
   unfold partsAt
   rw[if_neg qo,if_pos h1.1,h1.2.1]
   exact qId rfl
  ·rw[if_neg hk]
   have hk0:k=0:=qo
   subst hk0
   have h1:=I.rest qo
   rw[Nat.add_zero] at h1
   unfold partsAt
   rw[if_pos h1.1]
   exact qCe (by simp)
 ·obtain⟨q,hq,hx⟩:=(mem_catTo A).1 (mem_blocksOf.1 hb)
  obtain⟨hk,h1,h2⟩:=blocks_page HV (mem_blocksOf.2 hx)
  have h3:=hS.ahead T.whole.first hq qo hk
  have h4:=first_mono H h3
  omega
 ·obtain⟨i,hi,hx⟩:=(mem_catTo r).1 (mem_blocksOf.1 hb)
  obtain⟨hk,h1,h2⟩:=blocks_page HV (mem_blocksOf.2 hx)
  have h4:=first_mono H (show A+k+e<=A+(k+e)+i by omega)
  omega
end AuH
end
section
structure Work (t P s n:Nat) (K:Nat->Option Nat) (st:Vst) (L:Nat->List Nat) (g:Nat->Nat):Prop where
 lists:Lists t P n K st L
 near:∀ i:Nat,i<n->¬ LinkCell t (i:Int)->getV n K st (i:Int)=g i
 o:∀ q,q<P->(∀ hd:Nat,2<=hd->hd<=21->¬ q∈L hd)->getV n K st (nxH t q)=0/\getV n K st (pvH t q)=0
def pc (t q b:Nat):Nat:=30+4*t+6*q+b
theorem qXR {t q b:Nat}(hb:b<6)(h2:b≠2)(h3:b≠3):¬ LinkCell t ((pc t q b:Nat):Int):=qOZ hb h2 h3
section
variable {t P s n : Nat} {K : Nat -> Option Nat} {st : Vst} {L : Nat -> List Nat} {g : Nat -> Nat}
theorem Work.vw (W:Work t P s n K st L g):VW n K st:=W.lists.vw
theorem Work.get (W:Work t P s n K st L g)(c:Int):Work t P s n K (getS n K st c) L g:=by
 obtain⟨h1,h2⟩:=W.lists.get c
 exact⟨h1,fun i hi hc=>by rw[h2];exact W.near i hi hc,fun q hq h=>by rw[h2];exact W.o q hq h⟩
theorem Work.put (W:Work t P s n K st L g){i:Nat}(hi:i<n)(hc:¬ LinkCell t (i:Int))(v:Nat):Work t P s n K (putS n st (i:Int) v) L (updF g i v):=by
 obtain⟨h1,h2⟩:=W.lists.put hi hc v
 refine⟨h1,fun j hj hcj=>?_,fun q hq h=>?_⟩
 ·rw[h2]
  by_cases e:j=i
  ·subst e;rw[qXM,qJN]
  ·rw[qAu _ _ qo,qR2 _ _ e]
   exact W.near j hj hcj
 ·rw[h2,qAu _ _ (fun e=>hc (.inr ⟨q,.inl e.symm⟩)),qAu _ _ (fun e=>hc (.inr ⟨q,.inr e.symm⟩))]
  exact W.o q hq h
theorem Work.drop (W:Work t P s n K st L g)(hf:Fit t P s n){p l:Nat}(hp:p<P)(hi:infoG (g (pc t p 0))=(1,(l:Int),0,true)){k:Nat}(hk:ofI (l:Int)=(k:Int))(hk10:k<=10)(hm:p∈L (2+k)) :
  dropV n K t P s p st=(l:Int)/\∃ L',Work t P s n K (dropS n K t P s p st) L' g/\∀ hd:Nat,2<=hd->hd<=21->∀ y,y∈L' hd↔y∈L hd/\y≠p:=by
 have hlen:=hf.len
 have epg:pgB (P:Int) (p:Int)=true:=(qHC _ _).2 ⟨qo,qo⟩
 have hin:30+4*t+6*p<n:=qo
 have e0:pageI (t:Int) (P:Int) (s:Int) (p:Int) 0=inH t p:=hf.inf hp
 have ei:infoOf n K t P s p st=(1,(l:Int),0,true):=by
  unfold infoOf
  rw[e0]
  unfold inH
  rw[W.near _ hin (qXR (b:=0) qo qo qo)]
  exact hi
 have ebin:binH (l:Int)=((2+k:Nat):Int):=qHt hk hk10
 refine⟨by unfold dropV;rw[if_pos epg,ei];rfl,?_⟩
 have eds:dropS n K t P s p st=pullS n K t P s ((2+k:Nat):Int) p (getS n K st (inH t p)):=by
  unfold dropS
  rw[if_pos epg,ei]
  simp only[if_true]
  rw[ebin,e0,(qK2 epg).2]
 have W1:=W.get (inH t p)
 obtain⟨l1,l2,hl⟩:=List.append_of_mem hm
 obtain⟨h1,h2,h3,h4⟩:=W1.lists.pull hf (hd:=2+k) qo qo hl
 rw[<- eds] at h1 h2 h3 h4
 have hnd:(L (2+k)).Nodup:=(W.lists.has (2+k) qo qo).nodup
 have hmem:∀ hd:Nat,2<=hd->hd<=21->∀ y,y∈updF L (2+k) (l1++l2) hd↔y∈L hd/\y≠p:=fun hd a2 a21 y=>by
  by_cases e:hd=2+k
  ·subst e
   rw[qJN,hl]
   rw[hl] at hnd
   simp only[List.mem_append,List.mem_cons]
   rw[List.nodup_append] at hnd
   constructor
   ·rintro (h|h)
    ·exact⟨.inl h,fun e=>hnd.2.2 y h p (List.mem_cons_self ..) e⟩
    ·exact⟨.inr (.inr h),fun e=>(List.nodup_cons.1 hnd.2.1).1 (e ▸ h)⟩
   ·rintro ⟨h|h|h,hne⟩
    ·exact .inl h
    ·exact absurd h hne
    ·exact .inr h
  ·rw[qR2 _ _ e]
   exact⟨fun h=>⟨h,fun e2=>W.lists.apart hd (2+k) a2 a21 qo qo e y h (e2 ▸ hm)⟩,fun h=>h.1⟩
 refine⟨_,⟨h1,fun i hi' hc=>?_,fun q hq h=>?_⟩,hmem⟩
 ·rw[h2 _ (fun hx=>hc (hx.link qo qo))]
  exact W1.near i hi' hc
 ·by_cases e:q=p
  ·subst e;exact⟨h3,h4⟩
  ·have hno:∀ hd:Nat,2<=hd->hd<=21->¬ q∈L hd:=fun hd a2 a21 hm2=>h hd a2 a21 ((hmem hd a2 a21 q).2 ⟨hm2,e⟩)
   have hq2:=hno (2+k) qo qo
   rw[h2 _ (by
    rintro (e1|⟨u,hu,e1|e1⟩)
    ·unfold nxH at e1;omega
    ·have:q=u:=by unfold nxH at e1;omega
     exact hq2 (this ▸ hu)
    ·unfold nxH pvH at e1;omega),h2 _ (by
    rintro (e1|⟨u,hu,e1|e1⟩)
    ·unfold pvH at e1;omega
    ·unfold nxH pvH at e1;omega
    ·have:q=u:=by unfold pvH at e1;omega
     exact hq2 (this ▸ hu))]
   exact W1.o q hq hno
theorem Work.add (W:Work t P s n K st L g)(hf:Fit t P s n){p m:Nat}(h1:1<=m)(h2:p+m<=P)(hno:∀ hd:Nat,2<=hd->hd<=21->¬ p∈L hd) :
  ∃ L',Work t P s n K (addS n K t P s p m st) L' (updF (updF g (pc t p 0) (infoV 1 (m:Int) 0)) (pc t (p+m-1) 1) (p+1))/\∀ hd:Nat,2<=hd->hd<=21->∀ y,y∈L' hd↔y∈L hd\/(y=p/\((hd:Nat):Int)=2+HM.logI (m:Int)):=by
 have hlen:=hf.len
 have hP:=hf.nums
 have epg:pgB (P:Int) (p:Int)=true:=(qHC _ _).2 ⟨qo,qo⟩
 obtain⟨k,hk,hk10,_⟩:=qIH (n:=m) h1 qo
 have ebin:binH (m:Int)=((2+k:Nat):Int):=qHt hk hk10
 have elog:HM.logI (m:Int)=(k:Int):=by
  unfold ofI at hk
  rw[if_neg qo] at hk
  exact hk
 have hin:pc t p 0<n:=by unfold pc;omega
 have hfn:pc t (p+m-1) 1<n:=by unfold pc;omega
 have e0:pageI (t:Int) (P:Int) (s:Int) (p:Int) 0=((pc t p 0:Nat):Int):=hf.inf qo
 have e1:pageI (t:Int) (P:Int) (s:Int) ((p:Int)+(m:Int)-1) 1=((pc t (p+m-1) 1:Nat):Int):=by
  exact MUN
 have W2:=(W.put hin (qXR qo qo qo) (infoV 1 (m:Int) 0)).put hfn (qXR qo qo qo) (p+1)
 have eas:addS n K t P s p m st=pushS n K t P s ((2+k:Nat):Int) p (putS n (putS n st ((pc t p 0:Nat):Int) (infoV 1 (m:Int) 0)) ((pc t (p+m-1) 1:Nat):Int) (p+1)):=by
  unfold addS
  rw[if_pos ⟨epg,qo,qo⟩,ebin,(qK2 epg).1,e0,e1]
  rfl
 obtain⟨g1,g2⟩:=W2.lists.push hf (hd:=2+k) qo qo (p:=p) qo hno
 rw[<- eas] at g1 g2
 have hmem:∀ hd:Nat,2<=hd->hd<=21->∀ y,y∈updF L (2+k) (p :: L (2+k)) hd↔y∈L hd\/(y=p/\((hd:Nat):Int)=2+HM.logI (m:Int)):=fun hd a2 a21 y=>by
  rw[elog]
  by_cases e:hd=2+k
  ·subst e
   rw[qJN,List.mem_cons]
   constructor
   ·rintro (h|h)
    ·exact .inr ⟨h,qo⟩
    ·exact .inl h
   ·rintro (h|h)
    ·exact .inr h
    ·exact .inl h.1
  ·rw[qR2 _ _ e]
   exact⟨fun h => .inl h,fun h=>by
    rcases h with h|h
    ·exact h
    ·omega⟩
 refine⟨_,⟨g1,fun i hi hc=>?_,fun q hq h=>?_⟩,hmem⟩
 ·rw[g2 _ (fun hx=>hc (hx.link qo qo))]
  exact W2.near i hi hc
 ·have hq2:¬ q∈p :: L (2+k):=by
   have:=h (2+k) qo qo
   rwa [qJN] at this
  have hno2:∀ hd:Nat,2<=hd->hd<=21->¬ q∈L hd:=fun hd a2 a21 hm2=>h hd a2 a21 ((hmem hd a2 a21 q).2 (.inl hm2))
  rw[g2 _ (by
   rintro (e2|⟨u,hu,e2|e2⟩)
   ·unfold nxH at e2;omega
   ·have:q=u:=by unfold nxH at e2;omega
    exact hq2 (this ▸ hu)
   ·unfold nxH pvH at e2;omega),g2 _ (by
   rintro (e2|⟨u,hu,e2|e2⟩)
   ·unfold pvH at e2;omega
   ·unfold nxH pvH at e2;omega
   ·have:q=u:=by unfold pvH at e2;omega
    exact hq2 (this ▸ hu))]
  exact W2.o q hq hno2
end
section
variable {H : AuH} {n c : Nat} {K : Nat -> Option Nat} {st : Vst} {L : Nat -> List Nat} {g : Nat -> Nat}
theorem Work.of_ok (h:H.Ok L)(HV:HeapV H n c)(hK:∀ i,i<n->K i=some (H.V i)):Work H.t H.p H.s n K freshS L H.V:=by
 have hL:=Lists.of_ok h HV hK
 have hlen:=HV.len
 have hg:∀ i:Nat,i<n->getV n K freshS (i:Int)=H.V i:=fun i hi=>by rw[hL.vw.at_ hi,hK i hi];rfl
 refine⟨hL,fun i hi _=>hg i hi,fun q hq hno=>?_⟩
 have htg:H.tgt q = -1:=by
  rcases H.K_cases q with h3|⟨h3|h3,_⟩|⟨h3,_,h4,h5⟩
  ·exact AuH.tgt_none h3.1
  ·exfalso
   have h4:=H.ln_pos q qo
   obtain⟨k,hk,hk10,_⟩:=qIH (n:=H.ln q) h4.1 h4.2
   unfold ofI at hk
   rw[if_neg qo] at hk
   exact hno (2+k) qo qo ((h.mem (2+k) qo qo q).2 ⟨hq,by rw[AuH.tgt_free h3,hk];push_cast;rfl⟩)
  ·exact AuH.tgt_used h3
  ·by_cases hfull:H.cel q 5=2^slotI (H.Cl q)-1
   ·exact AuH.tgt_full h3 hfull
   ·exfalso
    refine hno (13+(H.Cl q).toNat) qo qo ((h.mem (13+(H.Cl q).toNat) qo qo q).2 ⟨hq,?_⟩)
    rw[AuH.tgt_slab h3 hfull]
    push_cast
    omega
 obtain⟨h6,h7⟩:=h.loose q hq htg
 unfold nxH pvH
 rw[hg _ qo,hg _ qo]
 exact⟨h6,h7⟩
theorem Work.cel (W:Work H.t H.p H.s n K st L g)(hlen:n=30+4*H.t+6*H.p){q b:Nat}(hq:q<H.p)(hb:b<6)(h2:b≠2)(h3:b≠3):(H.re (curV n (getV n K st) H.V)).cel q b=g (pc H.t q b):=by
 show curV n (getV n K st) H.V (30+4*H.t+6*q+b)=_
 rw[qG7 qo]
 exact W.near _ qo (qXR hb h2 h3)
theorem Work.low (W:Work H.t H.p H.s n K st L g)(hlen:n=30+4*H.t+6*H.p){i:Nat}(h:i<2\/(22<=i/\i<30)):curV n (getV n K st) H.V i=g i:=by
 rw[qG7 qo]
 exact W.near _ qo (qCT h)
theorem Work.links (W:Work H.t H.p H.s n K st L g)(hlen:n=30+4*H.t+6*H.p){q:Nat}(hq:q<H.p)(hno:∀ hd:Nat,2<=hd->hd<=21->¬ q∈L hd):(H.re (curV n (getV n K st) H.V)).cel q 2=0/\(H.re (curV n (getV n K st) H.V)).cel q 3=0:=by
 obtain⟨h1,h2⟩:=W.o q hq hno
 refine⟨?_,?_⟩
 ·show curV n (getV n K st) H.V (30+4*H.t+6*q+2)=0
  rw[qG7 qo]
  exact h1
 ·show curV n (getV n K st) H.V (30+4*H.t+6*q+3)=0
  rw[qG7 qo]
  exact h2
end
end
section
structure RelaidG (H:AuH) (g:Nat->Nat) (L L':Nat->List Nat) (A k e:Nat):Prop where
 pos:0<k+e
 whole:H.Whole A (A+k+e)
 noslab:∀ q,A<=q->q<A+k+e->H.K q≠3
 left:k=0->∀ q,q<A->H.K q=1->H.nx q≠A
 right:0<e->A+k+e<H.p->H.K (A+k+e)≠1
 used:0<k->g (pc H.t A 0)=infoV 2 (k:Int) 0
 rest:0<e->g (pc H.t (A+k) 0)=infoV 1 (e:Int) 0
 blank:∀ q,A<=q->q<A+k+e->¬ (0<k/\q=A)->¬ (0<e/\q=A+k)->g (pc H.t q 0)=0
 infos:∀ q,q<H.p->¬ (A<=q/\q<A+k+e)->g (pc H.t q 0)=H.cel q 0
 footu:0<k->g (pc H.t (A+k-1) 1)=A+1
 footr:0<e->g (pc H.t (A+k+e-1) 1)=A+k+1
 blankf:∀ q,A<=q->q<A+k+e->¬ (0<k/\q=A+k-1)->¬ (0<e/\q=A+k+e-1)->g (pc H.t q 1)=0
 feet:∀ q,q<H.p->¬ (A<=q/\q<A+k+e)->g (pc H.t q 1)=H.cel q 1
 bits:∀ q,q<H.p->g (pc H.t q 4)=H.cel q 4/\g (pc H.t q 5)=H.cel q 5
 mem:∀ hd:Nat,2<=hd->hd<=21->∀ y,y∈L' hd↔(y∈L hd/\¬ (A<=y/\y<A+k+e))\/(0<e/\y=A+k/\((hd:Nat):Int)=2+HM.logI (e:Int))
 free:g 0+AuH.sumTo (fun i=>H.freeF (A+i)) (k+e)=H.V 0+e
 roots:∀ i,i<8->g (22+i)=H.V (22+i)
section
variable {H : AuH} {n c : Nat} {K : Nat -> Option Nat} {st : Vst} {L L' : Nat -> List Nat} {g : Nat -> Nat} {A k e : Nat}
theorem qJ7 (HV:HeapV H n c)(h:H.Ok L)(W:Work H.t H.p H.s n K st L' g)(R:RelaidG H g L L' A k e)
  (live:g 1+AuH.sumTo (fun i=>H.liveF (A+i)) (k+e)=H.V 1+(if 0<k then 1 else 0))
  (named:∀ i,i<8->H.V (22+i)≠0->A<=(spotP H.t H.p H.s (H.V (22+i):Int)).toNat->(spotP H.t H.p H.s (H.V (22+i):Int)).toNat<A+k+e->0<k/\(spotP H.t H.p H.s (H.V (22+i):Int)).toNat=A) :
  H.Relaid (curV n (getV n K st) H.V) L L' A k e:=by
 have hlen:=HV.len
 have hle:=R.whole.le
 have hc:∀ q b,q<H.p->b<6->b≠2->b≠3->(H.re (curV n (getV n K st) H.V)).cel q b=g (pc H.t q b):=fun q b hq hb h2 h3=>W.cel hlen hq hb h2 h3
 have hno:∀ q,q<H.p->¬ (0<e/\q=A+k)->(∀ hd:Nat,2<=hd->hd<=21->¬ (q∈L hd/\¬ (A<=q/\q<A+k+e)))->∀ hd:Nat,2<=hd->hd<=21->¬ q∈L' hd:=fun q hq h1 h2 hd a2 a21 hm=>by
  rcases(R.mem hd a2 a21 q).1 hm with h3|⟨h3,h4,_⟩
  ·exact h2 hd a2 a21 h3
  ·exact h1 ⟨h3,h4⟩
 exact {
  pos:=R.pos,whole:=R.whole,noslab:=R.noslab,left:=R.left,right:=R.right
  used:=fun hk=>by rw[hc _ _ qo qo qo qo];exact R.used hk
  rest:=fun he=>by rw[hc _ _ qo qo qo qo];exact R.rest he
  blank:=fun q h1 h2 h3 h4=>by rw[hc _ _ qo qo qo qo];exact R.blank q h1 h2 h3 h4
  infos:=fun q h1 h2=>by rw[hc _ _ qo qo qo qo];exact R.infos q h1 h2
  footu:=fun hk=>by rw[hc _ _ qo qo qo qo];exact R.footu hk
  footr:=fun he=>by rw[hc _ _ qo qo qo qo];exact R.footr he
  blankf:=fun q h1 h2 h3 h4=>by rw[hc _ _ qo qo qo qo];exact R.blankf q h1 h2 h3 h4
  feet:=fun q h1 h2=>by rw[hc _ _ qo qo qo qo];exact R.feet q h1 h2
  bits:=fun q h1=>by rw[hc _ _ h1 qo qo qo,hc _ _ h1 qo qo qo];exact R.bits q h1
  list:=fun hd h2 h21=>W.lists.isL HV h2 h21
  mem:=R.mem
  bare:=fun q h1 h2 h3=>W.links hlen qo (hno q qo h3 (fun hd _ _ hx=>hx.2 ⟨h1,h2⟩))
  loose:=fun q h1 h2 h3=>by
   have h4:=W.links hlen h1 (hno q h1 (fun hx=>h2 ⟨qo,qo⟩) (fun hd a2 a21 hx=>by
    have:=((h.mem hd a2 a21 q).1 hx.1).2
    omega))
   obtain⟨h5,h6⟩:=h.loose q h1 h3
   exact⟨h4.1.trans h5.symm,h4.2.trans h6.symm⟩
  free:=by rw[W.low hlen (.inl qo)];exact R.free
  live:=by rw[W.low hlen (.inl qo)];exact live
  roots:=fun i hi=>by rw[W.low hlen (.inr ⟨qo,qo⟩)];exact R.roots i hi
  named:=named }

theorem qRA (h:H.Ok L){p:Nat}(hp:p<H.p)(hk:H.K p≠0)(hs:H.K p≠3):H.nx p=p+H.ln p/\1<=H.ln p/\p+H.ln p<=H.p/\(p+H.ln p<H.p->H.K (p+H.ln p)≠0)/\(∀ q,p<q->q<p+H.ln p->H.cel q 0=0/\H.K q=0)/\(∀ q,p<=q->q+1<p+H.ln p->H.cel q 1=0)/\H.cel (p+H.ln p-1) 1=p+1:=by
 have hl:=H.ln_pos p (by rcases H.K_cases p with h1|h1|h1 <;> omega)
 have hnx:H.nx p=p+H.ln p:=rfl
 have hf:=h.spans.fit p hp hk
 obtain⟨f1,f2⟩:=h.feet p hp hk
 refine⟨hnx,hl.1,qo,fun h1=>by have:=h.spans.next p hp hk qo;rwa [hnx] at this,fun q h1 h2=>?_,fun q h1 h2=>f1 q h1 h2,f2⟩
 have:=h.spans.inside p q hp hk h1 qo
 exact⟨this,(H.K_zero q this).1⟩
theorem qZx (h:H.Ok L){p:Nat}(hp:p<H.p)(hk:H.K p=1):∃ k:Nat,ofI (H.ln p:Int)=(k:Int)/\k<=10/\p∈L (2+k):=by
 have hl:=H.ln_pos p qo
 obtain⟨k,e,hk10,_⟩:=qIH hl.1 hl.2
 refine⟨k,e,hk10,(h.mem (2+k) qo qo p).2 ⟨hp,?_⟩⟩
 unfold ofI at e
 rw[if_neg qo] at e
 rw[AuH.tgt_free hk,e]
 push_cast
 rfl
theorem qDO {p:Nat}(hk:H.K p=1):infoG (H.cel p 0)=(1,(H.ln p:Int),0,true):=by
 exact M7s
theorem qUO (h:H.Ok L){q:Nat}(hq:H.K q=0):∀ hd:Nat,2<=hd->hd<=21->¬ q∈L hd:=fun hd a2 a21 hm=>by
 have:=((h.mem hd a2 a21 q).1 hm).2
 rw[AuH.tgt_none hq] at this
 omega
theorem Work.used (W:Work H.t H.p H.s n K st L' g)(hf:Fit H.t H.p H.s n){p m:Nat}(h1:1<=m)(h2:p+m<=H.p) :
  Work H.t H.p H.s n K (usedS n H.t H.p H.s p m st) L' (updF (updF g (pc H.t p 0) (infoV 2 (m:Int) 0)) (pc H.t (p+m-1) 1) (p+1)):=by
 have hlen:=hf.len
 have e0:pageI (H.t:Int) (H.p:Int) (H.s:Int) (p:Int) 0=((pc H.t p 0:Nat):Int):=hf.inf qo
 have e1:pageI (H.t:Int) (H.p:Int) (H.s:Int) ((p:Int)+(m:Int)-1) 1=((pc H.t (p+m-1) 1:Nat):Int):=by
  exact MUN
 unfold usedS
 rw[e0,e1]
 exact(W.put (by unfold pc;omega) (qXR qo qo qo) _).put (by unfold pc;omega) (qXR qo qo qo) _
theorem Work.less (W:Work H.t H.p H.s n K st L' g)(hf:Fit H.t H.p H.s n){m:Nat}(h1:m<=g 0)(h2:g 0<4294967296):Work H.t H.p H.s n K (lessS n K m st) L' (updF g 0 (g 0-m)):=by
 have hlen:=hf.len
 unfold lessS
 have e:getV n K st 0=g 0:=W.near 0 qo (qCT (i:=0) (.inl qo))
 rw[e,qCv h1 h2]
 exact(W.get 0).put (i:=0) qo (qCT (.inl qo)) _
theorem Work.more (W:Work H.t H.p H.s n K st L' g)(hf:Fit H.t H.p H.s n){m:Nat}(h2:g 0+m<4294967296):Work H.t H.p H.s n K (moreS n K m st) L' (updF g 0 (g 0+m)):=by
 have hlen:=hf.len
 unfold moreS
 have e:getV n K st 0=g 0:=W.near 0 qo (qCT (i:=0) (.inl qo))
 rw[e,qLA h2]
 exact(W.get 0).put (i:=0) qo (qCT (.inl qo)) _
end
end
section
theorem qB0 {α:Type}{t q b q' b':Nat}(g:Nat->α)(v:α)(hb:b<6)(hb':b'<6)(h:q'≠q\/b'≠b):updF g (pc t q b) v (pc t q' b')=g (pc t q' b'):=by
 unfold updF pc
 rw[if_neg qo]
theorem qJR {α:Type}{t q b q':Nat}(g:Nat->α)(v:α)(h:q'=q):updF g (pc t q b) v (pc t q' b)=v:=by
 subst h
 exact if_pos rfl
theorem qDr {α:Type}{t q b:Nat}(g:Nat->α)(v:α):updF g 0 v (pc t q b)=g (pc t q b):=by unfold updF pc;rw[if_neg qo]
theorem qKp {α:Type}{t q b i:Nat}(g:Nat->α)(v:α)(h:i<30):updF g (pc t q b) v i=g i:=by unfold updF pc;rw[if_neg qo]
section
variable {H : AuH} {n c : Nat} {K : Nat -> Option Nat} {st : Vst} {L L' : Nat -> List Nat} {g : Nat -> Nat}
theorem qIZ (q b:Nat):H.V (pc H.t q b)=H.cel q b:=rfl
theorem qCx (h:H.Ok L){p:Nat}(hp:p<H.p)(hk:H.K p≠0)(hs:H.K p≠3) :
  AuH.sumTo (fun i=>H.freeF (p+i)) (H.ln p)=H.freeF p/\AuH.sumTo (fun i=>H.liveF (p+i)) (H.ln p)=H.liveF p:=by
 obtain⟨_,h1,_,_,h4,_⟩:=qRA h hp hk hs
 refine⟨?_,?_⟩
 ·exact AuH.sumTo_first (f:=fun i=>H.freeF (p+i)) qo (fun i h5 h6=>AuH.freeF_no (h4 (p+i) qo qo).2)
 ·exact AuH.sumTo_first (f:=fun i=>H.liveF (p+i)) qo (fun i h5 h6=>AuH.liveF_no (h4 (p+i) qo qo).2)
theorem qFj (h:H.Ok L)(hP:H.p<=1024):H.V 0=AuH.sumTo H.freeF H.p/\H.V 0<=1024:=by
 have h1:=AuH.sum_free_le h.spans H.p (Nat.le_refl _) (.inl rfl)
 have h2:=h.counts.1
 rw[Nat.mod_eq_of_lt qo] at h2
 exact⟨h2,qo⟩
theorem qTJ (h:H.Ok L)(hP:H.p<=1024){p:Nat}(hp:p<H.p)(hk:H.K p=1):H.ln p<=H.V 0:=by
 obtain⟨_,h1,h2,_⟩:=qRA h hp qo qo
 obtain⟨e,he⟩:∃ e,H.p=p+H.ln p+e:=⟨H.p-(p+H.ln p),qo⟩
 have h3:=AuH.sumTo_split H.freeF (p+H.ln p) e
 rw[<- he] at h3
 have h4:=AuH.sumTo_split H.freeF p (H.ln p)
 have h5:=(qCx h hp qo qo).1
 have h6:H.freeF p=H.ln p:=by unfold AuH.freeF;rw[if_pos hk]
 have h7:=(qFj h hP).1
 omega
end
end
section
section
variable {t P s n : Nat} {K : Nat -> Option Nat} {st : Vst} {L : Nat -> List Nat} {g : Nat -> Nat}
theorem Work.infoAt (W:Work t P s n K st L g)(hf:Fit t P s n){q:Nat}(hq:q<P):infoOf n K t P s (q:Int) st=infoG (g (pc t q 0)):=by
 have hlen:=hf.len
 unfold infoOf
 rw[hf.inf hq]
 have e:getV n K st ((pc t q 0:Nat):Int)=g (pc t q 0):=W.near _ (by unfold pc;omega) (qXR qo qo qo)
 exact congrArg infoG e
theorem Work.footAt (W:Work t P s n K st L g)(hf:Fit t P s n){q:Nat}(hq:q<P):getV n K st (pageI (t:Int) (P:Int) (s:Int) (q:Int) 1)=g (pc t q 1):=by
 have hlen:=hf.len
 rw[hf.foot hq]
 have e:getV n K st ((pc t q 1:Nat):Int)=g (pc t q 1):=W.near _ (by unfold pc;omega) (qXR qo qo qo)
 exact e
theorem Work.zero (W:Work t P s n K st L g)(hf:Fit t P s n){p:Nat}(h0:0<p)(hp:p<P) :
  Work t P s n K (putS n (putS n st (pageI (t:Int) (P:Int) (s:Int) (p:Int) 0) 0) (pageI (t:Int) (P:Int) (s:Int) ((p:Int)-1) 1) 0) L (updF (updF g (pc t p 0) 0) (pc t (p-1) 1) 0):=by
 have hlen:=hf.len
 have e1:pageI (t:Int) (P:Int) (s:Int) ((p:Int)-1) 1=((pc t (p-1) 1:Nat):Int):=by
  rw[show ((p:Int)-1)=((p-1:Nat):Int) by omega]
  exact hf.foot qo
 have e0:pageI (t:Int) (P:Int) (s:Int) (p:Int) 0=((pc t p 0:Nat):Int):=hf.inf hp
 rw[e1,e0]
 exact(W.put (by unfold pc;omega) (qXR qo qo qo) _).put (by unfold pc;omega) (qXR qo qo qo) _
theorem Work.ahead (W:Work t P s n K st L g)(hf:Fit t P s n){p A l:Nat}(hp:p<P)(hA:A+l=p)
  (hno:l=0->p=0\/∃ f kk ll cc ok,f<P/\g (pc t (p-1) 1)=f+1/\infoG (g (pc t f 0))=(kk,ll,cc,ok)/\kk≠1)
  (hyes:0<l->g (pc t (p-1) 1)=A+1/\infoG (g (pc t A 0))=(1,(l:Int),0,true)/\∃ k:Nat,ofI (l:Int)=(k:Int)/\k<=10/\A∈L (2+k)) :
  (relL n K t P s p st).2=((A:Int),(l:Int))/\∃ L' g',Work t P s n K (relL n K t P s p st).1 L' g'/\(∀ hd:Nat,2<=hd->hd<=21->∀ y,y∈L' hd↔y∈L hd/\¬ (0<l/\y=A)) /\
   (∀ i,i<30->g' i=g i)/\(∀ q b,b<6->g' (pc t q b)=if 0<l/\((q=p/\b=0)\/(q+1=p/\b=1)) then 0 else g (pc t q b)):=by
 unfold relL
 by_cases h0:p=0
 ·rw[if_pos h0]
  obtain rfl:l=0:=qo
  obtain rfl:A=p:=qo
  exact⟨rfl,L,g,W,fun hd _ _ y=>by simp,fun i _=>rfl,fun q b _=>by rw[if_neg qo]⟩
 ·rw[if_neg h0]
  dsimp only
  have ep:((p:Int)-1)=((p-1:Nat):Int):=qo
  have W1:=W.get (pageI (t:Int) (P:Int) (s:Int) ((p:Int)-1) 1)
  have hft:getV n K st (pageI (t:Int) (P:Int) (s:Int) ((p:Int)-1) 1)=g (pc t (p-1) 1):=by rw[ep];exact W.footAt hf qo
  by_cases hl:l=0
  ·subst hl
   obtain rfl:A=p:=qo
   rcases hno rfl with h1|⟨f,kk,ll,cc,ok,hfP,hfo,hfi,hk⟩
   ·exact absurd h1 h0
   ·have ei:infoOf n K t P s (((getV n K st (pageI (t:Int) (P:Int) (s:Int) ((A:Int)-1) 1):Nat):Int)-1) (getS n K st (pageI (t:Int) (P:Int) (s:Int) ((A:Int)-1) 1))=(kk,ll,cc,ok):=by
     rw[hft,hfo,show (((f+1:Nat):Int)-1)=(f:Int) by omega,W1.infoAt hf hfP,hfi]
    rw[ei]
    simp only
    rw[if_neg hk]
    exact⟨rfl,L,g,W1.get _,fun hd _ _ y=>by simp,fun i _=>rfl,fun q b _=>by rw[if_neg qo]⟩
  ·obtain⟨hfo,hfi,k,hk,hk10,hm⟩:=hyes qo
   have ef:(((getV n K st (pageI (t:Int) (P:Int) (s:Int) ((p:Int)-1) 1):Nat):Int)-1)=(A:Int):=by rw[hft,hfo];omega
   rw[ef]
   have ei:infoOf n K t P s (A:Int) (getS n K st (pageI (t:Int) (P:Int) (s:Int) ((p:Int)-1) 1))=(1,(l:Int),0,true):=by rw[W1.infoAt hf qo,hfi]
   rw[ei]
   simp only[if_true]
   have W2:=W1.get (pageI (t:Int) (P:Int) (s:Int) (A:Int) 0)
   obtain⟨ed,L3,W3,m3⟩:=W2.drop hf (p:=A) qo hfi hk hk10 hm
   have W4:=W3.zero hf (p:=p) qo hp
   refine⟨by rw[ed],L3,_,W4,fun hd a2 a21 y=>?_,fun i hi=>by rw[qKp _ _ hi,qKp _ _ hi],fun q b hb=>?_⟩
   ·exact MbJ
   ·by_cases c1:q+1=p/\b=1
    ·obtain⟨c1,rfl⟩:=c1
     rw[if_pos ⟨qo,.inr ⟨c1,rfl⟩⟩,qJR _ _ qo]
    ·rw[qB0 _ _ qo hb qo]
     by_cases c2:q=p/\b=0
     ·obtain⟨c2,rfl⟩:=c2
      rw[if_pos ⟨qo,.inl ⟨c2,rfl⟩⟩,qJR _ _ c2]
     ·rw[qB0 _ _ qo hb qo,if_neg qo]
theorem Work.behind (W:Work t P s n K st L g)(hf:Fit t P s n){r l:Nat}(hr0:0<r)
  (hno:l=0->r<P->∃ kk ll cc ok,infoG (g (pc t r 0))=(kk,ll,cc,ok)/\kk≠1)
  (hyes:0<l->r<P/\infoG (g (pc t r 0))=(1,(l:Int),0,true)/\∃ k:Nat,ofI (l:Int)=(k:Int)/\k<=10/\r∈L (2+k)) :
  (relR n K t P s r st).2=(l:Int)/\∃ L' g',Work t P s n K (relR n K t P s r st).1 L' g'/\(∀ hd:Nat,2<=hd->hd<=21->∀ y,y∈L' hd↔y∈L hd/\¬ (0<l/\y=r)) /\
   (∀ i,i<30->g' i=g i)/\(∀ q b,b<6->g' (pc t q b)=if 0<l/\((q=r/\b=0)\/(q+1=r/\b=1)) then 0 else g (pc t q b)):=by
 unfold relR
 by_cases hr:r<P
 ·rw[if_pos qo]
  dsimp only
  by_cases hl:l=0
  ·subst hl
   obtain⟨kk,ll,cc,ok,hfi,hk⟩:=hno rfl hr
   rw[W.infoAt hf hr,hfi]
   simp only
   rw[if_neg hk]
   exact⟨rfl,L,g,W.get _,fun hd _ _ y=>by simp,fun i _=>rfl,fun q b _=>by rw[if_neg qo]⟩
  ·obtain⟨_,hfi,k,hk,hk10,hm⟩:=hyes qo
   rw[W.infoAt hf hr,hfi]
   simp only[if_true]
   have W2:=W.get (pageI (t:Int) (P:Int) (s:Int) (r:Int) 0)
   obtain⟨ed,L3,W3,m3⟩:=W2.drop hf (p:=r) hr hfi hk hk10 hm
   have W4:=W3.zero hf (p:=r) hr0 hr
   refine⟨ed,L3,_,W4,fun hd a2 a21 y=>?_,fun i hi=>by rw[qKp _ _ hi,qKp _ _ hi],fun q b hb=>?_⟩
   ·exact MbJ
   ·by_cases c1:q+1=r/\b=1
    ·obtain⟨c1,rfl⟩:=c1
     rw[if_pos ⟨qo,.inr ⟨c1,rfl⟩⟩,qJR _ _ qo]
    ·rw[qB0 _ _ qo hb qo]
     by_cases c2:q=r/\b=0
     ·obtain⟨c2,rfl⟩:=c2
      rw[if_pos ⟨qo,.inl ⟨c2,rfl⟩⟩,qJR _ _ c2]
     ·rw[qB0 _ _ qo hb qo,if_neg qo]
 ·rw[if_neg qo]
  obtain rfl:l=0:=by
   rcases Nat.eq_zero_or_pos l with h|h
   ·exact h
   ·exact absurd (hyes h).1 hr
  exact⟨rfl,L,g,W,fun hd _ _ y=>by simp,fun i _=>rfl,fun q b _=>by rw[if_neg qo]⟩
end
section
variable {H : AuH} {n : Nat} {K : Nat -> Option Nat} {st : Vst} {L : Nat -> List Nat} {g : Nat -> Nat}
theorem Work.release (W:Work H.t H.p H.s n K st L g)(hf:Fit H.t H.p H.s n){p m A la lr:Nat}(hm:1<=m)(hpm:p+m+lr<=H.p)(hA:A+la=p)
  (hl0:la=0->p=0\/∃ f kk ll cc ok,f<H.p/\g (pc H.t (p-1) 1)=f+1/\infoG (g (pc H.t f 0))=(kk,ll,cc,ok)/\kk≠1)
  (hl1:0<la->g (pc H.t (p-1) 1)=A+1/\infoG (g (pc H.t A 0))=(1,(la:Int),0,true)/\∃ k:Nat,ofI (la:Int)=(k:Int)/\k<=10/\A∈L (2+k))
  (hr0:lr=0->p+m<H.p->∃ kk ll cc ok,infoG (g (pc H.t (p+m) 0))=(kk,ll,cc,ok)/\kk≠1)
  (hr1:0<lr->p+m<H.p/\infoG (g (pc H.t (p+m) 0))=(1,(lr:Int),0,true)/\∃ k:Nat,ofI (lr:Int)=(k:Int)/\k<=10/\p+m∈L (2+k))
  (hin:∀ hd:Nat,2<=hd->hd<=21->A∈L hd->0<la) (h0:g 0+m<4294967296) :
  ∃ L' g',Work H.t H.p H.s n K (releaseS n K H.t H.p H.s p m st) L' g' /\
   (∀ hd:Nat,2<=hd->hd<=21->∀ y,y∈L' hd↔(y∈L hd/\¬ (0<la/\y=A)/\¬ (0<lr/\y=p+m))\/(y=A/\((hd:Nat):Int)=2+HM.logI ((la+m+lr:Nat):Int))) /\
   g' 0=g 0+m/\(∀ i,0<i->i<30->g' i=g i) /\
   (∀ q,g' (pc H.t q 0)=if q=A then infoV 1 ((la+m+lr:Nat):Int) 0 else if (0<la/\q=p)\/(0<lr/\q=p+m) then 0 else g (pc H.t q 0)) /\
   (∀ q,g' (pc H.t q 1)=if q+1=A+(la+m+lr) then A+1 else if (0<la/\q+1=p)\/(0<lr/\q+1=p+m) then 0 else g (pc H.t q 1)) /\
   ∀ q,g' (pc H.t q 4)=g (pc H.t q 4)/\g' (pc H.t q 5)=g (pc H.t q 5):=by
 obtain⟨e1,L1,g1,W1,m1,n1,c1⟩:=W.ahead hf (p:=p) qo hA hl0 hl1
 have hne:lr=0\/p+m≠A:=qo
 obtain⟨e2,L2,g2,W2,m2,n2,c2⟩:=W1.behind hf (r:=p+m) (l:=lr) qo
  (fun h1 h2=>by
   rw[c1 _ _ qo,if_neg qo]
   exact hr0 h1 h2)
  (fun h1=>by
   obtain⟨a1,a2,k,a3,a4,a5⟩:=hr1 h1
   refine⟨a1,by rw[c1 _ _ qo,if_neg qo];exact a2,k,a3,a4,?_⟩
   exact(m1 _ qo qo _).2 ⟨a5,fun h2=>by omega⟩)
 have hAno:∀ hd:Nat,2<=hd->hd<=21->¬ A∈L2 hd:=fun hd a2 a21 hx=>by
  have h1:=(m2 hd a2 a21 _).1 hx
  have h2:=(m1 hd a2 a21 _).1 h1.1
  exact h2.2 ⟨hin hd a2 a21 h2.1,rfl⟩
 obtain⟨L3,W3,m3⟩:=W2.add hf (p:=A) (m:=la+m+lr) qo qo hAno
 have est:addS n K H.t H.p H.s (relL n K H.t H.p H.s p st).2.1 ((m:Int)+(relL n K H.t H.p H.s p st).2.2+(relR n K H.t H.p H.s (p+m) (relL n K H.t H.p H.s p st).1).2) (relR n K H.t H.p H.s (p+m) (relL n K H.t H.p H.s p st).1).1 =
   addS n K H.t H.p H.s (A:Int) ((la+m+lr:Nat):Int) (relR n K H.t H.p H.s (p+m) (relL n K H.t H.p H.s p st).1).1:=by
  rw[e1,e2]
  congr 1
  simp only
  omega
 rw[<- est] at W3
 have e0:(updF (updF g2 (pc H.t A 0) (infoV 1 ((la+m+lr:Nat):Int) 0)) (pc H.t (A+(la+m+lr)-1) 1) (A+1)) 0=g 0:=by
  rw[qKp _ _ qo,qKp _ _ qo,n2 0 qo,n1 0 qo]
 have W4:=W3.more hf (m:=m) (by rw[e0];exact h0)
 refine⟨L3,_,W4,fun hd a2 a21 y=>?_,?_,fun i h1 h2=>?_,fun q=>?_,fun q=>?_,fun q=>?_⟩
 ·rw[m3 hd a2 a21 y,m2 hd a2 a21 y,m1 hd a2 a21 y,and_assoc]
 ·rw[qJN,e0]
 ·rw[qR2 _ _ qo,qKp _ _ h2,qKp _ _ h2,n2 i h2,n1 i h2]
 ·rw[qDr,qB0 _ _ qo qo qo]
  by_cases h1:q=A
  ·rw[if_pos h1,qJR _ _ h1]
  ·rw[if_neg h1,qB0 _ _ qo qo qo,c2 _ _ qo,c1 _ _ qo]
   by_cases h2:(0<la/\q=p)\/(0<lr/\q=p+m)
   ·rw[if_pos h2]
    split
    ·rfl
    ·rw[if_pos qo]
   ·rw[if_neg h2,if_neg qo,if_neg qo]
 ·rw[qDr]
  by_cases h1:q+1=A+(la+m+lr)
  ·rw[if_pos h1,qJR _ _ qo]
  ·rw[if_neg h1,qB0 _ _ qo qo qo,qB0 _ _ qo qo qo,c2 _ _ qo,c1 _ _ qo]
   by_cases h2:(0<la/\q+1=p)\/(0<lr/\q+1=p+m)
   ·rw[if_pos h2]
    split
    ·rfl
    ·rw[if_pos qo]
   ·rw[if_neg h2,if_neg qo,if_neg qo]
 ·simp(disch:=omega) only[qDr,qB0]
  rw[c2 _ _ qo,c2 _ _ qo,c1 _ _ qo,c1 _ _ qo,if_neg qo,if_neg qo,if_neg qo,if_neg qo]
  exact⟨rfl,rfl⟩
end
end
end Go.Proofs.YtgifnhcknodekaaGreat
