/-
  The rules as the document tells them: the starts of spans as a list, a list of pages as it is walked. No program is named here.
-/
import Derived.Test.YtgifnhcknodekaaGreatA07
import Derived.Test.YtgifnhcknodekaaGreatA03
import Derived.Test.YtgifnhcknodekaaGreatA01
import Derived.Deep.AppendLies
import Derived.Test.YtgifnhcknodekaaGreatA04
import Derived.Test.YtgifnhcknodekaaGreatA06
import Derived.Test.YtgifnhcknodekaaGreatA05
import Derived.Deep.RegionWith
import Derived.Deep.CutRange
namespace Go.Proofs.YtgifnhcknodekaaGreat
theorem RpV {P Q:Prop}(kq:Q)(h:HQ Q->P:=by
 intro kq
 skip
 go_simp
 have HLE:=qh HB.o.size
 have HB:=qh (Bnew HB.o (.cells #[.int .i64 0,.int .i64 0,.int .i64 0] 90))
 revert HLE HB
 exact kq.o):P:=h ⟨kq⟩
theorem RRY {P Q:Prop}(kq:Q)(h:HQ Q->P:=by
 intro kq
 refine qk ?_ (fun hHeld=>?_)
 ·exact HS.o _ HB.o
 revert hHeld
 exact kq.o):P:=h ⟨kq⟩
theorem M3p {P:Prop}(h:P:=by
 refine RRY ?_;intro hHeld
 clear hK K
 refine tkz 9 ?_
 refine tkz 10 ?_
 refine tkz 11 ?_
 exact MMM):P:=h
theorem MMM {P:Prop}(h:P:=by
 refine rdz 13 fun K hK=>?_
 obtain⟨z0,z1,z2⟩:=HN.o.three
 have f0:=HN.o.thawed 0
 have f1:=HN.o.thawed 1
 have f2:=HN.o.thawed 2
 go_simp
 have HN:=qh (HN.o.put 0 (.int .i64 k))
 have HN:=qh (HN.o.put 1 (.int .i64 (m:Int)))
 have HN:=qh (HN.o.put 2 (.int .i64 cl))
 have HB:=qh (Bput (p:=⟨_,2,none⟩) (Bput (p:=⟨_,1,none⟩) (Bput (p:=⟨_,0,none⟩) HB.o HLE.o (.int .i64 k)) HLE.o (.int .i64 (m:Int))) HLE.o (.int .i64 cl))
 clear z0 z1 z2 f0 f1 f2
 refine RRY ?_;intro hHeld
 clear hK K
 refine tkz 14 ?_
 refine dnz ?_
 go_wp2_with fail
 go_meet
 case rel=>exact⟨_,rfl,HN.o,HB.o,HLE.o⟩):P:=h
theorem MfR {P:Prop}(h:P:=by
 (try dsimp only)
 exact M2k):P:=h
theorem Mfw {P:Prop}(h:P:=by
 rcases Nat.lt_or_ge (i+1) l.length with h|h
 ·exact h
 ·rw[List.getElem?_eq_none h] at h4;cases h4):P:=h
theorem M2k {P:Prop}(h:P:=by first|exact HS.o _ (Bdrew (Bnew (B0 w) _)) hc|exact HS.o _ HB1.o HC1.o|exact hHeld):P:=h
end Go.Proofs.YtgifnhcknodekaaGreat
set_option linter.unusedVariables false
set_option linter.unusedSimpArgs false
set_option maxRecDepth 100000
set_option maxHeartbeats 25600000
namespace Go.Proofs.YtgifnhcknodekaaGreat
open Go.ChangeShapes Go.WideShapes Go.ChangeAt Go.RowKit Go.Shelf
section
namespace AuH
inductive Starts (H:AuH):List Nat->Nat->Prop where
 | nil:Starts H [] 0
 | snoc {l:List Nat} {q:Nat}:Starts H l q->H.can q=true->Starts H (l ++ [q]) (H.nx q)
variable {H : AuH} {l : List Nat} {x : Nat}
theorem Starts.at_ (h:H.Starts l x):H.At x:=by
 induction h with
 | nil=>exact .zero
 | snoc h hc ih=>exact .step ih hc
theorem Starts.len (h:H.Starts l x):l.length<=x:=by
 induction h with
 | nil=>simp
 | snoc h hc ih =>
  have:=(H.nx_gt hc).1
  rw[List.length_append]
  simp
  omega
theorem Starts.next (h:H.Starts l x):∀ {i a:Nat},l[i]?=some a->(H.At a/\H.can a=true/\a<x)/\(l[i+1]?=some (H.nx a)\/(i+1=l.length/\H.nx a=x)):=by
 induction h with
 | nil=>intro i a h;simp at h
 | snoc h hc ih =>
  rename_i l q
  intro i a hi
  have hgt:=(H.nx_gt hc).1
  rcases Nat.lt_or_ge i l.length with hl|hl
  ·rw[List.getElem?_append_left hl] at hi
   obtain⟨⟨h1,h2,h3⟩,h4⟩:=ih hi
   refine⟨⟨h1,h2,qo⟩,.inl ?_⟩
   rcases h4 with h4|⟨h4,h5⟩
   ·have:i+1<l.length:=by
     exact Mfw
    rw[List.getElem?_append_left this]
    exact h4
   ·rw[List.getElem?_append_right qo,h4,Nat.sub_self,h5]
    rfl
  ·have hil:i=l.length:=by
    rcases Nat.lt_or_ge l.length i with h|h
    ·rw[List.getElem?_append_right hl,List.getElem?_eq_none qs] at hi;cases hi
    ·omega
   subst hil
   rw[List.getElem?_append_right (Nat.le_refl _),Nat.sub_self] at hi
   have hqa:q=a:=by simpa using hi
   subst hqa
   exact⟨⟨h.at_,hc,hgt⟩,.inr ⟨by simp,rfl⟩⟩
theorem Starts.head (h:H.Starts l x):(l = []/\x=0)\/l[0]?=some 0:=by
 induction h with
 | nil=>exact .inl ⟨rfl,rfl⟩
 | snoc h hc ih =>
  right
  rcases ih with ⟨rfl,rfl⟩|ih
  ·rfl
  ·rename_i l q
   have:0<l.length:=by
    rcases Nat.lt_or_ge 0 l.length with h|h
    ·exact h
    ·rw[List.getElem?_eq_none h] at ih;cases ih
   rw[List.getElem?_append_left this]
   exact ih
theorem Starts.find (h:H.Starts l x):∀ {q:Nat},H.At q->q<x->∃ i:Nat,l[i]?=some q:=by
 induction h with
 | nil=>intro q _ h;omega
 | snoc h hc ih =>
  rename_i l q0
  intro q hq hl
  rcases Nat.lt_trichotomy q q0 with h1|h1|h1
  ·obtain⟨i,hi⟩:=ih hq h1
   refine⟨i,?_⟩
   have:i<l.length:=by
    rcases Nat.lt_or_ge i l.length with h|h
    ·exact h
    ·rw[List.getElem?_eq_none h] at hi;cases hi
   rw[List.getElem?_append_left this]
   exact hi
  ·subst h1
   exact⟨l.length,by rw[List.getElem?_append_right (Nat.le_refl _),Nat.sub_self];rfl⟩
  ·have:=(At.next h.at_ hq h1).2
   omega

def Front (H:AuH) (l:List Nat) (n p:Nat):Prop:=∃ f,(l[n]?=some f\/(n=l.length/\f=H.p))/\p<=f/\∀ q,H.At q->p<=q->f<=q
theorem Front.zero (h:H.Starts l H.p):H.Front l 0 0:=by
 rcases h.head with ⟨rfl,h1⟩|h1
 ·exact⟨H.p,.inr ⟨rfl,rfl⟩,Nat.zero_le _,fun q _ _=>by omega⟩
 ·exact⟨0,.inl h1,Nat.le_refl _,fun q _ _=>Nat.zero_le _⟩
theorem Front.yes {n p:Nat}(h:H.Starts l H.p)(hf:H.Front l n p)(hn:l[n]?=some p):H.At p/\H.Front l (n+1) (p+1):=by
 obtain⟨⟨h1,h2,h3⟩,h4⟩:=h.next hn
 have hg:=(H.nx_gt h2).1
 refine⟨h1,H.nx p,?_,hg,fun q hq hp=>(At.next h1 hq qo).2⟩
 rcases h4 with h4|⟨h4,h5⟩
 ·exact .inl h4
 ·exact .inr ⟨h4,h5⟩
theorem Front.no {n p:Nat}(h:H.Starts l H.p)(hf:H.Front l n p)(hp:p<H.p)(hn:l[n]? ≠ some p):¬ H.At p/\H.Front l n (p+1):=by
 obtain⟨f,h1,h2,h3⟩:=hf
 have hne:f≠p:=by
  rintro rfl
  rcases h1 with h1|⟨_,h1⟩
  ·exact hn h1
  ·omega
 exact⟨fun ha=>by have:=h3 p ha (Nat.le_refl _);omega,f,h1,qo,fun q hq hl=>h3 q hq qo⟩

theorem tiled_iff (ha:H.At H.p):H.Tiled ↔ ∀ q,q<H.p->¬ H.At q->H.cel q 0=0:=by
 constructor
 ·rintro ⟨_,hb⟩ q hq hn
  obtain⟨a,h1,h2,h3,h4⟩:=ha.cover q hq
  exact hb a h1 h2 qo q (by rcases Nat.eq_or_lt_of_le h3 with h|h;(subst h;exact absurd h1 hn);exact h) h4
 ·intro h
  refine⟨ha,fun a h1 h2 h3 q h4 h5=>h q (by have:=(H.nx_gt h2).2;omega) (fun hq=>?_)⟩
  have:=(At.next h1 hq h4).2
  omega
theorem tiled_not {q:Nat}(h:H.Tiled)(hq:q<H.p)(hn:¬ H.At q):H.cel q 0=0:=(tiled_iff h.1).1 h q hq hn

def FootAt (H:AuH) (a q:Nat):Prop:=H.cel q 1=if q+1=H.nx a then a+1 else 0
theorem r3_iff (ht:H.Tiled):H.R3 ↔ ∀ q,q<H.p->∀ a,H.At a->a<=q->q<H.nx a->H.FootAt a q:=by
 constructor
 ·intro h q hq a ha h1 h2
  have hc:=ht.at_can ha (show a<H.p by omega)
  have hk:=ht.at_K ha (show a<H.p by omega)
  obtain⟨h3,h4⟩:=h a qo hk
  unfold FootAt
  have hnx:H.nx a=a+H.ln a:=rfl
  by_cases he:q+1=H.nx a
  ·rw[if_pos he,show q=a+H.ln a-1 by omega]
   exact h4
  ·rw[if_neg he]
   exact h3 q h1 qo
 ·intro h q hq hk
  obtain⟨ha,hc⟩:=ht.start hq hk
  have hg:=H.nx_gt hc
  have hl:=H.ln_pos q hk
  have hnx:H.nx q=q+H.ln q:=rfl
  refine⟨fun r h1 h2=>?_,?_⟩
  ·have:=h r qo q ha h1 qo
   unfold FootAt at this
   rw[if_neg qo] at this
   exact this
  ·have:=h (q+H.ln q-1) qo q ha qo qo
   unfold FootAt at this
   rw[if_pos qo] at this
   exact this

def ApartTo (H:AuH) (l:List Nat) (n:Nat):Prop:=∀ (i a b:Nat),i+1<n->l[i]?=some a->l[i+1]?=some b->¬ (H.K b=1/\H.K a=1)
theorem apart_all (h:H.Starts l H.p){n:Nat}(hn:l.length<=n)(ha:H.ApartTo l n):H.R4:=by
 intro q hq hp hk hx h2
 obtain⟨i,hi⟩:=h.find hq hp
 rcases(h.next hi).2 with h4|⟨h4,h5⟩
 ·have:i+1<l.length:=by
   exact Mfw
  exact ha i q _ qo hi h4 ⟨h2,hk⟩
 ·omega
theorem apart_not (h:H.Starts l H.p){i a b:Nat}(h1:l[i]?=some a)(h2:l[i+1]?=some b)(hb:H.K b=1)(ha:H.K a=1):¬ H.R4:=by
 intro hr
 obtain⟨⟨g1,g2,g3⟩,g4⟩:=h.next h1
 rcases g4 with g4|⟨g4,g5⟩
 ·rw[g4] at h2
  have e:H.nx a=b:=by simpa using h2
  subst e
  exact hr a g1 g3 ha (h.next g4).1.2.2 hb
 ·rw[List.getElem?_eq_none qo] at h2;cases h2
theorem ApartTo.step {n a b:Nat}(h:H.ApartTo l (n+1))(h1:l[n]?=some a)(h2:l[n+1]?=some b)(hn:¬ (H.K b=1/\H.K a=1)):H.ApartTo l (n+1+1):=by
 intro i a' b' hi g1 g2
 rcases Nat.lt_or_ge (i+1) (n+1) with h3|h3
 ·exact h i a' b' h3 g1 g2
 ·have:i=n:=qo
  subst this
  rw[h1] at g1
  rw[h2] at g2
  simp only[Option.some.injEq] at g1 g2
  subst g1
  subst g2
  exact hn

def SlotBad (H:AuH) (q b:Nat):Prop:=((H.cel q 4).testBit b=true/\(H.cel q 5).testBit b=false)\/((H.cel q 5).testBit b=true/\(H.K q≠3\/slotI (H.Cl q)<=b))
theorem slot5_iff (q:Nat)(h4:H.cel q 4<2^32)(h5:H.cel q 5<2^32):H.Slot5 q↔(∀ b,b<32->¬ H.SlotBad q b)/\¬ (H.K q=3/\H.cel q 5=0):=by
 have hs:=qWU (H.Cl q)
 constructor
 ·rintro ⟨hy,hn⟩
  by_cases hk:H.K q=3
  ·obtain⟨h1,h2,h3⟩:=hy hk
   refine⟨fun b hb hbad=>?_,fun h=>h1 h.2⟩
   rcases hbad with ⟨g1,g2⟩|⟨g1,g2⟩
   ·rw[h3 b hb g1] at g2;cases g2
   ·rcases g2 with g2|g2
    ·exact g2 hk
    ·rw[Nat.testBit_lt_two_pow (Nat.lt_of_lt_of_le h2 (Nat.pow_le_pow_right qo g2))] at g1;cases g1
  ·obtain⟨h1,h2⟩:=hn hk
   refine⟨fun b hb hbad=>?_,fun h=>hk h.1⟩
   rcases hbad with ⟨g1,_⟩|⟨g1,_⟩
   ·rw[h2] at g1;simp at g1
   ·rw[h1] at g1;simp at g1
 ·rintro ⟨hb,hz⟩
  have hsub:SubB (H.cel q 4) (H.cel q 5):=fun i hi h=>by
   cases hc:(H.cel q 5).testBit i
   ·exact absurd (show H.SlotBad q i from .inl ⟨h,hc⟩) (hb i hi)
   ·rfl
  refine⟨fun hk=>⟨fun h=>hz ⟨hk,h⟩,(qWX _ _ h5 hs).1 (fun i hi h=>?_),hsub⟩,fun hk=>?_⟩
  ·have:i<slotI (H.Cl q):=by
    rcases Nat.lt_or_ge i (slotI (H.Cl q)) with g|g
    ·exact g
    ·exact absurd (show H.SlotBad q i from .inr ⟨h,.inr g⟩) (hb i hi)
   rw[Nat.testBit_two_pow_sub_one]
   simpa using this
  ·have h0:H.cel q 5=0:=(qVQ _ h5).1 (fun i hi h=>absurd (show H.SlotBad q i from .inr ⟨h,.inl hk⟩) (hb i hi))
   refine⟨h0,(qVQ _ h4).1 (fun i hi h=>?_)⟩
   have:=hsub i hi h
   rw[h0] at this
   simp at this

inductive Path (H:AuH) (head:Nat):List Nat->Nat->Nat->Prop where
 | nil:Path H head [] (H.V head) 0
 | snoc {l:List Nat} {q a:Nat}:Path H head l q a->1<=q->q<=H.p->H.cel (q-1) 3=a->Path H head (l ++ [q-1]) (H.cel (q-1) 2) q
def cntIn (l:List Nat) (q:Nat):Nat:=(l.filter fun y=>decide (y=q)).length
theorem cntIn_snoc (l:List Nat)(y q:Nat):cntIn (l ++ [y]) q=cntIn l q+if y=q then 1 else 0:=by
 unfold cntIn
 rw[List.filter_append,List.length_append]
 congr 1
 by_cases h:y=q <;> simp[h]
theorem cntIn_pos {l:List Nat}{q:Nat}(h:q∈l):1<=cntIn l q:=by
 unfold cntIn
 exact List.length_pos_of_mem (List.mem_filter.2 ⟨h,by simp⟩)
theorem qVs {l:List Nat}{q:Nat}(h:¬ q∈l):cntIn l q=0:=by
 unfold cntIn
 rw[List.length_eq_zero_iff,List.filter_eq_nil_iff]
 intro y hy
 simp
 rintro rfl
 exact h hy
variable {head q a : Nat}
theorem Path.lt (h:H.Path head l q a):∀ y∈l,y<H.p:=by
 induction h with
 | nil=>simp
 | snoc h h1 h2 h3 ih =>
  rename_i l q a
  intro y hy
  rcases List.mem_append.1 hy with hy|hy
  ·exact ih y hy
  ·have:y=q-1:=by simpa using hy
   omega
theorem Path.once (h:H.Path head l q a):(∀ y∈l,H.cel y 3≠a)/\(∀ y∈l,H.cel y 3=0\/∃ z∈l,H.cel y 3=z+1)/\(a=0\/∃ z∈l,a=z+1)/\∀ y,cntIn l y<=1:=by
 induction h with
 | nil=>exact⟨by simp,by simp,.inl rfl,fun y=>by simp[cntIn]⟩
 | snoc h h1 h2 h3 ih =>
  rename_i l q a
  obtain⟨i1,i2,i3,i4⟩:=ih
  have hnot:¬ (q-1)∈l:=fun hm=>i1 _ hm h3
  have hmem:∀ y∈l ++ [q-1],H.cel y 3=0\/∃ z∈l,H.cel y 3=z+1:=by
   intro y hy
   rcases List.mem_append.1 hy with hy|hy
   ·exact i2 y hy
   ·have:y=q-1:=by simpa using hy
    subst this
    rw[h3]
    exact i3
  refine⟨fun y hy he=>?_,fun y hy=>?_,.inr ⟨q-1,by simp,qo⟩,fun y=>?_⟩
  ·rcases hmem y hy with h|⟨z,hz,h⟩
   ·omega
   ·have:z=q-1:=qo
    subst this
    exact hnot hz
  ·rcases hmem y hy with h|⟨z,hz,h⟩
   ·exact .inl h
   ·exact .inr ⟨z,List.mem_append_left _ hz,h⟩
  ·rw[cntIn_snoc]
   by_cases he:q-1=y
   ·subst he
    rw[if_pos rfl,qVs hnot]
    omega
   ·rw[if_neg he]
    exact i4 y
theorem chain_path {m:Nat}(hc:H.chain head m (H.V head) 0)(h:H.Path head l q a):l.length<=m/\H.chain head (m-l.length) q a/\∀ y∈l,H.tgt y=head:=by
 induction h with
 | nil=>exact⟨by simp,hc,by simp⟩
 | snoc h h1 h2 h3 ih =>
  rename_i l q a
  obtain⟨i1,i2,i3⟩:=ih
  rcases hr:m-l.length with _|r
  ·rw[hr] at i2
   have:q=0:=i2
   omega
  ·rw[hr] at i2
   obtain⟨⟨_,_,g3,_⟩,g5⟩:=i2
   have e:m-(l ++ [q-1]).length=r:=by rw[List.length_append];simp;omega
   refine⟨by rw[List.length_append];simp;omega,by rw[e];exact g5,fun y hy=>?_⟩
   rcases List.mem_append.1 hy with hy|hy
   ·exact i3 y hy
   ·have:y=q-1:=by simpa using hy
    rw[this]
    exact g3
theorem qI5 (h:H.Path head l q a):∀ {m:Nat},(∀ y∈l,H.tgt y=head)->H.chain head m q a->H.chain head (l.length+m) (H.V head) 0:=by
 induction h with
 | nil=>intro m _ hc;simpa using hc
 | snoc h h1 h2 h3 ih =>
  rename_i l q a
  intro m hy hc
  have:=ih (m:=m+1) (fun y hm=>hy y (List.mem_append_left _ hm)) ⟨⟨h1,h2,hy _ (by simp),h3⟩,hc⟩
  rw[List.length_append]
  rw[show l.length + [q-1].length+m=l.length+(m+1) by simp;omega]
  exact this
theorem qDv (f g:Nat->Nat):∀ n,sumTo (fun q=>f q+g q) n=sumTo f n+sumTo g n
 | 0=>rfl
 | n+1=>by
  show sumTo (fun q=>f q+g q) n+(f n+g n)=(sumTo f n+f n)+(sumTo g n+g n)
  rw[qDv f g n]
  omega
theorem qZa:∀ n,sumTo (fun _=>0) n=0
 | 0=>rfl
 | n+1=>by show sumTo (fun _=>0) n+0=0;rw[qZa n]
theorem qHL (y:Nat):∀ n,sumTo (fun q=>if y=q then 1 else 0) n=if y<n then 1 else 0
 | 0=>by simp[sumTo]
 | n+1=>by
  show sumTo _ n+(if y=n then 1 else 0)=_
  rw[qHL y n]
  by_cases h1:y<n
  ·rw[if_pos h1,if_neg qo,if_pos qo]
  ·rw[if_neg h1]
   by_cases h2:y=n
   ·rw[if_pos h2,if_pos qo]
   ·rw[if_neg h2,if_neg qo]
theorem qGp {f g:Nat->Nat}:∀ n,(∀ q,q<n->f q=g q)->sumTo f n=sumTo g n
 | 0,_=>rfl
 | n+1,h=>by
  show sumTo f n+f n=sumTo g n+g n
  rw[qGp n (fun q hq=>h q qo),h n qo]
theorem qFB {f g:Nat->Nat}:∀ n,(∀ q,q<n->f q<=g q)->sumTo f n<=sumTo g n
 | 0,_=>Nat.le_refl _
 | n+1,h=>by
  have h1:=qFB n (fun q hq=>h q qo)
  have h2:=h n qo
  show sumTo f n+f n<=sumTo g n+g n
  omega
theorem qP9 {f g:Nat->Nat}:∀ n,(∀ q,q<n->f q<=g q)->sumTo f n=sumTo g n->∀ q,q<n->f q=g q
 | 0,_,_,q,hq=>by omega
 | n+1,h,he,q,hq=>by
  have h1:=qFB n (fun q hq=>h q qo)
  have h2:=h n qo
  have he':sumTo f n+f n=sumTo g n+g n:=he
  rcases Nat.lt_or_ge q n with h3|h3
  ·exact qP9 n (fun q hq=>h q qo) qo q h3
  ·have:q=n:=qo
   subst this
   omega
theorem qJ3 (n:Nat):∀ l:List Nat,(∀ y∈l,y<n)->sumTo (cntIn l) n=l.length
 | [],_=>qZa n
 | y :: l,h=>by
  have e:∀ q,q<n->cntIn (y :: l) q=(if y=q then 1 else 0)+cntIn l q:=fun q _=>by
   unfold cntIn
   rw[List.filter_cons]
   by_cases h:y=q
   ·simp[h];omega
   ·simp[h]
  rw[qGp n e,qDv,qHL,if_pos (h y (by simp)),qJ3 n l (fun z hz=>h z (by simp[hz]))]
  simp
  omega
theorem qF6 (head:Int)(n:Nat):H.cnt head n<=n:=by
 have:=qKF (H.isF head) 1 n (fun q _=>by unfold isF;split <;> omega)
 unfold cnt
 omega
theorem listOk_iff (h:H.Path head l 0 a):H.ListOk head ↔ ∀ q,q<H.p->cntIn l q=H.isF head q:=by
 constructor
 ·intro hk
  obtain⟨h1,h2,h3⟩:=chain_path hk h
  have hlen:l.length=H.cnt head H.p:=by
   rcases hr:H.cnt head H.p-l.length with _|r
   ·omega
   ·rw[hr] at h2
    have:=h2.1.1
    omega
  refine qP9 H.p (fun q hq=>?_) (by rw[qJ3 _ _ h.lt,hlen];rfl)
  by_cases hm:q∈l
  ·have:=h.once.2.2.2 q
   unfold isF
   rw[if_pos (h3 q hm)]
   exact this
  ·rw[qVs hm]
   exact Nat.zero_le _
 ·intro hq
  have hm:∀ y∈l,H.tgt y=head:=fun y hy=>by
   have h1:=cntIn_pos hy
   rw[hq y (h.lt y hy)] at h1
   unfold isF at h1
   by_cases he:H.tgt y=head
   ·exact he
   ·rw[if_neg he] at h1;omega
  have hlen:l.length=H.cnt head H.p:=by
   rw[<- qJ3 _ _ h.lt]
   exact qGp _ hq
  have:=qI5 h (m:=0) hm rfl
  rw[Nat.add_zero,hlen] at this
  exact this
theorem listOk_goes (hk:H.ListOk head)(h:H.Path head l q a)(hq:q≠0):1<=q/\q<=H.p/\H.cel (q-1) 3=a/\l.length<H.p:=by
 obtain⟨h1,h2,h3⟩:=chain_path hk h
 have hc:=qF6 (H:=H) head H.p
 rcases hr:H.cnt head H.p-l.length with _|r
 ·rw[hr] at h2
  exact absurd h2 hq
 ·rw[hr] at h2
  obtain⟨⟨g1,g2,_,g4⟩,_⟩:=h2
  exact⟨g1,g2,g4,qo⟩

theorem ones_full {v n:Nat}(hv:v<2^n)(hn:n<=32):HM.onesTo v 32=n↔v=2^n-1:=by
 have h32:∀ k,HM.onesTo v (n+k)=HM.onesTo v n:=by
  intro k
  induction k with
  | zero=>rfl
  | succ k ih =>
   rw[<- Nat.add_assoc,HM.onesTo_succ,ih,Nat.testBit_lt_two_pow (Nat.lt_of_lt_of_le hv (Nat.pow_le_pow_right qo qo))]
   simp
 have e:HM.onesTo v 32=HM.onesTo v n:=by
  have:=h32 (32-n)
  rwa [show n+(32-n)=32 by omega] at this
 rw[e]
 have hf:=HM.ones_free v n
 constructor
 ·intro h
  have h0:HM.freeTo v n = []:=List.length_eq_zero_iff.1 qo
  apply Nat.eq_of_testBit_eq
  intro i
  rw[Nat.testBit_two_pow_sub_one]
  by_cases hi:i<n
  ·unfold HM.freeTo at h0
   rw[List.filter_eq_nil_iff] at h0
   have:=h0 i (List.mem_range.2 hi)
   simp at this
   rw[this,decide_eq_true hi]
  ·rw[Nat.testBit_lt_two_pow (Nat.lt_of_lt_of_le hv (Nat.pow_le_pow_right qo qo)),decide_eq_false hi]
 ·intro h
  have h0:HM.freeTo v n = []:=by
   unfold HM.freeTo
   rw[List.filter_eq_nil_iff]
   intro i hi
   rw[h,Nat.testBit_two_pow_sub_one]
   simpa using List.mem_range.1 hi
  rw[h0] at hf
  simpa using hf
end AuH
end
open Go.Maps
section
def Seg (P:Nat) (nx pv:Nat->Int) (g:Int->Nat):Nat->Nat->List Nat->Nat->Nat->Prop
 | a,x,[],a',x'=>a=a'/\x=x'
 | a,x,p :: r,a',x'=>(x=p+1/\p<P/\g (pv p)=a)/\Seg P nx pv g (p+1) (g (nx p)) r a' x'

section
variable {P : Nat} {nx pv : Nat -> Int} {hd : Int} {g g' : Int -> Nat} {l l1 l2 : List Nat} {a x a' x' p : Nat}
theorem Seg.append:∀ {l1 l2:List Nat} {a x a' x':Nat},Seg P nx pv g a x (l1++l2) a' x' ↔ ∃ b y,Seg P nx pv g a x l1 b y/\Seg P nx pv g b y l2 a' x'
 | [],l2,a,x,a',x'=>by
  constructor
  ·intro h;exact⟨a,x,⟨rfl,rfl⟩,h⟩
  ·rintro ⟨b,y,⟨rfl,rfl⟩,h⟩;exact h
 | p :: r,l2,a,x,a',x'=>by
  constructor
  ·rintro ⟨h1,h2⟩
   obtain⟨b,y,h3,h4⟩:=Seg.append.1 h2
   exact⟨b,y,⟨h1,h3⟩,h4⟩
  ·rintro ⟨b,y,⟨h1,h3⟩,h4⟩
   exact⟨h1,Seg.append.2 ⟨b,y,h3,h4⟩⟩
theorem Seg.frame:∀ {l:List Nat} {a x a' x':Nat},Seg P nx pv g a x l a' x'->(∀ p∈l,g' (nx p)=g (nx p)/\g' (pv p)=g (pv p))->Seg P nx pv g' a x l a' x'
 | [],a,x,a',x',h,_=>h
 | p :: r,a,x,a',x',⟨⟨h1,h2,h3⟩,h4⟩,hf=>by
  have hp:=hf p (List.mem_cons_self ..)
  refine⟨⟨h1,h2,by rw[hp.2];exact h3⟩,?_⟩
  rw[hp.1]
  exact Seg.frame h4 (fun q hq=>hf q (List.mem_cons_of_mem _ hq))
structure IsL (P:Nat) (nx pv:Nat->Int) (hd:Int) (g:Int->Nat) (l:List Nat):Prop where
 seg:∃ a,Seg P nx pv g 0 (g hd) l a 0
 nodup:l.Nodup

end
end
section
structure VW (n:Nat) (K:Nat->Option Nat) (s:Vst):Prop where
 all:∀ i,i<n->∃ v,K i=some v
 lost:s.lost=false
section
variable {n : Nat} {K : Nat -> Option Nat} {s : Vst} {c : Int} {v : Nat}
theorem VW.at_ (h:VW n K s){i:Nat}(hi:i<n):getV n K s (i:Int)=(match pos s.wr i with|some k=>atW s.wr k|none=>(K i).getD 0):=by
 have ho:=qB1 hi h.lost
 unfold getV
 rw[if_pos ho,Int.toNat_natCast]
 cases pos s.wr i <;> rfl
end

def nxH (t p:Nat):Int:=((30+4*t+6*p+2:Nat):Int)
def pvH (t p:Nat):Int:=((30+4*t+6*p+3:Nat):Int)
section
variable {t P s n hd : Nat} {K : Nat -> Option Nat} {st : Vst} {l l1 l2 : List Nat} {p : Nat}
structure Fit (t P s n:Nat):Prop where
 right:rightB t P s=true
 len:n=30+4*t+6*P
def HasL (t P hd n:Nat) (K:Nat->Option Nat) (st:Vst) (l:List Nat):Prop:=IsL P (nxH t) (pvH t) hd (getV n K st) l
end

namespace AuH
variable {H : AuH}
theorem qEw {head:Nat}:∀ (r:Nat) (l:List Nat) (q a:Nat),H.Path head l q a->H.chain head r q a->∃ l' a',H.Path head l' 0 a'
 | 0,l,q,a,hp,hc=>by
  have:q=0:=hc
  subst this
  exact⟨l,a,hp⟩
 | r+1,l,q,a,hp,hc=>by
  obtain⟨⟨h1,h2,h3,h4⟩,h5⟩:=hc
  exact qEw r _ _ _ (.snoc hp h1 h2 h4) h5
theorem listOk_path {head:Nat}(h:H.ListOk head):∃ l a,H.Path head l 0 a:=qEw _ _ _ _ .nil h
end AuH
section
variable {H : AuH} {n c hd : Nat} {K : Nat -> Option Nat} {l : List Nat}
theorem HeapV.fit (HV:HeapV H n c):Fit H.t H.p H.s n:=⟨HV.right,HV.len⟩
theorem qCD (hK:∀ i,i<n->K i=some (H.V i))(hn:n=30+4*H.t+6*H.p){g:Int->Nat}(hg:∀ i:Nat,i<n->g i=H.V i)(hh:hd<30){q a:Nat}(h:H.Path hd l q a):Seg H.p (nxH H.t) (pvH H.t) g 0 (g hd) l a q:=by
 induction h with
 | nil=>exact⟨rfl,hg hd qo⟩
 | snoc h h1 h2 h3 ih =>
  rename_i l q a
  refine Seg.append.2 ⟨a,q,ih,⟨qo,qo,?_⟩,qo,?_⟩
  ·unfold pvH
   rw[hg _ qo,<- h3]
   rfl
  ·unfold nxH
   rw[hg _ qo]
   rfl
theorem qRl:∀ {l:List Nat},(∀ y,AuH.cntIn l y<=1)->l.Nodup
 | [],_=>List.nodup_nil
 | a :: r,h=>by
  have e:∀ y,AuH.cntIn (a :: r) y=(if a=y then 1 else 0)+AuH.cntIn r y:=fun y=>by
   unfold AuH.cntIn
   rw[List.filter_cons]
   by_cases h:a=y
   ·simp[h];omega
   ·simp[h]
  refine List.nodup_cons.2 ⟨fun hm=>?_,qRl (fun y=>by have:=h y;rw[e] at this;omega)⟩
  have h1:=h a
  rw[e,if_pos rfl] at h1
  have:=AuH.cntIn_pos hm
  omega
end
end
section
def ptVs (l:List (Int × Int × Int)):List Value:=l.flatMap fun x => [.int .i64 x.1,.int .i64 x.2.1,.int .i64 x.2.2]
theorem qXJ (l:List (Int × Int × Int)):(ptVs l).length=l.length*3:=by unfold ptVs;induction l with
 | nil=>rfl
 | cons x l ih=>rw[List.flatMap_cons,List.length_append,ih];simp;omega
theorem qHW (l m:List (Int × Int × Int)):ptVs (l++m)=ptVs l++ptVs m:=by unfold ptVs;rw[List.flatMap_append]
theorem qKz (x:Int × Int × Int):ptVs [x] = [.int .i64 x.1,.int .i64 x.2.1,.int .i64 x.2.2]:=by simp[ptVs]
theorem partInfo:(Tryz.prog.info? 143).map (fun i=>(i.zero,i.size,i.bytes))=some (some (.agg #[.int .i64 0,.int .i64 0,.int .i64 0]),3,24):=by kernel_rfl

namespace AuH
variable (H : AuH)
def pg:Nat:=2^H.s
def first (q:Nat):Int:=((q:Int)+1)*(H.pg:Int)
def zs (q:Nat):Nat:=sizeN (H.s:Int) (H.Cl q)
def sl (q:Nat):Nat:=slotI (H.Cl q)
def slotPart (q i:Nat):Int × Int × Int:=((slotKd (H.cel q 5) (H.cel q 4) i:Nat),H.first q+(i:Int)*(H.zs q:Int),(H.zs q:Int))
def slotsTo (q k:Nat):List (Int × Int × Int):=(List.range k).map (H.slotPart q)
def slack (q:Nat):List (Int × Int × Int):=if H.sl q*H.zs q<H.pg then [(5,H.first q+((H.sl q*H.zs q:Nat):Int),(H.pg:Int)-((H.sl q*H.zs q:Nat):Int))] else []
def partsAt (q:Nat):List (Int × Int × Int) :=
 if H.K q=1 then [(1,H.first q,(H.ln q:Int)*(H.pg:Int))] else if H.K q=2 then [(2,H.first q,(H.ln q:Int)*(H.pg:Int))]
 else if H.K q=3 then H.slotsTo q (H.sl q)++H.slack q else []
def parts:List (Int × Int × Int):=catTo H.partsAt H.p
variable {H}
theorem slotsTo_succ (q k:Nat):H.slotsTo q (k+1)=H.slotsTo q k ++ [H.slotPart q k]:=by unfold slotsTo;rw[List.range_succ,List.map_append];rfl
theorem slotsTo_len (q k:Nat):(H.slotsTo q k).length=k:=by unfold slotsTo;simp
theorem partsAt_no {q:Nat}(h:H.K q=0):H.partsAt q = []:=by unfold partsAt;rw[if_neg qo,if_neg qo,if_neg qo]
theorem partsAt_len (q:Nat):(H.partsAt q).length<=33:=by
 unfold partsAt
 split
 ·simp
 ·split
  ·simp
  ·split
   ·rw[List.length_append,slotsTo_len]
    have:=qWU (H.Cl q)
    unfold slack sl
    split <;> simp <;> omega
   ·simp
theorem parts_len:∀ x,(catTo H.partsAt x).length<=x*33
 | 0=>by simp[catTo]
 | x+1=>by
  have h1:=parts_len x
  have h2:=partsAt_len (H:=H) x
  show (catTo H.partsAt x++H.partsAt x).length<=_
  rw[List.length_append]
  omega
end AuH
theorem qMQ {H:AuH}{n c:Nat}(HV:HeapV H n c):1024<=H.pg/\H.pg<=1048576/\H.pg=pageS H.s/\pageN H.t H.p H.s=H.pg:=by
 obtain⟨g,q,h1,h2,h3,h4,h5,h6,h7,h8,h9,h10,h11⟩:=qNo HV.right
 have e:H.pg=g:=by unfold AuH.pg;rw[h8,Int.toNat_natCast]
 rw[e]
 exact⟨h6,h7,by rw[qVt ⟨h9,h10⟩];exact h8,h1⟩
theorem qFR {H:AuH}{n c:Nat}(HV:HeapV H n c){q:Nat}(hq:q<H.p):addrI H.t H.p H.s q 0=H.first q/\addrB H.t H.p H.s q 0=true/\1024<=H.first q/\H.first q<=1075838976:=by
 have hg:=qMQ HV
 have hB:addrB H.t H.p H.s q 0=true:=by unfold addrB;rw[HV.right,hg.2.2.2,Bool.true_and,decide_eq_true_iff];omega
 have hA:addrI H.t H.p H.s q 0=((q:Int)+1)*(H.pg:Int)+0:=by unfold addrI;rw[if_pos hB,hg.2.2.2]
 have hY:=qNk hB
 rw[hA,Int.add_zero] at hY
 exact⟨by rw[hA,Int.add_zero];rfl,hB,hY.2.2.2.2.1,hY.2.2.2.2.2⟩

theorem qGN {w w':World}{row:Option Nat}{g:Nat}{t:TypeId}{cs:Array Value}(h:Held w g t cs)(hg:w.grownBy w' row)(hr:row≠some g):Held w' g t cs:=(hg.block g h.lt (fun e=>hr e.symm)).trans h
end
section
theorem qIX {w:World}{base base':Nat}{e:TypeId}{size:Nat}{v:Value}{n:Nat}{xs:List Value}(h:w.ownsRow base e size v n xs)(hb:base'<=base):w.ownsRow base' e size v n xs :=
 ⟨h.1,h.2.imp id fun ⟨g,cap,cur,h1,h2,h3⟩=>⟨g,cap,cur,h1,Nat.le_trans hb h2,h3⟩⟩
section
attribute [local go_sem] Oper.semAt_some

end
end
section
def blocksOf (l:List (Int × Int × Int)):List (Int × Int):=(l.filter fun x=>decide (x.1=2)).map fun x=>x.2
def bkVs (l:List (Int × Int)):List Value:=l.flatMap fun x => [.int .i64 x.1,.int .i64 x.2]
theorem qU4 (l:List (Int × Int))(x:Int × Int):bkVs (l ++ [x])=bkVs l ++ [.int .i64 x.1,.int .i64 x.2]:=by unfold bkVs;rw[List.flatMap_append];simp
theorem qGG (l m:List (Int × Int × Int)):blocksOf (l++m)=blocksOf l++blocksOf m:=by unfold blocksOf;rw[List.filter_append,List.map_append]
theorem qId {x:Int × Int × Int}(h:x.1=2):blocksOf [x] = [x.2]:=by simp[blocksOf,h]
theorem qCe {x:Int × Int × Int}(h:x.1≠2):blocksOf [x] = []:=by simp[blocksOf,h]
theorem qY6 (l:List (Int × Int × Int)):(blocksOf l).length<=l.length:=by unfold blocksOf;rw[List.length_map];exact List.length_filter_le _ _
theorem blockInfo:(Tryz.prog.info? 59).map (fun i=>(i.zero,i.size,i.bytes))=some (some (.agg #[.int .i64 0,.int .i64 0]),2,16):=by kernel_rfl
theorem qPO:∀ (l:List (Int × Int × Int)) (i:Nat) (x:Int × Int × Int),l[i]?=some x->(ptVs l)[i*3]?=some (.int .i64 x.1)/\(ptVs l)[i*3+1]?=some (.int .i64 x.2.1)/\(ptVs l)[i*3+2]?=some (.int .i64 x.2.2)
 | [],i,x,h=>by simp at h
 | y :: l,0,x,h=>by
  simp at h
  subst h
  simp[ptVs]
 | y :: l,i+1,x,h=>by
  have h':l[i]?=some x:=by simpa using h
  obtain⟨h1,h2,h3⟩:=qPO l i x h'
  have e:ptVs (y :: l) = [.int .i64 y.1,.int .i64 y.2.1,.int .i64 y.2.2]++ptVs l:=by simp[ptVs]
  have g:∀ k,(ptVs (y :: l))[(i*3+k)+3]?=(ptVs l)[i*3+k]?:=fun k=>by
   rw[e,List.getElem?_append_right (by simp)]
   simp
  exact⟨by have:=g 0;rw[Nat.add_zero] at this;rw[show (i+1)*3=i*3+3 by omega,this];exact h1,by rw[show (i+1)*3+1=(i*3+1)+3 by omega,g];exact h2,by rw[show (i+1)*3+2=(i*3+2)+3 by omega,g];exact h3⟩
theorem qJH {w:World}{base:Nat}{e:TypeId}{size n c:Nat}{A:Option Addr}{xs:List Value}(h:w.ownsRow base e size (.slice A n c) n xs):n<=c/\c<=maxLen:=by
 rcases h.2 with ⟨h1,h2⟩|⟨g,cap,cur,h1,hb,hg,hnc,hcm,hr⟩
 ·injection h1 with _ h1 h3;omega
 ·injection h1 with _ _ h3;omega
theorem qOX {w:World}{base n g cap:Nat}{e:TypeId}{l:List (Int × Int × Int)}(h:w.ownsRow base e 3 (.slice (some ⟨g,0,none⟩) n cap) n (ptVs l))(hn:l.length=n){i:Nat}{x:Int × Int × Int}(hx:l[i]?=some x) :
  w.cell? ⟨g,i*3,none⟩=some (.int .i64 x.1)/\w.cell? ⟨g,i*3+1,none⟩=some (.int .i64 x.2.1)/\w.cell? ⟨g,i*3+2,none⟩=some (.int .i64 x.2.2):=by
 have hi:i<n:=by
  rcases Nat.lt_or_ge i n with h1|h1
  ·exact h1
  ·rw[List.getElem?_eq_none qo] at hx;cases hx
 obtain⟨h1,h2,h3⟩:=qPO l i x hx
 exact⟨(h.cellAt _ qo).trans h1,(h.cellAt _ qo).trans h2,(h.cellAt _ qo).trans h3⟩
end
section
namespace AuH
variable {H : AuH} {V : Nat -> Nat}
namespace Twin
end Twin
end AuH

section
variable {H : AuH} {hd : Nat} {g : Int -> Nat} {l : List Nat}
theorem qF0 {a:Nat}(hp:H.Path hd l 0 a)(hk:H.ListOk hd):l.length=H.cnt hd H.p/\∀ y∈l,H.tgt y=hd:=by
 obtain⟨h1,h2,h3⟩:=AuH.chain_path hk hp
 refine⟨?_,h3⟩
 rcases hr:H.cnt hd H.p-l.length with _|r
 ·omega
 ·rw[hr] at h2
  have:=h2.1.1
  omega
end
end
section
section
variable {H : AuH} {n c hd : Nat} {g0 g' : Int -> Nat} {l l' : List Nat}
theorem qZQ {a q:Nat}(hp:H.Path hd l 0 a)(hk:H.ListOk hd)(hq:q<H.p)(ht:H.tgt q=hd):q∈l:=by
 have h1:=(AuH.listOk_iff hp).1 hk q hq
 unfold AuH.isF at h1
 rw[if_pos ht] at h1
 rcases Nat.eq_zero_or_pos (AuH.cntIn l q) with h2|h2
 ·omega
 ·unfold AuH.cntIn at h2
  obtain⟨x,hx⟩:=List.exists_mem_of_length_pos h2
  rw[List.mem_filter] at hx
  have:x=q:=by simpa using hx.2
  subst this
  exact hx.1
end

section
variable {P hd t : Nat} {g : Int -> Nat} {l l1 l2 : List Nat} {p a' : Nat}
end
end
section
namespace AuH
structure Spans (H:AuH):Prop where
 pos:0<H.p
 zero:H.K 0≠0
 fit:∀ q,q<H.p->H.K q≠0->H.nx q<=H.p
 next:∀ q,q<H.p->H.K q≠0->H.nx q<H.p->H.K (H.nx q)≠0
 inside:∀ q r,q<H.p->H.K q≠0->q<r->r<H.nx q->H.cel r 0=0
 none:∀ q,q<H.p->H.K q=0->H.cel q 0=0
variable {H : AuH}
theorem Tiled.spans (h:H.Tiled)(hp:0<H.p):H.Spans where
 pos:=hp
 zero:=h.at_K .zero hp
 fit q hq hk:=((H.can_iff q).1 (h.start hq hk).2).2.2
 next q hq hk hn:=by
  have hs:=h.start hq hk
  exact h.at_K (.step hs.1 hs.2) hn
 inside q r hq hk h1 h2:=by
  have hs:=h.start hq hk
  exact h.2 q hs.1 hs.2 hq r h1 h2
 none q hq hk:=by
  obtain⟨a,a1,a2,a3,a4,a5⟩:=h.cover hq
  rcases Nat.eq_or_lt_of_le a4 with h6|h6
  ·subst h6;exact absurd hk a3
  ·have hs:=h.start a2 a3
   exact h.2 a hs.1 hs.2 a2 q h6 a5
structure Ok (H:AuH) (L:Nat->List Nat):Prop where
 spans:H.Spans
 feet:H.R3
 apart:∀ q,q<H.p->H.K q=1->H.nx q<H.p->H.K (H.nx q)≠1
 slots:H.R5
 list:∀ hd:Nat,2<=hd->hd<=21->IsL H.p (nxH H.t) (pvH H.t) hd (fun c=>H.V c.toNat) (L hd)
 mem:∀ hd:Nat,2<=hd->hd<=21->∀ y,y∈L hd↔y<H.p/\H.tgt y=hd
 loose:H.R8
 counts:H.R9
 roots:H.R10
theorem okL_of (hp:0<H.p)(hr:∀ i,i<10->H.rule i):∃ L,H.Ok L:=by
 have hti:H.Tiled:=hr 1 qo
 have hok:∀ h,2<=h->h<=21->H.ListOk h:=fun h a1 a2=>by
  rcases Nat.lt_or_ge h 13 with h1|h1
  ·have h5:∀ k,k<11->H.ListOk (2+k):=hr 5 qo
   have:=h5 (h-2) qo
   rwa [show 2+(h-2)=h by omega] at this
  ·have h6:∀ k,k<9->H.ListOk (13+k):=hr 6 qo
   have:=h6 (h-13) qo
   rwa [show 13+(h-13)=h by omega] at this
 have hex:∀ j,∃ l:List Nat,2<=j->j<=21->∃ a,H.Path j l 0 a:=fun j=>by
  by_cases hj:2<=j/\j<=21
  ·obtain⟨l,a,h⟩:=AuH.listOk_path (hok j hj.1 hj.2)
   exact⟨l,fun _ _=>⟨a,h⟩⟩
  ·exact⟨[],fun h1 h2=>absurd ⟨h1,h2⟩ hj⟩
 refine⟨fun j=>(hex j).choose,hti.spans hp,hr 2 qo,fun q hq hk hn=>?_,hr 4 qo,fun hd h2 h21=>?_,fun hd h2 h21 y=>?_,hr 7 qo,hr 8 qo,hr 9 qo⟩
 ·exact(show H.R4 from hr 3 qo) q (hti.start hq qo).1 hq hk hn
 ·obtain⟨a,hpa⟩:=(hex hd).choose_spec h2 h21
  exact⟨⟨a,qCD (n:=30+4*H.t+6*H.p) (K:=fun i=>some (H.V i)) (fun i _=>rfl) rfl (fun i _=>by simp) qo hpa⟩,qRl hpa.once.2.2.2⟩
 ·obtain⟨a,hpa⟩:=(hex hd).choose_spec h2 h21
  exact⟨fun hy=>⟨hpa.lt y hy,(qF0 hpa (hok hd h2 h21)).2 y hy⟩,fun hy=>qZQ hpa (hok hd h2 h21) hy.1 hy.2⟩
end AuH
end
section
def inH (t p:Nat):Int:=((30+4*t+6*p:Nat):Int)
section
variable {n : Nat} {K : Nat -> Option Nat} {st st' st'' : Vst} {t P s : Nat} {nn : Int}
theorem Fit.inf (h:Fit t P s n){p:Nat}(hp:p<P):pageI (t:Int) (P:Int) (s:Int) (p:Int) 0=inH t p:=by
 rw[qMg h.right qo qo qo qo]
 unfold inH
 push_cast
 omega
end

section
variable {H : AuH} {n c : Nat} {K : Nat -> Option Nat}
end
end
section
structure Lists (t P n:Nat) (K:Nat->Option Nat) (st:Vst) (L:Nat->List Nat):Prop where
 vw:VW n K st
 has:∀ hd:Nat,2<=hd->hd<=21->HasL t P hd n K st (L hd)
 apart:∀ a b:Nat,2<=a->a<=21->2<=b->b<=21->a≠b->∀ u∈L a,¬ u∈L b
def LinkCell (t:Nat) (c:Int):Prop:=(∃ hd:Nat,2<=hd/\hd<=21/\c=hd)\/∃ u,c=nxH t u\/c=pvH t u
section
variable {t P s n : Nat} {K : Nat -> Option Nat} {st : Vst} {L : Nat -> List Nat} {hd p : Nat} {l1 l2 : List Nat}
theorem qOZ {q b:Nat}(hb:b<6)(h2:b≠2)(h3:b≠3):¬ LinkCell t ((30+4*t+6*q+b:Nat):Int):=by
 rintro (⟨hd,_,_,e⟩|⟨u,e|e⟩)
 ·omega
 ·unfold nxH at e;omega
 ·unfold pvH at e;omega
end
section
variable {H : AuH} {n c : Nat} {K : Nat -> Option Nat} {st : Vst} {L : Nat -> List Nat}
theorem Lists.of_ok (h:H.Ok L)(HV:HeapV H n c)(hK:∀ i,i<n->K i=some (H.V i)):Lists H.t H.p n K freshS L:=by
 have hV:VW n K freshS:=⟨fun i hi=>⟨_,hK i hi⟩,rfl⟩
 have hlen:=HV.len
 have hg:∀ i:Nat,i<n->getV n K freshS (i:Int)=H.V i:=fun i hi=>by rw[hV.at_ hi,hK i hi];rfl
 refine⟨hV,fun hd h2 h21=>?_,fun a b a2 a21 b2 b21 hne u hu hv=>?_⟩
 ·obtain⟨⟨a,hs⟩,hn⟩:=h.list hd h2 h21
  refine⟨⟨a,?_⟩,hn⟩
  rw[hg hd qo]
  simp only[Int.toNat_natCast] at hs
  refine hs.frame (fun u hu=>?_)
  have hup:=((h.mem hd h2 h21 u).1 hu).1
  unfold nxH pvH
  rw[hg _ qo,hg _ qo]
  simp only[Int.toNat_natCast]
  exact⟨trivial,trivial⟩
 ·have e1:=((h.mem a a2 a21 u).1 hu).2
  have e2:=((h.mem b b2 b21 u).1 hv).2
  omega
end
end
section
namespace AuH
theorem qMZ {α:Type}{f:Nat->List α}{x:α}:∀ n,x∈catTo f n ↔ ∃ q,q<n/\x∈f q
 | 0=>by simp[catTo]
 | n+1=>by
  show x∈catTo f n++f n↔_
  rw[List.mem_append,qMZ n]
  constructor
  ·rintro (⟨q,h1,h2⟩|h)
   ·exact⟨q,qo,h2⟩
   ·exact⟨n,qo,h⟩
  ·rintro ⟨q,h1,h2⟩
   rcases Nat.lt_or_ge q n with h|h
   ·exact .inl ⟨q,h,h2⟩
   ·obtain rfl:q=n:=qo
    exact .inr h2
end AuH
theorem mem_blocksOf {l:List (Int × Int × Int)}{x:Int × Int}:x∈blocksOf l↔(2,x)∈l:=by
 unfold blocksOf
 rw[List.mem_map]
 constructor
 ·rintro ⟨y,h1,rfl⟩
  rw[List.mem_filter] at h1
  obtain⟨h1,h2⟩:=h1
  have:y.1=2:=by simpa using h2
  rw[<- this]
  exact h1
 ·intro h
  exact⟨(2,x),List.mem_filter.2 ⟨h,by simp⟩,rfl⟩
namespace AuH
theorem qMi {H:AuH}{n c:Nat}(HV:HeapV H n c){q o:Nat}(hq:q<H.p)(ho:o<H.pg) :
  addrB H.t H.p H.s q o=true/\addrI H.t H.p H.s q o=H.first q+(o:Int):=by
 have hg:=qMQ HV
 have hB:addrB H.t H.p H.s q o=true:=by unfold addrB;rw[HV.right,hg.2.2.2,Bool.true_and,decide_eq_true_iff];omega
 refine⟨hB,?_⟩
 unfold addrI
 rw[if_pos hB,hg.2.2.2]
 rfl
theorem qKp {H:AuH}{n c:Nat}(HV:HeapV H n c){q o:Nat}(hq:q<H.p)(ho:o<H.pg) :
  spotB H.t H.p H.s (H.first q+(o:Int))=true/\spotP H.t H.p H.s (H.first q+(o:Int))=q/\spotO H.t H.p H.s (H.first q+(o:Int))=o:=by
 obtain⟨h1,h2⟩:=qMi HV hq ho
 have h:=qNk h1
 rw[h2] at h
 exact⟨h.2.1,h.2.2.1,h.2.2.2.1⟩
theorem qIr {a b i:Nat}(h:((slotKd a b i:Nat):Int)=2):b.testBit i=true:=by
 unfold slotKd at h
 cases hb:b.testBit i
 ·rw[hb,if_neg (by simp)] at h
  split at h <;> omega
 ·rfl
theorem live_iff {H:AuH}{n c:Nat}(HV:HeapV H n c)(a:Int):(∃ x∈blocksOf H.parts,x.1=a)↔H.LiveAt a:=by
 have hs:=HV.nums
 have hg:=qMQ HV
 constructor
 ·rintro ⟨⟨a',z⟩,hx,rfl⟩
  obtain⟨q,hq,hx⟩:=(qMZ H.p).1 (mem_blocksOf.1 hx)
  show H.LiveAt a'
  unfold partsAt at hx
  by_cases h1:H.K q=1
  ·rw[if_pos h1] at hx
   simp at hx
  ·rw[if_neg h1] at hx
   by_cases h2:H.K q=2
   ·rw[if_pos h2] at hx
    simp at hx
    obtain⟨g1,g2,g3⟩:=qKp HV hq (show 0<H.pg by omega)
    rw[show H.first q+((0:Nat):Int)=a' by rw[hx.1];simp] at g1 g2 g3
    refine⟨g1,.inl ⟨?_,g3⟩⟩
    rw[g2,Int.toNat_natCast]
    exact h2
   ·rw[if_neg h2] at hx
    by_cases h3:H.K q=3
    ·rw[if_pos h3] at hx
     rcases List.mem_append.1 hx with hx|hx
     ·unfold slotsTo at hx
      obtain⟨i,hi,he⟩:=List.mem_map.1 hx
      have hi:=List.mem_range.1 hi
      unfold slotPart at he
      injection he with e1 e2
      injection e2 with e2 e3
      have hin:=qJd (s:=(H.s:Int)) (k:=H.Cl q) qo (show i<slotI (H.Cl q) from hi)
      have hz:H.zs q=sizeN (H.s:Int) (H.Cl q):=rfl
      have ho:i*H.zs q<H.pg:=by
       have h:=hin.1
       rw[Nat.succ_mul] at h
       rw[hz,hg.2.2.1]
       omega
      obtain⟨g1,g2,g3⟩:=qKp HV hq ho
      have hcast:((i*H.zs q:Nat):Int)=(i:Int)*(H.zs q:Int):=by push_cast;rfl
      rw[show H.first q+((i*H.zs q:Nat):Int)=a' by rw[hcast];exact e2] at g1 g2 g3
      have hsl:=qMM (t:=H.t) (p:=H.p) (s:=H.s) (k:=H.Cl q) HV.right i hi (o:=((i*H.zs q:Nat):Int)) hcast
      refine⟨g1,.inr ?_⟩
      rw[g2,g3,Int.toNat_natCast]
      exact⟨h3,hsl.1,by rw[hsl.2,Int.toNat_natCast];exact qIr e1⟩
     ·unfold slack at hx
      split at hx
      ·simp at hx
      ·simp at hx
    ·rw[if_neg h3] at hx
     simp at hx
 ·rintro ⟨hs1,h⟩
  obtain⟨h1,h2,_⟩:=qSv hs1
  obtain⟨_,⟨h9,h10⟩,h11,h12⟩:=qRw h1
  obtain⟨q,hqq⟩:∃ q:Nat,spotP H.t H.p H.s a=q:=⟨(spotP H.t H.p H.s a).toNat,qo⟩
  rw[hqq] at h1 h2 h h10
  rw[Int.toNat_natCast] at h
  have hq:q<H.p:=qo
  have hA:a=H.first q+spotO H.t H.p H.s a:=by
   have:addrI H.t H.p H.s q (spotO H.t H.p H.s a)=H.first q+spotO H.t H.p H.s a:=by
    unfold addrI
    rw[if_pos h1,hg.2.2.2]
    rfl
   rw[<- this]
   exact h2.symm
  rcases h with ⟨hk,ho⟩|⟨hk,hsb,htb⟩
  ·rw[ho] at hA
   refine⟨(a,(H.ln q:Int)*(H.pg:Int)),mem_blocksOf.2 ((qMZ H.p).2 ⟨q,hq,?_⟩),rfl⟩
   unfold partsAt
   rw[if_neg qo,if_pos hk,hA,Int.add_zero]
   simp
  ·obtain⟨_,i,g1,g2,g3⟩:=qFM hsb
   rw[g3,Int.toNat_natCast] at htb
   refine⟨(a,(H.zs q:Int)),mem_blocksOf.2 ((qMZ H.p).2 ⟨q,hq,?_⟩),rfl⟩
   unfold partsAt
   rw[if_neg qo,if_neg qo,if_pos hk]
   refine List.mem_append_left _ (List.mem_map.2 ⟨i,List.mem_range.2 g1,?_⟩)
   unfold slotPart slotKd
   rw[if_pos htb,hA,g2]
   rfl
end AuH
end
section
structure Work (t P s n:Nat) (K:Nat->Option Nat) (st:Vst) (L:Nat->List Nat) (g:Nat->Nat):Prop where
 lists:Lists t P n K st L
 near:∀ i:Nat,i<n->¬ LinkCell t (i:Int)->getV n K st (i:Int)=g i
 o:∀ q,q<P->(∀ hd:Nat,2<=hd->hd<=21->¬ q∈L hd)->getV n K st (nxH t q)=0/\getV n K st (pvH t q)=0
def pc (t q b:Nat):Nat:=30+4*t+6*q+b
theorem qXR {t q b:Nat}(hb:b<6)(h2:b≠2)(h3:b≠3):¬ LinkCell t ((pc t q b:Nat):Int):=qOZ hb h2 h3
section
variable {t P s n : Nat} {K : Nat -> Option Nat} {st : Vst} {L : Nat -> List Nat} {g : Nat -> Nat}
end
section
variable {H : AuH} {n c : Nat} {K : Nat -> Option Nat} {st : Vst} {L : Nat -> List Nat} {g : Nat -> Nat}
theorem Work.of_ok (h:H.Ok L)(HV:HeapV H n c)(hK:∀ i,i<n->K i=some (H.V i)):Work H.t H.p H.s n K freshS L H.V:=by
 have hL:=Lists.of_ok h HV hK
 have hlen:=HV.len
 have hg:∀ i:Nat,i<n->getV n K freshS (i:Int)=H.V i:=fun i hi=>by rw[hL.vw.at_ hi,hK i hi];rfl
 refine⟨hL,fun i hi _=>hg i hi,fun q hq hno=>?_⟩
 have htg:H.tgt q = -1:=by
  rcases H.K_cases q with h3|⟨h3|h3,_⟩|⟨h3,_,h4,h5⟩
  ·exact AuH.tgt_none h3.1
  ·exfalso
   have h4:=H.ln_pos q qo
   obtain⟨k,hk,hk10,_⟩:=qIH (n:=H.ln q) h4.1 h4.2
   unfold ofI at hk
   rw[if_neg qo] at hk
   exact hno (2+k) qo qo ((h.mem (2+k) qo qo q).2 ⟨hq,by rw[AuH.tgt_free h3,hk];push_cast;rfl⟩)
  ·exact AuH.tgt_used h3
  ·by_cases hfull:H.cel q 5=2^slotI (H.Cl q)-1
   ·exact AuH.tgt_full h3 hfull
   ·exfalso
    refine hno (13+(H.Cl q).toNat) qo qo ((h.mem (13+(H.Cl q).toNat) qo qo q).2 ⟨hq,?_⟩)
    rw[AuH.tgt_slab h3 hfull]
    push_cast
    omega
 obtain⟨h6,h7⟩:=h.loose q hq htg
 unfold nxH pvH
 rw[hg _ qo,hg _ qo]
 exact⟨h6,h7⟩
end
end
section
section
variable {H : AuH} {n c : Nat} {K : Nat -> Option Nat} {st : Vst} {L L' : Nat -> List Nat} {g : Nat -> Nat} {A k e : Nat}
theorem qTa (h:H.Ok L){p:Nat}(hp:p<H.p)(hk:H.K p≠0)(hs:H.K p≠3):H.nx p=p+H.ln p/\1<=H.ln p/\p+H.ln p<=H.p/\(p+H.ln p<H.p->H.K (p+H.ln p)≠0)/\(∀ q,p<q->q<p+H.ln p->H.cel q 0=0/\H.K q=0)/\(∀ q,p<=q->q+1<p+H.ln p->H.cel q 1=0)/\H.cel (p+H.ln p-1) 1=p+1:=by
 have hl:=H.ln_pos p (by rcases H.K_cases p with h1|h1|h1 <;> omega)
 have hnx:H.nx p=p+H.ln p:=rfl
 have hf:=h.spans.fit p hp hk
 obtain⟨f1,f2⟩:=h.feet p hp hk
 refine⟨hnx,hl.1,qo,fun h1=>by have:=h.spans.next p hp hk qo;rwa [hnx] at this,fun q h1 h2=>?_,fun q h1 h2=>f1 q h1 h2,f2⟩
 have:=h.spans.inside p q hp hk h1 qo
 exact⟨this,(H.K_zero q this).1⟩
end
end
section
section
variable {t P s n : Nat} {K : Nat -> Option Nat} {st : Vst} {L : Nat -> List Nat} {g : Nat -> Nat}
theorem Work.infoAt (W:Work t P s n K st L g)(hf:Fit t P s n){q:Nat}(hq:q<P):infoOf n K t P s (q:Int) st=infoG (g (pc t q 0)):=by
 have hlen:=hf.len
 unfold infoOf
 rw[hf.inf hq]
 have e:getV n K st ((pc t q 0:Nat):Int)=g (pc t q 0):=W.near _ (by unfold pc;omega) (qXR qo qo qo)
 exact congrArg infoG e
end
section
variable {H : AuH} {n : Nat} {K : Nat -> Option Nat} {st : Vst} {L : Nat -> List Nat} {g : Nat -> Nat}
end
end
section
section
variable {H : AuH} {n c : Nat} {K : Nat -> Option Nat} {st : Vst} {L : Nat -> List Nat} {g : Nat -> Nat}
theorem qUu {p:Nat}(hk:H.K p=2):infoG (H.cel p 0)=(2,(H.ln p:Int),0,true):=by
 rw[H.info_eq,hk,H.L_ln,H.ok_of p qo]
 rcases H.K_cases p with h1|⟨_,_,_,h1⟩|h1
 ·omega
 ·rw[h1]
 ·omega
end
end
section
theorem qVC {H:AuH}{n c:Nat}(HV:HeapV H n c)(ad:Addr){q:Nat}(hq:q<H.p)(w:World)(hv:IsVals w ad n H.V) :
  Calls Tryz.prog 93 #[hpV H ad n c,.int .i64 (q:Int)] w fun e w'=>e = .returned (.int .u32 (H.cel q 4:Nat))/\Below w.heap.size w w':=by
 obtain⟨i,hii⟩:∃ i,30+4*H.t+6*q+4=i:=⟨_,rfl⟩
 have hini:i<n:=by have:=HV.len;omega
 have HI:qH (pageI H.t H.p H.s q 4=(i:Int)):=qh (by have h:=HV.page (b:=4) hq qo;rw[hii] at h;exact h)
 have h32i:=HV.cel_lt hq (show 4<6 by omega)
 have hceli:H.cel q 4=H.V i:=by unfold AuH.cel;rw[hii]
 obtain⟨v,hvvv⟩:∃ v,H.cel q 4=v:=⟨_,rfl⟩
 have HCv:=qh hvvv
 rw[hvvv] at h32i
 have hci:=(hv).2 i hini
 rw[<- hceli,hvvv] at hci
 have hbli:(ad.add i).block<w.heap.size:=by rw[qXL];exact(hv).1
 have hn:=HV.nums
 have hcx:c<=9223372036854775807:=hn.2.2.2.2.2.2.2.2
 have hni:n<=6238:=hn.2.2.2.2.2.2.1
 have hnc:=HV.cap
 rw[hvvv]
 have hc:=Held.new w 88 #[.int .i64 (H.t:Int),.int .i64 (H.p:Int),.int .i64 (H.s:Int),.slice (some ad) n c]
 have HS:qH (∀ w',Below w.heap.size w w'->Held w' w.heap.size 88 #[.int .i64 (H.t:Int),.int .i64 (H.p:Int),.int .i64 (H.s:Int),.slice (some ad) n c]->(fun w'=>w'.cell? ⟨w.heap.size,0,none⟩=some (.int .i64 (H.t:Int))/\w'.cell? ⟨w.heap.size,1,none⟩=some (.int .i64 (H.p:Int))/\w'.cell? ⟨w.heap.size,2,none⟩=some (.int .i64 (H.s:Int))/\w'.cell? ⟨w.heap.size,3,none⟩=some (.slice (some ad) n c)/\w'.cell? (ad.add i)=some (.int .u32 (v:Int))) w'):=qh (fun w' hb hh=>⟨hh.four.1,hh.four.2.1,hh.four.2.2.1,hh.four.2.2.2,(hb.cell hbli).trans hci⟩)
 clear hv hci hbli hceli hvvv hii hn hq HCv h32i
 unfold hpV
 go_enter Tryz.func93,Tryz.ntmps93
 go_wp2_with fail
 refine wp_region_held_drew (S:=(fun w'=>w'.cell? ⟨w.heap.size,0,none⟩=some (.int .i64 (H.t:Int))/\w'.cell? ⟨w.heap.size,1,none⟩=some (.int .i64 (H.p:Int))/\w'.cell? ⟨w.heap.size,2,none⟩=some (.int .i64 (H.s:Int))/\w'.cell? ⟨w.heap.size,3,none⟩=some (.slice (some ad) n c)/\w'.cell? (ad.add i)=some (.int .u32 (v:Int)))) qr ?_ (fun hHeld=>?_)
 ·exact MfR
 refine tkz 0 ?_
 refine tkz 1 ?_
 refine tkz 2 ?_
 refine tkz 3 ?_
 refine tkz 4 ?_
 refine rdz 5 fun K hK=>?_
 go_simp
 (go_at_call 127;refine(qSX _ _ _ _ _).mono ?_;rintro e w1 ⟨rfl,hb1⟩;rw[HI.o];have HB1:=qh (Bgo (Bdrew (Bnew (B0 w) _)) hb1);have HC1:=qh (hc.drew.keep hb1);clear hb1)
 refine qk ?_ (fun hHeld=>?_)
 ·exact M2k
 clear hK K
 refine tkz 6 ?_
 refine tkz 7 ?_
 refine tkz 8 ?_
 refine dnz ?_
 go_wp2
 go_ret
 exact⟨rfl,HB1.o⟩

theorem qXi {H:AuH}{n c:Nat}(HV:HeapV H n c)(ad:Addr){q:Nat}(hq:q<H.p)(w:World)(hv:IsVals w ad n H.V) :
  Calls Tryz.prog 94 #[hpV H ad n c,.int .i64 (q:Int)] w fun e w'=>e = .returned (.int .u32 (H.cel q 5:Nat))/\Below w.heap.size w w':=by
 obtain⟨i,hii⟩:∃ i,30+4*H.t+6*q+5=i:=⟨_,rfl⟩
 have hini:i<n:=by have:=HV.len;omega
 have HI:qH (pageI H.t H.p H.s q 5=(i:Int)):=qh (by have h:=HV.page (b:=5) hq qo;rw[hii] at h;exact h)
 have h32i:=HV.cel_lt hq (show 5<6 by omega)
 have hceli:H.cel q 5=H.V i:=by unfold AuH.cel;rw[hii]
 obtain⟨v,hvvv⟩:∃ v,H.cel q 5=v:=⟨_,rfl⟩
 have HCv:=qh hvvv
 rw[hvvv] at h32i
 have hci:=(hv).2 i hini
 rw[<- hceli,hvvv] at hci
 have hbli:(ad.add i).block<w.heap.size:=by rw[qXL];exact(hv).1
 have hn:=HV.nums
 have hcx:c<=9223372036854775807:=hn.2.2.2.2.2.2.2.2
 have hni:n<=6238:=hn.2.2.2.2.2.2.1
 have hnc:=HV.cap
 rw[hvvv]
 have hc:=Held.new w 88 #[.int .i64 (H.t:Int),.int .i64 (H.p:Int),.int .i64 (H.s:Int),.slice (some ad) n c]
 have HS:qH (∀ w',Below w.heap.size w w'->Held w' w.heap.size 88 #[.int .i64 (H.t:Int),.int .i64 (H.p:Int),.int .i64 (H.s:Int),.slice (some ad) n c]->(fun w'=>w'.cell? ⟨w.heap.size,0,none⟩=some (.int .i64 (H.t:Int))/\w'.cell? ⟨w.heap.size,1,none⟩=some (.int .i64 (H.p:Int))/\w'.cell? ⟨w.heap.size,2,none⟩=some (.int .i64 (H.s:Int))/\w'.cell? ⟨w.heap.size,3,none⟩=some (.slice (some ad) n c)/\w'.cell? (ad.add i)=some (.int .u32 (v:Int))) w'):=qh (fun w' hb hh=>⟨hh.four.1,hh.four.2.1,hh.four.2.2.1,hh.four.2.2.2,(hb.cell hbli).trans hci⟩)
 clear hv hci hbli hceli hvvv hii hn hq HCv h32i
 unfold hpV
 go_enter Tryz.func94,Tryz.ntmps94
 go_wp2_with fail
 refine wp_region_held_drew (S:=(fun w'=>w'.cell? ⟨w.heap.size,0,none⟩=some (.int .i64 (H.t:Int))/\w'.cell? ⟨w.heap.size,1,none⟩=some (.int .i64 (H.p:Int))/\w'.cell? ⟨w.heap.size,2,none⟩=some (.int .i64 (H.s:Int))/\w'.cell? ⟨w.heap.size,3,none⟩=some (.slice (some ad) n c)/\w'.cell? (ad.add i)=some (.int .u32 (v:Int)))) qr ?_ (fun hHeld=>?_)
 ·exact MfR
 refine tkz 0 ?_
 refine tkz 1 ?_
 refine tkz 2 ?_
 refine tkz 3 ?_
 refine tkz 4 ?_
 refine rdz 5 fun K hK=>?_
 go_simp
 (go_at_call 128;refine(qLb _ _ _ _ _).mono ?_;rintro e w1 ⟨rfl,hb1⟩;rw[HI.o];have HB1:=qh (Bgo (Bdrew (Bnew (B0 w) _)) hb1);have HC1:=qh (hc.drew.keep hb1);clear hb1)
 refine qk ?_ (fun hHeld=>?_)
 ·exact M2k
 clear hK K
 refine tkz 6 ?_
 refine tkz 7 ?_
 refine tkz 8 ?_
 refine dnz ?_
 go_wp2
 go_ret
 exact⟨rfl,HB1.o⟩

theorem qMU {H:AuH}{n c:Nat}(HV:HeapV H n c)(ad:Addr){q:Nat}(hq:q<H.p)(w:World)(hv:IsVals w ad n H.V) :
  Calls Tryz.prog 42 #[hpV H ad n c,.int .i64 (q:Int)] w fun e w'=>e = .returned (.agg #[.int .i64 (H.K q),.int .i64 (H.ln q:Int),.int .i64 (H.Cl q)])/\Below w.heap.size w w':=by
 obtain⟨i,hii⟩:∃ i,30+4*H.t+6*q+0=i:=⟨_,rfl⟩
 have hini:i<n:=by have:=HV.len;omega
 have HI:qH (pageI H.t H.p H.s q 0=(i:Int)):=qh (by have h:=HV.page (b:=0) hq qo;rw[hii] at h;exact h)
 have h32i:=HV.cel_lt hq (show 0<6 by omega)
 have hceli:H.cel q 0=H.V i:=by unfold AuH.cel;rw[hii]
 obtain⟨v,hvvv⟩:∃ v,H.cel q 0=v:=⟨_,rfl⟩
 have HCv:=qh hvvv
 rw[hvvv] at h32i
 have hci:=(hv).2 i hini
 rw[<- hceli,hvvv] at hci
 have hbli:(ad.add i).block<w.heap.size:=by rw[qXL];exact(hv).1
 have hn:=HV.nums
 have hcx:c<=9223372036854775807:=hn.2.2.2.2.2.2.2.2
 have hni:n<=6238:=hn.2.2.2.2.2.2.1
 have hnc:=HV.cap
 have hie:=H.info_eq q
 rw[H.L_ln,hvvv] at hie
 generalize H.K q=k at *
 generalize H.ln q=m at *
 generalize H.Cl q=cl at *
 generalize H.ok q=okb at *
 have HG:=qh hie
 have hc:=(Held.new w 88 #[.int .i64 (H.t:Int),.int .i64 (H.p:Int),.int .i64 (H.s:Int),.slice (some ad) n c]).alloc (.cells #[.int .i64 0,.int .i64 0,.int .i64 0] 90)
 have HR:=qh (Held.new2 w (.cells #[.int .i64 (H.t:Int),.int .i64 (H.p:Int),.int .i64 (H.s:Int),.slice (some ad) n c] 88) 90 #[.int .i64 0,.int .i64 0,.int .i64 0])
 have HBW:=qh (Bnew (Bnew (B0 w) (.cells #[.int .i64 (H.t:Int),.int .i64 (H.p:Int),.int .i64 (H.s:Int),.slice (some ad) n c] 88)) (.cells #[.int .i64 0,.int .i64 0,.int .i64 0] 90))
 have HS:qH (∀ w',Below ((w.alloc (.cells #[.int .i64 (H.t:Int),.int .i64 (H.p:Int),.int .i64 (H.s:Int),.slice (some ad) n c] 88)).alloc (.cells #[.int .i64 0,.int .i64 0,.int .i64 0] 90)).heap.size ((w.alloc (.cells #[.int .i64 (H.t:Int),.int .i64 (H.p:Int),.int .i64 (H.s:Int),.slice (some ad) n c] 88)).alloc (.cells #[.int .i64 0,.int .i64 0,.int .i64 0] 90)) w'->(fun w'=>w'.cell? ⟨w.heap.size,0,none⟩=some (.int .i64 (H.t:Int))/\w'.cell? ⟨w.heap.size,1,none⟩=some (.int .i64 (H.p:Int))/\w'.cell? ⟨w.heap.size,2,none⟩=some (.int .i64 (H.s:Int))/\w'.cell? ⟨w.heap.size,3,none⟩=some (.slice (some ad) n c)/\w'.cell? (ad.add i)=some (.int .u32 (v:Int))) w'):=qh (fun w' hb=>by have hh:=hc.keep hb;exact⟨hh.four.1,hh.four.2.1,hh.four.2.2.1,hh.four.2.2.2,((Bgo HBW.o hb).cell hbli).trans hci⟩)
 clear hv hci hbli hceli hvvv hii hn hq HCv hie hc
 unfold hpV
 go_enter Tryz.func42,Tryz.ntmps42
 go_upto_region 1 with fail
 go_cut [5,6] from 7 to 18 (fun u5 u6 wx=>∃ g:Nat,u5 = .pointer (some ⟨g,0,none⟩)/\Held wx g 90 #[(.int .i64 k),(.int .i64 (m:Int)),(.int .i64 cl)]/\Below ((w.alloc (.cells #[.int .i64 (H.t:Int),.int .i64 (H.p:Int),.int .i64 (H.s:Int),.slice (some ad) n c] 88)).alloc (.cells #[.int .i64 0,.int .i64 0,.int .i64 0] 90)).heap.size ((w.alloc (.cells #[.int .i64 (H.t:Int),.int .i64 (H.p:Int),.int .i64 (H.s:Int),.slice (some ad) n c] 88)).alloc (.cells #[.int .i64 0,.int .i64 0,.int .i64 0] 90)) wx/\((w.alloc (.cells #[.int .i64 (H.t:Int),.int .i64 (H.p:Int),.int .i64 (H.s:Int),.slice (some ad) n c] 88)).alloc (.cells #[.int .i64 0,.int .i64 0,.int .i64 0] 90)).heap.size<=g)
 case first =>
  have HB:=qh (Bdrew (B0 (((w.alloc (.cells #[.int .i64 (H.t:Int),.int .i64 (H.p:Int),.int .i64 (H.s:Int),.slice (some ad) n c] 88)).alloc (.cells #[.int .i64 0,.int .i64 0,.int .i64 0] 90)))))
  refine wp_region_held_drew (S:=(fun w'=>w'.cell? ⟨w.heap.size,0,none⟩=some (.int .i64 (H.t:Int))/\w'.cell? ⟨w.heap.size,1,none⟩=some (.int .i64 (H.p:Int))/\w'.cell? ⟨w.heap.size,2,none⟩=some (.int .i64 (H.s:Int))/\w'.cell? ⟨w.heap.size,3,none⟩=some (.slice (some ad) n c)/\w'.cell? (ad.add i)=some (.int .u32 (v:Int)))) qr ?_ (fun hHeld=>?_)
  ·(try dsimp only)
   exact HS.o _ HB.o
  generalize hq0:(((w.alloc (.cells #[.int .i64 (H.t:Int),.int .i64 (H.p:Int),.int .i64 (H.s:Int),.slice (some ad) n c] 88)).alloc (.cells #[.int .i64 0,.int .i64 0,.int .i64 0] 90))).drew=q0 at HB hHeld ⊢
  clear hq0
  refine Ro3 ?_
  refine tkz 3 ?_
  refine tkz 4 ?_
  refine wpAnyH_ready (rs := [5,12]) qr (by simp) ?_
  refine AllReadyH.cons (o:=_) rfl (fun K hK=>?_) (AllReadyH.cons (o:=_) rfl (fun K hK=>?_) AllReadyH.nil)
  ·skip
   go_simp
   (go_at_call 77;refine(qQ1 _ _ _ _ _).mono ?_;rintro e q1 ⟨rfl,hb1⟩;rw[HI.o];have HB:=qh (Bgo HB.o hb1);skip;clear hb1)
   refine RRY ?_;intro hHeld
   clear hK K
   refine tkz 6 ?_
   refine tkz 7 ?_
   refine wpAnyH_ready (rs := [8,12]) qr (by simp) ?_
   refine AllReadyH.cons (o:=_) rfl (fun K hK=>?_) (AllReadyH.cons (o:=_) rfl (fun K hK=>?_) AllReadyH.nil)
   ·skip
    go_simp
    (go_at_call 82;refine(qRV _ _ _ _ _ h32i HG.o _).mono ?_;rintro e q2 ⟨rfl,hb1⟩;have HB:=qh (Bgo HB.o hb1);skip;clear hb1)
    refine RRY ?_;intro hHeld
    clear hK K
    refine tkz 9 ?_
    refine tkz 10 ?_
    refine tkz 11 ?_
    refine rdz 12 fun K hK=>?_
    ·refine RpV ?_;intro HLE HB
     have HN:=qh (Held.new q2 90 #[.int .i64 0,.int .i64 0,.int .i64 0])
     try simp only[World.heap_drew] at HLE HN
     generalize hq3:q2.alloc (.cells #[.int .i64 0,.int .i64 0,.int .i64 0] 90)=q3 at HB HN ⊢
     clear hq3
     refine RRY ?_;intro hHeld
     clear hK K
     exact MMM
   ·refine RpV ?_;intro HLE HB
    have HN:=qh (Held.new q1 90 #[.int .i64 0,.int .i64 0,.int .i64 0])
    try simp only[World.heap_drew] at HLE HN
    generalize hq4:q1.alloc (.cells #[.int .i64 0,.int .i64 0,.int .i64 0] 90)=q4 at HB HN ⊢
    clear hq4
    refine RRY ?_;intro hHeld
    clear hK K
    refine rdz 8 fun K hK=>?_
    ·skip
     go_simp
     (go_at_call 82;refine(qRV _ _ _ _ _ h32i HG.o _).mono ?_;rintro e q5 ⟨rfl,hb1⟩;have HB:=qh (Bgo HB.o hb1);have HN:=qh (HN.o.keep hb1);clear hb1)
     exact M3p
  ·refine RpV ?_;intro HLE HB
   have HN:=qh (Held.new q0 90 #[.int .i64 0,.int .i64 0,.int .i64 0])
   try simp only[World.heap_drew] at HLE HN
   generalize hq6:q0.alloc (.cells #[.int .i64 0,.int .i64 0,.int .i64 0] 90)=q6 at HB HN ⊢
   clear hq6
   refine RRY ?_;intro hHeld
   clear hK K
   refine rdz 5 fun K hK=>?_
   ·skip
    go_simp
    (go_at_call 77;refine(qQ1 _ _ _ _ _).mono ?_;rintro e q7 ⟨rfl,hb1⟩;rw[HI.o];have HB:=qh (Bgo HB.o hb1);have HN:=qh (HN.o.keep hb1);clear hb1)
    refine RRY ?_;intro hHeld
    clear hK K
    refine tkz 6 ?_
    refine tkz 7 ?_
    refine rdz 8 fun K hK=>?_
    ·skip
     go_simp
     (go_at_call 82;refine(qRV _ _ _ _ _ h32i HG.o _).mono ?_;rintro e q8 ⟨rfl,hb1⟩;have HB:=qh (Bgo HB.o hb1);have HN:=qh (HN.o.keep hb1);clear hb1)
     exact M3p
 case rest =>
  obtain⟨g,rfl,h1,h2,h3⟩:=hcut
  obtain⟨x0,x1,x2⟩:=h1.three
  have z:=HR.o.keep h2
  obtain⟨y0,y1,y2⟩:=z.three
  obtain⟨v0,v1,v2⟩:=(((z.put 0 (.int .i64 k)).put 1 (.int .i64 (m:Int))).put 2 (.int .i64 cl)).three
  have f0:=z.thawed 0
  have f1:=z.thawed 1
  have f2:=z.thawed 2
  go_wp2_with fail
  refine bodyPost_ret (v := .agg #[(.int .i64 k),(.int .i64 (m:Int)),(.int .i64 cl)]) (by simp[results,Tryz.results42,go_sem,v0,v1,v2]) rfl ⟨rfl,?_⟩
  exact Bput (Bput (Bput (Bgo HBW.o h2) (by simp) _) (by simp) _) (by simp) _
end
end Go.Proofs.YtgifnhcknodekaaGreat
