/-
  Releasing, shrinking and growing used spans of a heap. No program is named here but for the Views'.
-/
import Derived.Test.YtgifnhcknodekaaGreatC08
import Derived.Test.YtgifnhcknodekaaGreatC06
import Derived.Test.YtgifnhcknodekaaGreatC04
import Derived.Deep.RegionWith
import Derived.Deep.CutRange
import Derived.Test.YtgifnhcknodekaaGreatC07
import Derived.Test.YtgifnhcknodekaaGreatC01
namespace Go.Proofs.YtgifnhcknodekaaGreat
theorem RpV {P Q:Prop}(kq:Q)(h:HQ Q->P:=by
 intro kq
 skip
 go_simp
 have HLE:=qh HB.o.size
 have HB:=qh (Bnew HB.o (.cells #[.int .i64 0,.int .i64 0,.int .i64 0] 90))
 revert HLE HB
 exact kq.o):P:=h ⟨kq⟩
theorem RRY {P Q:Prop}(kq:Q)(h:HQ Q->P:=by
 intro kq
 refine qk ?_ (fun hHeld=>?_)
 ·exact HS.o _ HB.o
 revert hHeld
 exact kq.o):P:=h ⟨kq⟩
theorem M3p {P:Prop}(h:P:=by
 refine RRY ?_;intro hHeld
 clear hK K
 refine tkz 9 ?_
 refine tkz 10 ?_
 refine tkz 11 ?_
 exact MMM):P:=h
theorem MMM {P:Prop}(h:P:=by
 refine rdz 13 fun K hK=>?_
 obtain⟨z0,z1,z2⟩:=HN.o.three
 have f0:=HN.o.thawed 0
 have f1:=HN.o.thawed 1
 have f2:=HN.o.thawed 2
 go_simp
 have HN:=qh (HN.o.put 0 (.int .i64 k))
 have HN:=qh (HN.o.put 1 (.int .i64 (m:Int)))
 have HN:=qh (HN.o.put 2 (.int .i64 cl))
 have HB:=qh (Bput (p:=⟨_,2,none⟩) (Bput (p:=⟨_,1,none⟩) (Bput (p:=⟨_,0,none⟩) HB.o HLE.o (.int .i64 k)) HLE.o (.int .i64 (m:Int))) HLE.o (.int .i64 cl))
 clear z0 z1 z2 f0 f1 f2
 refine RRY ?_;intro hHeld
 clear hK K
 refine tkz 14 ?_
 refine dnz ?_
 go_wp2_with fail
 go_meet
 case rel=>exact⟨_,rfl,HN.o,HB.o,HLE.o⟩):P:=h
theorem MhH {P:Prop}(h:P:=by
 intro q a1 a2 a3 a4
 by_cases e5:q=p+l-1
 ·subst e5
  exact MFT
 ·simp(disch:=omega) only[qDr,qB0,qJR,qIZ]
  exact a.feet q a1 qo qo qo qo):P:=h
theorem MeM {P:Prop}(h:P:=by
 intro q a1 a2 a3 a4
 by_cases e5:q=p+l
 ·subst e5
  exact MFT
 ·simp(disch:=omega) only[qDr,qB0,qJR,qIZ]
  exact(hK0 q a1 qo qo e5).1):P:=h
theorem MHa {P:Prop}(h:P:=by
  go_wp2_with fail
  go_ret2
  exact⟨_,false,rfl,⟨⟨fun h=>(by cases h),fun h=>absurd h HNA.o⟩,fun h=>(by cases h)⟩,HBX.o⟩):P:=h
theorem MfR {P:Prop}(h:P:=by
 (try dsimp only)
 exact M2k):P:=h
theorem M2k {P:Prop}(h:P:=by first|exact HS.o _ (Bdrew (Bnew (B0 w) _)) hc|exact HS.o _ HB1.o HC1.o|exact hHeld):P:=h
theorem Mli {P:Prop}(h:P:=by
 intro q a1 a2
 exact MFT):P:=h
theorem M1J {P:Prop}(h:P:=by
 intro _
 exact MFT):P:=h
theorem MFT {P:Prop}(h:P:=by simp(disch:=omega) only[qDr,qB0,qJR,qIZ]):P:=h
theorem MFF {P:Prop}(h:P:=by
 rw[qR2 _ _ qo]
 simp(disch:=omega) only[qKp]):P:=h
end Go.Proofs.YtgifnhcknodekaaGreat
set_option linter.unusedVariables false
set_option linter.unusedSimpArgs false
set_option maxRecDepth 100000
set_option maxHeartbeats 25600000
namespace Go.Proofs.YtgifnhcknodekaaGreat
open Go.ChangeShapes Go.WideShapes Go.ChangeAt Go.RowKit Go.Maps
section
section
variable {H : AuH} {n c : Nat} {K : Nat -> Option Nat} {st : Vst} {L : Nat -> List Nat} {g : Nat -> Nat}
theorem qUu {p:Nat}(hk:H.K p=2):infoG (H.cel p 0)=(2,(H.ln p:Int),0,true):=by
 exact M7s
theorem qVN (p:Nat):∃ ll cc ok,infoG (H.cel p 0)=(H.K p,ll,cc,ok):=⟨_,_,_,H.info_eq p⟩
theorem qE3 (h:H.Ok L){r:Nat}(hk:r<H.p->H.K r≠0)(hr:r<=H.p) :
  ∃ lr,r+lr<=H.p/\(lr=0->r<H.p->∃ kk ll cc ok,infoG (H.V (pc H.t r 0))=(kk,ll,cc,ok)/\kk≠1) /\
   (0<lr->r<H.p/\infoG (H.V (pc H.t r 0))=(1,(lr:Int),0,true)/\∃ k:Nat,ofI (lr:Int)=(k:Int)/\k<=10/\r∈L (2+k)) /\
   (0<lr->H.K r=1/\H.ln r=lr)/\(lr=0->r<H.p->H.K r≠1)/\(r+lr<H.p->H.K (r+lr)≠0/\H.K (r+lr)≠1):=by
 by_cases hrp:r<H.p
 ·by_cases hf:H.K r=1
  ·obtain⟨hnx,h1,h2,h3,_⟩:=qRA h hrp qo qo
   refine⟨H.ln r,h2,fun h=>by omega,fun _=>⟨hrp,qDO hf,qZx h hrp hf⟩,fun _=>⟨hf,rfl⟩,fun h=>by omega,fun h4=>⟨h3 h4,?_⟩⟩
   have:=h.apart r hrp hf (by rw[hnx];exact h4)
   rwa [hnx] at this
  ·obtain⟨ll,cc,ok,hi⟩:=qVN (H:=H) r
   exact⟨0,qo,fun _ _=>⟨_,_,_,_,hi,hf⟩,fun h=>by omega,fun h=>by omega,fun _ _=>hf,fun _=>⟨hk hrp,hf⟩⟩
 ·exact⟨0,qo,fun _ h=>absurd h hrp,fun h=>by omega,fun h=>by omega,fun _ h=>absurd h hrp,fun h=>absurd h qo⟩

structure Around (H:AuH) (L:Nat->List Nat) (p m A la lr:Nat):Prop where
 used:H.K p=2
 len:H.ln p=m
 pos:1<=m
 ahead:A+la=p
 le:p+m+lr<=H.p
 leftF:0<la->H.K A=1/\H.ln A=la
 rightF:0<lr->H.K (p+m)=1/\H.ln (p+m)=lr
 firstK:H.K A≠0
 lastK:p+m+lr<H.p->H.K (p+m+lr)≠0/\H.K (p+m+lr)≠1
 kinds:∀ q,A<=q->q<p+m+lr->(q=p/\H.K q=2)\/(0<la/\q=A/\H.K q=1)\/(0<lr/\q=p+m/\H.K q=1)\/(H.K q=0/\H.cel q 0=0/\q≠p/\¬ (0<la/\q=A)/\¬ (0<lr/\q=p+m))
 feet:∀ q,A<=q->q<p+m+lr->q+1≠p+m->¬ (0<la/\q+1=p)->¬ (0<lr/\q+1=p+m+lr)->H.cel q 1=0
 free:AuH.sumTo (fun i=>H.freeF (A+i)) (la+m+lr)=la+lr
 live:AuH.sumTo (fun i=>H.liveF (A+i)) (la+m+lr)=1
theorem around (h:H.Ok L){p m A la lr:Nat}(hp:p<H.p)(hk:H.K p=2)(hm:H.ln p=m)(hA:A+la=p)(hle:p+m+lr<=H.p)
  (hl:0<la->H.K A=1/\H.ln A=la) (hr:0<lr->H.K (p+m)=1/\H.ln (p+m)=lr) (hlast:p+m+lr<H.p->H.K (p+m+lr)≠0/\H.K (p+m+lr)≠1) :
  Around H L p m A la lr:=by
 obtain⟨_,s1,s2,s3,s4,s5,s6⟩:=qRA h hp qo qo
 rw[hm] at s1 s2 s3 s4 s5 s6
 have hL:0<la->(∀ q,A<q->q<p->H.cel q 0=0/\H.K q=0)/\∀ q,A<=q->q+1<p->H.cel q 1=0:=fun h0=>by
  obtain⟨_,_,_,_,b4,b5,_⟩:=qRA h (p:=A) qo (by have:=(hl h0).1;omega) (by have:=(hl h0).1;omega)
  rw[(hl h0).2,hA] at b4 b5
  exact⟨b4,b5⟩
 have hR:0<lr->(∀ q,p+m<q->q<p+m+lr->H.cel q 0=0/\H.K q=0)/\∀ q,p+m<=q->q+1<p+m+lr->H.cel q 1=0:=fun h0=>by
  obtain⟨_,_,_,_,b4,b5,_⟩:=qRA h (p:=p+m) qo (by have:=(hr h0).1;omega) (by have:=(hr h0).1;omega)
  rw[(hr h0).2] at b4 b5
  exact⟨b4,b5⟩
 have kinds:∀ q,A<=q->q<p+m+lr->(q=p/\H.K q=2)\/(0<la/\q=A/\H.K q=1)\/(0<lr/\q=p+m/\H.K q=1)\/(H.K q=0/\H.cel q 0=0/\q≠p/\¬ (0<la/\q=A)/\¬ (0<lr/\q=p+m)):=fun q h1 h2=>by
  by_cases e1:q=p
  ·exact .inl ⟨e1,e1 ▸ hk⟩
  ·by_cases e2:0<la/\q=A
   ·exact .inr (.inl ⟨e2.1,e2.2,e2.2 ▸ (hl e2.1).1⟩)
   ·by_cases e3:0<lr/\q=p+m
    ·exact .inr (.inr (.inl ⟨e3.1,e3.2,e3.2 ▸ (hr e3.1).1⟩))
    ·refine .inr (.inr (.inr ?_))
     rcases Nat.lt_or_ge q p with h3|h3
     ·have:=(hL qo).1 q qo h3
      exact⟨this.2,this.1,e1,e2,e3⟩
     ·rcases Nat.lt_or_ge q (p+m) with h4|h4
      ·have:=s4 q qo h4
       exact⟨this.2,this.1,e1,e2,e3⟩
      ·have:=(hR qo).1 q qo h2
       exact⟨this.2,this.1,e1,e2,e3⟩
 have ff:∀ q,H.K q=1->H.freeF q=H.ln q:=fun q h1=>by unfold AuH.freeF;rw[if_pos h1]
 have hsplit:∀ f:Nat->Nat,AuH.sumTo (fun i=>f (A+i)) (la+m+lr)=AuH.sumTo (fun i=>f (A+i)) la+AuH.sumTo (fun i=>f (p+i)) m+AuH.sumTo (fun i=>f (p+m+i)) lr:=fun f=>by
  rw[AuH.sumTo_split (fun i=>f (A+i)) (la+m) lr,AuH.sumTo_split (fun i=>f (A+i)) la m]
  have e1:(fun i=>f (A+(la+i)))=fun i=>f (p+i):=by funext i;rw[<- Nat.add_assoc,hA]
  have e2:(fun i=>f (A+(la+m+i)))=fun i=>f (p+m+i):=by funext i;congr 1;omega
  rw[e1,e2]
 have hs2:=qCx h hp qo qo
 rw[hm] at hs2
 have hs1:AuH.sumTo (fun i=>H.freeF (A+i)) la=la/\AuH.sumTo (fun i=>H.liveF (A+i)) la=0:=by
  rcases Nat.eq_zero_or_pos la with h0|h0
  ·subst h0;exact⟨rfl,rfl⟩
  ·have:=qCx h (p:=A) qo (by have:=(hl h0).1;omega) (by have:=(hl h0).1;omega)
   rw[(hl h0).2,ff A (hl h0).1,(hl h0).2] at this
   refine⟨this.1,this.2.trans ?_⟩
   unfold AuH.liveF
   rw[if_neg (by have:=(hl h0).1;omega),if_neg (by have:=(hl h0).1;omega)]
 have hs3:AuH.sumTo (fun i=>H.freeF (p+m+i)) lr=lr/\AuH.sumTo (fun i=>H.liveF (p+m+i)) lr=0:=by
  rcases Nat.eq_zero_or_pos lr with h0|h0
  ·subst h0;exact⟨rfl,rfl⟩
  ·have:=qCx h (p:=p+m) qo (by have:=(hr h0).1;omega) (by have:=(hr h0).1;omega)
   rw[(hr h0).2,ff (p+m) (hr h0).1,(hr h0).2] at this
   refine⟨this.1,this.2.trans ?_⟩
   unfold AuH.liveF
   rw[if_neg (by have:=(hr h0).1;omega),if_neg (by have:=(hr h0).1;omega)]
 exact {
  used:=hk,len:=hm,pos:=s1,ahead:=hA,le:=hle,leftF:=hl,rightF:=hr
  firstK:=by
   rcases Nat.eq_zero_or_pos la with h0|h0
   ·have:A=p:=qo
    rw[this];omega
   ·have:=(hl h0).1;omega
  lastK:=hlast,kinds:=kinds
  feet:=fun q h1 h2 h3 h4 h5=>by
   rcases Nat.lt_or_ge q p with h6|h6
   ·exact(hL qo).2 q h1 qo
   ·rcases Nat.lt_or_ge q (p+m) with h7|h7
    ·exact s5 q h6 qo
    ·exact(hR qo).2 q h7 qo
  free:=by
   rw[hsplit,hs1.1,hs2.1,hs3.1]
   unfold AuH.freeF
   rw[if_neg qo]
   omega
  live:=by
   rw[hsplit,hs1.2,hs2.2,hs3.2]
   unfold AuH.liveF
   rw[if_pos hk] }
theorem Around.mem {p m A la lr:Nat}(a:Around H L p m A la lr)(h:H.Ok L){hd:Nat}(h2:2<=hd)(h21:hd<=21)(y:Nat):(y∈L hd/\¬ (0<la/\y=A)/\¬ (0<lr/\y=p+m))↔(y∈L hd/\¬ (A<=y/\y<p+m+lr)):=by
 have hAp:=a.ahead
 constructor
 ·rintro ⟨b1,b2,b3⟩
  refine⟨b1,fun b4=>?_⟩
  have ht:=((h.mem hd h2 h21 y).1 b1).2
  rcases a.kinds y b4.1 b4.2 with ⟨_,h5⟩|⟨h5,h6,_⟩|⟨h5,h6,_⟩|⟨h5,_⟩
  ·rw[AuH.tgt_used h5] at ht;omega
  ·exact b2 ⟨h5,h6⟩
  ·exact b3 ⟨h5,h6⟩
  ·rw[AuH.tgt_none h5] at ht;omega
 ·rintro ⟨b1,b2⟩
  have hpos:=a.pos
  exact⟨b1,fun b3=>b2 ⟨qo,qo⟩,fun b3=>b2 ⟨qo,qo⟩⟩
theorem qSN (HV:HeapV H n c)(h:H.Ok L)(W:Work H.t H.p H.s n K st L H.V){p l m:Nat}(hp:p<H.p)(hk:H.K p=2)(hl:H.ln p=l)(h1:1<=m)(h2:m<l) :
  ∃ L' g' lr,Work H.t H.p H.s n K (shrinkS n K H.t H.p H.s p l m st) L' g'/\RelaidG H g' L L' p m (l-m+lr)/\Around H L p l p 0 lr/\g' 1=H.V 1/\g' 0=H.V 0+(l-m):=by
 have hf:=HV.fit
 have hP:=hf.nums
 have hv1:=(qFj h hP.2).2
 obtain⟨hnx,s1,s2,s3,_⟩:=qRA h hp qo qo
 rw[hl] at hnx s1 s2 s3
 obtain⟨lr,r0,r1,r2,r3,r4,r5⟩:=qE3 h (r:=p+l) s3 s2
 have a:=around h hp hk hl (A:=p) (la:=0) qo r0 (fun h=>by omega) r3 r5
 have W1:=W.used hf (p:=p) (m:=m) h1 qo
 have er:p+m+(l-m)=p+l:=qo
 obtain⟨L',g',W',m',z0,z1,zi,zf,zb⟩:=W1.release hf (p:=p+m) (m:=l-m) (A:=p+m) (la:=0) (lr:=lr) qo qo qo
  (fun _ => .inr ⟨p,2,(m:Int),0,true,hp,by rw[qJR _ _ rfl],by
   rw[qB0 _ _ qo qo qo,qJR _ _ rfl]
   exact qCV h1 qo,qo⟩) (fun h=>by omega)
  (fun h0 h3=>by
   rw[er,qB0 _ _ qo qo qo,qB0 _ _ qo qo qo]
   exact r1 h0 qo)
  (fun h0=>by
   rw[er,qB0 _ _ qo qo qo,qB0 _ _ qo qo qo]
   exact r2 h0)
  (fun hd a2 a21 hx=>by
   have h0:H.K (p+m)=0:=by rcases a.kinds (p+m) qo qo with h3|h3|h3|h3 <;> omega
   exact absurd hx (qUO h h0 hd a2 a21))
  (by rw[qKp _ _ qo,qKp _ _ qo];omega)
 refine⟨L',g',lr,W',?_,a,by rw[z1 1 qo qo,qKp _ _ qo,qKp _ _ qo],by rw[z0,qKp _ _ qo,qKp _ _ qo]⟩
 have e:p+m+(l-m+lr)=p+l+lr:=qo
 exact {
  pos:=qo
  whole:=by rw[e];exact⟨qo,r0,a.firstK,fun h1=>(a.lastK h1).1⟩
  noslab:=fun q h1 h2=>by rcases a.kinds q h1 qo with ⟨_,h3⟩|⟨_,_,h3⟩|⟨_,_,h3⟩|⟨h3,_⟩ <;> omega
  left:=fun h3=>by omega
  right:=fun _ h1=>by rw[e] at h1 ⊢;exact(a.lastK h1).2
  used:=fun _=>by
   rw[zi,if_neg qo,if_neg qo,qB0 _ _ qo qo qo,qJR _ _ rfl]
  rest:=fun _=>by
   rw[zi,if_pos rfl,Nat.zero_add]
  blank:=fun q h1 h2 h3 h4=>by
   rw[zi,if_neg qo]
   split
   ·rfl
   ·rename_i h5
    rw[qB0 _ _ qo qo qo,qB0 _ _ qo qo qo]
    rcases a.kinds q h1 qo with ⟨h6,_⟩|⟨h6,_⟩|⟨h6,h7,_⟩|⟨_,h6,_⟩
    ·exfalso;omega
    ·omega
    ·exfalso;exact h5 (.inr ⟨h6,qo⟩)
    ·exact h6
  infos:=fun q h1 h2=>by
   rw[zi,if_neg qo,if_neg qo,qB0 _ _ qo qo qo,qB0 _ _ qo qo qo]
   rfl
  footu:=fun _=>by
   rw[zf,if_neg qo,if_neg qo,qJR _ _ rfl]
  footr:=fun _=>by
   rw[zf,if_pos qo]
  blankf:=fun q h1 h2 h3 h4=>by
   rw[zf,if_neg qo]
   split
   ·rfl
   ·rename_i h5
    rw[qB0 _ _ qo qo qo,qB0 _ _ qo qo qo]
    exact a.feet q h1 qo qo qo qo
  feet:=fun q h1 h2=>by
   rw[zf,if_neg qo,if_neg qo,qB0 _ _ qo qo qo,qB0 _ _ qo qo qo]
   rfl
  bits:=fun q h1=>by
   obtain⟨b4,b5⟩:=zb q
   rw[b4,b5,qB0 _ _ qo qo qo,qB0 _ _ qo qo qo,qB0 _ _ qo qo qo,qB0 _ _ qo qo qo]
   exact⟨rfl,rfl⟩
  mem:=fun hd a2 a21 y=>by
   have am:=a.mem h a2 a21 y
   rw[m' hd a2 a21 y,e,<- am,er,Nat.zero_add]
   constructor
   ·rintro (h1|⟨h1,h2⟩)
    ·exact .inl ⟨h1.1,fun h3=>by omega,h1.2.2⟩
    ·exact .inr ⟨qo,h1,h2⟩
   ·rintro (h1|⟨_,h1,h2⟩)
    ·exact .inl ⟨h1.1,fun h3=>by omega,h1.2.2⟩
    ·exact .inr ⟨h1,h2⟩
  free:=by
   rw[z0,qKp _ _ qo,qKp _ _ qo,show m+(l-m+lr)=0+l+lr by omega,a.free]
   omega
  roots:=fun i hi=>by rw[z1 (22+i) qo qo,qKp _ _ qo,qKp _ _ qo] }
theorem qZr (h:H.Ok L)(W:Work H.t H.p H.s n K st L H.V)(hf:Fit H.t H.p H.s n){p l:Nat}(m:Int) :
  growB n K H.t H.p H.s p l m st=true↔p+l<H.p/\H.K (p+l)=1/\m-(l:Int)<=(H.ln (p+l):Int):=by
 unfold growB
 simp only[Bool.and_eq_true,decide_eq_true_iff]
 constructor
 ·rintro ⟨⟨h1,h2⟩,h3⟩
  have h4:p+l<H.p:=qo
  rw[W.infoAt hf h4,show infoG (H.V (pc H.t (p+l) 0))=(H.K (p+l),H.L (p+l),H.Cl (p+l),H.ok (p+l)) from H.info_eq _] at h2 h3
  exact⟨h4,h2,by rw[<- H.L_ln];exact h3⟩
 ·rintro ⟨h1,h2,h3⟩
  rw[W.infoAt hf h1,show infoG (H.V (pc H.t (p+l) 0))=(H.K (p+l),H.L (p+l),H.Cl (p+l),H.ok (p+l)) from H.info_eq _]
  exact⟨⟨qo,h2⟩,by rw[H.L_ln];exact h3⟩
theorem qVi {t q s:Int}{p l:Nat}{m:Int}(h:growB n K t q s p l m st=false):(growS n K t q s p l m st).wr=st.wr:=by
 unfold growS
 simp only
 split
 ·rw[if_neg (by rw[h];simp)]
  exact(qSx n K st _).2
 ·rfl
theorem qP8 (HV:HeapV H n c)(h:H.Ok L)(W:Work H.t H.p H.s n K st L H.V){p l m:Nat}(hp:p<H.p)(hk:H.K p=2)(hl:H.ln p=l)(h1:l<m)(hb:growB n K H.t H.p H.s p l (m:Int) st=true) :
  ∃ L' g' lr,Work H.t H.p H.s n K (growS n K H.t H.p H.s p l (m:Int) st) L' g'/\RelaidG H g' L L' p m (l+lr-m)/\Around H L p l p 0 lr/\0<lr/\m<=l+lr/\g' 1=H.V 1/\g' 0=H.V 0-(m-l)/\m-l<=H.V 0:=by
 have hf:=HV.fit
 have hP:=hf.nums
 have hv1:=(qFj h hP.2).2
 obtain⟨g1,g2,g3⟩:=(qZr h W hf (m:Int)).1 hb
 obtain⟨hnx,s1,s2,s3,_⟩:=qRA h hp qo qo
 rw[hl] at hnx s1 s2 s3
 obtain⟨lr,r0,r1,r2,r3,r4,r5⟩:=qE3 h (r:=p+l) s3 s2
 have a:=around h hp hk hl (A:=p) (la:=0) qo r0 (fun h=>by omega) r3 r5
 have hlr:0<lr:=by
  rcases Nat.eq_zero_or_pos lr with h0|h0
  ·exact absurd g2 (r4 h0 g1)
  ·exact h0
 have hll:=(r3 hlr).2
 have hv0:=qTJ h hP.2 g1 g2
 obtain⟨_,q2,k,q3,q4,q5⟩:=r2 hlr
 have W1:=W.get (pageI (H.t:Int) (H.p:Int) (H.s:Int) ((p+l:Nat):Int) 0)
 obtain⟨ed,L1,W2,m1⟩:=W1.drop hf (p:=p+l) g1 q2 q3 q4 q5
 have W3:=W2.zero hf (p:=p+l) qo g1
 have W4:=W3.used hf (p:=p) (m:=m) qo qo
 have est:growS n K H.t H.p H.s p l (m:Int) st=lessS n K (m-l) (restS n K H.t H.p H.s p m ((l:Int)+(lr:Int)) (usedS n H.t H.p H.s p m (putS n (putS n (dropS n K H.t H.p H.s ((p+l:Nat):Int) (getS n K st (pageI (H.t:Int) (H.p:Int) (H.s:Int) ((p+l:Nat):Int) 0))) (pageI (H.t:Int) (H.p:Int) (H.s:Int) ((p+l:Nat):Int) 0) 0) (pageI (H.t:Int) (H.p:Int) (H.s:Int) (((p+l:Nat):Int)-1) 1) 0))):=by
  unfold growS
  simp only
  rw[if_pos qo,if_pos hb,W.infoAt hf g1,q2,Int.toNat_natCast]
 have e:p+m+(l+lr-m)=p+l+lr:=qo
 have hwhole:H.Whole p (p+m+(l+lr-m)):=by rw[e];exact⟨qo,r0,a.firstK,fun h1=>(a.lastK h1).1⟩
 have hns:∀ q,p<=q->q<p+m+(l+lr-m)->H.K q≠3:=fun q h1 h2=>by rcases a.kinds q h1 qo with ⟨_,h3⟩|⟨_,_,h3⟩|⟨_,_,h3⟩|⟨h3,_⟩ <;> omega
 have hright:0<l+lr-m->p+m+(l+lr-m)<H.p->H.K (p+m+(l+lr-m))≠1:=fun _ h1=>by rw[e] at h1 ⊢;exact(a.lastK h1).2
 have hK0:∀ q,p<=q->q<p+l+lr->q≠p->q≠p+l->H.cel q 0=0/\H.K q=0:=fun q h1 h2 h3 h4=>by
  rcases a.kinds q h1 h2 with ⟨h5,_⟩|⟨h5,_⟩|⟨_,h5,_⟩|⟨h5,h6,_⟩
  ·exact absurd h5 h3
  ·omega
  ·exact absurd h5 h4
  ·exact⟨h6,h5⟩
 have hmm:∀ hd:Nat,2<=hd->hd<=21->∀ y,y∈L1 hd↔(y∈L hd/\¬ (p<=y/\y<p+l+lr)):=fun hd a2 a21 y=>by
  rw[m1 hd a2 a21 y,<- a.mem h a2 a21 y]
  constructor
  ·exact fun h1=>⟨h1.1,fun h2=>by omega,fun h2=>h1.2 h2.2⟩
  ·exact fun h1=>⟨h1.1,fun h2=>h1.2.2 ⟨hlr,h2⟩⟩
 by_cases hlm:m<l+lr
 ·have hnop:∀ hd:Nat,2<=hd->hd<=21->¬ p+m∈L1 hd:=fun hd a2 a21 hx=>((hmm hd a2 a21 _).1 hx).2 ⟨qo,qo⟩
  obtain⟨L3,W5,m3⟩:=W4.add hf (p:=p+m) (m:=l+lr-m) qo qo hnop
  have ers:∀ s':Vst,restS n K H.t H.p H.s p m ((l:Int)+(lr:Int)) s'=addS n K H.t H.p H.s ((p+m:Nat):Int) ((l+lr-m:Nat):Int) s':=fun s'=>by
   unfold restS
   rw[if_pos qo]
   congr 1
   omega
  rw[<- ers] at W5
  have W6:=W5.less hf (m:=m-l) (by simp(disch:=omega) only[qKp];omega) (by simp(disch:=omega) only[qKp];omega)
  rw[<- est] at W6
  refine⟨L3,_,lr,W6,?_,a,hlr,qo,?_,?_,qo⟩
  ·refine⟨qo,hwhole,hns,fun e=>by omega,hright,?_,?_,?_,?_,?_,?_,?_,?_,?_,?_,?_,?_⟩
   ·exact M1J
   ·exact M1J
   ·exact MeM
   ·exact Mli
   ·exact M1J
   ·exact M1J
   ·exact MhH
   ·exact Mli
   ·intro q a1
    simp(disch:=omega) only[qDr,qB0,qJR,qIZ,and_self]
   ·intro hd a2 a21 y
    rw[m3 hd a2 a21 y,hmm hd a2 a21 y,e]
    constructor
    ·rintro (b1|⟨b1,b2⟩)
     ·exact .inl b1
     ·exact .inr ⟨qo,b1,b2⟩
    ·rintro (b1|⟨_,b1,b2⟩)
     ·exact .inl b1
     ·exact .inr ⟨b1,b2⟩
   ·rw[qJN]
    simp(disch:=omega) only[qKp]
    rw[show m+(l+lr-m)=0+l+lr by omega,a.free]
    omega
   ·intro i hi
    exact MFF
  ·exact MFF
  ·rw[qJN]
   simp(disch:=omega) only[qKp]
 ·obtain rfl:m=l+lr:=qo
  have ers:∀ s':Vst,restS n K H.t H.p H.s p (l+lr) ((l:Int)+(lr:Int)) s'=s':=fun s'=>by
   unfold restS
   rw[if_neg qo]
  have W5:=W4
  rw[<- ers (usedS n H.t H.p H.s p (l+lr) _)] at W5
  have W6:=W5.less hf (m:=l+lr-l) (by simp(disch:=omega) only[qKp];omega) (by simp(disch:=omega) only[qKp];omega)
  rw[<- est] at W6
  refine⟨L1,_,lr,W6,?_,a,hlr,qo,?_,?_,qo⟩
  ·refine⟨qo,hwhole,hns,fun e=>by omega,hright,?_,fun e=>by omega,?_,?_,?_,fun e=>by omega,?_,?_,?_,?_,?_,?_⟩
   ·exact M1J
   ·exact MeM
   ·exact Mli
   ·exact M1J
   ·exact MhH
   ·exact Mli
   ·intro q a1
    simp(disch:=omega) only[qDr,qB0,qJR,qIZ,and_self]
   ·intro hd a2 a21 y
    rw[hmm hd a2 a21 y,e]
    constructor
    ·exact fun b1 => .inl b1
    ·rintro (b1|⟨b0,_⟩)
     ·exact b1
     ·omega
   ·rw[qJN]
    simp(disch:=omega) only[qKp]
    rw[show l+lr+(l+lr-(l+lr))=0+l+lr by omega,a.free]
    omega
   ·intro i hi
    exact MFF
  ·exact MFF
  ·rw[qJN]
   simp(disch:=omega) only[qKp]
end
end
section
section
variable {H : AuH} {n c : Nat} {K : Nat -> Option Nat} {st : Vst} {L L' : Nat -> List Nat} {g : Nat -> Nat} {A k e : Nat}
def nowH (H:AuH) (n:Nat) (K:Nat->Option Nat) (st:Vst):AuH:=H.re (curV n (getV n K st) H.V)
theorem Work.again (W:Work H.t H.p H.s n K st L g):Work H.t H.p H.s n K st L (nowH H n K st).V :=
 ⟨W.lists,fun i hi _=>(qG7 hi).symm,W.o⟩
theorem qN5 (HV:HeapV H n c)(hok:VOk n st)(h32:∀ i x,K i=some x->x<2^32){cp:Nat}(hcp:n<=cp)(hcm:cp<=maxLen):HeapV (nowH H n K st) n cp :=
 ⟨HV.right,HV.len,hcp,hcm,fun i hi=>by
  show curV n (getV n K st) H.V i<2^32
  rw[qG7 hi]
  exact qCb hok h32⟩
theorem qMz (HV:HeapV H n c)(h:H.Ok L)(W:Work H.t H.p H.s n K st L' g)(R:RelaidG H g L L' A k e)
  (live:g 1+AuH.sumTo (fun i=>H.liveF (A+i)) (k+e)=H.V 1+(if 0<k then 1 else 0))
  (named:∀ i,i<8->H.V (22+i)≠0->A<=(spotP H.t H.p H.s (H.V (22+i):Int)).toNat->(spotP H.t H.p H.s (H.V (22+i):Int)).toNat<A+k+e->0<k/\(spotP H.t H.p H.s (H.V (22+i):Int)).toNat=A) :
  (nowH H n K st).Ok L'/\(∀ i,i<8->(nowH H n K st).V (22+i)=H.V (22+i))/\(nowH H n K st).V 0=g 0/\(nowH H n K st).V 1=g 1 /\
   ∃ X Y,blocksOf H.parts=X++blocksOf (AuH.catTo (fun i=>H.partsAt (A+i)) (k+e))++Y /\
    blocksOf (nowH H n K st).parts=X++(if 0<k then [(H.first A,(k:Int)*(H.pg:Int))] else [])++Y /\
    (∀ b∈X,b.1<H.first A)/\∀ b∈Y,H.first (A+k+e)<=b.1:=by
 have hP:=HV.fit.nums
 have hlen:=HV.len
 have T:=qJ7 HV h W R live named
 exact⟨T.ok h hP.2,T.roots,W.low hlen (.inl qo),W.low hlen (.inl qo),AuH.blocks_relaid T h HV hP.2⟩
theorem qBt {f:Nat->List (Int × Int × Int)}{i0:Nat}:∀ m,i0<m->(∀ i,i<m->i≠i0->blocksOf (f i) = [])->blocksOf (AuH.catTo f m)=blocksOf (f i0)
 | 0,h,_=>by omega
 | m+1,h,ho=>by
  show blocksOf (AuH.catTo f m++f m)=_
  rw[qGG]
  rcases Nat.lt_or_ge i0 m with h1|h1
  ·rw[qBt m h1 (fun i hi hne=>ho i qo hne),ho m qo qo,List.append_nil]
  ·obtain rfl:i0=m:=qo
   have:∀ j,j<=i0->blocksOf (AuH.catTo f j) = []:=fun j=>by
    induction j with
    | zero=>intro _;rfl
    | succ j ih =>
     intro hj
     show blocksOf (AuH.catTo f j++f j)=_
     rw[qGG,ih qo,ho j qo qo]
     rfl
   rw[this i0 (Nat.le_refl _),List.nil_append]
theorem qPf {q:Nat}(hk:H.K q=0\/H.K q=1):blocksOf (H.partsAt q) = []:=by
 unfold AuH.partsAt
 rcases hk with h|h
 ·rw[if_neg qo,if_neg qo,if_neg qo];rfl
 ·rw[if_pos h];exact qCe (by simp)
theorem qZ2 {q:Nat}(hk:H.K q=2):blocksOf (H.partsAt q) = [(H.first q,(H.ln q:Int)*(H.pg:Int))]:=by
 unfold AuH.partsAt
 rw[if_neg qo,if_pos hk]
 exact qId rfl
theorem Around.blocks {p m A la lr:Nat}(a:Around H L p m A la lr):blocksOf (AuH.catTo (fun i=>H.partsAt (A+i)) (la+m+lr)) = [(H.first p,(m:Int)*(H.pg:Int))]:=by
 have hA:=a.ahead
 have hpos:=a.pos
 rw[qBt (f:=fun i=>H.partsAt (A+i)) (i0:=la) (la+m+lr) qo (fun i hi hne=>?_)]
 ·show blocksOf (H.partsAt (A+la))=_
  rw[hA,qZ2 a.used,a.len]
 ·refine qPf ?_
  rcases a.kinds (A+i) qo qo with ⟨h5,_⟩|⟨_,_,h5⟩|⟨_,_,h5⟩|⟨h5,_⟩
  ·omega
  ·exact .inr h5
  ·exact .inr h5
  ·exact .inl h5
theorem Around.root {p m A la lr:Nat}(a:Around H L p m A la lr)(h:H.Ok L){i:Nat}(hi:i<8)(hv:H.V (22+i)≠0)(h1:A<=(spotP H.t H.p H.s (H.V (22+i):Int)).toNat)(h2:(spotP H.t H.p H.s (H.V (22+i):Int)).toNat<p+m+lr) :
  (spotP H.t H.p H.s (H.V (22+i):Int)).toNat=p/\spotB H.t H.p H.s (H.V (22+i):Int)=true/\spotO H.t H.p H.s (H.V (22+i):Int)=0:=by
 obtain⟨h3,h4⟩:=h.roots i hi hv
 have hk:=a.kinds _ h1 h2
 rcases h4 with ⟨h5,h6⟩|⟨h5,_⟩
 ·rcases hk with ⟨h7,_⟩|⟨_,_,h7⟩|⟨_,_,h7⟩|⟨h7,_⟩
  ·exact⟨h7,h3,h6⟩
  ·omega
  ·omega
  ·omega
 ·exfalso
  rcases hk with ⟨_,h7⟩|⟨_,_,h7⟩|⟨_,_,h7⟩|⟨h7,_⟩ <;> omega
end
end
open Go.Shelf
section
theorem qVC {H:AuH}{n c:Nat}(HV:HeapV H n c)(ad:Addr){q:Nat}(hq:q<H.p)(w:World)(hv:IsVals w ad n H.V) :
  Calls Tryz.prog 93 #[hpV H ad n c,.int .i64 (q:Int)] w fun e w'=>e = .returned (.int .u32 (H.cel q 4:Nat))/\Below w.heap.size w w':=by
 obtain⟨i,hii⟩:∃ i,30+4*H.t+6*q+4=i:=⟨_,rfl⟩
 have hini:i<n:=by have:=HV.len;omega
 have HI:qH (pageI H.t H.p H.s q 4=(i:Int)):=qh (by have h:=HV.page (b:=4) hq qo;rw[hii] at h;exact h)
 have h32i:=HV.cel_lt hq (show 4<6 by omega)
 have hceli:H.cel q 4=H.V i:=by unfold AuH.cel;rw[hii]
 obtain⟨v,hvvv⟩:∃ v,H.cel q 4=v:=⟨_,rfl⟩
 have HCv:=qh hvvv
 rw[hvvv] at h32i
 have hci:=(hv).2 i hini
 rw[<- hceli,hvvv] at hci
 have hbli:(ad.add i).block<w.heap.size:=by rw[qXL];exact(hv).1
 have hn:=HV.nums
 have hcx:c<=9223372036854775807:=hn.2.2.2.2.2.2.2.2
 have hni:n<=6238:=hn.2.2.2.2.2.2.1
 have hnc:=HV.cap
 rw[hvvv]
 have hc:=Held.new w 88 #[.int .i64 (H.t:Int),.int .i64 (H.p:Int),.int .i64 (H.s:Int),.slice (some ad) n c]
 have HS:qH (∀ w',Below w.heap.size w w'->Held w' w.heap.size 88 #[.int .i64 (H.t:Int),.int .i64 (H.p:Int),.int .i64 (H.s:Int),.slice (some ad) n c]->(fun w'=>w'.cell? ⟨w.heap.size,0,none⟩=some (.int .i64 (H.t:Int))/\w'.cell? ⟨w.heap.size,1,none⟩=some (.int .i64 (H.p:Int))/\w'.cell? ⟨w.heap.size,2,none⟩=some (.int .i64 (H.s:Int))/\w'.cell? ⟨w.heap.size,3,none⟩=some (.slice (some ad) n c)/\w'.cell? (ad.add i)=some (.int .u32 (v:Int))) w'):=qh (fun w' hb hh=>⟨hh.four.1,hh.four.2.1,hh.four.2.2.1,hh.four.2.2.2,(hb.cell hbli).trans hci⟩)
 clear hv hci hbli hceli hvvv hii hn hq HCv h32i
 unfold hpV
 go_enter Tryz.func93,Tryz.ntmps93
 go_wp2_with fail
 refine wp_region_held_drew (S:=(fun w'=>w'.cell? ⟨w.heap.size,0,none⟩=some (.int .i64 (H.t:Int))/\w'.cell? ⟨w.heap.size,1,none⟩=some (.int .i64 (H.p:Int))/\w'.cell? ⟨w.heap.size,2,none⟩=some (.int .i64 (H.s:Int))/\w'.cell? ⟨w.heap.size,3,none⟩=some (.slice (some ad) n c)/\w'.cell? (ad.add i)=some (.int .u32 (v:Int)))) qr ?_ (fun hHeld=>?_)
 ·exact MfR
 refine tkz 0 ?_
 refine tkz 1 ?_
 refine tkz 2 ?_
 refine tkz 3 ?_
 refine tkz 4 ?_
 refine rdz 5 fun K hK=>?_
 go_simp
 (go_at_call 127;refine(qSX _ _ _ _ _).mono ?_;rintro e w1 ⟨rfl,hb1⟩;rw[HI.o];have HB1:=qh (Bgo (Bdrew (Bnew (B0 w) _)) hb1);have HC1:=qh (hc.drew.keep hb1);clear hb1)
 refine qk ?_ (fun hHeld=>?_)
 ·exact M2k
 clear hK K
 refine tkz 6 ?_
 refine tkz 7 ?_
 refine tkz 8 ?_
 refine dnz ?_
 go_wp2
 go_ret
 exact⟨rfl,HB1.o⟩

theorem qXi {H:AuH}{n c:Nat}(HV:HeapV H n c)(ad:Addr){q:Nat}(hq:q<H.p)(w:World)(hv:IsVals w ad n H.V) :
  Calls Tryz.prog 94 #[hpV H ad n c,.int .i64 (q:Int)] w fun e w'=>e = .returned (.int .u32 (H.cel q 5:Nat))/\Below w.heap.size w w':=by
 obtain⟨i,hii⟩:∃ i,30+4*H.t+6*q+5=i:=⟨_,rfl⟩
 have hini:i<n:=by have:=HV.len;omega
 have HI:qH (pageI H.t H.p H.s q 5=(i:Int)):=qh (by have h:=HV.page (b:=5) hq qo;rw[hii] at h;exact h)
 have h32i:=HV.cel_lt hq (show 5<6 by omega)
 have hceli:H.cel q 5=H.V i:=by unfold AuH.cel;rw[hii]
 obtain⟨v,hvvv⟩:∃ v,H.cel q 5=v:=⟨_,rfl⟩
 have HCv:=qh hvvv
 rw[hvvv] at h32i
 have hci:=(hv).2 i hini
 rw[<- hceli,hvvv] at hci
 have hbli:(ad.add i).block<w.heap.size:=by rw[qXL];exact(hv).1
 have hn:=HV.nums
 have hcx:c<=9223372036854775807:=hn.2.2.2.2.2.2.2.2
 have hni:n<=6238:=hn.2.2.2.2.2.2.1
 have hnc:=HV.cap
 rw[hvvv]
 have hc:=Held.new w 88 #[.int .i64 (H.t:Int),.int .i64 (H.p:Int),.int .i64 (H.s:Int),.slice (some ad) n c]
 have HS:qH (∀ w',Below w.heap.size w w'->Held w' w.heap.size 88 #[.int .i64 (H.t:Int),.int .i64 (H.p:Int),.int .i64 (H.s:Int),.slice (some ad) n c]->(fun w'=>w'.cell? ⟨w.heap.size,0,none⟩=some (.int .i64 (H.t:Int))/\w'.cell? ⟨w.heap.size,1,none⟩=some (.int .i64 (H.p:Int))/\w'.cell? ⟨w.heap.size,2,none⟩=some (.int .i64 (H.s:Int))/\w'.cell? ⟨w.heap.size,3,none⟩=some (.slice (some ad) n c)/\w'.cell? (ad.add i)=some (.int .u32 (v:Int))) w'):=qh (fun w' hb hh=>⟨hh.four.1,hh.four.2.1,hh.four.2.2.1,hh.four.2.2.2,(hb.cell hbli).trans hci⟩)
 clear hv hci hbli hceli hvvv hii hn hq HCv h32i
 unfold hpV
 go_enter Tryz.func94,Tryz.ntmps94
 go_wp2_with fail
 refine wp_region_held_drew (S:=(fun w'=>w'.cell? ⟨w.heap.size,0,none⟩=some (.int .i64 (H.t:Int))/\w'.cell? ⟨w.heap.size,1,none⟩=some (.int .i64 (H.p:Int))/\w'.cell? ⟨w.heap.size,2,none⟩=some (.int .i64 (H.s:Int))/\w'.cell? ⟨w.heap.size,3,none⟩=some (.slice (some ad) n c)/\w'.cell? (ad.add i)=some (.int .u32 (v:Int)))) qr ?_ (fun hHeld=>?_)
 ·exact MfR
 refine tkz 0 ?_
 refine tkz 1 ?_
 refine tkz 2 ?_
 refine tkz 3 ?_
 refine tkz 4 ?_
 refine rdz 5 fun K hK=>?_
 go_simp
 (go_at_call 128;refine(qLb _ _ _ _ _).mono ?_;rintro e w1 ⟨rfl,hb1⟩;rw[HI.o];have HB1:=qh (Bgo (Bdrew (Bnew (B0 w) _)) hb1);have HC1:=qh (hc.drew.keep hb1);clear hb1)
 refine qk ?_ (fun hHeld=>?_)
 ·exact M2k
 clear hK K
 refine tkz 6 ?_
 refine tkz 7 ?_
 refine tkz 8 ?_
 refine dnz ?_
 go_wp2
 go_ret
 exact⟨rfl,HB1.o⟩

theorem qMU {H:AuH}{n c:Nat}(HV:HeapV H n c)(ad:Addr){q:Nat}(hq:q<H.p)(w:World)(hv:IsVals w ad n H.V) :
  Calls Tryz.prog 42 #[hpV H ad n c,.int .i64 (q:Int)] w fun e w'=>e = .returned (.agg #[.int .i64 (H.K q),.int .i64 (H.ln q:Int),.int .i64 (H.Cl q)])/\Below w.heap.size w w':=by
 obtain⟨i,hii⟩:∃ i,30+4*H.t+6*q+0=i:=⟨_,rfl⟩
 have hini:i<n:=by have:=HV.len;omega
 have HI:qH (pageI H.t H.p H.s q 0=(i:Int)):=qh (by have h:=HV.page (b:=0) hq qo;rw[hii] at h;exact h)
 have h32i:=HV.cel_lt hq (show 0<6 by omega)
 have hceli:H.cel q 0=H.V i:=by unfold AuH.cel;rw[hii]
 obtain⟨v,hvvv⟩:∃ v,H.cel q 0=v:=⟨_,rfl⟩
 have HCv:=qh hvvv
 rw[hvvv] at h32i
 have hci:=(hv).2 i hini
 rw[<- hceli,hvvv] at hci
 have hbli:(ad.add i).block<w.heap.size:=by rw[qXL];exact(hv).1
 have hn:=HV.nums
 have hcx:c<=9223372036854775807:=hn.2.2.2.2.2.2.2.2
 have hni:n<=6238:=hn.2.2.2.2.2.2.1
 have hnc:=HV.cap
 have hie:=H.info_eq q
 rw[H.L_ln,hvvv] at hie
 generalize H.K q=k at *
 generalize H.ln q=m at *
 generalize H.Cl q=cl at *
 generalize H.ok q=okb at *
 have HG:=qh hie
 have hc:=(Held.new w 88 #[.int .i64 (H.t:Int),.int .i64 (H.p:Int),.int .i64 (H.s:Int),.slice (some ad) n c]).alloc (.cells #[.int .i64 0,.int .i64 0,.int .i64 0] 90)
 have HR:=qh (Held.new2 w (.cells #[.int .i64 (H.t:Int),.int .i64 (H.p:Int),.int .i64 (H.s:Int),.slice (some ad) n c] 88) 90 #[.int .i64 0,.int .i64 0,.int .i64 0])
 have HBW:=qh (Bnew (Bnew (B0 w) (.cells #[.int .i64 (H.t:Int),.int .i64 (H.p:Int),.int .i64 (H.s:Int),.slice (some ad) n c] 88)) (.cells #[.int .i64 0,.int .i64 0,.int .i64 0] 90))
 have HS:qH (∀ w',Below ((w.alloc (.cells #[.int .i64 (H.t:Int),.int .i64 (H.p:Int),.int .i64 (H.s:Int),.slice (some ad) n c] 88)).alloc (.cells #[.int .i64 0,.int .i64 0,.int .i64 0] 90)).heap.size ((w.alloc (.cells #[.int .i64 (H.t:Int),.int .i64 (H.p:Int),.int .i64 (H.s:Int),.slice (some ad) n c] 88)).alloc (.cells #[.int .i64 0,.int .i64 0,.int .i64 0] 90)) w'->(fun w'=>w'.cell? ⟨w.heap.size,0,none⟩=some (.int .i64 (H.t:Int))/\w'.cell? ⟨w.heap.size,1,none⟩=some (.int .i64 (H.p:Int))/\w'.cell? ⟨w.heap.size,2,none⟩=some (.int .i64 (H.s:Int))/\w'.cell? ⟨w.heap.size,3,none⟩=some (.slice (some ad) n c)/\w'.cell? (ad.add i)=some (.int .u32 (v:Int))) w'):=qh (fun w' hb=>by have hh:=hc.keep hb;exact⟨hh.four.1,hh.four.2.1,hh.four.2.2.1,hh.four.2.2.2,((Bgo HBW.o hb).cell hbli).trans hci⟩)
 clear hv hci hbli hceli hvvv hii hn hq HCv hie hc
 unfold hpV
 go_enter Tryz.func42,Tryz.ntmps42
 go_upto_region 1 with fail
 go_cut [5,6] from 7 to 18 (fun u5 u6 wx=>∃ g:Nat,u5 = .pointer (some ⟨g,0,none⟩)/\Held wx g 90 #[(.int .i64 k),(.int .i64 (m:Int)),(.int .i64 cl)]/\Below ((w.alloc (.cells #[.int .i64 (H.t:Int),.int .i64 (H.p:Int),.int .i64 (H.s:Int),.slice (some ad) n c] 88)).alloc (.cells #[.int .i64 0,.int .i64 0,.int .i64 0] 90)).heap.size ((w.alloc (.cells #[.int .i64 (H.t:Int),.int .i64 (H.p:Int),.int .i64 (H.s:Int),.slice (some ad) n c] 88)).alloc (.cells #[.int .i64 0,.int .i64 0,.int .i64 0] 90)) wx/\((w.alloc (.cells #[.int .i64 (H.t:Int),.int .i64 (H.p:Int),.int .i64 (H.s:Int),.slice (some ad) n c] 88)).alloc (.cells #[.int .i64 0,.int .i64 0,.int .i64 0] 90)).heap.size<=g)
 case first =>
  have HB:=qh (Bdrew (B0 (((w.alloc (.cells #[.int .i64 (H.t:Int),.int .i64 (H.p:Int),.int .i64 (H.s:Int),.slice (some ad) n c] 88)).alloc (.cells #[.int .i64 0,.int .i64 0,.int .i64 0] 90)))))
  refine wp_region_held_drew (S:=(fun w'=>w'.cell? ⟨w.heap.size,0,none⟩=some (.int .i64 (H.t:Int))/\w'.cell? ⟨w.heap.size,1,none⟩=some (.int .i64 (H.p:Int))/\w'.cell? ⟨w.heap.size,2,none⟩=some (.int .i64 (H.s:Int))/\w'.cell? ⟨w.heap.size,3,none⟩=some (.slice (some ad) n c)/\w'.cell? (ad.add i)=some (.int .u32 (v:Int)))) qr ?_ (fun hHeld=>?_)
  ·(try dsimp only)
   exact HS.o _ HB.o
  generalize hq0:(((w.alloc (.cells #[.int .i64 (H.t:Int),.int .i64 (H.p:Int),.int .i64 (H.s:Int),.slice (some ad) n c] 88)).alloc (.cells #[.int .i64 0,.int .i64 0,.int .i64 0] 90))).drew=q0 at HB hHeld ⊢
  clear hq0
  refine Ro3 ?_
  refine tkz 3 ?_
  refine tkz 4 ?_
  refine wpAnyH_ready (rs := [5,12]) qr (by simp) ?_
  refine AllReadyH.cons (o:=_) rfl (fun K hK=>?_) (AllReadyH.cons (o:=_) rfl (fun K hK=>?_) AllReadyH.nil)
  ·skip
   go_simp
   (go_at_call 77;refine(qQ1 _ _ _ _ _).mono ?_;rintro e q1 ⟨rfl,hb1⟩;rw[HI.o];have HB:=qh (Bgo HB.o hb1);skip;clear hb1)
   refine RRY ?_;intro hHeld
   clear hK K
   refine tkz 6 ?_
   refine tkz 7 ?_
   refine wpAnyH_ready (rs := [8,12]) qr (by simp) ?_
   refine AllReadyH.cons (o:=_) rfl (fun K hK=>?_) (AllReadyH.cons (o:=_) rfl (fun K hK=>?_) AllReadyH.nil)
   ·skip
    go_simp
    (go_at_call 82;refine(qRV _ _ _ _ _ h32i HG.o _).mono ?_;rintro e q2 ⟨rfl,hb1⟩;have HB:=qh (Bgo HB.o hb1);skip;clear hb1)
    refine RRY ?_;intro hHeld
    clear hK K
    refine tkz 9 ?_
    refine tkz 10 ?_
    refine tkz 11 ?_
    refine rdz 12 fun K hK=>?_
    ·refine RpV ?_;intro HLE HB
     have HN:=qh (Held.new q2 90 #[.int .i64 0,.int .i64 0,.int .i64 0])
     try simp only[World.heap_drew] at HLE HN
     generalize hq3:q2.alloc (.cells #[.int .i64 0,.int .i64 0,.int .i64 0] 90)=q3 at HB HN ⊢
     clear hq3
     refine RRY ?_;intro hHeld
     clear hK K
     exact MMM
   ·refine RpV ?_;intro HLE HB
    have HN:=qh (Held.new q1 90 #[.int .i64 0,.int .i64 0,.int .i64 0])
    try simp only[World.heap_drew] at HLE HN
    generalize hq4:q1.alloc (.cells #[.int .i64 0,.int .i64 0,.int .i64 0] 90)=q4 at HB HN ⊢
    clear hq4
    refine RRY ?_;intro hHeld
    clear hK K
    refine rdz 8 fun K hK=>?_
    ·skip
     go_simp
     (go_at_call 82;refine(qRV _ _ _ _ _ h32i HG.o _).mono ?_;rintro e q5 ⟨rfl,hb1⟩;have HB:=qh (Bgo HB.o hb1);have HN:=qh (HN.o.keep hb1);clear hb1)
     exact M3p
  ·refine RpV ?_;intro HLE HB
   have HN:=qh (Held.new q0 90 #[.int .i64 0,.int .i64 0,.int .i64 0])
   try simp only[World.heap_drew] at HLE HN
   generalize hq6:q0.alloc (.cells #[.int .i64 0,.int .i64 0,.int .i64 0] 90)=q6 at HB HN ⊢
   clear hq6
   refine RRY ?_;intro hHeld
   clear hK K
   refine rdz 5 fun K hK=>?_
   ·skip
    go_simp
    (go_at_call 77;refine(qQ1 _ _ _ _ _).mono ?_;rintro e q7 ⟨rfl,hb1⟩;rw[HI.o];have HB:=qh (Bgo HB.o hb1);have HN:=qh (HN.o.keep hb1);clear hb1)
    refine RRY ?_;intro hHeld
    clear hK K
    refine tkz 6 ?_
    refine tkz 7 ?_
    refine rdz 8 fun K hK=>?_
    ·skip
     go_simp
     (go_at_call 82;refine(qRV _ _ _ _ _ h32i HG.o _).mono ?_;rintro e q8 ⟨rfl,hb1⟩;have HB:=qh (Bgo HB.o hb1);have HN:=qh (HN.o.keep hb1);clear hb1)
     exact M3p
 case rest =>
  obtain⟨g,rfl,h1,h2,h3⟩:=hcut
  obtain⟨x0,x1,x2⟩:=h1.three
  have z:=HR.o.keep h2
  obtain⟨y0,y1,y2⟩:=z.three
  obtain⟨v0,v1,v2⟩:=(((z.put 0 (.int .i64 k)).put 1 (.int .i64 (m:Int))).put 2 (.int .i64 cl)).three
  have f0:=z.thawed 0
  have f1:=z.thawed 1
  have f2:=z.thawed 2
  go_wp2_with fail
  refine bodyPost_ret (v := .agg #[(.int .i64 k),(.int .i64 (m:Int)),(.int .i64 cl)]) (by simp[results,Tryz.results42,go_sem,v0,v1,v2]) rfl ⟨rfl,?_⟩
  exact Bput (Bput (Bput (Bgo HBW.o h2) (by simp) _) (by simp) _) (by simp) _
end
section
def natVs (l:List Nat):List Value:=l.map fun (n:Nat)=>Value.int .i64 (n:Int)
theorem qKj (l:List Nat)(q:Nat):natVs (l ++ [q])=natVs l ++ [.int .i64 (q:Int)]:=by unfold natVs;simp
theorem qHG {l:List Nat}{i a:Nat}(h:l[i]?=some a):(natVs l)[i]?=some (.int .i64 (a:Int)):=by unfold natVs;simp[h]
theorem qUf {w:World}{base n g cap:Nat}{e:TypeId}{l:List Nat}(h:w.ownsRow base e 1 (.slice (some ⟨g,0,none⟩) n cap) n (natVs l))(hn:l.length=n){i a:Nat}(hi:l[i]?=some a):w.cell? ⟨g,i,none⟩=some (.int .i64 (a:Int)):=by
 have hl:i<n:=by
  rcases Nat.lt_or_ge i n with h1|h1
  ·exact h1
  ·rw[List.getElem?_eq_none qo] at hi;cases hi
 exact(h.cellAt _ qo).trans (qHG hi)
def StartsIs (H:AuH) (w:World) (u:Value) (b:Bool) (w':World):Prop:=(b=true↔H.At H.p)/\(b=true->∃ l,H.Starts l H.p/\w'.ownsRow w.heap.size 3 1 u l.length (natVs l))
def StartsEnd (H:AuH) (w:World) (e:Ending) (w':World):Prop:=∃ u b,e = .returned (.tuple #[u,.bool b])/\StartsIs H w u b w'/\Below w.heap.size w w'

theorem qYO {H:AuH}{n c:Nat}(HV:HeapV H n c)(ad:Addr)(w:World)(hv:IsVals w ad n H.V) :
    Calls Tryz.prog 91 #[hpV H ad n c] w (StartsEnd H w):=by
  have HVL:=qh hv
  have HX0:=qh ((Held.new w 88 #[.int .i64 (H.t:Int),.int .i64 (H.p:Int),.int .i64 (H.s:Int),.slice (some ad) n c]).alloc (.cells #[] 3))
  have HBW:=qh (Bnew (Bnew (B0 w) (.cells #[.int .i64 (H.t:Int),.int .i64 (H.p:Int),.int .i64 (H.s:Int),.slice (some ad) n c] 88)) (.cells #[] 3))
  have HOW:qH (((w.alloc (.cells #[.int .i64 (H.t:Int),.int .i64 (H.p:Int),.int .i64 (H.s:Int),.slice (some ad) n c] 88)).alloc (.cells #[] 3)).ownsRow (w.heap.size+1) 3 1 (.slice (some ⟨(w.alloc (.cells #[.int .i64 (H.t:Int),.int .i64 (H.p:Int),.int .i64 (H.s:Int),.slice (some ad) n c] 88)).heap.size,0,none⟩) 0 0) 0 []):=qh (World.ownsRow_lit (base:=(w.heap.size+1)) (e := 3) (size:=1) (w.alloc (.cells #[.int .i64 (H.t:Int),.int .i64 (H.p:Int),.int .i64 (H.s:Int),.slice (some ad) n c] 88)) #[] 0 (by simp) (by unfold maxLen;omega) rfl)
  obtain⟨i0,hi0,hz0,hz1,hz2⟩:=info_parts intInfo
  have hn:=HV.nums
  have hcx:c<=9223372036854775807:=hn.2.2.2.2.2.2.2.2
  have hni:n<=6238:=hn.2.2.2.2.2.2.1
  have hnc:=HV.cap
  have hp1:=hn.2.2.2.1
  clear hv hn
  unfold hpV
  go_enter Tryz.func91,Tryz.ntmps91
  go_wp2_with fail
  rw[World.size_alloc] at HOW
  generalize (w.alloc (.cells #[.int .i64 (H.t:Int),.int .i64 (H.p:Int),.int .i64 (H.s:Int),.slice (some ad) n c] 88)).alloc (.cells #[] 3)=W0 at *
  go_loopw [4,5] (fun u4 u5 wr=>∃ (a:Nat) (l:List Nat) (nl:Nat),u5 = .int .i64 (a:Int)/\a<=4096/\qH ((a<=H.p/\H.Starts l a)\/(H.p<a/\¬ H.At H.p))/\nl<=1024/\qH (l.length=nl)/\qH (wr.ownsRow (w.heap.size+1) 3 1 u4 nl (natVs l))/\qH (Held wr w.heap.size 88 #[.int .i64 (H.t:Int),.int .i64 (H.p:Int),.int .i64 (H.s:Int),.slice (some ad) n c])/\qH (Below w.heap.size w wr)) (fun _ u5 _=>H.p-(intOf u5).toNat)
  case atStart=>exact⟨0,[],0,rfl,qo,qh (.inl ⟨qo,.nil⟩),qo,qh rfl,HOW,HX0,HBW⟩
  case round =>
    clear HOW HX0 HBW
    obtain⟨a,l,nl,rfl,ha,HST,hnl,HLN,HO,HX,HB⟩:=hrel
    obtain⟨c0,c1,c2,c3⟩:=HX.o.four
    by_cases hlt:a<H.p
    · have hst:H.Starts l a:=by
        rcases HST.o with h|h
        · exact h.2
        · omega
      have HSL:=qh hst
      have hln:=hst.len
      have t0:decide ((a:Int)<H.p)=true:=qt
      have HVR:=qh (HVL.o.below HB.o)
      obtain⟨i,hii⟩:∃ i,30+4*H.t+6*a+0=i:=⟨_,rfl⟩
      have hini:i<n:=by have:=HV.len;omega
      have HI:qH (pageI H.t H.p H.s a 0=(i:Int)):=qh (by have h:=HV.page (b:=0) hlt qo;rw[hii] at h;exact h)
      have h32i:=HV.cel_lt hlt (show 0<6 by omega)
      have hceli:H.cel a 0=H.V i:=by unfold AuH.cel;rw[hii]
      obtain⟨v,hvvv⟩:∃ v,H.cel a 0=v:=⟨_,rfl⟩
      have HCv:=qh hvvv
      rw[hvvv] at h32i
      have hci:=(HVR.o).2 i hini
      rw[<- hceli,hvvv] at hci
      have hbli:(ad.add i).block<wr.heap.size:=by rw[qXL];exact(HVR.o).1
      have HS:qH (∀ w',Below wr.heap.size wr w'->(fun w'=>w'.cell? ⟨w.heap.size,0,none⟩=some (.int .i64 (H.t:Int))/\w'.cell? ⟨w.heap.size,1,none⟩=some (.int .i64 (H.p:Int))/\w'.cell? ⟨w.heap.size,2,none⟩=some (.int .i64 (H.s:Int))/\w'.cell? ⟨w.heap.size,3,none⟩=some (.slice (some ad) n c)/\w'.cell? (ad.add i)=some (.int .u32 (v:Int))) w'):=qh (fun w' hb=>by have hh:=HX.o.keep hb;exact⟨hh.four.1,hh.four.2.1,hh.four.2.2.1,hh.four.2.2.2,(hb.cell hbli).trans hci⟩)
      have hie:=H.info_eq a
      rw[H.L_ln,hvvv] at hie
      have hok:=H.ok_of a
      have hkc:=H.K_cases a
      have HCN:qH (H.can a=false->¬ H.At H.p):=qh (fun h hp=>by have:=(AuH.At.next hst.at_ hp hlt).1;rw[h] at this;cases this)
      have HCA:qH (H.K a≠0->a+H.ln a<=H.p->H.can a=true/\H.nx a=a+H.ln a):=qh (fun h1 h2=>⟨(H.can_iff a).2 ⟨hlt,h1,h2⟩,rfl⟩)
      have HCF:qH (H.K a=0\/H.p<a+H.ln a->H.can a=false):=qh (fun h=>(H.can_no a).2 qo)
      generalize H.K a=k at *
      generalize H.ln a=m at *
      generalize H.Cl a=cl at *
      generalize H.ok a=okb at *
      have HG:=qh hie
      clear hci hbli hceli hvvv hii HCv hie hst
      go_upto_region 4 with fail
      go_cut [6,7] from 14 to 25 (fun u6 u7 wx=>∃ g:Nat,u6 = .pointer (some ⟨g,0,none⟩)/\u7 = .bool okb/\Held wx g 90 #[(.int .i64 k),(.int .i64 (m:Int)),(.int .i64 cl)]/\Below wr.heap.size wr wx/\wr.heap.size<=g)
      case first =>
        have HB:=qh (Bdrew (B0 (wr)))
        refine wp_region_held_drew (S:=(fun w'=>w'.cell? ⟨w.heap.size,0,none⟩=some (.int .i64 (H.t:Int))/\w'.cell? ⟨w.heap.size,1,none⟩=some (.int .i64 (H.p:Int))/\w'.cell? ⟨w.heap.size,2,none⟩=some (.int .i64 (H.s:Int))/\w'.cell? ⟨w.heap.size,3,none⟩=some (.slice (some ad) n c)/\w'.cell? (ad.add i)=some (.int .u32 (v:Int)))) qr ?_ (fun hHeld=>?_)
        · (try dsimp only)
          exact HS.o _ HB.o
        generalize hq0:(wr).drew=q0 at HB hHeld ⊢
        clear hq0
        refine Ro3 ?_
        refine tkz 3 ?_
        refine tkz 4 ?_
        refine wpAnyH_ready (rs := [5,12]) qr (by simp) ?_
        refine AllReadyH.cons (o:=_) rfl (fun K hK=>?_) (AllReadyH.cons (o:=_) rfl (fun K hK=>?_) AllReadyH.nil)
        · skip
          go_simp
          (go_at_call 77;refine(qQ1 _ _ _ _ _).mono ?_;rintro e q1 ⟨rfl,hb1⟩;rw[HI.o];have HB:=qh (Bgo HB.o hb1);skip;clear hb1)
          refine hK.out _ _ ?_ (fun hHeld=>?_)
          · (try dsimp only)
            exact HS.o _ HB.o
          clear hK K
          (try simp only[Act.put,gA,gB,gC,sA,sB,sC])
          refine tkz 6 ?_
          refine tkz 7 ?_
          refine wpAnyH_ready (rs := [8,12]) qr (by simp) ?_
          refine AllReadyH.cons (o:=_) rfl (fun K hK=>?_) (AllReadyH.cons (o:=_) rfl (fun K hK=>?_) AllReadyH.nil)
          · skip
            go_simp
            (go_at_call 82;refine(qRV _ _ _ _ _ h32i HG.o _).mono ?_;rintro e q2 ⟨rfl,hb1⟩;have HB:=qh (Bgo HB.o hb1);skip;clear hb1)
            refine hK.out _ _ ?_ (fun hHeld=>?_)
            · (try dsimp only)
              exact HS.o _ HB.o
            clear hK K
            (try simp only[Act.put,gA,gB,gC,sA,sB,sC])
            refine tkz 9 ?_
            refine tkz 10 ?_
            refine tkz 11 ?_
            refine rdz 12 fun K hK=>?_
            · skip
              go_simp
              have HLE:=qh HB.o.size
              have HB:=qh (Bnew HB.o (.cells #[.int .i64 0,.int .i64 0,.int .i64 0] 90))
              have HN:=qh (Held.new q2 90 #[.int .i64 0,.int .i64 0,.int .i64 0])
              try simp only[World.heap_drew] at HLE HN
              generalize hq3:q2.alloc (.cells #[.int .i64 0,.int .i64 0,.int .i64 0] 90)=q3 at HB HN ⊢
              clear hq3
              refine hK.out _ _ ?_ (fun hHeld=>?_)
              · (try dsimp only)
                exact HS.o _ HB.o
              clear hK K
              (try simp only[Act.put,gA,gB,gC,sA,sB,sC])
              refine rdz 13 fun K hK=>?_
              obtain⟨z0,z1,z2⟩:=HN.o.three
              have f0:=HN.o.thawed 0
              have f1:=HN.o.thawed 1
              have f2:=HN.o.thawed 2
              go_simp
              have HN:=qh (HN.o.put 0 (.int .i64 k))
              have HN:=qh (HN.o.put 1 (.int .i64 (m:Int)))
              have HN:=qh (HN.o.put 2 (.int .i64 cl))
              have HB:=qh (Bput (p:=⟨_,2,none⟩) (Bput (p:=⟨_,1,none⟩) (Bput (p:=⟨_,0,none⟩) HB.o HLE.o (.int .i64 k)) HLE.o (.int .i64 (m:Int))) HLE.o (.int .i64 cl))
              clear z0 z1 z2 f0 f1 f2
              refine hK.out _ _ ?_ (fun hHeld=>?_)
              · (try dsimp only)
                exact HS.o _ HB.o
              clear hK K
              (try simp only[Act.put,gA,gB,gC,sA,sB,sC])
              refine tkz 14 ?_
              refine dnz ?_
              go_wp2_with fail
              go_meet
              case rel=>exact⟨_,rfl,rfl,HN.o,HB.o,HLE.o⟩
          · skip
            go_simp
            have HLE:=qh HB.o.size
            have HB:=qh (Bnew HB.o (.cells #[.int .i64 0,.int .i64 0,.int .i64 0] 90))
            have HN:=qh (Held.new q1 90 #[.int .i64 0,.int .i64 0,.int .i64 0])
            try simp only[World.heap_drew] at HLE HN
            generalize hq4:q1.alloc (.cells #[.int .i64 0,.int .i64 0,.int .i64 0] 90)=q4 at HB HN ⊢
            clear hq4
            refine hK.out _ _ ?_ (fun hHeld=>?_)
            · (try dsimp only)
              exact HS.o _ HB.o
            clear hK K
            (try simp only[Act.put,gA,gB,gC,sA,sB,sC])
            refine rdz 8 fun K hK=>?_
            · skip
              go_simp
              (go_at_call 82;refine(qRV _ _ _ _ _ h32i HG.o _).mono ?_;rintro e q5 ⟨rfl,hb1⟩;have HB:=qh (Bgo HB.o hb1);have HN:=qh (HN.o.keep hb1);clear hb1)
              refine hK.out _ _ ?_ (fun hHeld=>?_)
              · (try dsimp only)
                exact HS.o _ HB.o
              clear hK K
              (try simp only[Act.put,gA,gB,gC,sA,sB,sC])
              refine tkz 9 ?_
              refine tkz 10 ?_
              refine tkz 11 ?_
              refine rdz 13 fun K hK=>?_
              obtain⟨z0,z1,z2⟩:=HN.o.three
              have f0:=HN.o.thawed 0
              have f1:=HN.o.thawed 1
              have f2:=HN.o.thawed 2
              go_simp
              have HN:=qh (HN.o.put 0 (.int .i64 k))
              have HN:=qh (HN.o.put 1 (.int .i64 (m:Int)))
              have HN:=qh (HN.o.put 2 (.int .i64 cl))
              have HB:=qh (Bput (p:=⟨_,2,none⟩) (Bput (p:=⟨_,1,none⟩) (Bput (p:=⟨_,0,none⟩) HB.o HLE.o (.int .i64 k)) HLE.o (.int .i64 (m:Int))) HLE.o (.int .i64 cl))
              clear z0 z1 z2 f0 f1 f2
              refine hK.out _ _ ?_ (fun hHeld=>?_)
              · (try dsimp only)
                exact HS.o _ HB.o
              clear hK K
              (try simp only[Act.put,gA,gB,gC,sA,sB,sC])
              refine tkz 14 ?_
              refine dnz ?_
              go_wp2_with fail
              go_meet
              case rel=>exact⟨_,rfl,rfl,HN.o,HB.o,HLE.o⟩
        · skip
          go_simp
          have HLE:=qh HB.o.size
          have HB:=qh (Bnew HB.o (.cells #[.int .i64 0,.int .i64 0,.int .i64 0] 90))
          have HN:=qh (Held.new q0 90 #[.int .i64 0,.int .i64 0,.int .i64 0])
          try simp only[World.heap_drew] at HLE HN
          generalize hq6:q0.alloc (.cells #[.int .i64 0,.int .i64 0,.int .i64 0] 90)=q6 at HB HN ⊢
          clear hq6
          refine hK.out _ _ ?_ (fun hHeld=>?_)
          · (try dsimp only)
            exact HS.o _ HB.o
          clear hK K
          (try simp only[Act.put,gA,gB,gC,sA,sB,sC])
          refine rdz 5 fun K hK=>?_
          · skip
            go_simp
            (go_at_call 77;refine(qQ1 _ _ _ _ _).mono ?_;rintro e q7 ⟨rfl,hb1⟩;rw[HI.o];have HB:=qh (Bgo HB.o hb1);have HN:=qh (HN.o.keep hb1);clear hb1)
            refine hK.out _ _ ?_ (fun hHeld=>?_)
            · (try dsimp only)
              exact HS.o _ HB.o
            clear hK K
            (try simp only[Act.put,gA,gB,gC,sA,sB,sC])
            refine tkz 6 ?_
            refine tkz 7 ?_
            refine rdz 8 fun K hK=>?_
            · skip
              go_simp
              (go_at_call 82;refine(qRV _ _ _ _ _ h32i HG.o _).mono ?_;rintro e q8 ⟨rfl,hb1⟩;have HB:=qh (Bgo HB.o hb1);have HN:=qh (HN.o.keep hb1);clear hb1)
              refine hK.out _ _ ?_ (fun hHeld=>?_)
              · (try dsimp only)
                exact HS.o _ HB.o
              clear hK K
              (try simp only[Act.put,gA,gB,gC,sA,sB,sC])
              refine tkz 9 ?_
              refine tkz 10 ?_
              refine tkz 11 ?_
              refine rdz 13 fun K hK=>?_
              obtain⟨z0,z1,z2⟩:=HN.o.three
              have f0:=HN.o.thawed 0
              have f1:=HN.o.thawed 1
              have f2:=HN.o.thawed 2
              go_simp
              have HN:=qh (HN.o.put 0 (.int .i64 k))
              have HN:=qh (HN.o.put 1 (.int .i64 (m:Int)))
              have HN:=qh (HN.o.put 2 (.int .i64 cl))
              have HB:=qh (Bput (p:=⟨_,2,none⟩) (Bput (p:=⟨_,1,none⟩) (Bput (p:=⟨_,0,none⟩) HB.o HLE.o (.int .i64 k)) HLE.o (.int .i64 (m:Int))) HLE.o (.int .i64 cl))
              clear z0 z1 z2 f0 f1 f2
              refine hK.out _ _ ?_ (fun hHeld=>?_)
              · (try dsimp only)
                exact HS.o _ HB.o
              clear hK K
              (try simp only[Act.put,gA,gB,gC,sA,sB,sC])
              refine tkz 14 ?_
              refine dnz ?_
              go_wp2_with fail
              go_meet
              case rel=>exact⟨_,rfl,rfl,HN.o,HB.o,HLE.o⟩
      case rest =>
        obtain⟨g,rfl,rfl,h1,h2,h3⟩:=hcut
        obtain⟨d0,d1,d2⟩:=h1.three
        have HBX:=qh (Bgo HB.o h2)
        have HHX:=qh (HX.o.keep h2)
        have HNX:=qh h1
        have HOX:=qh (qEc HO.o h2)
        have HGE:=qh h3
        clear h1 h2 h3 HS c0 c1 c2 c3
        by_cases hk0:k=0
        · have HNA:=qh (HCN.o (HCF.o (.inl hk0)))
          subst hk0
          cases okb
          ·exact MHa
          ·exact MHa
        · have e:okb=true:=hok hk0
          subst e
          have q0:(k==0)=false:=by simpa using hk0
          have hmm:1<=m/\m<=1024:=qo
          have sw:IntKind.i64.wrap ((a:Int)+m)=((a+m:Nat):Int):=by rw[qIv qo qo];push_cast;rfl
          clear hkc hok
          go_wp2_with (first
            | (at_builtin
               refine wpList_append_own _ rfl _ _ 37 rfl (w.heap.size+1) 3 i0 (.int .i64 0) 1 8 Tryz.underlying37 hi0 hz0 hz1 hz2 rfl (by decide) _ _ _ rfl (HOX.o.alloc _) ⟨_,0,none⟩ 1 1 [.int .i64 (a:Int)] rfl rfl ?c1 ?c2 ?c3 ?c4 ?c5 ?_
               case c1=>intro j y hy;rcases j with _|j;(· simp at hy;subst hy;simp[Addr.add]);(· simp at hy)
               case c2=>simp[Value.oneCell']
               case c3=>unfold maxLen;omega
               case c4=>omega
               case c5=>have:=HBX.o.size;have:=HX.o.lt;simp;omega
               intro u1 w3 hown3 hgrow hat3
               have HO3:qH (w3.ownsRow (w.heap.size+1) 3 1 u1 (nl+1) (natVs (l ++ [a]))):=qh (by rw[qKj];exact hown3)
               have hnb:∀ j,u4.ownBlock=some j->(w.heap.size+1)<=j:=fun j hj=>(HOX.o.lt j hj).1
               have HB3:=qh ((Bnew HBX.o (.cells #[.int .i64 (a:Int)] 3)).grown hgrow (by have:=HBX.o.size;simp;omega) (fun j hj=>by have:=hnb j hj;omega))
               have HX3:=qh (qGN (HHX.o.alloc (.cells #[.int .i64 (a:Int)] 3)) hgrow (fun e=>by have:=hnb _ e;omega))
               have HN3:=qh (qGN (HNX.o.alloc (.cells #[.int .i64 (a:Int)] 3)) hgrow (fun e=>by have:=(HO.o.lt _ e).2;have:=HGE.o;omega))
               clear hown3 hgrow hat3 hnb d0 d1 d2
               obtain⟨d0,d1,d2⟩:=HN3.o.three)
            | fail)
          go_roundw
          case rel =>
            refine⟨a+m,l ++ [a],nl+1,by go_num,qo,?_,by have:=HSL.o.len;have:=HLN.o;omega,qh (by rw[List.length_append,HLN.o];rfl),HO3,HX3,HB3⟩
            rcases Nat.lt_or_ge H.p (a+m) with h|h
            · exact qh (.inr ⟨h,HCN.o (HCF.o (.inr h))⟩)
            · have h4:=HCA.o hk0 h
              exact qh (.inl ⟨h,by rw[<- h4.2];exact .snoc HSL.o h4.1⟩)
          case measure=>simp[intOf];omega
    · have t0:decide ((a:Int)<H.p)=false:=qf
      obtain⟨b,hb⟩:∃ b:Bool,((a:Int)==H.p)=b:=⟨_,rfl⟩
      have HSI:qH (StartsIs H w u4 b wr):=qh (by
        rcases HST.o with ⟨h1,h2⟩|⟨h1,h2⟩
        · have hap:a=H.p:=qo
          have hbt:b=true:=by rw[<- hb];simp;omega
          subst hbt
          refine⟨⟨fun _=>by rw[<- hap];exact h2.at_,fun _=>rfl⟩,fun _=>⟨l,by rw[<- hap];exact h2,by rw[HLN.o];exact qIX HO.o qo⟩⟩
        · have hbt:b=false:=by rw[<- hb];simp;omega
          subst hbt
          exact⟨⟨fun h=>(by cases h),fun h=>absurd h h2⟩,fun h=>(by cases h)⟩)
      clear HST
      go_wp2_with fail
      refine wp_region_held_drew (S:=(fun w'=>w'.cell? ⟨w.heap.size,0,none⟩=some (.int .i64 (H.t:Int))/\w'.cell? ⟨w.heap.size,1,none⟩=some (.int .i64 (H.p:Int))/\w'.cell? ⟨w.heap.size,2,none⟩=some (.int .i64 (H.s:Int))/\w'.cell? ⟨w.heap.size,3,none⟩=some (.slice (some ad) n c))) qr ?_ (fun hHeld=>?_)
      · (try dsimp only)
        first|exact⟨c0,c1,c2,c3⟩|exact hHeld
      refine tkz 0 ?_
      refine tkz 1 ?_
      refine tkz 2 ?_
      refine tkz 3 ?_
      refine tkz 4 ?_
      refine tkz 5 ?_
      refine tkz 6 ?_
      refine tkz 7 ?_
      refine dnz ?_
      go_wp2_with fail
      go_ret2
      exact⟨_,_,rfl,HSI.o,Bdrew HB.o⟩
end
end Go.Proofs.YtgifnhcknodekaaGreat
