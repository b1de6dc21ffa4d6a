/-
  A fresh slab of a free page, a slab's taken slots and its rack: as functions, and on a heap. No program is named here but for the Views'.
-/
import Derived.Test.YtjjfcaliippgpaaGreatDoorX07
import Derived.Test.YtjjfcaliippgpaaGreatDoorX06
import Derived.Test.YtjjfcaliippgpaaGreatDoorX01
import Derived.Test.YtjjfcaliippgpaaGreatDoorX04
import Derived.Test.YtjjfcaliippgpaaGreatDoorX03
namespace Go.Proofs.YtjjfcaliippgpaaGreatDoor
theorem REu {P Q:Prop}(kq:Q)(h:HQ Q->P:=by
 intro kq
 have hu : Tryz.prog.underlying 42 = some (.slice (Tryz.prog.elem 42)):=by kernel_rfl
 have hs:∀ w,(sizeOf (Tryz.prog.elem 42)).run Tryz.prog w = .ok 1 w:=fun w=>by kernel_rfl
 revert hu hs
 exact kq.o):P:=h ⟨kq⟩
theorem M5I {P:Prop}(h:P:=by
 rw[e]
 exact .inr ⟨p,_,L',rfl,f2.vw,f1,(qCK _ _ _).1,(qCK _ _ _).2,f3,_,f2⟩):P:=h
end Go.Proofs.YtjjfcaliippgpaaGreatDoor
set_option linter.unusedVariables false
set_option linter.unusedSimpArgs false
set_option maxRecDepth 100000
set_option maxHeartbeats 25600000
namespace Go.Proofs.YtjjfcaliippgpaaGreatDoor
open Go.ChangeShapes Go.WideShapes Go.ChangeAt Go.RowKit Go.Maps
section
section
variable (n : Nat) (K : Nat -> Option Nat) (t q s : Int)
def slabS (k:Int) (p:Nat) (st:Vst):Vst:=pushI n K t q s (13+k) p (putS n st (pageI t q s p 0) (infoV 3 1 k))
def bitsS (k:Int) (p u:Nat) (full:Bool) (st:Vst):Vst :=
 if full=true then pullI n K t q s (13+k) p (putS n (getS n K st (pageI t q s p 5)) (pageI t q s p 5) u)
 else putS n (getS n K st (pageI t q s p 5)) (pageI t q s p 5) u
end
theorem Fit.taken {t P s n:Nat}(h:Fit t P s n){p:Nat}(hp:p<P):pageI (t:Int) (P:Int) (s:Int) (p:Int) 5=((pc t p 5:Nat):Int):=by
 rw[qKF h.right qo qo qo qo]
 unfold pc
 push_cast
 omega
section
variable {t P s n : Nat} {K : Nat -> Option Nat} {st : Vst} {L : Nat -> List Nat} {g : Nat -> Nat} {p u : Nat} {k : Int}
theorem Work.slab (W:Work t P s n K st L g)(hf:Fit t P s n)(hp:p<P)(k0:0<=k)(k8:k<=8)(hno:∀ x:Nat,2<=x->x<=21->¬ p∈L x) :
  ∃ L',Work t P s n K (slabS n K t P s k p st) L' (updF g (pc t p 0) (infoV 3 1 k))/\∀ x:Nat,2<=x->x<=21->∀ y,y∈L' x↔y∈L x\/(y=p/\((x:Nat):Int)=13+k):=by
 have hlen:=hf.len
 have e0:pageI (t:Int) (P:Int) (s:Int) (p:Int) 0=((pc t p 0:Nat):Int):=hf.inf hp
 have eh:13+k=((13+k.toNat:Nat):Int):=qo
 have W1:=W.put (i:=pc t p 0) (by unfold pc;omega) (qXR qo qo qo) (infoV 3 1 k)
 obtain⟨L',W2,m⟩:=W1.push hf (hd:=13+k.toNat) qo qo hp hno
 refine⟨L',?_,fun x a2 a21 y=>?_⟩
 ·unfold slabS
  rw[e0,eh]
  exact W2
 ·rw[m x a2 a21 y]
  constructor
  ·rintro (h|⟨h1,h2⟩)
   ·exact .inl h
   ·exact .inr ⟨h1,qo⟩
  ·rintro (h|⟨h1,h2⟩)
   ·exact .inl h
   ·exact .inr ⟨h1,qo⟩
theorem Work.bits (W:Work t P s n K st L g)(hf:Fit t P s n)(hp:p<P)(k0:0<=k)(k8:k<=8){full:Bool}(hm:full=true->p∈L (13+k.toNat)) :
  ∃ L',Work t P s n K (bitsS n K t P s k p u full st) L' (updF g (pc t p 5) u)/\∀ x:Nat,2<=x->x<=21->∀ y,y∈L' x↔y∈L x/\¬ (full=true/\y=p):=by
 have hlen:=hf.len
 have eh:13+k=((13+k.toNat:Nat):Int):=qo
 have W1:=(W.get ((pc t p 5:Nat):Int)).put (i:=pc t p 5) (by unfold pc;omega) (qXR qo qo qo) u
 unfold bitsS
 rw[hf.taken hp]
 cases full with
 | false =>
  rw[if_neg (by simp)]
  exact⟨L,W1,fun x _ _ y=>by simp⟩
 | true =>
  rw[if_pos rfl,eh]
  obtain⟨L',W2,m⟩:=W1.pull hf (hd:=13+k.toNat) qo qo hp (hm rfl)
  exact⟨L',W2,fun x a2 a21 y=>by rw[m x a2 a21 y];simp⟩
end
section
variable {H : AuH} {n c : Nat} {K : Nat -> Option Nat} {st : Vst} {L L1 : Nat -> List Nat} {g1 : Nat -> Nat} {p u : Nat} {k : Int}
theorem qEo (HV:HeapV H n c)(h:H.Ok L)(W:Work H.t H.p H.s n K st L1 g1)(hp:p<H.p)(hk:H.K p=1)(R:RelaidG H g1 L L1 p 1 (H.ln p-1))
  (h1:g1 1=H.V 1) (h32:g1 0<4294967296) (k0:0<=k) (k8:k<=8) (hu0:u≠0) (hu:u<2^slotI k) :
  ∃ L2 g2,Work H.t H.p H.s n K (bitsS n K H.t H.p H.s k p u (decide (u=2^slotI k-1)) (slabS n K H.t H.p H.s k p st)) L2 g2/\AnewG H g2 L L2 p 1 (H.ln p-1) k u/\g2 0=g1 0/\g2 1=g1 1:=by
 have hf:=HV.fit
 obtain⟨hnx,hl1,hle,hnext,hin,hft,hfe⟩:=qRA h hp qo qo
 have hsum:=qCx h hp qo qo
 have hlv:H.liveF p=0:=by unfold AuH.liveF;rw[if_neg qo,if_neg qo]
 have hpno:∀ x:Nat,2<=x->x<=21->¬ p∈L1 x:=fun x a2 a21 hx=>by
  rcases(R.mem x a2 a21 p).1 hx with h3|h3 <;> omega
 obtain⟨L2,W2,m2⟩:=W.slab hf hp k0 k8 hpno
 have hin2:p∈L2 (13+k.toNat):=(m2 _ qo qo _).2 (.inr ⟨rfl,qo⟩)
 obtain⟨L3,W3,m3⟩:=W2.bits hf (u:=u) hp k0 k8 (full:=decide (u=2^slotI k-1)) (fun _=>hin2)
 refine⟨L3,_,W3,?_,by rw[qKp _ _ qo,qKp _ _ qo],by rw[qKp _ _ qo,qKp _ _ qo]⟩
 have hb5:∀ q,q<H.p->H.K q≠3->H.cel q 4=0/\H.cel q 5=0:=fun q hq h3=>by
  exact⟨((h.slots q hq).2 h3).2,((h.slots q hq).2 h3).1⟩
 have hspan:∀ q,p<=q->q<p+1+(H.ln p-1)->H.cel q 4=0/\H.cel q 5=0:=fun q a1 a2=>hb5 q qo (R.noslab q a1 a2)
 exact {
  pos:=qo
  one:=qo
  k0:=k0
  k8:=k8
  whole:=R.whole
  left:=fun e=>by omega
  right:=R.right
  slab:=fun _=>by simp(disch:=omega) only[qB0,qJR]
  rest:=fun e=>by simp(disch:=omega) only[qB0,qJR];exact R.rest e
  blank:=fun q a1 a2 a3 a4=>by simp(disch:=omega) only[qB0,qJR];exact R.blank q a1 a2 a3 a4
  infos:=fun q a1 a2=>by simp(disch:=omega) only[qB0,qJR];exact R.infos q a1 a2
  footu:=fun _=>by simp(disch:=omega) only[qB0,qJR];exact R.footu qo
  footr:=fun e=>by simp(disch:=omega) only[qB0,qJR];exact R.footr e
  blankf:=fun q a1 a2 a3 a4=>by simp(disch:=omega) only[qB0,qJR];exact R.blankf q a1 a2 (fun e=>a3 ⟨e.1,qo⟩) a4
  feet:=fun q a1 a2=>by simp(disch:=omega) only[qB0,qJR];exact R.feet q a1 a2
  taken:=fun _=>⟨by simp(disch:=omega) only[qB0,qJR],by simp(disch:=omega) only[qB0,qJR];rw[(R.bits p hp).1];exact(hspan p qo qo).1,hu0,hu⟩
  bare:=fun q a1 a2 a3=>by
   simp(disch:=omega) only[qB0,qJR]
   rw[(R.bits q qo).1,(R.bits q qo).2]
   exact hspan q a1 a2
  bits:=fun q a1 a2=>by
   simp(disch:=omega) only[qB0,qJR]
   exact R.bits q a1
  mem:=fun hd a2 a21 y=>by
   rw[m3 hd a2 a21 y,m2 hd a2 a21 y,R.mem hd a2 a21 y]
   simp only[decide_eq_true_eq]
   constructor
   ·rintro ⟨(b1|b1)|b1,b2⟩
    ·exact .inl b1
    ·exact .inr (.inl b1)
    ·exact .inr (.inr ⟨qo,b1.1,fun e=>b2 ⟨e,b1.1⟩,b1.2⟩)
   ·rintro (b1|b1|⟨_,b1,b2,b3⟩)
    ·exact⟨.inl (.inl b1),fun e=>by omega⟩
    ·exact⟨.inl (.inr b1),fun e=>by omega⟩
    ·exact⟨.inr ⟨b1,b3⟩,fun e=>b2 e.1⟩
  free:=by rw[qKp _ _ qo,qKp _ _ qo];exact R.free
  live:=by
   rw[qKp _ _ qo,qKp _ _ qo,show 1+(H.ln p-1)=H.ln p by omega,hsum.2,hlv,h1]
   rfl
  few:=by rw[qKp _ _ qo,qKp _ _ qo];exact h32
  roots:=fun i hi=>by rw[qKp _ _ qo,qKp _ _ qo];exact R.roots i hi
  bareroot:=fun i hi hv hh=>qNI h hp hk hi hv hh.1 qo }
end
end
section
section
variable (n : Nat) (K : Nat -> Option Nat) (t q s : Int)
def emptyS (k:Int) (p:Nat) (full:Bool) (st:Vst):Vst :=
 releaseS n K t q s p 1 (putS n (if full=true then st else pullI n K t q s (13+k) p st) (pageI t q s p 5) 0)
end
section
variable {H : AuH} {n c : Nat} {K : Nat -> Option Nat} {st : Vst} {L : Nat -> List Nat}
end
end
section
section
variable {H : AuH} {q : Nat}
theorem qHV (h4:H.cel q 4=0)(k:Nat):blocksOf (H.slotsTo q k) = []:=by
 induction k with
 | zero=>rfl
 | succ k ih =>
  rw[AuH.slotsTo_succ,qGG,ih,List.nil_append]
  have h:=(qHe (H.cel q 5) 0 k).1
  rw[Nat.zero_testBit] at h
  refine qCe fun e=>?_
  unfold AuH.slotPart at e
  rw[h4] at e
  have h2:((slotKd (H.cel q 5) 0 k:Nat):Int)=2:=e
  exact absurd (h.1 qo) (by simp)
theorem qV3 (hk:H.K q=3)(h4:H.cel q 4=0):blocksOf (H.partsAt q) = []:=by
 unfold AuH.partsAt
 rw[if_neg qo,if_neg qo,if_pos hk,qGG,qHV h4,kindN_slack.2]
 rfl
theorem qS0 (hk:H.K q=0\/H.K q=1):kindN 4 (H.partsAt q)=0:=by
 unfold AuH.partsAt
 rcases hk with h|h
 ·rw[if_neg qo,if_neg qo,if_neg qo];rfl
 ·rw[if_pos h];rfl
theorem qN1 {f:Nat->List (Int × Int × Int)}:∀ m,(∀ i,i<m->kindN 4 (f i)=0)->kindN 4 (AuH.catTo f m)=0
 | 0,_=>rfl
 | m+1,h=>by
  show kindN 4 (AuH.catTo f m++f m)=_
  rw[qYw,qN1 m (fun i hi=>h i qo),h m qo]
theorem qLh {f:Nat->List (Int × Int × Int)}{i0:Nat}:∀ m,i0<m->(∀ i,i<m->i≠i0->kindN 4 (f i)=0)->kindN 4 (AuH.catTo f m)=kindN 4 (f i0)
 | 0,h,_=>by omega
 | m+1,h,ho=>by
  show kindN 4 (AuH.catTo f m++f m)=_
  rw[qYw]
  rcases Nat.lt_or_ge i0 m with h1|h1
  ·rw[qLh m h1 (fun i hi hne=>ho i qo hne),ho m qo qo,Nat.add_zero]
  ·obtain rfl:i0=m:=qo
   rw[qN1 i0 (fun i hi=>ho i qo qo),Nat.zero_add]
end
section
variable {H : AuH} {n c : Nat} {K : Nat -> Option Nat} {st : Vst} {L L' : Nat -> List Nat} {g : Nat -> Nat} {A s e u : Nat} {k : Int}
theorem qCr (HV:HeapV H n c)(h:H.Ok L)(W:Work H.t H.p H.s n K st L' g)(R:AnewG H g L L' A s e k u)(hold:blocksOf (AuH.catTo (fun i=>H.partsAt (A+i)) (s+e)) = []) :
  (nowH H n K st).Ok L'/\(∀ i,i<8->(nowH H n K st).V (22+i)=H.V (22+i))/\(nowH H n K st).V 0=g 0/\(nowH H n K st).V 1=g 1/\blocksOf (nowH H n K st).parts=blocksOf H.parts /\
   (0<s->(nowH H n K st).K A=3/\(nowH H n K st).Cl A=k/\(nowH H n K st).cel A 5=u/\(nowH H n K st).cel A 4=0) /\
   kindN 4 (nowH H n K st).parts+kindN 4 (AuH.catTo (fun i=>H.partsAt (A+i)) (s+e))=kindN 4 H.parts+if 0<s then idleB u 0 (slotI k) else 0:=by
 have hlen:=HV.len
 have hP:=HV.fit.nums
 have hw:=R.whole.le
 have hone:=R.one
 have T:=qF2 HV h W R
 have hc:∀ q b,q<H.p->b<6->b≠2->b≠3->(nowH H n K st).cel q b=g (pc H.t q b):=fun q b hq hb h2 h3=>W.cel hlen hq hb h2 h3
 have hs:0<s->(nowH H n K st).K A=3/\(nowH H n K st).Cl A=k/\(nowH H n K st).cel A 5=u/\(nowH H n K st).cel A 4=0:=fun h0=>by
  refine⟨?_,?_,?_,?_⟩
  ·unfold AuH.K;rw[hc A 0 qo qo qo qo,R.slab h0,qL3 R.k0 R.k8]
  ·unfold AuH.Cl;rw[hc A 0 qo qo qo qo,R.slab h0,qL3 R.k0 R.k8]
  ·rw[hc A 5 qo qo qo qo];exact(R.taken h0).1
  ·rw[hc A 4 qo qo qo qo];exact(R.taken h0).2.1
 have hr:∀ q,A<=q->q<A+s+e->¬ (0<s/\q=A)->(nowH H n K st).K q=0\/(nowH H n K st).K q=1:=fun q a1 a2 a3=>by
  by_cases b:0<e/\q=A+s
  ·obtain⟨b1,rfl⟩:=b
   refine .inr ?_
   unfold AuH.K
   rw[hc (A+s) 0 qo qo qo qo,R.rest b1,qQt b1 qo]
  ·refine .inl ((nowH H n K st).K_zero q ?_).1
   rw[hc q 0 qo qo qo qo]
   exact R.blank q a1 a2 a3 b
 refine⟨T.ok h hP.2,T.roots,W.low hlen (.inl qo),W.low hlen (.inl qo),T.blocks ?_,hs,?_⟩
 ·rw[hold]
  refine qRe _ fun i hi=>?_
  by_cases b:0<s/\A+i=A
  ·show blocksOf ((nowH H n K st).partsAt (A+i)) = []
   rw[b.2]
   exact qV3 (hs b.1).1 (hs b.1).2.2.2
  ·exact qSQ (H:=nowH H n K st) (hr (A+i) qo qo b)
 ·obtain⟨r,_,f1,f2⟩:=T.parts
  have f2:(nowH H n K st).parts=_:=f2
  rw[f1,f2,qYw,qYw,qYw,qYw]
  have g2:kindN 4 (AuH.catTo (fun i=>(H.re (curV n (getV n K st) H.V)).partsAt (A+i)) (s+e))=if 0<s then idleB u 0 (slotI k) else 0:=by
   show kindN 4 (AuH.catTo (fun i=>(nowH H n K st).partsAt (A+i)) (s+e))=_
   by_cases h0:0<s
   ·rw[if_pos h0,qLh (i0:=0) _ qo (fun i hi hne=>qS0 (H:=nowH H n K st) (hr (A+i) qo qo qo))]
    show kindN 4 ((nowH H n K st).partsAt (A+0))=_
    rw[Nat.add_zero,qNz (hs h0).1,(hs h0).2.1,(hs h0).2.2.1,(hs h0).2.2.2]
   ·rw[if_neg h0]
    exact qN1 _ (fun i hi=>qS0 (H:=nowH H n K st) (hr (A+i) qo qo qo))
  rw[g2]
  omega
theorem qZ2 (h:H.Ok L){p:Nat}(hp:p<H.p)(hk:H.K p=1):kindN 4 (AuH.catTo (fun i=>H.partsAt (p+i)) (H.ln p))=0:=by
 obtain⟨_,_,_,_,h4,_⟩:=qRA h hp qo qo
 refine qN1 _ fun i hi=>qS0 ?_
 by_cases e:i=0
 ·subst e;exact .inr hk
 ·exact .inl (h4 (p+i) qo qo).2
end
end
section
section
variable (n : Nat) (K : Nat -> Option Nat) (t q s : Int)
def backS (k:Int) (p u:Nat) (full:Bool) (st:Vst):Vst :=
 if full=true then pushI n K t q s (13+k) p (putS n st (pageI t q s p 5) u) else putS n st (pageI t q s p 5) u
end
section
variable {t P s n : Nat} {K : Nat -> Option Nat} {st : Vst} {L : Nat -> List Nat} {g : Nat -> Nat} {p u : Nat} {k : Int}
end
section
variable {H : AuH} {n c : Nat} {K : Nat -> Option Nat} {st : Vst} {L L' : Nat -> List Nat} {p u : Nat}
theorem qPL (h:H.Ok L)(hp:p<H.p)(hk:H.K p=3)(hu0:u≠0)(hu:u<2^slotI (H.Cl p))(hs:SubB (H.cel p 4) u)
  (hm:∀ hd:Nat,2<=hd->hd<=21->∀ y,y∈L' hd↔(y∈L hd/\y≠p)\/(y=p/\u≠2^slotI (H.Cl p)-1/\((hd:Nat):Int)=13+H.Cl p)) :
  SlabG H (updF H.V (pc H.t p 5) u) L L' p u where
 at_:=hp
 kind:=hk
 some_:=hu0
 lim:=hu
 sub:=hs
 taken:=qJR _ _ rfl
 cells:=fun q b hq hb h2 h3 h4=>by rw[qB0 _ _ qo hb qo];rfl
 low:=fun i hi=>qKp _ _ qo
 mem:=hm
theorem qC3 (h:H.Ok L)(hp:p<H.p)(hk:H.K p=3){hd:Nat}(h2:2<=hd)(h21:hd<=21):p∈L hd↔H.cel p 5≠2^slotI (H.Cl p)-1/\((hd:Nat):Int)=13+H.Cl p:=by
 rw[h.mem hd h2 h21 p]
 by_cases hf:H.cel p 5=2^slotI (H.Cl p)-1
 ·rw[AuH.tgt_full hk hf]
  constructor
  ·rintro ⟨_,x⟩;omega
  ·rintro ⟨x,_⟩;exact absurd hf x
 ·rw[AuH.tgt_slab hk hf]
  constructor
  ·rintro ⟨_,x⟩;exact⟨hf,qo⟩
  ·rintro ⟨_,x⟩;exact⟨hp,qo⟩
theorem qMe (hk:H.K p=3):0<=H.Cl p/\H.Cl p<=8:=by have:=H.K_cases p;omega
theorem qWA (HV:HeapV H n c)(h:H.Ok L)(W:Work H.t H.p H.s n K st L H.V)(hp:p<H.p)(hk:H.K p=3)(hnf:H.cel p 5≠2^slotI (H.Cl p)-1)(hu0:u≠0)(hu:u<2^slotI (H.Cl p))(hs:SubB (H.cel p 4) u) :
  ∃ L',Work H.t H.p H.s n K (bitsS n K H.t H.p H.s (H.Cl p) p u (decide (u=2^slotI (H.Cl p)-1)) st) L' (updF H.V (pc H.t p 5) u)/\SlabG H (updF H.V (pc H.t p 5) u) L L' p u:=by
 obtain⟨k0,k8⟩:=qMe hk
 obtain⟨L',W',m⟩:=W.bits HV.fit (u:=u) hp k0 k8 (full:=decide (u=2^slotI (H.Cl p)-1)) (fun _=>(qC3 h hp hk qo qo).2 ⟨hnf,qo⟩)
 refine⟨L',W',qPL h hp hk hu0 hu hs fun hd a2 a21 y=>?_⟩
 rw[m hd a2 a21 y]
 simp only[decide_eq_true_eq]
 by_cases e:y=p
 ·subst e
  rw[qC3 h hp hk a2 a21]
  constructor
  ·rintro ⟨b1,b2⟩;exact .inr ⟨rfl,fun x=>b2 ⟨x,rfl⟩,b1.2⟩
  ·rintro (b1|⟨_,b2,b3⟩)
   ·exact absurd rfl b1.2
   ·exact⟨⟨hnf,b3⟩,fun x=>b2 x.1⟩
 ·constructor
  ·rintro ⟨b1,_⟩;exact .inl ⟨b1,e⟩
  ·rintro (b1|b1)
   ·exact⟨b1.1,fun x=>e x.2⟩
   ·exact absurd b1.1 e
end
end
section
def layB (t:Nat) (l:List Nat):Nat:=l.foldl (fun u i=>u ||| 2^i) t
theorem qF3 (i j:Nat):(2^i).testBit j=decide (j=i):=by
 rw[Nat.testBit_two_pow]
 by_cases h:i=j
 ·rw[decide_eq_true h,decide_eq_true h.symm]
 ·rw[decide_eq_false h,decide_eq_false (fun e=>h e.symm)]
theorem qII (j:Nat):∀ (l:List Nat) (t:Nat),(layB t l).testBit j=(t.testBit j || decide (j∈l))
 | [],t=>by simp[layB]
 | i :: l,t=>by
  show (layB (t ||| 2^i) l).testBit j=_
  rw[qII j l,Nat.testBit_or,qF3,Bool.or_assoc]
  congr 1
  simp[List.mem_cons]
theorem qJE {m:Nat}:∀ (l:List Nat) (t:Nat),t<2^m->(∀ i∈l,i<m)->layB t l<2^m
 | [],t,h,_=>h
 | i :: l,t,h,hl=>qJE l _ (Nat.or_lt_two_pow h (Nat.pow_lt_pow_right qo (hl i (by simp)))) (fun j hj=>hl j (by simp[hj]))
theorem qOp (l:List Nat)(t:Nat):SubB t (layB t l):=fun j _ h=>by rw[qII,h];rfl
theorem qEq {l:List Nat}{t i:Nat}(h:i∈l):layB t l≠0:=fun e=>by
 have:=qII i l t
 rw[e,Nat.zero_testBit,decide_eq_true h,Bool.or_true] at this
 cases this
def someF (t m w:Nat):List Nat:=(HM.freeTo t m).take w
theorem qR3 {t m w i:Nat}(h:i∈someF t m w):i<m/\t.testBit i=false:=by
 have:=List.mem_of_mem_take h
 unfold HM.freeTo at this
 rw[List.mem_filter,List.mem_range] at this
 exact⟨this.1,by simpa using this.2⟩
theorem qGO (t m w:Nat):(someF t m w).Pairwise (· < ·):=by
 unfold someF HM.freeTo
 exact List.Pairwise.sublist (List.take_sublist _ _) (List.Pairwise.filter _ List.pairwise_lt_range)
theorem qCK (t m w:Nat):(someF t m w).length<=w/\(someF t m w).length<=m:=by
 unfold someF
 rw[List.length_take]
 have:=HM.freeTo_le t m
 omega
theorem qQn {t m w:Nat}(h1:1<=w)(ht:t<2^m)(hm:m<=32)(hf:t≠2^m-1):1<=(someF t m w).length:=by
 unfold someF
 rw[List.length_take]
 have h2:=HM.ones_free t m
 have h3:HM.onesTo t m≠m:=fun e=>by
  have h4:∀ k,HM.onesTo t (m+k)=HM.onesTo t m:=fun k=>by
   induction k with
   | zero=>rfl
   | succ k ih =>
    rw[<- Nat.add_assoc,HM.onesTo_succ,ih,Nat.testBit_lt_two_pow (Nat.lt_of_lt_of_le ht (Nat.pow_le_pow_right qo qo))]
    simp
  have h5:=h4 (32-m)
  rw[show m+(32-m)=32 by omega,e] at h5
  exact hf ((AuH.ones_full ht hm).1 h5)
 omega
theorem qDO {u t v:Nat}:∀ m,(∀ j,j<m->t.testBit j=u.testBit j)->idleB t v m=idleB u v m
 | 0,_=>rfl
 | m+1,h=>by
  show idleB t v m+_=idleB u v m+_
  rw[qDO m (fun j hj=>h j qo),h m qo]
theorem qJa {u t v i:Nat}(hu:u.testBit i=false)(hv:v.testBit i=false):∀ m,i<m->(∀ j,j<m->t.testBit j=(u.testBit j || decide (j=i)))->idleB t v m=idleB u v m+1
 | 0,h,_=>by omega
 | m+1,hi,h=>by
  show idleB t v m+_=idleB u v m+_+1
  rw[h m qo]
  rcases Nat.lt_or_ge i m with h1|h1
  ·rw[qJa hu hv m h1 (fun j hj=>h j qo),qf,Bool.or_false]
   omega
  ·obtain rfl:i=m:=qo
   rw[qDO (u:=u) (t:=t) i (fun j hj=>by rw[h j qo,qf,Bool.or_false]),decide_eq_true rfl,Bool.or_true,hu,if_pos ⟨rfl,hv⟩,if_neg (by simp)]
theorem qHv {v m:Nat}:∀ (l:List Nat) (t:Nat),l.Pairwise (· < ·)->(∀ i∈l,i<m/\t.testBit i=false/\v.testBit i=false)->idleB (layB t l) v m=idleB t v m+l.length
 | [],t,_,_=>rfl
 | i :: l,t,hp,h=>by
  obtain⟨h1,h2⟩:=List.pairwise_cons.1 hp
  obtain⟨a1,a2,a3⟩:=h i (by simp)
  show idleB (layB (t ||| 2^i) l) v m=_
  rw[qHv l _ h2 (fun j hj=>by
   obtain⟨b1,b2,b3⟩:=h j (by simp[hj])
   have:=h1 j hj
   exact⟨b1,by rw[Nat.testBit_or,qF3,b2,qf];rfl,b3⟩),
   qJa a2 a3 m a1 (fun j _=>by rw[Nat.testBit_or,qF3]),List.length_cons]
  omega
theorem qB3 {u t i:Nat}(hu:u.testBit i=false):∀ m,i<m->(∀ j,j<m->t.testBit j=(u.testBit j || decide (j=i)))->HM.onesTo t m=HM.onesTo u m+1
 | 0,h,_=>by omega
 | m+1,hi,h=>by
  rw[HM.onesTo_succ,HM.onesTo_succ,h m qo]
  rcases Nat.lt_or_ge i m with h1|h1
  ·rw[qB3 hu m h1 (fun j hj=>h j qo),qf,Bool.or_false]
   omega
  ·obtain rfl:i=m:=qo
   have e:∀ k,k<=i->HM.onesTo t k=HM.onesTo u k:=fun k=>by
    induction k with
    | zero=>intro _;rfl
    | succ k ih=>intro hk;rw[HM.onesTo_succ,HM.onesTo_succ,ih qo,h k qo,qf,Bool.or_false]
   rw[e i (Nat.le_refl _),decide_eq_true rfl,Bool.or_true,hu]
   simp
end
section
def pkA (parts:List (Int × Int × Int)) (z:Int):List Int:=(parts.filter fun x=>decide (x.1=4)&&decide (x.2.2=z)).map fun x=>x.2.1
structure FitsP (parts:List (Int × Int × Int)) (sz:Nat->Int) (T:Nat) (Z:Nat->Nat->List Int):Prop where
 few:∀ k,k<9->∀ t,t<T->(Z t k).length<=4
 perm:∀ k,k<9->(haveT Z k T).Perm (pkA parts (sz k))
theorem qYJ:∀ {ps l:List Int},ps.Nodup->(∀ a∈ps,l.count a=1)->∃ r,l.Perm (ps++r)
 | [],l,_,_=>⟨l,List.Perm.refl _⟩
 | a :: ps,l,hn,h=>by
  have hn':=List.nodup_cons.1 hn
  have ha:a∈l:=List.count_pos_iff.1 (by rw[h a (List.mem_cons_self ..)];omega)
  have e1:l.Perm (a :: l.erase a):=List.perm_cons_erase ha
  obtain⟨r,hr⟩:=qYJ (ps:=ps) (l:=l.erase a) hn'.2 (fun b hb=>by
   have hne:b≠a:=fun e=>hn'.1 (e ▸ hb)
   have h1:=h b (List.mem_cons_of_mem _ hb)
   rw[e1.count_eq b,List.count_cons] at h1
   simpa [Ne.symm hne] using h1)
  exact⟨r,e1.trans (hr.cons a)⟩
theorem qAs {ps l:List Int}(hn:ps.Nodup)(h:∀ a∈ps,l.count a=1):ps.length<=l.length/\(l.length=ps.length->l.Perm ps):=by
 obtain⟨r,hr⟩:=qYJ hn h
 have h1:=hr.length_eq
 rw[List.length_append] at h1
 refine⟨qo,fun e=>?_⟩
 have h2:r = []:=List.length_eq_zero_iff.1 qo
 rw[h2,List.append_nil] at hr
 exact hr
def overN (parts:List (Int × Int × Int)) (sz:Nat->Int) (T:Nat) (Z:Nat->Nat->List Int):Nat->Int
 | 0=>0
 | j+1=>overN parts sz T Z j+((haveT Z j T).length:Int)-((pkA parts (sz j)).length:Int)
def OnceP (parts:List (Int × Int × Int)) (sz:Nat->Int) (T:Nat) (Z:Nat->Nat->List Int) (k:Nat):Prop :=
 (∀ t,t<T->(Z t k).length<=4)/\∀ a∈pkA parts (sz k),(haveT Z k T).count a=1
section
variable {parts : List (Int × Int × Int)} {sz : Nat -> Int} {T : Nat} {Z : Nat -> Nat -> List Int}
theorem qP3 (hn:∀ k,k<9->(pkA parts (sz k)).Nodup)(h:∀ k,k<9->OnceP parts sz T Z k):∀ j,j<=9->0<=overN parts sz T Z j/\(overN parts sz T Z j=0->∀ k,k<j->(haveT Z k T).Perm (pkA parts (sz k)))
 | 0,_=>⟨Int.le_refl _,fun _ k hk=>absurd hk (Nat.not_lt_zero _)⟩
 | j+1,hj=>by
  obtain⟨h1,h2⟩:=qP3 hn h j qo
  obtain⟨h3,h4⟩:=qAs (hn j qo) (h j qo).2
  refine⟨by unfold overN;omega,fun e k hk=>?_⟩
  unfold overN at e
  by_cases hkj:k=j
  ·subst hkj;exact h4 qo
  ·exact h2 qo k qo
theorem qWH (hn:∀ k,k<9->(pkA parts (sz k)).Nodup):((∀ k,k<9->OnceP parts sz T Z k)/\overN parts sz T Z 9=0)↔FitsP parts sz T Z:=by
 constructor
 ·intro ⟨h,h0⟩
  exact⟨fun k hk=>(h k hk).1,(qP3 hn h 9 (Nat.le_refl _)).2 h0⟩
 ·intro h
  have h1:∀ k,k<9->OnceP parts sz T Z k:=fun k hk=>⟨h.few k hk,fun a ha=>by
   rw[(h.perm k hk).count_eq a]
   rw[(hn k hk).count,if_pos ha]⟩
  refine⟨h1,?_⟩
  have:∀ j,j<=9->overN parts sz T Z j=0:=fun j=>by
   induction j with
   | zero=>intro _;rfl
   | succ j ih =>
    intro hj
    unfold overN
    rw[ih qo,(h.perm j qo).length_eq]
    omega
  exact this 9 (Nat.le_refl _)
end
theorem qUi:∀ {l:List (Int × Int × Int)} {a b:Int},Contig a l b->(∀ x∈l,a<=x.2.1)/\(l.map fun x=>x.2.1).Nodup
 | [],a,b,h=>⟨fun x hx=>by simp at hx,List.nodup_nil⟩
 | x :: l,a,b,h=>by
  obtain⟨⟨h1,h2,_,_⟩,h3⟩:=h
  obtain⟨g1,g2⟩:=qUi h3
  refine⟨fun y hy=>?_,?_⟩
  ·rcases List.mem_cons.1 hy with rfl|hy
   ·omega
   ·have:=g1 y hy;omega
  ·rw[List.map_cons]
   refine List.nodup_cons.2 ⟨fun hm=>?_,g2⟩
   obtain⟨y,hy,e⟩:=List.mem_map.1 hm
   have:=g1 y hy
   omega
theorem qT6 {l:List (Int × Int × Int)}{a b:Int}(h:Contig a l b)(z:Int):(pkA l z).Nodup:=by
 unfold pkA
 exact(qUi h).2.sublist (List.filter_sublist.map _)
end
section
theorem qPJ {l:List (Int × Int × Int)}{z a:Int}:a∈pkA l z ↔ ∃ x∈l,x.1=4/\x.2.2=z/\x.2.1=a:=by
 unfold pkA
 simp only[List.mem_map,List.mem_filter,Bool.and_eq_true,decide_eq_true_eq]
 constructor
 ·rintro ⟨x,⟨h1,h2,h3⟩,h4⟩;exact⟨x,h1,h2,h3,h4⟩
 ·rintro ⟨x,h1,h2,h3,h4⟩;exact⟨x,⟨h1,h2,h3⟩,h4⟩
theorem mem_catTo {α:Type}{f:Nat->List α}{x:α}:∀ {n:Nat},x∈AuH.catTo f n ↔ ∃ i,i<n/\x∈f i
 | 0=>by simp[AuH.catTo]
 | n+1=>by
  show x∈AuH.catTo f n++f n↔_
  rw[List.mem_append,mem_catTo]
  constructor
  ·rintro (⟨i,h1,h2⟩|h)
   ·exact⟨i,qo,h2⟩
   ·exact⟨n,qo,h⟩
  ·rintro ⟨i,h1,h2⟩
   by_cases h:i=n
   ·subst h;exact .inr h2
   ·exact .inl ⟨i,qo,h2⟩
def AuH.hand (H:AuH) (q i:Nat):Prop:=q<H.p/\H.K q=3/\i<slotI (H.Cl q)/\(H.cel q 5).testBit i=true/\(H.cel q 4).testBit i=false
def AuH.slotA (H:AuH) (q i:Nat):Int:=H.first q+(i:Int)*(H.zs q:Int)
section
variable {H H' : AuH}
theorem mem_pkA {z a:Int}:a∈pkA H.parts z ↔ ∃ q i,H.hand q i/\(H.zs q:Int)=z/\H.slotA q i=a:=by
 rw[qPJ]
 unfold AuH.parts
 constructor
 ·rintro ⟨x,hx,h4,hz,ha⟩
  obtain⟨q,hq,hx⟩:=mem_catTo.1 hx
  unfold AuH.partsAt at hx
  split at hx
  ·rw[List.mem_singleton] at hx;subst hx;exact absurd (show (1:Int)=4 from h4) (by decide)
  ·split at hx
   ·rw[List.mem_singleton] at hx;subst hx;exact absurd (show (2:Int)=4 from h4) (by decide)
   ·split at hx
    ·rename_i hk
     rcases List.mem_append.1 hx with hx|hx
     ·unfold AuH.slotsTo at hx
      obtain⟨i,hi,rfl⟩:=List.mem_map.1 hx
      rw[List.mem_range] at hi
      have h5:slotKd (H.cel q 5) (H.cel q 4) i=4:=by
       have:((slotKd (H.cel q 5) (H.cel q 4) i:Nat):Int)=4:=h4
       omega
      obtain⟨h6,h7⟩:=(qHe (H.cel q 5) (H.cel q 4) i).2.1 h5
      exact⟨q,i,⟨hq,hk,hi,h6,h7⟩,hz,ha⟩
     ·unfold AuH.slack at hx
      split at hx
      ·rw[List.mem_singleton] at hx;subst hx;exact absurd (show (5:Int)=4 from h4) (by decide)
      ·simp at hx
    ·simp at hx
 ·rintro ⟨q,i,⟨hq,hk,hi,h6,h7⟩,hz,ha⟩
  refine⟨H.slotPart q i,mem_catTo.2 ⟨q,hq,?_⟩,?_,hz,ha⟩
  ·unfold AuH.partsAt
   rw[if_neg qo,if_neg qo,if_pos hk]
   exact List.mem_append_left _ (List.mem_map.2 ⟨i,List.mem_range.2 hi,rfl⟩)
  ·show ((slotKd (H.cel q 5) (H.cel q 4) i:Nat):Int)=4
   rw[(qHe (H.cel q 5) (H.cel q 4) i).2.2 ⟨h6,h7⟩]
   rfl
theorem qWR {s:Int}(h:10<=s/\s<=20):∀ {k j:Nat},j<k->k<9->sizeN s (j:Int)<sizeN s (k:Int)
 | 0,j,hj,_=>absurd hj (Nat.not_lt_zero _)
 | k+1,j,hj,hk=>by
  have h1:=(qRy h hk).2.2.2.2.2 qo
  rw[Nat.add_sub_cancel] at h1
  by_cases e:j=k
  ·subst e;exact h1
  ·exact Nat.lt_trans (qWR h qo qo) h1
theorem qAj {s:Int}(h:10<=s/\s<=20){k j:Int}(hk:0<=k/\k<=8)(hj:0<=j/\j<=8)(e:sizeN s k=sizeN s j):k=j:=by
 obtain⟨a,rfl⟩:=Int.eq_ofNat_of_zero_le hk.1
 obtain⟨b,rfl⟩:=Int.eq_ofNat_of_zero_le hj.1
 rcases Nat.lt_trichotomy a b with h1|h1|h1
 ·have:=qWR h h1 qo;omega
 ·omega
 ·have:=qWR h h1 qo;omega
theorem qOq {l m:List Int}(hl:l.Nodup)(hm:m.Nodup)(h:∀ a,a∈l↔a∈m):l.Perm m:=by
 rw[List.perm_iff_count]
 intro a
 rw[hl.count,hm.count]
 by_cases e:a∈l
 ·rw[if_pos e,if_pos ((h a).1 e)]
 ·rw[if_neg e,if_neg (fun x=>e ((h a).2 x))]
end
end
section
structure HandG (H H':AuH) (P:Nat->Nat->Prop):Prop where
 hand:∀ q i,H'.hand q i↔P q i
 cls:∀ q,q<H.p->H.K q=3->H'.K q=3->H'.Cl q=H.Cl q/\H'.cel q 4=H.cel q 4
section
variable {H : AuH} {n c : Nat} {K : Nat -> Option Nat} {st : Vst} {L L' : Nat -> List Nat} {g : Nat -> Nat} {p u : Nat}
theorem qUt (HV:HeapV H n c)(W:Work H.t H.p H.s n K st L' g)(S:SlabG H g L L' p u) :
  HandG H (nowH H n K st) (fun q i=>(q≠p/\H.hand q i)\/(q=p/\i<slotI (H.Cl p)/\u.testBit i=true/\(H.cel p 4).testBit i=false)):=by
 have hlen:=HV.len
 have hp:=S.at_
 have hc:∀ q b,q<H.p->b<6->b≠2->b≠3->¬ (q=p/\b=5)->(nowH H n K st).cel q b=H.cel q b:=fun q b hq hb h2 h3 hne=>(W.cel hlen hq hb h2 h3).trans (S.cells q b hq hb h2 h3 hne)
 have eK:∀ q,q<H.p->(nowH H n K st).K q=H.K q:=fun q hq=>by unfold AuH.K;rw[hc q 0 hq qo qo qo qo]
 have eC:∀ q,q<H.p->(nowH H n K st).Cl q=H.Cl q:=fun q hq=>by unfold AuH.Cl;rw[hc q 0 hq qo qo qo qo]
 have e5:(nowH H n K st).cel p 5=u:=(W.cel hlen hp (b:=5) qo qo qo).trans S.taken
 refine⟨fun q i=>?_,fun q hq _ _=>⟨eC q hq,hc q 4 hq qo qo qo qo⟩⟩
 constructor
 ·rintro ⟨a1,a2,a3,a4,a5⟩
  have a1:q<H.p:=a1
  rw[eK q a1] at a2
  rw[eC q a1] at a3
  rw[hc q 4 a1 qo qo qo qo] at a5
  by_cases e:q=p
  ·subst e
   rw[e5] at a4
   exact .inr ⟨rfl,a3,a4,a5⟩
  ·rw[hc q 5 a1 qo qo qo qo] at a4
   exact .inl ⟨e,a1,a2,a3,a4,a5⟩
 ·rintro (⟨e,a1,a2,a3,a4,a5⟩|⟨rfl,a3,a4,a5⟩)
  ·exact⟨a1,by rw[eK q a1];exact a2,by rw[eC q a1];exact a3,by rw[hc q 5 a1 qo qo qo qo];exact a4,by rw[hc q 4 a1 qo qo qo qo];exact a5⟩
  ·exact⟨hp,by rw[eK q hp];exact S.kind,by rw[eC q hp];exact a3,by rw[e5];exact a4,by rw[hc q 4 hp qo qo qo qo];exact a5⟩
end
section
variable {H : AuH} {n c : Nat} {K : Nat -> Option Nat} {st : Vst} {L L' : Nat -> List Nat} {g : Nat -> Nat} {A s e u : Nat} {k : Int}
theorem qN8 (HV:HeapV H n c)(h:H.Ok L)(W:Work H.t H.p H.s n K st L' g)(R:AnewG H g L L' A s e k u)(hold:blocksOf (AuH.catTo (fun i=>H.partsAt (A+i)) (s+e)) = [])
  (hk:∀ q,A<=q->q<A+s+e->H.K q=3->¬ (0<s/\q=A)) :
  HandG H (nowH H n K st) (fun q i=>(¬ (A<=q/\q<A+s+e)/\H.hand q i)\/(0<s/\q=A/\i<slotI k/\u.testBit i=true)):=by
 have hlen:=HV.len
 have hP:=HV.fit.nums
 have hw:=R.whole.le
 have hone:=R.one
 obtain⟨_,_,_,_,_,hs,_⟩:=qCr HV h W R hold
 have hc:∀ q b,q<H.p->b<6->b≠2->b≠3->(nowH H n K st).cel q b=g (pc H.t q b):=fun q b hq hb h2 h3=>W.cel hlen hq hb h2 h3
 have hin:∀ q,A<=q->q<A+s+e->¬ (0<s/\q=A)->(nowH H n K st).K q≠3:=fun q a1 a2 a3=>by
  by_cases b:0<e/\q=A+s
  ·obtain⟨b1,rfl⟩:=b
   have:(nowH H n K st).K (A+s)=1:=by
    unfold AuH.K
    rw[hc (A+s) 0 qo qo qo qo,R.rest b1,qQt b1 qo]
   omega
  ·have:=((nowH H n K st).K_zero q (by rw[hc q 0 qo qo qo qo];exact R.blank q a1 a2 a3 b)).1
   omega
 have ho:∀ q,q<H.p->¬ (A<=q/\q<A+s+e)->(nowH H n K st).cel q 0=H.cel q 0/\(nowH H n K st).cel q 4=H.cel q 4/\(nowH H n K st).cel q 5=H.cel q 5:=fun q hq hne =>
  ⟨(hc q 0 hq qo qo qo).trans (R.infos q hq hne),(hc q 4 hq qo qo qo).trans (R.bits q hq hne).1,(hc q 5 hq qo qo qo).trans (R.bits q hq hne).2⟩
 refine⟨fun q i=>?_,fun q hq h3 h3'=>?_⟩
 ·constructor
  ·rintro ⟨a1,a2,a3,a4,a5⟩
   have a1:q<H.p:=a1
   by_cases hi:A<=q/\q<A+s+e
   ·by_cases b:0<s/\q=A
    ·obtain⟨b1,rfl⟩:=b
     obtain⟨c1,c2,c3,c4⟩:=hs b1
     exact .inr ⟨b1,rfl,by rw[<- c2];exact a3,by rw[<- c3];exact a4⟩
    ·exact absurd a2 (hin q hi.1 hi.2 b)
   ·obtain⟨b0,b4,b5⟩:=ho q a1 hi
    unfold AuH.K at a2
    unfold AuH.Cl at a3
    rw[b0] at a2 a3
    exact .inl ⟨hi,a1,a2,a3,by rw[<- b5];exact a4,by rw[<- b4];exact a5⟩
  ·rintro (⟨hi,a1,a2,a3,a4,a5⟩|⟨b1,rfl,a3,a4⟩)
   ·obtain⟨b0,b4,b5⟩:=ho q a1 hi
    unfold AuH.K at a2
    unfold AuH.Cl at a3
    rw[<- b0] at a2 a3
    exact⟨a1,a2,a3,by rw[b5];exact a4,by rw[b4];exact a5⟩
   ·obtain⟨c1,c2,c3,c4⟩:=hs b1
    exact⟨by show q<H.p;omega,c1,by rw[c2];exact a3,by rw[c3];exact a4,by rw[c4];exact Nat.zero_testBit i⟩
 ·by_cases hi:A<=q/\q<A+s+e
  ·exact absurd h3' (hin q hi.1 hi.2 (hk q hi.1 hi.2 h3))
  ·obtain⟨b0,b4,_⟩:=ho q hq hi
   exact⟨by unfold AuH.Cl;rw[b0],b4⟩
end
end
section
section
variable {H : AuH} {n c : Nat} {K : Nat -> Option Nat} {st st' : Vst} {L L' : Nat -> List Nat} {g : Nat -> Nat}
theorem Work.look16 (W:Work H.t H.p H.s n K st L H.V)(h:H.Ok L)(HV:HeapV H n c){nn k:Nat}(h1:1<=nn)(hk:k<=10)(ha:2^k<=nn)(hb:nn<2^(k+1)) :
  Looked n K st (findF n K H.t H.p H.s nn k st).2/\(((findF n K H.t H.p H.s nn k st).1=none/\∀ p,p<H.p->H.K p=1->H.ln p<nn)\/∃ p,(findF n K H.t H.p H.s nn k st).1=some p/\p<H.p/\H.K p=1/\nn<=H.ln p):=by
 have hL:∀ j,j<11->HasL H.t H.p (2+j) n K st (L (2+j)):=fun j hj=>W.lists.has (2+j) qo qo
 have hfit:∀ p,p<H.p->(fitB (nn:Int) (getV n K st (inH H.t p))=true↔H.K p=1/\nn<=H.ln p):=fun p hp=>by
  have e:getV n K st (inH H.t p)=H.cel p 0:=W.val (i:=pc H.t p 0) (by have:=HV.len;unfold pc;omega) (qXR qo qo qo)
  unfold fitB
  rw[e,Bool.and_eq_true,decide_eq_true_iff,decide_eq_true_iff]
  show H.K p=1/\(nn:Int)<=H.L p↔_
  rw[AuH.L_ln]
  omega
 have hmem:∀ j,j<11->∀ y∈L (2+j),H.K y=1/\2^j<=H.ln y:=fun j hj y hy=>by
  have ht:=((h.mem (2+j) qo qo y).1 hy).2
  have hky:H.K y=1:=by
   rcases H.K_cases y with h3|⟨h3|h3,_⟩|⟨h3,_,h4,h5⟩
   ·rw[AuH.tgt_none h3.1] at ht;omega
   ·exact h3
   ·rw[AuH.tgt_used h3] at ht;omega
   ·by_cases hfull:H.cel y 5=2^slotI (H.Cl y)-1
    ·rw[AuH.tgt_full h3 hfull] at ht;omega
    ·rw[AuH.tgt_slab h3 hfull] at ht;omega
  obtain⟨k',_,e,h6,_⟩:=qOU hky
  rw[e] at ht
  have:k'=j:=qo
  subst this
  exact⟨hky,h6⟩
 have hin:∀ p,p<H.p->H.K p=1->∃ j,j<11/\p∈L (2+j)/\2^j<=H.ln p/\H.ln p<2^(j+1):=fun p hp hkp=>by
  obtain⟨j,hj,e,h6,h7⟩:=qOU hkp
  exact⟨j,qo,(h.mem (2+j) qo qo p).2 ⟨hp,e⟩,h6,h7⟩
 have hk11:=hL k qo
 obtain⟨a,hs⟩:=hk11.seg
 obtain⟨l1,l2⟩:=qMd (st:=st) (nn:=(nn:Int)) HV.fit (L (2+k)) (H.p:Int).toNat (getV n K st ((2+k:Nat):Int)) 0 a (getS n K st ((2+k:Nat):Int)) ((Looked.refl W.vw).get _) (by rw[Int.toNat_natCast];exact hk11.len) hs
 unfold findF
 simp only
 cases hf:(L (2+k)).find? (fun p=>fitB (nn:Int) (getV n K st (inH H.t p))) with
 | some p =>
  rw[l1,hf]
  have hpm:=List.mem_of_find?_eq_some hf
  have hpl:=hk11.lt p hpm
  have:=(hfit p hpl).1 (List.find?_some (p:=fun p=>fitB (nn:Int) (getV n K st (inH H.t p))) hf)
  exact⟨l2,.inr ⟨p,rfl,hpl,this.1,this.2⟩⟩
 | none =>
  rw[l1,hf]
  have hno:∀ p∈L (2+k),¬ nn<=H.ln p:=fun p hp hle=>by
   have h8:=List.find?_eq_none.1 hf p hp
   exact h8 ((hfit p (hk11.lt p hp)).2 ⟨(hmem k qo p hp).1,hle⟩)
  obtain⟨n1,n2⟩:=qWV (fun j=>L (2+j)) hL (11-(k+1)) (k+1) _ l2 qo
  refine⟨n1,?_⟩
  rcases n2 with ⟨n2,n3⟩|⟨p,i,r,n2,n3,n4,n5⟩
  ·refine .inl ⟨n2,fun p hp hkp=>?_⟩
   obtain⟨j,hj,hpj,h6,h7⟩:=hin p hp hkp
   rcases Nat.lt_trichotomy j k with h9|h9|h9
   ·have:2^(j+1)<=2^k:=Nat.pow_le_pow_right qo qo
    omega
   ·subst h9
    have:=hno p hpj
    omega
   ·rw[n3 j qo qo] at hpj
    cases hpj
  ·have n5:L (2+i)=p :: r:=n5
   have hpm:p∈L (2+i):=by rw[n5];simp
   have h6:=hmem i qo p hpm
   have h7:2^(k+1)<=2^i:=Nat.pow_le_pow_right qo n3
   exact .inr ⟨p,n2,(hL i qo).lt p hpm,h6.1,qo⟩
theorem Work.of_looked (W:Work H.t H.p H.s n K st L g)(hl:Looked n K st st'):Work H.t H.p H.s n K st' L g:=by
 obtain⟨h1,h2,h3⟩:=hl
 refine⟨⟨h1,fun hd a2 a21=>?_,W.lists.apart⟩,fun i hi hc=>by rw[h2];exact W.near i hi hc,fun q hq hno=>by rw[h2];exact W.o q hq hno⟩
 unfold HasL
 rw[h2]
 exact W.lists.has hd a2 a21
theorem qA8 (W:Work H.t H.p H.s n K st L H.V)(h:H.Ok L){k:Int}(k0:0<=k)(k8:k<=8) :
  (getV n K st (13+k)=0)\/∃ p,getV n K st (13+k)=p+1/\p<H.p/\H.K p=3/\H.Cl p=k/\H.cel p 5≠2^slotI k-1:=by
 have eh:13+k=((13+k.toNat:Nat):Int):=qo
 have hL:=W.lists.has (13+k.toNat) qo qo
 obtain⟨a,hs⟩:=hL.seg
 have hf:=hs.first
 cases hl:L (13+k.toNat) with
 | nil =>
  rw[hl] at hf
  exact .inl (by rw[eh];exact hf)
 | cons p r =>
  rw[hl] at hf
  have hpm:p∈L (13+k.toNat):=by rw[hl];simp
  obtain⟨hp,ht⟩:=(h.mem _ qo qo p).1 hpm
  have:H.K p=3/\H.Cl p=k/\H.cel p 5≠2^slotI k-1:=by
   rcases H.K_cases p with h3|⟨h3|h3,_⟩|⟨h3,_,h4,h5⟩
   ·rw[AuH.tgt_none h3.1] at ht;omega
   ·exfalso
    obtain⟨k',hk',e,_⟩:=qOU h3
    rw[e] at ht
    omega
   ·rw[AuH.tgt_used h3] at ht;omega
   ·by_cases hfull:H.cel p 5=2^slotI (H.Cl p)-1
    ·rw[AuH.tgt_full h3 hfull] at ht;omega
    ·rw[AuH.tgt_slab h3 hfull] at ht
     have:H.Cl p=k:=qo
     rw[this] at hfull
     exact⟨h3,this,hfull⟩
  exact .inr ⟨p,by rw[eh];exact hf,hp,this⟩
theorem qVa (h:H.Ok L){p:Nat}(hp:p<H.p)(hk:H.K p=3):H.cel p 5≠0/\H.cel p 5<2^slotI (H.Cl p)/\SubB (H.cel p 4) (H.cel p 5):=(h.slots p hp).1 hk
structure Picked (H:AuH) (n:Nat) (K:Nat->Option Nat) (st:Vst) (L:Nat->List Nat) (k:Int) (p:Nat) (l:List Nat):Prop where
 ok:(nowH H n K st).Ok L
 roots:∀ i,i<8->(nowH H n K st).V (22+i)=H.V (22+i)
 live:(nowH H n K st).V 1=H.V 1
 blocks:blocksOf (nowH H n K st).parts=blocksOf H.parts
 at_:p<H.p
 kind:(nowH H n K st).K p=3
 cls:(nowH H n K st).Cl p=k
 up:l.Pairwise (· < ·)
 bits:∀ i∈l,i<slotI k/\((nowH H n K st).cel p 5).testBit i=true/\((nowH H n K st).cel p 4).testBit i=false/\(H.K p=3->(H.cel p 5).testBit i=false)
 more:kindN 4 (nowH H n K st).parts=kindN 4 H.parts+l.length
 hand:∀ q i,(nowH H n K st).hand q i↔H.hand q i\/(q=p/\i∈l)
 cls_:∀ q,q<H.p->H.K q=3->(nowH H n K st).K q=3->(nowH H n K st).Cl q=H.Cl q/\(nowH H n K st).cel q 4=H.cel q 4
theorem qGc (HV:HeapV H n c)(h:H.Ok L)(W:Work H.t H.p H.s n K st L H.V){p w:Nat}{k:Int}(hp:p<H.p)(hk:H.K p=3)(hc:H.Cl p=k)(hnf:H.cel p 5≠2^slotI k-1)(hw:1<=w) :
  1<=(someF (H.cel p 5) (slotI k) w).length/\∃ L',Work H.t H.p H.s n K (bitsS n K H.t H.p H.s k p (layB (H.cel p 5) (someF (H.cel p 5) (slotI k) w)) (decide (layB (H.cel p 5) (someF (H.cel p 5) (slotI k) w)=2^slotI k-1)) st) L' (updF H.V (pc H.t p 5) (layB (H.cel p 5) (someF (H.cel p 5) (slotI k) w))) /\
   Picked H n K (bitsS n K H.t H.p H.s k p (layB (H.cel p 5) (someF (H.cel p 5) (slotI k) w)) (decide (layB (H.cel p 5) (someF (H.cel p 5) (slotI k) w)=2^slotI k-1)) st) L' k p (someF (H.cel p 5) (slotI k) w):=by
 subst hc
 obtain⟨b0,b1,b2⟩:=qVa h hp hk
 have hl1:=qQn hw b1 (qWU _) hnf
 have hmem:=fun i (hi:i∈someF (H.cel p 5) (slotI (H.Cl p)) w)=>qR3 hi
 have hup:=qGO (H.cel p 5) (slotI (H.Cl p)) w
 generalize hl:someF (H.cel p 5) (slotI (H.Cl p)) w=l at *
 have h32:=qWU (H.Cl p)
 have hdead:∀ i,i<32->(H.cel p 5).testBit i=false->(H.cel p 4).testBit i=false:=fun i hi hf=>by
  cases hb:(H.cel p 4).testBit i
  ·rfl
  ·rw[b2 i hi hb] at hf;cases hf
 obtain⟨i0,hi0⟩:∃ i0,i0∈l:=by
  cases l with
  | nil=>simp at hl1
  | cons i r=>exact⟨i,by simp⟩
 have hlt:=qJE l _ b1 (fun i hi=>(hmem i hi).1)
 have hsub:SubB (H.cel p 4) (layB (H.cel p 5) l):=fun j hj hb=>qOp l _ j hj (b2 j hj hb)
 obtain⟨L',W',S⟩:=qWA HV h W hp hk hnf (qEq hi0) hlt hsub
 obtain⟨d1,d2,_,d4,d5,d6,d7,d8,d9,d10⟩:=qWF HV h W' S
 obtain⟨k1,k2⟩:=qUt HV W' S
 refine⟨hl1,L',W',d1,d2,d4,d5,hp,d6,d7,hup,fun i hi=>?_,?_,fun q i=>?_,k2⟩
 ·obtain⟨a1,a2⟩:=hmem i hi
  refine⟨a1,?_,?_,fun _=>a2⟩
  ·rw[d8,qII,decide_eq_true hi,Bool.or_true]
  ·rw[d9];exact hdead i qo a2
 ·rw[qHv l _ hup (fun i hi=>⟨(hmem i hi).1,(hmem i hi).2,hdead i (by have:=(hmem i hi).1;omega) (hmem i hi).2⟩)] at d10
  omega
 ·rw[k1]
  constructor
  ·rintro (⟨_,hq⟩|⟨rfl,a3,a4,a5⟩)
   ·exact .inl hq
   ·rw[qII,Bool.or_eq_true,decide_eq_true_eq] at a4
    rcases a4 with a4|a4
    ·exact .inl ⟨hp,hk,a3,a4,a5⟩
    ·exact .inr ⟨rfl,a4⟩
  ·rintro (hq|⟨rfl,hi⟩)
   ·by_cases e:q=p
    ·subst e
     exact .inr ⟨rfl,hq.2.2.1,by rw[qII,hq.2.2.2.1];rfl,hq.2.2.2.2⟩
    ·exact .inl ⟨e,hq⟩
   ·exact .inr ⟨rfl,(hmem i hi).1,by rw[qII,decide_eq_true hi,Bool.or_true],hdead i (by have:=(hmem i hi).1;omega) (hmem i hi).2⟩
theorem qA1 (HV:HeapV H n c)(h:H.Ok L)(W:Work H.t H.p H.s n K st L H.V){p w:Nat}{k:Int}(hp:p<H.p)(hk:H.K p=1)(k0:0<=k)(k8:k<=8)(hw:1<=w) :
  1<=(someF 0 (slotI k) w).length/\∃ L' g',Work H.t H.p H.s n K (bitsS n K H.t H.p H.s k p (layB 0 (someF 0 (slotI k) w)) (decide (layB 0 (someF 0 (slotI k) w)=2^slotI k-1)) (slabS n K H.t H.p H.s k p (takeS n K H.t H.p H.s p 1 st))) L' g' /\
   Picked H n K (bitsS n K H.t H.p H.s k p (layB 0 (someF 0 (slotI k) w)) (decide (layB 0 (someF 0 (slotI k) w)=2^slotI k-1)) (slabS n K H.t H.p H.s k p (takeS n K H.t H.p H.s p 1 st))) L' k p (someF 0 (slotI k) w):=by
 obtain⟨_,hl1,hle,_,hin,_⟩:=qRA h hp qo qo
 have h32:=qWU k
 have hne:slotI k≠0:=fun e=>by have:=slotI_zero.1 e;omega
 have h2:(2:Nat)^1<=2^slotI k:=Nat.pow_le_pow_right qo qo
 have hlen:=qQn (t:=0) (m:=slotI k) hw qo h32 qo
 have hmem:=fun i (hi:i∈someF 0 (slotI k) w)=>qR3 hi
 have hup:=qGO 0 (slotI k) w
 generalize hl:someF 0 (slotI k) w=l at *
 obtain⟨i0,hi0⟩:∃ i0,i0∈l:=by
  cases l with
  | nil=>simp at hlen
  | cons i r=>exact⟨i,by simp⟩
 have hlt:=qJE l 0 (m:=slotI k) qo (fun i hi=>(hmem i hi).1)
 obtain⟨L1,g1,W1,R1,e1,e0,_⟩:=qZZ HV h W hp hk (Nat.le_refl 1) hl1
 have hv:=(qFj h HV.fit.nums.2).2
 obtain⟨L2,g2,W2,R2,z0,z1⟩:=qEo HV h W1 hp hk R1 e1 qo k0 k8 (qEq hi0) hlt
 have hones:1+(H.ln p-1)=H.ln p:=qo
 obtain⟨d1,d2,_,d4,d5,d6,d7⟩:=qCr HV h W2 R2 (by rw[hones];exact qFy h hp hk)
 rw[hones,qZ2 h hp hk,if_pos qo,qHv l 0 hup (fun i hi=>⟨(hmem i hi).1,Nat.zero_testBit i,Nat.zero_testBit i⟩)] at d7
 have hz:∀ m,idleB 0 0 m=0:=fun m=>by
  induction m with
  | zero=>rfl
  | succ m ih=>show idleB 0 0 m+_=0;rw[ih,Nat.zero_testBit];rfl
 rw[hz] at d7
 obtain⟨c1,c2,c3,c4⟩:=d6 qo
 have hfree:∀ q,p<=q->q<p+1+(H.ln p-1)->H.K q≠3:=fun q a1 a2=>by
  obtain⟨_,_,_,_,h4,_⟩:=qRA h hp qo qo
  by_cases e:q=p
  ·subst e;omega
  ·have:=(h4 q qo qo).2;omega
 obtain⟨k1,k2⟩:=qN8 HV h W2 R2 (by rw[hones];exact qFy h hp hk) (fun q a1 a2 a3=>absurd a3 (hfree q a1 a2))
 refine⟨hlen,L2,g2,W2,d1,d2,by rw[d4,z1,e1],d5,hp,c1,c2,hup,fun i hi=>⟨(hmem i hi).1,?_,?_,fun e=>by omega⟩,qo,fun q i=>?_,k2⟩
 ·rw[c3,qII,decide_eq_true hi,Bool.or_true]
 ·rw[c4,Nat.zero_testBit]
 ·rw[k1]
  constructor
  ·rintro (⟨_,hq⟩|⟨_,rfl,a3,a4⟩)
   ·exact .inl hq
   ·rw[qII,Nat.zero_testBit,Bool.false_or,decide_eq_true_eq] at a4
    exact .inr ⟨rfl,a4⟩
  ·rintro (hq|⟨rfl,hi⟩)
   ·exact .inl ⟨fun e=>hfree q e.1 e.2 hq.2.1,hq⟩
   ·exact .inr ⟨qo,rfl,(hmem i hi).1,by rw[qII,decide_eq_true hi,Bool.or_true]⟩
end
end
section
def fullB (u:Nat) (k:Int):Bool:=decide (HM.onesTo u 32=slotI k)
theorem qUk {u:Nat}{k:Int}(hu:u<2^slotI k):fullB u k=decide (u=2^slotI k-1):=decide_eq_decide.2 (AuH.ones_full hu (qWU k))
def clrB (u i:Nat):Nat:=if u.testBit i=true then u-2^i else u
section
variable (n : Nat) (K : Nat -> Option Nat) (t q s : Int)
def pickAt (k:Int) (p w:Nat) (st:Vst):Option (Nat × List Nat) × Vst :=
 if someF (getV n K st (pageI t q s p 5)) (slotI k) w = [] then (none,getS n K st (pageI t q s p 5))
 else (some (p,someF (getV n K st (pageI t q s p 5)) (slotI k) w),bitsS n K t q s k p (layB (getV n K st (pageI t q s p 5)) (someF (getV n K st (pageI t q s p 5)) (slotI k) w)) (fullB (layB (getV n K st (pageI t q s p 5)) (someF (getV n K st (pageI t q s p 5)) (slotI k) w)) k) st)
def pickI (k:Int) (w:Nat) (st:Vst):Option (Nat × List Nat) × Vst :=
 if getV n K st (13+k)=0 then
  (match (takeI n K t q s 1 (getS n K st (13+k))).1 with
   | some p=>pickAt n K t q s k p w (slabS n K t q s k p (takeI n K t q s 1 (getS n K st (13+k))).2)
   | none=>(none,(takeI n K t q s 1 (getS n K st (13+k))).2))
 else pickAt n K t q s k (getV n K st (13+k)-1) w (getS n K st (13+k))
def giveAt (k:Int) (p i:Nat) (st:Vst):Vst :=
 if clrB (getV n K st (pageI t q s p 5)) i=0 then emptyS n K t q s k p (fullB (getV n K st (pageI t q s p 5)) k) (getS n K st (pageI t q s p 5))
 else backS n K t q s k p (clrB (getV n K st (pageI t q s p 5)) i) (fullB (getV n K st (pageI t q s p 5)) k) (getS n K st (pageI t q s p 5))
def giveS (p i:Nat) (st:Vst):Vst:=giveAt n K t q s (infoOf n K t q s p st).2.2.1 p i (getS n K st (pageI t q s p 0))
def pickP (x:Option (Nat × List Nat)):Int:=match x with
 | some (p,_)=>(p:Int)
 | none => -1
def pickL (x:Option (Nat × List Nat)):List Nat:=match x with
 | some (_,l)=>l
 | none => []
end
section
variable {n : Nat} {K : Nat -> Option Nat} {t q s : Int} {st s1 : Vst} {k : Int} {p w v : Nat}
theorem qJI (hv:getV n K st (pageI t q s p 5)=v)(h:someF v (slotI k) w = []):pickAt n K t q s k p w st=(none,getS n K st (pageI t q s p 5)):=by
 subst hv
 unfold pickAt
 rw[if_pos h]
theorem qTY (hv:getV n K st (pageI t q s p 5)=v){l:List Nat}(hl:someF v (slotI k) w=l)(h:l ≠ []):pickAt n K t q s k p w st=(some (p,l),bitsS n K t q s k p (layB v l) (fullB (layB v l) k) st):=by
 subst hv hl
 unfold pickAt
 rw[if_neg h]
theorem qRT {r:Nat}(h:getV n K st (13+k)=r+1):pickI n K t q s k w st=pickAt n K t q s k r w (getS n K st (13+k)):=by
 unfold pickI
 rw[if_neg qo,h,Nat.add_sub_cancel]
theorem qMm (h:getV n K st (13+k)=0)(ht:takeI n K t q s 1 (getS n K st (13+k))=(none,s1)):pickI n K t q s k w st=(none,s1):=by
 unfold pickI
 rw[if_pos h,ht]
theorem qBM (h:getV n K st (13+k)=0)(ht:takeI n K t q s 1 (getS n K st (13+k))=(some p,s1)):pickI n K t q s k w st=pickAt n K t q s k p w (slabS n K t q s k p s1):=by
 unfold pickI
 rw[if_pos h,ht]
end
section
variable {H : AuH} {n c : Nat} {K : Nat -> Option Nat} {st st' : Vst} {L L' : Nat -> List Nat} {g : Nat -> Nat}
theorem qOt {t q s nn:Int}{s1:Vst}(h:findI n K t q s nn st=(none,s1)):takeI n K t q s nn st=(none,s1):=by
 unfold takeI
 rw[h]
theorem qQh {t q s:Int}{m p:Nat}{s1:Vst}(h:findI n K t q s (m:Int) st=(some p,s1)):takeI n K t q s (m:Int) st=(some p,takeS n K t q s p m s1):=by
 unfold takeI
 rw[h]
 simp
theorem qAv {t m w:Nat}(h:1<=(someF t m w).length):someF t m w ≠ []:=fun e=>by rw[e] at h;simp at h
theorem qB9 (HV:HeapV H n c)(h:H.Ok L)(W:Work H.t H.p H.s n K st L H.V){k:Int}(k0:0<=k)(k8:k<=8){w:Nat}(hw:1<=w) :
  ((pickI n K H.t H.p H.s k w st).1=none/\(pickI n K H.t H.p H.s k w st).2.wr=st.wr) \/
   ∃ (p:Nat) (l:List Nat) (L':Nat->List Nat),(pickI n K H.t H.p H.s k w st).1=some (p,l)/\VW n K (pickI n K H.t H.p H.s k w st).2/\1<=l.length/\l.length<=w/\l.length<=slotI k/\Picked H n K (pickI n K H.t H.p H.s k w st).2 L' k p l/\∃ g,Work H.t H.p H.s n K (pickI n K H.t H.p H.s k w st).2 L' g:=by
 have hlen:=HV.len
 have W1:=W.get (13+k)
 rcases qA8 W h k0 k8 with h0|⟨p,h1,hp,hk,hc,hnf⟩
 ·have hP:=HV.fit.nums
  obtain⟨hl,hx⟩:=W1.look16 h HV (nn:=1) (k:=0) qo qo qo qo
  have hfi:findI n K H.t H.p H.s 1 (getS n K st (13+k))=findF n K H.t H.p H.s 1 0 (getS n K st (13+k)):=qSw (own:=0) (by decide) qo qo
  rcases hx with ⟨hn,_⟩|⟨p,hs,hp,hk,hl1⟩
  ·have ht:takeI n K H.t H.p H.s 1 (getS n K st (13+k))=(none,(findF n K H.t H.p H.s 1 0 (getS n K st (13+k))).2):=qOt (by rw[hfi];exact Prod.ext hn rfl)
   rw[qMm h0 ht]
   exact .inl ⟨rfl,by rw[show (none,(findF n K H.t H.p H.s 1 0 (getS n K st (13+k))).2).2=(findF n K H.t H.p H.s 1 0 (getS n K st (13+k))).2 from rfl];exact hl.wr.trans (qSx n K st (13+k)).2⟩
  ·have ht:takeI n K H.t H.p H.s ((1:Nat):Int) (getS n K st (13+k))=(some p,takeS n K H.t H.p H.s p 1 (findF n K H.t H.p H.s 1 0 (getS n K st (13+k))).2):=qQh (by rw[show ((1:Nat):Int)=1 from rfl,hfi];exact Prod.ext hs rfl)
   have W2:=W1.of_looked hl
   obtain⟨f1,L',g',f2,f3⟩:=qA1 HV h W2 (w:=w) hp hk k0 k8 hw
   generalize (findF n K H.t H.p H.s 1 0 (getS n K st (13+k))).2=s2 at *
   have hv:=(qFj h HV.fit.nums.2).2
   obtain⟨L1,g1,W3,R1,e1,e0,_⟩:=qZZ HV h W2 hp hk (Nat.le_refl 1) hl1
   have hpno:∀ x:Nat,2<=x->x<=21->¬ p∈L1 x:=fun x a2 a21 hx=>by
    have:=(qRA h hp qo qo).2.2.1
    rcases(R1.mem x a2 a21 p).1 hx with h3|h3 <;> omega
   obtain⟨L2,W4,_⟩:=W3.slab HV.fit hp k0 k8 hpno
   have e5:getV n K (slabS n K H.t H.p H.s k p (takeS n K H.t H.p H.s p 1 s2)) (pageI H.t H.p H.s p 5)=0:=by
    rw[HV.fit.taken hp,W4.val (i:=pc H.t p 5) (by unfold pc;omega) (qXR qo qo qo)]
    simp(disch:=omega) only[qB0,qJR]
    rw[(R1.bits p hp).2]
    exact((h.slots p hp).2 qo).1
   have e:pickI n K H.t H.p H.s k w st=pickAt n K H.t H.p H.s k p w (slabS n K H.t H.p H.s k p (takeS n K H.t H.p H.s p 1 s2)):=qBM h0 ht
   rw[qTY e5 rfl (qAv f1),qUk (qJE _ _ (Nat.two_pow_pos _) (fun i hi=>(qR3 hi).1))] at e
   exact M5I
 ·have h1:getV n K st (13+k)=p+1:=h1
  have e5:getV n K (getS n K st (13+k)) (pageI H.t H.p H.s p 5)=H.cel p 5:=by
   rw[HV.fit.taken hp,W1.val (i:=pc H.t p 5) (by unfold pc;omega) (qXR qo qo qo)]
   rfl
  obtain⟨f1,L',f2,f3⟩:=qGc HV h W1 hp hk hc hnf hw
  obtain⟨b0,b1,b2⟩:=qVa h hp hk
  rw[hc] at b1
  have e:pickI n K H.t H.p H.s k w st=_:=qRT h1
  rw[qTY e5 rfl (qAv f1),qUk (qJE _ _ b1 (fun i hi=>(qR3 hi).1))] at e
  exact M5I
theorem qVB {a b:Nat}(h:a &&& b=0):a+b=a ||| b:=by
 have ha:a<2^(a+b+1):=Nat.lt_of_le_of_lt qo (Nat.lt_two_pow_self (n:=a+b+1))
 have hb:b<2^(a+b+1):=Nat.lt_of_le_of_lt qo (Nat.lt_two_pow_self (n:=a+b+1))
 have hs:a+b<2^(a+b+1):=Nat.lt_of_le_of_lt qo (Nat.lt_two_pow_self (n:=a+b+1))
 have h1:BitVec.ofNat (a+b+1) a &&& BitVec.ofNat (a+b+1) b=0#(a+b+1):=by
  apply BitVec.eq_of_toNat_eq
  rw[BitVec.toNat_and,BitVec.toNat_ofNat,BitVec.toNat_ofNat,Nat.mod_eq_of_lt ha,Nat.mod_eq_of_lt hb,h]
  simp
 have h2:=congrArg BitVec.toNat (BitVec.add_eq_or_of_and_eq_zero _ _ h1)
 rw[BitVec.toNat_or,BitVec.toNat_add,BitVec.toNat_ofNat,BitVec.toNat_ofNat,Nat.mod_eq_of_lt ha,Nat.mod_eq_of_lt hb,Nat.mod_eq_of_lt hs] at h2
 exact h2
theorem qWv {u i:Nat}(h:u.testBit i=true):∀ j,(clrB u i).testBit j=(u.testBit j && !decide (j=i)):=fun j=>by
 have e:clrB u i+2^i=u:=by
  unfold clrB
  rw[if_pos h]
  have:=Nat.ge_two_pow_of_testBit h
  omega
 have e0:(clrB u i).testBit i=false:=by
  have h2:(2^i+clrB u i).testBit i = !(clrB u i).testBit i:=Nat.testBit_two_pow_add_eq _ _
  rw[Nat.add_comm,e,h] at h2
  cases hb:(clrB u i).testBit i
  ·rfl
  ·rw[hb] at h2;cases h2
 have e2:2^i ||| clrB u i=u:=by
  have hx:2^i &&& clrB u i=0:=by
   apply Nat.eq_of_testBit_eq
   intro j
   rw[Nat.testBit_and,Nat.zero_testBit,qF3]
   by_cases hj:j=i
   ·subst hj;rw[e0];simp
   ·rw[decide_eq_false hj];rfl
  have:=qVB hx
  omega
 have e3:=congrArg (fun x=>Nat.testBit x j) e2
 simp only[Nat.testBit_or,qF3] at e3
 rw[<- e3]
 by_cases hj:j=i
 ·subst hj;rw[e0];simp
 ·rw[decide_eq_false hj];simp
end
end
section
def freeV (v k:Nat):List Value:=ntVs (HM.freeTo v k)
theorem qQ6 (v k:Nat)(h:v.testBit k=true):freeV v (k+1)=freeV v k:=by unfold freeV;rw[HM.freeTo_succ,h];simp
theorem qAb (v k:Nat)(h:v.testBit k=false):freeV v (k+1)=freeV v k ++ [.int .i64 (k:Int)]:=by unfold freeV;rw[HM.freeTo_succ,h];exact qWj _ _
theorem qPi (v k:Nat):(freeV v k).length<=k:=by unfold freeV;rw[qNr];exact HM.freeTo_le v k
theorem qKv (v M:Nat)(n:Int)(hv:v<2^32)(hA:n<=32)(hB:(M:Int)=n)(w:World) :
    Calls Tryz.prog 157 #[.int .u32 (v:Int),.int .i64 n] w fun e w' =>
      ∃ u,e = .returned u/\w'.ownsRow w.heap.size 3 1 u (freeV v M).length (freeV v M)/\Below w.heap.size w w':=by
  obtain⟨i0,hi,hz0,hz1,hz2⟩:=info_parts intInfo
  have hM:(M:Int)<=n:=qo
  have HB:=qh hB
  clear hB
  go_enter Tryz.func157,Tryz.ntmps157
  go_wp2
  go_loopw [5,9] (fun u i wr=>∃ k:Nat,k<=M/\i = .int .i64 k/\wr.ownsRow w.heap.size 3 1 u (freeV v k).length (freeV v k)/\Below w.heap.size w wr) (fun _ i _=>M-(intOf i).toNat)
  case atStart=>exact⟨0,qo,rfl,World.ownsRow_nil _ _ _ _,Below.refl _ _⟩
  case round =>
    obtain⟨k,hk,rfl,hown,hb⟩:=hrel
    by_cases hlt:k<M
    · have hl:=qPi v k
      have hki:(k:Int)<n:=qo
      have hk32:k<32:=qo
      cases hbit:v.testBit k
      · have HT:=qh ((congrArg v.testBit (Int.toNat_natCast k)).trans hbit)
        have HZ:=qh (qAb v k hbit)
        clear hbit
        go_wp2_with (first
          | (go_at_call 193;refine(qN6 v k _ hv qo qo HT.o _).mono ?_;rintro e w' ⟨rfl,rfl⟩)
          | (at_builtin
             refine wpList_append_own _ rfl _ _ 42 rfl w.heap.size 3 i0 (.int .i64 0) 1 8 Tryz.underlying42 hi hz0 hz1 hz2 rfl (by decide) _ _ _ rfl (hown.alloc _) ⟨_,0,none⟩ 1 1 [.int .i64 (k:Int)] rfl rfl ?c1 ?c2 ?c3 ?c4 ?c5 ?_
             case c1=>intro j y hy;rcases j with _|j;(· simp at hy;subst hy;simp[Addr.add]);(· simp at hy)
             case c2=>simp[Value.oneCell']
             case c3=>unfold maxLen;omega
             case c4=>omega
             case c5=>have:=hb.size;simp;omega
             intro u1 w1 hown1 hgrow _))
        have hb1:=(hb.alloc hb.size _).grown hgrow (by have:=hb.size;simp;omega) (fun j hj=>(hown.lt j hj).1)
        go_roundw
        case rel=>exact⟨k+1,qo,by go_num,by rw[HZ.o,List.length_append];exact hown1,hb1⟩
        case measure=>simp[intOf];omega
      · have HT:=qh ((congrArg v.testBit (Int.toNat_natCast k)).trans hbit)
        have HO:=qh (qQ6 v k hbit)
        clear hbit
        go_wp2_with (go_at_call 193;refine(qN6 v k _ hv qo qo HT.o _).mono ?_;rintro e w' ⟨rfl,rfl⟩)
        go_roundw
        case rel=>exact⟨k+1,qo,by go_num,by rw[HO.o];exact hown,hb⟩
        case measure=>simp[intOf];omega
    · obtain rfl:k=M:=qo
      have hlast:n<=(k:Int):=by have:=HB.o;omega
      go_wp2
      go_ret
      exact⟨_,rfl,hown,hb⟩
theorem qDl (v m:Nat)(hv:v<2^32)(hm:m<=32)(w:World) :
  Calls Tryz.prog 157 #[.int .u32 (v:Int),.int .i64 (m:Int)] w fun e w' =>
   ∃ u,e = .returned u/\w'.ownsRow w.heap.size 3 1 u (HM.freeTo v m).length (ntVs (HM.freeTo v m))/\Below w.heap.size w w':=by
 have h:=qKv v m m hv qo rfl w
 unfold freeV at h
 rw[qNr] at h
 exact h
theorem qSG (A:Option Addr)(L c i:Nat)(h:i<=L)(hL:L<=c)(w:World):(Instr.slice 42 (.slice A L c) none (some (.int .i64 (i:Int))) none).run Tryz.prog w = .ok (.slice A i c) w:=by
 refine REu ?_;intro hu hs
 rw[run_slice_h (P := Tryz.prog) (w:=w) 42 A L c hu .i64 (i:Int) qo qo,hs]
 simp only[Result.andThen,sliced,Int.toNat_natCast,Nat.zero_mul,Nat.sub_zero]
 congr 2
 split
 ·rfl
 ·cases A <;> simp[Addr.add]
theorem qAl {w:World}{base:Nat}{e:TypeId}{A:Option Addr}{n c m:Nat}{xs:List Value}(h:w.ownsRow base e 1 (.slice A n c) n xs)(hm:m<=n):w.ownsRow base e 1 (.slice A m c) m (xs.take m):=by
 have h1:=h.1
 refine⟨by rw[List.length_take];omega,?_⟩
 rcases h.2 with ⟨h2,h3⟩|⟨g,cap,cur,h2,hb,hg,hnc,hcm,hcs,ht⟩
 ·injection h2 with h4 h5 h6
  subst h4 h6
  exact .inl ⟨by rw[show m=0 by omega],qo⟩
 ·injection h2 with h4 h5 h6
  subst h4 h6
  refine .inr ⟨g,c,cur,rfl,hb,hg,qo,hcm,hcs,?_⟩
  rw[<- ht,List.take_take]
  congr 1
  omega
section
variable {O : Ob} {w0 ws w w' : World} {A G : Nat -> Prop} {N : Nat} {T : TypeId} {cs : Array Value} {base : Nat} {u : Value} {nl : Nat} {xs : List Value} {st s' : Vst}
theorem WL.row (h:WL O w0 A G ws [⟨N,T,cs⟩] st w)(hb:Below w.heap.size w w')(ho:w'.ownsRow w.heap.size 3 1 u nl xs):RowW O w0 A G ws N T cs ws.heap.size u nl xs st w' :=
 ⟨h.at_.keep2 hb (fun g hg=>by
  rcases hg with hg|hg
  ·rcases hg with hg|hg
   ·exact .inl (.inl hg)
   ·exact .inl (.inr ⟨_,List.mem_singleton.2 rfl,hg.symm⟩)
  ·exact .inr (ho.lt g hg)),qXO ho h.stay.1,h.h0.keep hb,h.stay.trans (Stay.of_below hb G)⟩
theorem RowW.end_ {c m:Nat}{B:Option Addr}{l:List Nat}(h:RowW O w0 A G ws N T cs ws.heap.size (.slice B nl c) nl (ntVs l) st w)(hm:m<=nl)(hl:(l.take m).length=m):WalkEnd O w0 A G (l.take m) st ws (.returned (.slice B m c)) w:=by
 have e:ntVs (l.take m)=(ntVs l).take m:=by unfold ntVs;rw[List.map_take]
 refine⟨_,rfl,?_,h.at_.less (fun g hg=>?_),h.stay⟩
 ·rw[hl,e]
  exact qAl h.own hm
 ·rcases hg with hg|hg
  ·exact .inl (.inl hg)
  ·refine .inr ?_
   cases B with
   | none=>exact hg
   | some a=>exact hg
theorem WalkEnd.nil_ (h:O.At w0 A G st w)(hS:Stay G ws w):WalkEnd O w0 A G [] st ws (.returned (.slice none 0 0)) w :=
 ⟨_,rfl,World.ownsRow_nil _ _ _ _,h.less (fun g hg=>by
  rcases hg with hg|hg
  ·exact hg
  ·cases hg),hS⟩
end
theorem qMX {s:Nat}(h:s<32):((2:Int)^s)%4294967296=((2^s:Nat):Int):=by
 have h1:2^s<2^32:=Nat.pow_lt_pow_right qo h
 have e:((2:Int)^s)=((2^s:Nat):Int):=by push_cast;rfl
 rw[e]
 generalize 2^s=z at *
 omega
theorem qSu {a b:Int}(h:a=b):Ending.returned (.int .u32 a) = .returned (.int .u32 b):=by rw[h]
theorem qIy (v:Nat):∀ l:List Nat,layB v l=v ||| layB 0 l:=fun l=>by
 apply Nat.eq_of_testBit_eq
 intro j
 rw[qII,Nat.testBit_or,qII,Nat.zero_testBit,Bool.false_or]
theorem qXz {l:List Nat}{k:Nat}(h:k<l.length):layB 0 (l.take (k+1))=layB 0 (l.take k) ||| 2^l.getD k 0:=by
 unfold layB
 rw[List.take_add_one,List.getElem?_eq_getElem h,List.foldl_append]
 simp[List.getD,List.getElem?_eq_getElem h]
theorem qL7 (l:List Nat)(g o c n:Nat)(hn:l.length=n)(hl:n<=32)(h32:∀ i∈l,i<32)(w:World)(hc:∀ i,i<n->w.cell? ⟨g,o+i,none⟩=some (.int .i64 ((l.getD i 0:Nat):Int))) :
  Calls Tryz.prog 158 #[.slice (some ⟨g,o,none⟩) n c] w fun e w'=>e = .returned (.int .u32 ((layB 0 l:Nat):Int))/\w=w':=by
 have HC:=qh hc
 have HLB:qH (∀ k,k<n->layB 0 (l.take (k+1))=layB 0 (l.take k) ||| 2^l.getD k 0/\l.getD k 0<32/\layB 0 (l.take k)<2^32):=qh (fun k hk=>⟨qXz qo,by
  simp[List.getD,List.getElem?_eq_getElem (show k<l.length by omega)]
  exact h32 _ (List.getElem_mem _),qJE _ _ qo (fun i hi=>h32 i (List.mem_of_mem_take hi))⟩)
 have HEND:qH (layB 0 (l.take n)=layB 0 l):=qh (by rw[List.take_of_length_le qo])
 clear hc hn h32
 go_enter Tryz.func158,Tryz.ntmps158
 go_wp2
 go_loopw [3,8] (fun t i wr=>∃ k:Nat,k<=n/\i = .int .i64 k/\t = .int .u32 ((layB 0 (l.take k):Nat):Int)/\wr=w) (fun _ i _=>n-(intOf i).toNat)
 case atStart=>exact⟨0,qo,rfl,rfl,rfl⟩
 case round =>
  obtain⟨k,hk,rfl,rfl,rfl⟩:=hrel
  by_cases hlt:k<n
  ·have c1:=HC.o k hlt
   obtain⟨e1,e2,e3⟩:=HLB.o k hlt
   have HE:=qh e1
   clear e1
   generalize l.getD k 0=x at *
   generalize layB 0 (l.take k)=y at *
   obtain⟨z,hz⟩:∃ z,2^x=z:=⟨_,rfl⟩
   have hz32:z<2^32:=by rw[<- hz];exact Nat.pow_lt_pow_right qo e2
   have e4:=qMX e2
   rw[hz] at HE e4
   have e5:x<=31:=qo
   have HO:=qh (u32_or_nat y z e3 hz32)
   clear hz
   go_wp2
   go_roundw
   case rel=>exact⟨k+1,qo,by go_num,by rw[HE.o,<- HO.o],by first|rfl|trivial|exact(by assumption)|skip⟩
   case measure=>simp[intOf];omega
  ·obtain rfl:k=n:=qo
   go_wp2
   go_ret
   exact⟨by rw[HEND.o];rfl,rfl⟩
end
end Go.Proofs.YtjjfcaliippgpaaGreatDoor
