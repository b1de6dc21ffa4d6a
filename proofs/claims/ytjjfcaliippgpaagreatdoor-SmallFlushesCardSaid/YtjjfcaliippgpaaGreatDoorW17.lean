/-
  A slice of values of 32 bits that came in, opened. (Made of XKit's open_words.)
-/
import Derived.Test.YtjjfcaliippgpaaGreatDoorW02
import Derived.Test.YtjjfcaliippgpaaGreatDoorW16
import Derived.Test.YtjjfcaliippgpaaGreatDoorW06
import Derived.Test.YtjjfcaliippgpaaGreatDoorW08
import Derived.Test.YtjjfcaliippgpaaGreatDoorW07
import Derived.Test.YtjjfcaliippgpaaGreatDoorW03
import Derived.Test.YtjjfcaliippgpaaGreatDoorW12
import Derived.Test.YtjjfcaliippgpaaGreatDoorW05
import Derived.Test.YtjjfcaliippgpaaGreatDoorW01
import Derived.Test.YtjjfcaliippgpaaGreatDoorW04
import Derived.ArgAppend
import Derived.Test.YtjjfcaliippgpaaGreatDoorW15
import Derived.Lib.SliceRun
namespace Go.Proofs.YtjjfcaliippgpaaGreatDoor
theorem RYe {P Q:Prop}(kq:Q)(h:HQ Q->P:=by
 intro kq
 refine hK.out _ _ ?_ (fun hHeld=>?_)
 ·(try dsimp only)
  all_goals trivial
 (try simp only[Act.put,gA,gB,gC,sA,sB,sC])
 revert hHeld
 exact kq.o):P:=h ⟨kq⟩
theorem MYL {P:Prop}(h:P:=by
 refine tkz 9 ?_
 refine rdz 10 fun K hK=>?_
 go_simp
 refine(qP5 (some ad) n xc (lgVs ys) (by rw[qM7,HYL.o];omega) qo (qQc ys) _ (fun _=>⟨ad,rfl,HYC.o _ (Bgo HB.o (Bdrew (B0 _)))⟩)).mono ?_
 rintro e w7 ⟨v7,rfl,hown,hb⟩
 obtain⟨A7,c7,hu7⟩:=qKK hown
 subst hu7
 have HO:=qh hown
 replace HG:=qh ((HG.o.keep (Bdrew (B0 _))).keep hb)
 replace HR:=qh ((HR.o.keep (Bdrew (B0 _))).keep hb)
 have HSZ:qH (w.heap.size<=w2.drew.heap.size):=qh (Bgo HB.o (Bdrew (B0 _))).size
 replace HB:=qh (Bgo (Bgo HB.o (Bdrew (B0 _))) hb)
 clear hb hown c0
 refine RYe ?_;clear hK K;intro hHeld
 refine tkz 11 ?_
 refine rdz 12 fun K hK=>?_
 have c0:=HG.o.pk hk
 rw[HX.o] at c0
 have f0:=HG.o.thawed k
 go_simp
 refine RYe ?_;clear hK K;intro hHeld
 refine dnz ?_
 obtain⟨WF,hWF⟩:∃ WF,w7.setCell ⟨w.heap.size,k,none⟩ (.slice A7 n c7)=WF:=⟨_,rfl⟩
 have zz:Held (w7.setCell ⟨w.heap.size,k,none⟩ (.slice A7 n c7)) _ _ (pkC (updF U k ⟨A7,n,c7⟩)):=HG.o.putP hk ⟨A7,n,c7⟩
 have hBF:=Bput HB.o (p:=⟨w.heap.size,k,none⟩) (Nat.le_refl _) (.slice A7 n c7)
 have hR2:=HR.o.far (p:=⟨w.heap.size,k,none⟩) (by show w.heap.size+1≠w.heap.size;omega) (.slice A7 n c7)
 have hO2:(w7.setCell ⟨w.heap.size,k,none⟩ (.slice A7 n c7)).ownsRow w2.drew.heap.size 2 1 (.slice A7 n c7) n (lgVs ys):=qWQ HO.o (fun j hj=>by
  have h1:=(HO.o.lt j hj).1
  have h2:=HSZ.o
  have h3:w.heap.size<w2.drew.heap.size:=HLT.o
  rw[Below.heap_setCell _ _ _ _ (by show j≠w.heap.size;omega)])
 rw[hWF] at zz hBF hR2 hO2
 rw[hWF]
 clear hWF c0 f0 HG HR HB HO
 have HG:=qh zz
 have HR:=qh hR2
 have HB:=qh hBF
 have HO:=qh hO2
 have HF:qH (∀ ad,A7=some ad->w.heap.size<=ad.block):=qh (fun ad e=>by
  subst e
  have:=(HO.o.lt ad.block (by unfold Value.ownBlock;rfl)).1
  have:=HSZ.o
  omega)
 clear zz hBF hR2 hO2
 obtain⟨U2,hU2⟩:∃ U2,updF U k ⟨A7,n,c7⟩=U2:=⟨_,rfl⟩
 have HU2:=qh hU2
 rw[hU2] at HG
 clear hU2
 obtain⟨x0,x1,x2,x3,x4,x5,x6,x7,x8⟩:=HG.o.nineP
 obtain⟨z0,z1,z2,z3,z4,z5,z6,z7,z8⟩:=HR.o.nineP
 obtain⟨f0,f1,f2,f3,f4,f5,f6,f7,f8⟩:=HR.o.thawP
 go_wp2_with fail
 go_region
 obtain⟨WF2,hWF⟩:∃ WF2,setP WF (w.heap.size+1) U2=WF2:=⟨_,rfl⟩
 have zz:=Held.setP HR.o U2
 have hBF:=qMg (g:=w.heap.size+1) HB.o qo U2
 have hOF:(setP WF (w.heap.size+1) U2).ownsRow w2.drew.heap.size 2 1 (.slice A7 n c7) n (lgVs ys):=qWQ HO.o (fun j hj=>by
  have h1:=(HO.o.lt j hj).1
  have h2:w.heap.size+1<w2.drew.heap.size:=HLT2.o
  rw[qDL qo])
 rw[hWF] at zz hBF hOF
 unfold setP at hWF
 rw[hWF]
 replace zz:=zz.keep (Bdrew (B0 _))
 replace hBF:=Bgo hBF (Bdrew (B0 _))
 replace hOF:=qEc hOF (Bdrew (B0 _))
 obtain⟨y0,y1,y2,y3,y4,y5,y6,y7,y8⟩:=zz.nineP
 clear x0 x1 x2 x3 x4 x5 x6 x7 x8 z0 z1 z2 z3 z4 z5 z6 z7 z8 f0 f1 f2 f3 f4 f5 f6 f7 f8
 go_wp2
 refine bodyPost_ret (v := .tuple #[.int .i64 a,.agg (pkC U2),.bool true]) (by simp[results,Tryz.results75,go_sem,y0,y1,y2,y3,y4,y5,y6,y7,y8]) rfl ⟨⟨A7,n,c7⟩,by rw[HU2.o],HF.o,fun j hj=>?_,hBF⟩
 by_cases e:j=k
 ·subst e
  rw[qJN,qJN]
  exact qUL (base:=w2.drew.heap.size) (by rw[HYL.o];exact hOF) HYB.o
 ·rw[qR2 _ _ e,qR2 _ _ e]
  exact(HP.o j hj).below hBF):P:=h
theorem MIf {P:Prop}(h:P:=by
 rcases Nat.lt_or_ge i l.length with h1|h1
 ·exact h1
 ·rw[List.getElem?_eq_none h1] at hz;cases hz):P:=h
end Go.Proofs.YtjjfcaliippgpaaGreatDoor
set_option linter.unusedVariables false
set_option linter.unusedSimpArgs false
set_option maxRecDepth 100000
set_option maxHeartbeats 25600000
namespace Go.Proofs.YtjjfcaliippgpaaGreatDoor
open Go.ChangeShapes Go.WideShapes Go.ChangeAt Go.RowKit
section
section
variable {H : Type} {enc : TypeId × Value -> H} {P : Program} {w : World} {base : Nat} {sp : Nat -> Bool} {held : Bool}
theorem qV8 {t e:TypeId}{v:Value}{d:DataW H}{p:List MemPlace}(ht:P.underlying t=some (.slice e))(he:P.underlying e=some (.int .u32))(hc:P.cellsOf e=1)
  {r:Reach} {b0:Nat} (hval:Value.okWide P w r b0 t v) (h:DataW.Trod enc P w base sp held t v d p) (hlt:∀ x∈p,x.block<w.heap.size) :
  ∃ (A:Option Addr) (c:Nat) (ws:List Nat),v = .slice A ws.length c/\ws.length<=c/\c<=maxLen/\(∀ x∈ws,x<2^32)/\Reads w w.heap.size 1 A ws.length (valVs ws):=by
 obtain⟨fuel,hf⟩:=h
 have hv:v.cells=#[v]:=by
  obtain⟨A,n,c,rfl⟩:=okWide_slice ht hval
  rfl
 rw[hv] at hf
 rcases open_ints ht he hc hf with ⟨hcs,_⟩|⟨a,len,cap,zs,hcs,hb,hl,hm,hz,hx,hcell,hwf⟩
 ·exact MsV
 ·injection hcs with hcs
  subst hcs
  have hlz:len<=zs.length:=by rw[hz];split <;> omega
  have hlen:((zs.take len).map Int.toNat).length=len:=qs
  refine⟨some a,cap,(zs.take len).map Int.toNat,by rw[hlen],by rw[hlen];exact hl,hm,?_,?_⟩
  ·intro x hx
   obtain⟨z,hz1,rfl⟩:=List.mem_map.1 hx
   obtain⟨n,rfl,hn⟩:=qNK (hwf z (List.mem_of_mem_take hz1))
   simpa using hn
  ·refine⟨by rw[qBt];omega,fun hn=>?_⟩
   rw[hlen] at hn
   refine⟨a,rfl,?_,fun j u hu=>?_⟩
   ·exact MfV
   ·unfold valVs at hu
    rw[List.map_map] at hu
    have hj:j<len:=by
     rcases Nat.lt_or_ge j len with h1|h1
     ·exact h1
     ·rw[List.getElem?_eq_none qs] at hu;cases hu
    rw[List.getElem?_map,List.getElem?_take_of_lt hj,List.getElem?_eq_getElem qo] at hu
    simp only[Option.map_some,Option.some.injEq,Function.comp_apply] at hu
    subst hu
    rw[hcell j qo]
    have hw:=hwf zs[j] (List.getElem_mem _)
    obtain⟨n,hn1,_⟩:=qNK hw
    exact MM6
end
end
section
theorem qFz (W:World)(t q s:Int)(A:Option Addr)(c:Nat)(vals:List Nat)(hnc:vals.length<=c)(hcm:c<=maxLen)(h32:∀ x∈vals,x<2^32)(hR:Reads W W.heap.size 1 A vals.length (valVs vals))(h:lC t q s≠0/\(vals.length:Int)=lC t q s) :
  ∃ (H:AuH) (ad:Addr),t=H.t/\q=H.p/\s=H.s/\A=some ad/\(∀ i,H.V i=vals.getD i 0)/\HeapV H vals.length c/\IsVals W ad vals.length H.V:=by
 cases hr:rightB t q s
 ·exact absurd (qJj hr).5 h.1
 ·have hn:=(qQB t q s).1 hr
  have hl:=(qVu hr).5
  have hlen:0<vals.length:=by have:=h.2;rw[hl] at this;omega
  obtain⟨ad,rfl,hb,hc⟩:=hR.2 hlen
  have hx:∀ i,i<vals.length->vals[i]?=some (vals.getD i 0):=fun i hi=>by simp[List.getD,List.getElem?_eq_getElem hi]
  refine⟨⟨t.toNat,q.toNat,s.toNat,fun i=>vals.getD i 0⟩,ad,by show t=_;simp;omega,by show q=_;simp;omega,by show s=_;simp;omega,rfl,fun i=>rfl,⟨?_,?_,hnc,hcm,fun i hi=>?_⟩,hb,fun i hi=>?_⟩
  ·show rightB ((t.toNat:Nat):Int) ((q.toNat:Nat):Int) ((s.toNat:Nat):Int)=true
   rw[show ((t.toNat:Nat):Int)=t by omega,show ((q.toNat:Nat):Int)=q by omega,show ((s.toNat:Nat):Int)=s by omega]
   exact hr
  ·show vals.length=30+4*t.toNat+6*q.toNat
   have:=h.2
   rw[hl] at this
   omega
  ·exact h32 _ (List.mem_of_getElem? (hx i hi))
  ·refine hc i _ ?_
   unfold valVs
   rw[List.getElem?_map,hx i hi]
   rfl
theorem qXV (W:World)(t q s:Int)(A:Option Addr)(c:Nat)(vals:List Nat)(hnc:vals.length<=c)(hcm:c<=maxLen)(h32:∀ x∈vals,x<2^32)(hR:Reads W W.heap.size 1 A vals.length (valVs vals)) :
  (∃ m,XCheckIs W t q s A vals.length c m false)\/∃ (H:AuH) (ad:Addr) (m:Nat),t=H.t/\q=H.p/\s=H.s/\A=some ad/\(∀ i,H.V i=vals.getD i 0)/\HeapV H vals.length c/\IsVals W ad vals.length H.V/\H.Told m true/\XCheckIs W H.t H.p H.s (some ad) vals.length c m true:=by
 by_cases h:lC t q s≠0/\(vals.length:Int)=lC t q s
 ·obtain⟨H,ad,rfl,rfl,rfl,rfl,hV,HV,hv⟩:=qFz W t q s A c vals hnc hcm h32 hR h
  obtain⟨m,b,hto⟩:=H.told_is
  have hX:=qZU HV ad W hv hto
  cases b with
  | true=>exact .inr ⟨H,ad,m,rfl,rfl,rfl,rfl,hV,HV,hv,hto,hX⟩
  | false=>exact .inl ⟨m,hX⟩
 ·exact .inl ⟨1,qTG W t q s A vals.length c hnc hcm h⟩
end
open Go.Maps
section
theorem qAW {H:AuH}{m:Nat}(h:H.Told m true):∀ i,i<10->H.rule i:=by
 rcases h with ⟨_,_,h⟩|⟨h,_⟩
 ·exact h
 ·cases h
end
section
section
variable {H H' : AuH} {n c c' : Nat} {L L' : Nat -> List Nat} {q p i : Nat}
theorem qSR (HV:HeapV H n c)(hk:H.K q=3)(hi:i<slotI (H.Cl q)):1<=H.zs q/\i*H.zs q+H.zs q<=H.pg:=by
 have h8:0<=H.Cl q/\H.Cl q<=8:=by have:=H.K_cases q;omega
 obtain⟨k,hkk⟩:=Int.eq_ofNat_of_zero_le h8.1
 have hs:10<=(H.s:Int)/\(H.s:Int)<=20:=by have:=HV.nums;omega
 unfold AuH.zs
 rw[hkk] at hi ⊢
 rw[qPN] at hi
 have hf:=qRy hs (k:=k) qo
 have hp:pageS (H.s:Int)=H.pg:=by unfold AuH.pg;rw[qVt hs,Int.toNat_natCast]
 rw[hp] at hf
 have h1:(i+1)*sizeN (H.s:Int) (k:Int)<=slotN k*sizeN (H.s:Int) (k:Int):=Nat.mul_le_mul_right _ hi
 have h2:=hf.2.2.1
 rw[Nat.mul_comm] at h2
 rw[Nat.add_mul,Nat.one_mul] at h1
 omega
theorem qPq (q i:Nat):H.slotA q i=(((q+1)*H.pg+i*H.zs q:Nat):Int):=by
 unfold AuH.slotA AuH.first
 push_cast
 rfl
theorem qBe (HV:HeapV H n c){q' i':Nat}(hk:H.K q=3)(hi:i<slotI (H.Cl q))(hk':H.K q'=3)(hi':i'<slotI (H.Cl q'))(e:H.slotA q i=H.slotA q' i'):q=q'/\i=i':=by
 obtain⟨z1,r1⟩:=qSR HV hk hi
 obtain⟨z2,r2⟩:=qSR HV hk' hi'
 rw[qPq,qPq] at e
 have e:(q+1)*H.pg+i*H.zs q=(q'+1)*H.pg+i'*H.zs q':=qo
 have hq:q=q':=by
  rcases Nat.lt_trichotomy q q' with h|h|h
  ·have h1:(q+1+1)*H.pg<=(q'+1)*H.pg:=Nat.mul_le_mul_right _ qo
   rw[Nat.add_mul (q+1),Nat.one_mul] at h1
   omega
  ·exact h
  ·have h1:(q'+1+1)*H.pg<=(q+1)*H.pg:=Nat.mul_le_mul_right _ qo
   rw[Nat.add_mul (q'+1),Nat.one_mul] at h1
   omega
 subst hq
 refine⟨rfl,?_⟩
 have e2:i*H.zs q=i'*H.zs q:=qo
 exact Nat.eq_of_mul_eq_mul_right qo e2
theorem qAC (HV:HeapV H n c)(h:H.Ok L)(z:Int):(pkA H.parts z).Nodup:=qEy (AuH.parts_contig HV h.spans.tiled) z
theorem qYh (HV:HeapV H n c)(h:H.Ok L)(HV':HeapV H' n c')(h':H'.Ok L')(hs:H'.s=H.s)(p:Nat){m:List Nat}(hm:m.Nodup)
  (h1:∀ q i,H'.hand q i↔H.hand q i\/(q=p/\i∈m)) (h2:∀ i∈m,¬ H.hand p i) (h3:∀ q i,H.hand q i->H'.Cl q=H.Cl q) (z:Int) :
  (pkA H'.parts z).Perm (pkA H.parts z++if (H'.zs p:Int)=z then m.map (H'.slotA p) else []):=by
 have ez:∀ q i,H.hand q i->H'.zs q=H.zs q/\H'.slotA q i=H.slotA q i:=fun q i hq=>by
  have e:H'.zs q=H.zs q:=by unfold AuH.zs;rw[hs,h3 q i hq]
  refine⟨e,?_⟩
  unfold AuH.slotA AuH.first AuH.pg
  rw[e,hs]
 have hin:∀ i∈m,H'.hand p i:=fun i hi=>(h1 p i).2 (.inr ⟨rfl,hi⟩)
 have hinj:∀ q i q' i',H'.hand q i->H'.hand q' i'->H'.slotA q i=H'.slotA q' i'->q=q'/\i=i':=fun q i q' i' a b e=>qBe HV' a.2.1 a.2.2.1 b.2.1 b.2.2.1 e
 refine qOq (qAC HV' h' z) ?_ fun a=>?_
 ·refine List.nodup_append.2 ⟨qAC HV h z,?_,?_⟩
  ·split
   ·refine List.pairwise_map.2 (hm.imp_of_mem fun {i j} hi hj hne e=>hne (hinj p i p j (hin i hi) (hin j hj) e).2)
   ·exact List.nodup_nil
  ·intro a ha b hb e
   subst e
   split at hb
   ·obtain⟨j,hj,e⟩:=List.mem_map.1 hb
    obtain⟨q,i,hq,_,e2⟩:=mem_pkA.1 ha
    obtain⟨rfl,rfl⟩:=hinj q i p j ((h1 q i).2 (.inl hq)) (hin j hj) (by rw[(ez q i hq).2,e2,e])
    exact h2 i hj hq
   ·simp at hb
 ·rw[mem_pkA,List.mem_append,mem_pkA]
  constructor
  ·rintro ⟨q,i,hq,hz,ha⟩
   rcases(h1 q i).1 hq with h4|⟨rfl,h4⟩
   ·exact .inl ⟨q,i,h4,by rw[<- (ez q i h4).1];exact hz,by rw[<- (ez q i h4).2];exact ha⟩
   ·exact .inr (by rw[if_pos hz];exact List.mem_map.2 ⟨i,h4,ha⟩)
  ·rintro (⟨q,i,hq,hz,ha⟩|hb)
   ·exact⟨q,i,(h1 q i).2 (.inl hq),by rw[(ez q i hq).1];exact hz,by rw[(ez q i hq).2];exact ha⟩
   ·split at hb
    ·rename_i hz
     obtain⟨i,hi,rfl⟩:=List.mem_map.1 hb
     exact⟨p,i,hin i hi,hz,rfl⟩
    ·simp at hb
end
def putZ (Z:Nat->Nat->List Int) (t0 k0:Nat) (l:List Int):Nat->Nat->List Int:=fun t k=>if t=t0/\k=k0 then l else Z t k
section
variable {Z : Nat -> Nat -> List Int} {t0 k0 k : Nat} {l : List Int}
theorem qYc:putZ Z t0 k0 l t0 k0=l:=if_pos ⟨rfl,rfl⟩
theorem qLX {t:Nat}(h:¬ (t=t0/\k=k0)):putZ Z t0 k0 l t k=Z t k:=if_neg h
theorem qAN (hk:k≠k0):∀ T,haveT (putZ Z t0 k0 l) k T=haveT Z k T
 | 0=>rfl
 | T+1=>by unfold haveT;rw[qAN hk T,qLX (fun e=>hk e.2)]
theorem qX7 (a:Int):∀ T,(haveT (putZ Z t0 k0 l) k0 T).count a+(if t0<T then (Z t0 k0).count a else 0)=(haveT Z k0 T).count a+(if t0<T then l.count a else 0)
 | 0=>rfl
 | T+1=>by
  have ih:=qX7 a T
  unfold haveT
  rw[List.count_append,List.count_append]
  rcases Nat.lt_trichotomy t0 T with h|h|h
  ·rw[if_pos h,if_pos h] at ih
   rw[if_pos qo,if_pos qo,qLX qo]
   omega
  ·subst h
   rw[if_neg qo,if_neg qo] at ih
   rw[if_pos qo,if_pos qo,qYc]
   omega
  ·rw[if_neg qo,if_neg qo] at ih
   rw[if_neg qo,if_neg qo,qLX qo]
   omega
theorem FitsP.turn {parts parts':List (Int × Int × Int)}{sz:Nat->Int}{T:Nat}(h:FitsP parts sz T Z)(ht:t0<T)(hk:k0<9)(hl:l.length<=4)
  (ho:∀ j,j<9->j≠k0->(pkA parts' (sz j)).Perm (pkA parts (sz j))) {X Y:List Int} (h1:(pkA parts' (sz k0)++X).Perm (pkA parts (sz k0)++Y)) (h2:(l++X).Perm (Z t0 k0++Y)):FitsP parts' sz T (putZ Z t0 k0 l):=by
 refine⟨fun k hk t ht=>?_,fun k hk=>?_⟩
 ·by_cases e:t=t0/\k=k0
  ·obtain⟨rfl,rfl⟩:=e;rw[qYc];exact hl
  ·rw[qLX e];exact h.few k hk t ht
 ·by_cases e:k=k0
  ·subst e
   rw[List.perm_iff_count]
   intro a
   have g1:=h1.count_eq a
   have g2:=h2.count_eq a
   have g3:=(h.perm k hk).count_eq a
   have g4:=qX7 (Z:=Z) (t0:=t0) (k0:=k) (l:=l) a T
   rw[if_pos ht,if_pos ht] at g4
   rw[List.count_append,List.count_append] at g1 g2
   omega
  ·rw[qAN e]
   exact(h.perm k hk).trans (ho k hk e).symm
end
end
section
def qXX (x:Nat):Nat:=(x+1)%4294967296
section
variable (n : Nat) (K : Nat -> Option Nat) (t q s : Int)
def onS (p i:Nat) (st:Vst):Vst :=
 putS n (getS n K (putS n (getS n K st (pageI t q s p 4)) (pageI t q s p 4) (getV n K st (pageI t q s p 4) ||| 2^i)) 1) 1
  (qXX (getV n K (putS n (getS n K st (pageI t q s p 4)) (pageI t q s p 4) (getV n K st (pageI t q s p 4) ||| 2^i)) 1))
end
section
variable {H : AuH} {n c : Nat} {K : Nat -> Option Nat} {st : Vst} {L : Nat -> List Nat} {p i : Nat}
end
end
section
theorem qOK (s:Nat)(hs:s<32)(w:World):Calls Tryz.prog 102 #[.int .i64 (s:Int)] w fun e w'=>e = .returned (.int .u32 ((2^s:Nat):Int))/\w=w':=by
 have e:=qh (qMX hs)
 have e5:s<=31:=qo
 go_enter Tryz.func102,Tryz.ntmps102
 go_wp2
 go_ret
 exact⟨qSu e.o,rfl⟩
theorem qMo {i:Nat}(hi:i<32):2^i<2^32:=Nat.pow_lt_pow_right (by decide) hi
theorem qYm {v i:Nat}(hv:v<2^32)(hi:i<32):bits .or .u32 (v:Int) ((2^i:Nat):Int)=((v ||| 2^i:Nat):Int):=u32_or_nat v (2^i) hv (qMo hi)
theorem qAL {v i:Nat}(hv:v<2^32)(hi:i<32):v ||| 2^i<2^32:=Nat.or_lt_two_pow hv (qMo hi)
theorem qHl {b:Nat}{t q s:Int}{g:Nat}{U:Nat->Sl}(k:Nat)(hk:k<9)(a:Int)(h0 : -9223372036854775808<=a)(h1:a<=9223372036854775807)(hs:spotB t q s a=true)(hr:slotB t q s (k:Int) (spotO t q s a)=true)(w:World)(hT:SlotsLaid w)(hH:Held w g 83 (hdC b t q s U)) :
  Calls Tryz.prog 77 #[.pointer (some ⟨g,0,none⟩),.int .i64 (k:Int),.int .i64 a] w fun e w'=>e = .returned (.tuple #[.int .i64 (spotP t q s a),.int .i64 (slotR t q s (k:Int) (spotO t q s a))])/\Below w.heap.size w w':=by
 have HH:=qh hH
 have HT:=qh hT
 have HB:=qh (B0 w)
 have hob:=qSv hs
 obtain⟨o,ho⟩:∃ o,spotO t q s a=o:=⟨_,rfl⟩
 rw[ho] at hr hob ⊢
 have HO:=qh ho
 have HS:=qh hs
 have HR:=qh hr
 have o0:0<=o:=hob.2.2.2.2.2.1
 have o1:o<1048576:=hob.2.2.2.2.2.2
 clear ho hs hr hH hT hob
 obtain⟨x0,x1,x2,x3⟩:=HH.o.hd4
 go_enter Tryz.func77,Tryz.ntmps77
 go_wp2_with fail
 refine(qRN t q s a h0 h1 _).mono ?_
 rintro e w2 ⟨rfl,hb⟩
 rw[HO.o,HS.o]
 replace HH:=qh (HH.o.keep hb)
 replace HB:=qh (Bgo HB.o hb)
 clear hb x0 x1 x2 x3
 obtain⟨x0,x1,x2,x3⟩:=HH.o.hd4
 go_wp2_with fail
 refine(qPv t q s (k:Int) o qo qo qo qo _ (HT.o.below HB.o)).mono ?_
 rintro e w3 ⟨rfl,hb⟩
 rw[HR.o]
 replace HB:=qh (Bgo HB.o hb)
 clear hb
 go_wp2
 go_ret2
 exact⟨rfl,HB.o⟩
section
variable {base b n : Nat} {wh all : Bool} {K : Nat -> Option Nat} {st : Vst} {w w0 : World} {A G : Nat -> Prop} {t q s k : Int}

theorem qUs (hn:n<2^40)(p:Int)(i:Nat)(hi:i<32){g:Nat}{U:Nat->Sl}(hG:G g)(hH:Held w g 83 (hdC b t q s U))(h:(vOb base b n wh K).At w0 A G st w) :
  Calls Tryz.prog 76 #[.pointer (some ⟨g,0,none⟩),.int .i64 p,.int .i64 (i:Int)] w fun e w'=>e = .returned (.tuple #[])/\(vOb base b n wh K).At w0 A G (putS n (getS n K st (pageI t q s p 4)) (pageI t q s p 4) ((getV n K st (pageI t q s p 4)) ||| 2^i)) w'/\Stay G w w':=by
 have W0:=qh (WL.start h)
 have HGG:=qh hG
 have HHD:=qh hH
 obtain⟨v,hv⟩:∃ v,getV n K st (pageI t q s p 4)=v:=⟨_,rfl⟩
 have hv32:v<2^32:=by rw[<- hv];exact qHJ h _
 have HV:=qh hv
 rw[hv]
 obtain⟨u,hu⟩:∃ u,v ||| 2^i=u:=⟨_,rfl⟩
 have HU:qH (u<2^32):=qh (by rw[<- hu];exact qAL hv32 hi)
 obtain⟨x,hx⟩:∃ x,2^i=x:=⟨_,rfl⟩
 have HX:=qh hx
 have e1:bits .or .u32 (v:Int) (x:Int)=(u:Int):=by rw[<- hu,<- hx];exact qYm hv32 hi
 rw[hu]
 clear h hv hu hv32 hx hG hH
 go_enter Tryz.func76,Tryz.ntmps76
 obtain⟨x0,x1,x2,x3⟩:=(W0.o.stay.held HGG.o HHD.o).hd4
 go_wp2_with fail
 refine(qA3 t q s p _).mono ?_;rintro e w1 ⟨rfl,hb⟩;have W1:=qh (W0.o.keep hb);clear hb W0
 obtain⟨x0,x1,x2,x3⟩:=(W1.o.stay.held HGG.o HHD.o).hd4
 go_wp2_with fail
 refine wp_region_held_drew (S:=(fun w'=>w'.cell? ⟨g,0,none⟩=some (.pointer (some ⟨b,0,none⟩)))) qr ?_ (fun hHeld=>?_)
 ·(try dsimp only)
  exact(W1.o.drew.stay.held HGG.o HHD.o).hd4.1
 refine tkz 0 ?_
 refine tkz 1 ?_
 refine tkz 2 ?_
 refine tkz 3 ?_
 refine tkz 4 ?_
 refine tkz 5 ?_
 refine tkz 6 ?_
 refine tkz 7 ?_
 refine tkz 8 ?_
 refine tkz 9 ?_
 refine tkz 11 ?_
 refine rdz 10 fun K hK=>?_
 go_simp
 refine(vGetA hn _ W1.o.drew.at_).mono ?_;rintro e w2 ⟨rfl,h1,h2⟩;have W2:=qh (W1.o.drew.call h1 h2);clear h1 h2 W1;rw[HV.o]
 refine qk ?_ (fun hHeld=>?_)
 ·exact(W2.o.stay.held HGG.o HHD.o).hd4.1
 clear hK K
 refine rdz 12 fun K hK=>?_
 go_simp
 refine(qOK i hi _).mono ?_;rintro e w9 ⟨rfl,rfl⟩;rw[HX.o]
 refine qk ?_ (fun hHeld=>?_)
 ·exact(W2.o.stay.held HGG.o HHD.o).hd4.1
 clear hK K
 refine tkz 13 ?_
 refine rdz 14 fun K hK=>?_
 go_simp
 refine(vPutA hn _ u HU.o W2.o.at_).mono ?_;rintro e w3 ⟨rfl,h1,h2⟩;have W3:=qh (W2.o.call h1 h2);clear h1 h2 W2
 refine qk ?_ (fun hHeld=>?_)
 ·exact(W3.o.stay.held HGG.o HHD.o).hd4.1
 clear hK K
 refine dnz ?_
 obtain⟨x0,x1,x2,x3⟩:=(W3.o.stay.held HGG.o HHD.o).hd4
 go_wp2
 go_end0
 exact⟨rfl,W3.o.fin⟩

theorem qP9 (hn:n<2^40){g:Nat}{U:Nat->Sl}(hG:G g)(hH:Held w g 83 (hdC b t q s U))(h:(vOb base b n wh K).At w0 A G st w) :
  Calls Tryz.prog 39 #[.pointer (some ⟨g,0,none⟩),.int .i64 1] w fun e w'=>e = .returned (.tuple #[])/\(vOb base b n wh K).At w0 A G (putS n (getS n K st 1) 1 (qXX (getV n K st 1))) w'/\Stay G w w':=by
 have W0:=qh (WL.start h)
 have HGG:=qh hG
 have HHD:=qh hH
 obtain⟨v,hv⟩:∃ v,getV n K st 1=v:=⟨_,rfl⟩
 have hv32:v<2^32:=by rw[<- hv];exact qHJ h _
 have HV:=qh hv
 rw[hv]
 obtain⟨u,hu⟩:∃ u,qXX v=u:=⟨_,rfl⟩
 have HU:qH (u<2^32):=qh (by rw[<- hu];exact Nat.mod_lt _ (by decide))
 have e1:((v:Int)+1)%4294967296=(u:Int):=by rw[<- hu];unfold qXX;omega
 have e2:IntKind.u32.wrap ((v:Int)+1)=(u:Int):=by unfold IntKind.wrap;simpa [IntKind.bits,IntKind.signed] using e1
 have e3:IntKind.u32.wrap 1=1:=by decide
 rw[hu]
 clear h hv hu hv32 hG hH
 go_enter Tryz.func39,Tryz.ntmps39
 obtain⟨x0,x1,x2,x3⟩:=(W0.o.stay.held HGG.o HHD.o).hd4
 go_wp2_with fail
 refine wp_region_held_drew (S:=(fun w'=>w'.cell? ⟨g,0,none⟩=some (.pointer (some ⟨b,0,none⟩)))) qr ?_ (fun hHeld=>?_)
 ·(try dsimp only)
  exact(W0.o.drew.stay.held HGG.o HHD.o).hd4.1
 refine tkz 0 ?_
 refine tkz 1 ?_
 refine tkz 2 ?_
 refine tkz 3 ?_
 refine tkz 4 ?_
 refine tkz 5 ?_
 refine tkz 6 ?_
 refine tkz 7 ?_
 refine tkz 9 ?_
 refine tkz 10 ?_
 refine rdz 8 fun K hK=>?_
 go_simp
 refine(vGetA hn 1 W0.o.drew.at_).mono ?_;rintro e w1 ⟨rfl,h1,h2⟩;have W1:=qh (W0.o.drew.call h1 h2);clear h1 h2 W0;rw[HV.o]
 refine qk ?_ (fun hHeld=>?_)
 ·exact(W1.o.stay.held HGG.o HHD.o).hd4.1
 clear hK K
 refine tkz 11 ?_
 refine rdz 12 fun K hK=>?_
 go_simp
 refine(vPutA hn 1 u HU.o W1.o.at_).mono ?_;rintro e w2 ⟨rfl,h1,h2⟩;have W2:=qh (W1.o.call h1 h2);clear h1 h2 W1
 refine qk ?_ (fun hHeld=>?_)
 ·exact(W2.o.stay.held HGG.o HHD.o).hd4.1
 clear hK K
 refine dnz ?_
 obtain⟨x0,x1,x2,x3⟩:=(W2.o.stay.held HGG.o HHD.o).hd4
 go_wp2
 go_end0
 exact⟨rfl,W2.o.fin⟩

theorem qCN (hn:n<2^40)(hq:q<=1024)(p i:Nat)(hp:p<=1024)(hi:i<32)(hT:SlotsLaid w0)(hA:¬ A 0)(c0:0<=(infoOf n K t q s p st).2.2.1)(c8:(infoOf n K t q s p st).2.2.1<=8){g:Nat}{U:Nat->Sl}(hG:G g)(hH:Held w g 83 (hdC b t q s U))(h:(vOb base b n wh K).At w0 A G st w) :
  Calls Tryz.prog 63 #[.pointer (some ⟨g,0,none⟩),.int .i64 (p:Int),.int .i64 (i:Int)] w fun e w'=>e = .returned (.tuple #[])/\(vOb base b n wh K).At w0 A G (giveS n K t q s p i st) w'/\Stay G w w':=by
 have W0:=qh (WL.start h)
 have HGG:=qh hG
 have HHD:=qh hH
 have HTL:=qh hT
 have C0:=qh c0
 have C8:=qh c8
 have HNA:=qh hA
 clear h hT c0 c8 hA hG hH
 go_enter Tryz.func63,Tryz.ntmps63
 obtain⟨x0,x1,x2,x3⟩:=(W0.o.stay.held HGG.o HHD.o).hd4
 go_wp2_with fail
 refine wp_region_held_drew (S:=(fun w'=>w'.cell? ⟨g,0,none⟩=some (.pointer (some ⟨b,0,none⟩))/\w'.cell? ⟨g,1,none⟩=some (.int .i64 t)/\w'.cell? ⟨g,2,none⟩=some (.int .i64 q)/\w'.cell? ⟨g,3,none⟩=some (.int .i64 s))) qr ?_ (fun hHeld=>?_)
 ·(try dsimp only)
  exact⟨(W0.o.drew.stay.held HGG.o HHD.o).hd4.1,(W0.o.drew.stay.held HGG.o HHD.o).hd4.2.1,(W0.o.drew.stay.held HGG.o HHD.o).hd4.2.2.1,(W0.o.drew.stay.held HGG.o HHD.o).hd4.2.2.2⟩
 refine tkz 0 ?_
 refine tkz 1 ?_
 refine tkz 2 ?_
 refine tkz 3 ?_
 refine tkz 4 ?_
 refine tkz 5 ?_
 refine tkz 6 ?_
 refine tkz 7 ?_
 refine tkz 8 ?_
 refine tkz 9 ?_
 refine rdz 10 fun K hK=>?_
 go_simp
 refine(qFH hn hq p i hp hi HTL.o HNA.o C0.o C8.o W0.o.drew.at_).mono ?_;rintro e w1 ⟨rfl,h1,h2⟩;have W1:=qh (W0.o.drew.call h1 h2);clear h1 h2 W0
 refine qk ?_ (fun hHeld=>?_)
 ·exact⟨(W1.o.stay.held HGG.o HHD.o).hd4.1,(W1.o.stay.held HGG.o HHD.o).hd4.2.1,(W1.o.stay.held HGG.o HHD.o).hd4.2.2.1,(W1.o.stay.held HGG.o HHD.o).hd4.2.2.2⟩
 clear hK K
 refine dnz ?_
 obtain⟨x0,x1,x2,x3⟩:=(W1.o.stay.held HGG.o HHD.o).hd4
 go_wp2
 go_end0
 exact⟨rfl,W1.o.fin⟩

end
end
section
theorem qUL {w:World}{base:Nat}{u:Value}{l:List Int}(h:w.ownsRow base 2 1 u l.length (lgVs l))(hb:∀ z∈l,-9223372036854775808<=z/\z<=9223372036854775807):LongsAt w u l:=by
 have hx:∀ {A:Option Addr} {c:Nat},u = .slice A l.length c->A≠none->True:=fun _ _=>trivial
 rcases h.2 with ⟨hu,hn⟩|⟨g,cap,cur,hu,hbs,hg,hnc,hcm,hr⟩
 ·have hl:l = []:=List.length_eq_zero_iff.1 hn
  subst hl
  exact⟨none,0,hu,Nat.le_refl _,Nat.zero_le _,hb,fun _=>⟨rfl,rfl⟩,fun ad e=>by cases e⟩
 ·refine⟨some ⟨g,0,none⟩,cap,hu,hnc,hcm,hb,(fun e=>by cases e),fun ad e=>?_⟩
  injection e with e
  subst e
  refine⟨fun _=>(h.lt g (by rw[hu];rfl)).2,fun i z hz=>?_⟩
  have hi:i<l.length:=by
   exact MIf
  subst hu
  have h1:=h.cellAt i qo
  rw[show (⟨g,0,none⟩:Addr).add i=⟨g,i,none⟩ by unfold Addr.add;by_cases h0:i=0 <;> simp[h0]]
  rw[h1]
  unfold lgVs
  rw[List.getElem?_map,hz]
  rfl
end
section
theorem qQj {w w':World}{row:Option Nat}{g:Nat}{t:TypeId}{cs:Array Value}(h:Held w g t cs)(hg:w.grownBy w' row)(hr:row≠some g):Held w' g t cs:=(hg.block g h.lt (fun e=>hr e.symm)).trans h
end
section
theorem qKE {k:Int}(h:0<=k/\k<=8):0<slotI k:=by
 obtain⟨k,rfl⟩:=Int.eq_ofNat_of_zero_le h.1
 rw[qPN]
 have hk:k<9:=qo
 match k,hk with
 | 0,_|1,_|2,_|3,_|4,_|5,_|6,_|7,_|8,_=>decide
theorem qDJ (k:Int)(h0 : -9223372036854775808<=k)(h1:k<=9223372036854775807)(b:Bool)(hb:b=true↔0<=k/\k<=8)(w:World)(hT:SlotsLaid w) :
  Calls Tryz.prog 129 #[.int .i64 k] w fun e w'=>e = .returned (.bool b)/\w=w':=by
 have HT:=qh hT
 obtain⟨n,hn⟩:∃ n,slotI k=n:=⟨_,rfl⟩
 have hB:b=decide (0<(n:Int)):=by
  rw[<- hn,Bool.eq_iff_iff,hb,decide_eq_true_eq]
  constructor
  ·intro h;have:=qKE h;omega
  ·intro h
   by_cases a:0<=k/\k<=8
   ·exact a
   ·rw[qXI qo] at h;omega
 subst hB
 clear hT hb
 have HN:=qh hn
 clear hn
 go_enter Tryz.func129,Tryz.ntmps129
 go_wp2_with fail
 refine(qCz k h0 h1 _ HT.o).mono ?_
 rintro e w1 ⟨rfl,rfl⟩
 rw[HN.o]
 go_wp2
 go_ret
 exact⟨by simp,rfl⟩
theorem qH1 (A:Option Addr)(n c:Nat)(hnc:n<=c)(hcm:c<=maxLen)(hno:A=none->n=0/\c=0)(w:World) :
  Calls Tryz.prog 136 #[.slice A n c] w fun e w'=>e = .returned (.slice A n n)/\w=w':=by
 have hc2:c<=9223372036854775807:=by unfold maxLen at hcm;omega
 go_enter Tryz.func136,Tryz.ntmps136
 cases A with
 | none =>
  obtain⟨rfl,rfl⟩:=hno rfl
  go_wp2
  go_ret
  exact⟨rfl,rfl⟩
 | some ad =>
  go_wp2
  go_ret
  exact⟨rfl,rfl⟩

theorem qVc (U:Nat->Sl)(Z:Nat->List Int)(k:Int)(h0 : -9223372036854775808<=k)(h1:k<=9223372036854775807)(w:World)(hT:SlotsLaid w)(h:PkV w U Z) :
  Calls Tryz.prog 94 #[.agg (pkC U),.int .i64 k] w fun e w'=>e = .returned (lastV (lastP Z k))/\Below w.heap.size w w':=by
 have HG:=qh (Held.new w 36 (pkC U))
 have HB:=qh (Bnew (B0 w) (.cells (pkC U) 36))
 have HP:=qh h
 have HT:=qh hT
 clear h hT
 by_cases hk:0<=k/\k<=8
 ·obtain⟨k,rfl⟩:=Int.eq_ofNat_of_zero_le hk.1
  have hk9:k<9:=qo
  rw[qUw hk9]
  obtain⟨A,c,hu,hlc,hcm,_,hno,hcl⟩:=HP.o k hk9
  have hc:=HG.o.pk hk9
  rw[hu] at hc
  clear hu
  rcases List.eq_nil_or_concat (Z k) with hz|⟨ys,a,hz⟩
  ·rw[hz] at hc hlc ⊢
   have t2:((([]:List Int).length:Int)==0)=true:=rfl
   go_enter Tryz.func94,Tryz.ntmps94
   go_wp2_with fail
   refine(qDJ (k:Int) qo qo true (by simp;try omega) _ (HT.o.below HB.o)).mono ?_
   rintro e w1 ⟨rfl,rfl⟩
   go_wp2
   go_ret2
   exact⟨rfl,HB.o⟩
  ·rw[hz] at hc hlc hcl hno ⊢
   obtain⟨n,hn⟩:∃ n,ys.length=n:=⟨_,rfl⟩
   have hl:(ys.concat a).length=n+1:=by rw[List.length_concat,hn]
   have hg:(ys.concat a).getLast?=some a:=by rw[List.concat_eq_append];simp
   have hx:(ys.concat a)[n]?=some a:=by rw[List.concat_eq_append,<- hn];simp
   rw[hl] at hc hlc
   rw[hg]
   cases A with
   | none=>exact absurd (hno rfl).1 (by rw[List.concat_eq_append];simp)
   | some ad =>
    have hb:=(hcl ad rfl).1 (by rw[List.concat_eq_append];simp)
    have hc2:=((hcl ad rfl).2 n a hx)
    have hc3:(w.alloc (.cells (pkC U) 36)).cell? (ad.add n)=some (.int .i64 a):=((Bnew (B0 w) (.cells (pkC U) 36)).cell (p:=ad.add n) (by rw[qXL];exact hb)).trans hc2
    have t2:(((n+1:Nat):Int)==0)=false:=by rw[beq_eq_false_iff_ne];omega
    have t3:((n+1:Nat):Int)-1=(n:Int):=qo
    have hn9:n+1<=9223372036854775807:=by unfold maxLen at hcm;omega
    clear hcl hno hz hl hg hx hn hc2
    go_enter Tryz.func94,Tryz.ntmps94
    go_wp2_with fail
    refine(qDJ (k:Int) qo qo true (by simp;try omega) _ (HT.o.below HB.o)).mono ?_
    rintro e w1 ⟨rfl,rfl⟩
    go_wp2_with fail
    go_region
    go_wp2
    go_ret2
    exact⟨rfl,Bgo HB.o (Bdrew (B0 _))⟩
 ·rw[qYq qo]
  go_enter Tryz.func94,Tryz.ntmps94
  go_wp2_with fail
  refine(qDJ k qo qo false (by simp;try omega) _ (HT.o.below HB.o)).mono ?_
  rintro e w1 ⟨rfl,rfl⟩
  go_wp2
  go_ret2
  exact⟨rfl,HB.o⟩

theorem qD8 (U:Nat->Sl)(Z:Nat->List Int)(k:Nat)(a:Int)(ha : -9223372036854775808<=a/\a<=9223372036854775807)(hk:k<9)(h3:(Z k).length<=3)(w:World)(hT:SlotsLaid w)(h:PkV w U Z) :
    Calls Tryz.prog 103 #[.agg (pkC U),.int .i64 (k:Int),.int .i64 a] w fun e w'=>∃ x:Sl,e = .returned (.tuple #[.agg (pkC (updF U k x)),.bool true])/\(∀ ad,x.a=some ad->w.heap.size<=ad.block)/\PkV w' (updF U k x) (updF Z k (Z k ++ [a]))/\Below w.heap.size w w':=by
  have HG:=qh ((Held.new w 36 (pkC U)).alloc (.cells #[.slice none 0 0,.slice none 0 0,.slice none 0 0,.slice none 0 0,.slice none 0 0,.slice none 0 0,.slice none 0 0,.slice none 0 0,.slice none 0 0] 36))
  have HR:qH (Held ((w.alloc (.cells (pkC U) 36)).alloc (.cells #[.slice none 0 0,.slice none 0 0,.slice none 0 0,.slice none 0 0,.slice none 0 0,.slice none 0 0,.slice none 0 0,.slice none 0 0,.slice none 0 0] 36)) (w.heap.size+1) 36 (pkC zeroU)):=qh (Held.new2 w (.cells (pkC U) 36) 36 #[.slice none 0 0,.slice none 0 0,.slice none 0 0,.slice none 0 0,.slice none 0 0,.slice none 0 0,.slice none 0 0,.slice none 0 0,.slice none 0 0])
  have HB:=qh (Bnew (Bnew (B0 w) (.cells (pkC U) 36)) (.cells #[.slice none 0 0,.slice none 0 0,.slice none 0 0,.slice none 0 0,.slice none 0 0,.slice none 0 0,.slice none 0 0,.slice none 0 0,.slice none 0 0] 36))
  have HP:=qh h
  have HT:=qh hT
  have hc1:=HG.o.pk hk
  obtain⟨A,c,hu,hlc,hcm,hbd,hno,hcl⟩:=h k hk
  obtain⟨n,hn⟩:∃ n,(Z k).length=n:=⟨_,rfl⟩
  rw[hn] at hu hlc h3
  rw[hu] at hc1
  have HN:=qh hn
  have HNO:qH (A=none->n=0/\c=0):=qh (fun e=>⟨by rw[<- hn,(hno e).1];rfl,(hno e).2⟩)
  have HCL:=qh hcl
  have HBD:=qh hbd
  obtain⟨i0,hi0,hz0,hz1,hz2⟩:=info_parts longInfo
  have t2:decide ((4:Int)<=(n:Int))=false:=qf
  have t2n:decide (4<=n)=false:=qf
  clear h hT hu hn hbd hcl hno
  go_enter Tryz.func103,Tryz.ntmps103
  go_wp2_with fail
  refine(qDJ (k:Int) qo qo true (by simp;try omega) _ (HT.o.below HB.o)).mono ?_
  rintro e w1 ⟨rfl,rfl⟩
  go_wp2_with fail
  refine(qH1 A n c hlc hcm HNO.o _).mono ?_
  rintro e w1 ⟨rfl,rfl⟩
  go_wp2_with (first
    | (at_builtin
       refine wpList_append_grows _ rfl _ _ 34 rfl 2 i0 (.int .i64 0) 1 8 Tryz.underlying34 hi0 hz0 hz1 hz2 rfl (by decide) A n n (lgVs (Z k)) rfl ?d0 ?d1 ?d2 ⟨_,0,none⟩ 1 1 [.int .i64 a] rfl rfl ?c1 ?c2 ?c3 ?c4 ?c5 ?_
       case d0=>intro e;exact⟨(HNO.o e).1,(HNO.o e).1⟩
       case d1=>rw[qM7,HN.o];omega
       case d2=>intro ad hA j y hy;obtain⟨z,hz,rfl⟩:=qSW hy;exact((Bnew HB.o (.cells #[.int .i64 a] 2)).cell (p:=ad.add j) (by rw[qXL];exact(HCL.o ad hA).1 (fun e=>by rw[e] at hz;simp at hz))).trans ((HCL.o ad hA).2 j z hz)
       case c1=>intro j y hy;rcases j with _|j;(· simp at hy;subst hy;have h9:=(Held.new ((w.alloc (.cells (pkC U) 36)).alloc (.cells #[.slice none 0 0,.slice none 0 0,.slice none 0 0,.slice none 0 0,.slice none 0 0,.slice none 0 0,.slice none 0 0,.slice none 0 0,.slice none 0 0] 36)) 2 #[.int .i64 a]).cell 0;simpa [Addr.add] using h9);(· simp at hy)
       case c2=>simp[Value.oneCell']
       case c3=>omega
       case c4=>unfold maxLen;omega
       case c5=>omega
       intro u7 w7 hown7 hgrow
       have HO7:qH (w7.ownsRow (w.heap.size+3) 2 1 u7 (n+1) (lgVs (Z k ++ [a]))):=qh (by
         have:((w.alloc (.cells (pkC U) 36)).alloc (.cells #[.slice none 0 0,.slice none 0 0,.slice none 0 0,.slice none 0 0,.slice none 0 0,.slice none 0 0,.slice none 0 0,.slice none 0 0,.slice none 0 0] 36)).heap.size+1=w.heap.size+3:=by simp
         unfold lgVs at hown7 ⊢
         rw[List.map_append]
         simpa using hown7)
       obtain⟨A7,c7,hu7⟩:=qKK HO7.o
       subst hu7
       have HF7:qH (∀ ad,A7=some ad->w.heap.size<=ad.block):=qh (fun ad e=>by
         subst e
         have:=(HO7.o.lt ad.block (by unfold Value.ownBlock;rfl)).1
         omega)
       have HB7:=qh ((Bnew HB.o (.cells #[.int .i64 a] 2)).grown hgrow (by have:=HB.o.size;simp;omega) (fun j hj=>by cases hj))
       have HG7:=qh (qQj (HG.o.alloc (.cells #[.int .i64 a] 2)) hgrow (fun e=>by cases e))
       have HR7:=qh (qQj (HR.o.alloc (.cells #[.int .i64 a] 2)) hgrow (fun e=>by cases e))
       clear hown7 hgrow HB HG HR HCL hc1
       have c0:=HG7.o.pk hk
       have g0:=HG7.o.thawed k
       obtain⟨U2,hU2⟩:∃ U2,updF U k ⟨A7,n+1,c7⟩=U2:=⟨_,rfl⟩
       have HU2:=qh hU2
       have HG8:qH (Held (w7.setCell ⟨w.heap.size,k,none⟩ (.slice A7 (n+1) c7)) w.heap.size 36 (pkC U2)):=qh (by rw[<- hU2];exact HG7.o.putP hk ⟨A7,n+1,c7⟩)
       have HR8:qH (Held (w7.setCell ⟨w.heap.size,k,none⟩ (.slice A7 (n+1) c7)) (w.heap.size+1) 36 (pkC zeroU)):=qh (HR7.o.far (p:=⟨w.heap.size,k,none⟩) (by show w.heap.size+1≠w.heap.size;omega) _)
       clear hU2
       obtain⟨x0,x1,x2,x3,x4,x5,x6,x7,x8⟩:=HG8.o.nineP
       obtain⟨z0,z1,z2,z3,z4,z5,z6,z7,z8⟩:=HR8.o.nineP
       obtain⟨f0,f1,f2,f3,f4,f5,f6,f7,f8⟩:=HR8.o.thawP)
    | fail)
  obtain⟨WF,hWF⟩:∃ WF,setP (w7.setCell ⟨w.heap.size,k,none⟩ (.slice A7 (n+1) c7)) (w.heap.size+1) U2=WF:=⟨_,rfl⟩
  have zz:=Held.setP HR8.o U2
  have hBF:=qMg (g:=w.heap.size+1) (Bput HB7.o (p:=⟨w.heap.size,k,none⟩) (Nat.le_refl _) (.slice A7 (n+1) c7)) qo U2
  have hOF:(setP (w7.setCell ⟨w.heap.size,k,none⟩ (.slice A7 (n+1) c7)) (w.heap.size+1) U2).ownsRow (w.heap.size+3) 2 1 (.slice A7 (n+1) c7) (n+1) (lgVs (Z k ++ [a])):=qWQ HO7.o (fun j hj=>by
    have:=(HO7.o.lt j hj).1
    rw[qDL qo,Below.heap_setCell _ _ _ _ (by show j≠w.heap.size;omega)])
  rw[hWF] at zz hBF hOF
  unfold setP at hWF
  rw[hWF]
  obtain⟨y0,y1,y2,y3,y4,y5,y6,y7,y8⟩:=zz.nineP
  clear x0 x1 x2 x3 x4 x5 x6 x7 x8 z0 z1 z2 z3 z4 z5 z6 z7 z8 f0 f1 f2 f3 f4 f5 f6 f7 f8
  refine bodyPost_ret (v := .tuple #[.agg (pkC U2),.bool true]) (by simp[results,Tryz.results103,go_sem,y0,y1,y2,y3,y4,y5,y6,y7,y8]) rfl ⟨⟨A7,n+1,c7⟩,by rw[HU2.o],HF7.o,fun j hj=>?_,hBF⟩
  by_cases e:j=k
  · subst e
    rw[qJN,qJN]
    have hl:(Z j ++ [a]).length=n+1:=by rw[List.length_append,HN.o];rfl
    refine qUL (base:=w.heap.size+3) (by rw[hl];exact hOF) (fun z hz=>?_)
    rcases List.mem_append.1 hz with hz|hz
    · exact HBD.o z hz
    · rw[List.mem_singleton] at hz;subst hz;exact ha
  · rw[qR2 _ _ e,qR2 _ _ e]
    exact(HP.o j hj).below hBF
end
section
def onPg (t q s:Int) (p:Int) (a:Int):Bool:=spotB t q s a&&decide (spotP t q s a=p)
end
section
theorem qKq {l:List Int}{i:Nat}{z:Int}(f:Int->Bool)(hz:l[i]?=some z):(l.take (i+1)).filter f=(l.take i).filter f++if f z=true then [z] else []:=by
 rw[List.take_add_one,hz]
 show List.filter f (l.take i ++ [z])=_
 rw[List.filter_append]
 congr 1
 by_cases h:f z=true
 ·rw[if_pos h,List.filter_cons_of_pos h];rfl
 ·rw[if_neg h,List.filter_cons_of_neg h];rfl
end
section
theorem qP5 (A:Option Addr)(n c:Nat)(xs:List Value)(hl:xs.length=n*1)(hmx:n*8<=140737488355328)(h1:∀ u∈xs,u.oneCell'=true)(w:World)
    (hA:0<n->∃ ad,A=some ad/\∀ j u,xs[j]?=some u->w.cell? (ad.add j)=some u) :
    Calls Tryz.prog 110 #[.slice A n c] w fun e w'=>∃ v,e = .returned v/\w'.ownsRow w.heap.size 2 1 v n xs/\Below w.heap.size w w':=by
  have q22:∀ (w:World) (a:Option Addr) (n c n' c':Nat),(binOp .eql 34 (.slice a n c) (.slice none n' c')).run Tryz.prog w = .ok (.bool a.isNone) w:=fun w a n c n' c'=>Lib.run_eql_slice_nil w _ _ a n c n' c' Tryz.underlying34
  cases A with
  | none =>
    have hn:n=0:=by
      exact MQM
    subst hn
    have hx:xs = []:=List.eq_nil_of_length_eq_zero qo
    subst hx
    go_enter Tryz.func110,Tryz.ntmps110
    go_wp2
    go_ret
    exact⟨_,rfl,World.ownsRow_nil _ _ _ _,B0 _⟩
  | some ad =>
    obtain⟨i0,hi,hz0,hz1,hz2⟩:=info_parts longInfo
    have HC:qH (∀ j u,xs[j]?=some u->w.cell? (ad.add j)=some u):=qh (fun j u hu=>by
      rcases Nat.eq_zero_or_pos n with h|h
      ·exact MIZ
      · obtain⟨ad',h2,h3⟩:=hA h
        injection h2 with h2
        subst h2
        exact h3 j u hu)
    clear hA
    go_enter Tryz.func110,Tryz.ntmps110
    go_wp2_with (at_builtin
                 refine wpList_append_own _ rfl _ _ 34 rfl w.heap.size 2 i0 (.int .i64 0) 1 8 Tryz.underlying34 hi hz0 hz1 hz2 rfl (by decide) _ 0 [] rfl (World.ownsRow_made w #[] 0 (Nat.le_refl _) (Nat.zero_le _) (by simp)) ad n c xs rfl ?c1 ?c2 ?c3 ?c4 ?c5 ?c6 ?_)
    case c1=>exact hl
    case c2=>exact fun j u hj=>Lib.cell?_alloc_some _ (HC.o j u hj)
    case c3=>exact h1
    case c4=>rw[Nat.zero_add];unfold maxLen;omega
    case c5=>rw[Nat.zero_add];exact hmx
    case c6=>simp
    intro v' w1 hown hgrow hnil
    have HB:=qh (((Below.refl _ w).alloc (Nat.le_refl _) (.cells #[] 2)).grown hgrow (by simp) (by intro k hk;simp[Value.ownBlock] at hk;omega))
    have HO:=qh hown
    clear hgrow hown hnil
    go_wp2
    go_ret
    exact⟨_,rfl,by simpa using HO.o,HB.o⟩
theorem qQc (l:List Int):∀ u∈lgVs l,u.oneCell'=true:=fun y hy=>by
 obtain⟨j,hj⟩:=List.mem_iff_getElem?.1 hy
 obtain⟨z,_,rfl⟩:=qSW hj
 simp[Value.oneCell']

theorem qAa (U:Nat->Sl)(Z:Nat->List Int)(k:Int)(h0 : -9223372036854775808<=k)(h1:k<=9223372036854775807)(w:World)(hT:SlotsLaid w)(h:PkV w U Z)(hn:lastP Z k=none) :
  Calls Tryz.prog 75 #[.agg (pkC U),.int .i64 k] w fun e w'=>e = .returned (.tuple #[.int .i64 0,.agg (pkC U),.bool false])/\Below w.heap.size w w':=by
 have HG:=qh ((Held.new w 36 (pkC U)).alloc (.cells #[.slice none 0 0,.slice none 0 0,.slice none 0 0,.slice none 0 0,.slice none 0 0,.slice none 0 0,.slice none 0 0,.slice none 0 0,.slice none 0 0] 36))
 have HR:=qh (Held.new2 w (.cells (pkC U) 36) 36 #[.slice none 0 0,.slice none 0 0,.slice none 0 0,.slice none 0 0,.slice none 0 0,.slice none 0 0,.slice none 0 0,.slice none 0 0,.slice none 0 0])
 have HB:=qh (Bnew (Bnew (B0 w) (.cells (pkC U) 36)) (.cells #[.slice none 0 0,.slice none 0 0,.slice none 0 0,.slice none 0 0,.slice none 0 0,.slice none 0 0,.slice none 0 0,.slice none 0 0,.slice none 0 0] 36))
 have HP:=qh h
 have HT:=qh hT
 have HN:=qh hn
 clear h hn hT
 obtain⟨x0,x1,x2,x3,x4,x5,x6,x7,x8⟩:=HG.o.nineP
 go_enter Tryz.func75,Tryz.ntmps75
 go_wp2_with fail
 refine(qVc U Z k h0 h1 _ (HT.o.below HB.o) (HP.o.below HB.o)).mono ?_
 rintro e w2 ⟨rfl,hb⟩
 rw[HN.o,show lastV none = .tuple #[.int .i64 0,.bool false] from rfl]
 replace HG:=qh (HG.o.keep hb)
 replace HR:qH (Held w2 (w.heap.size+1) 36 (pkC zeroU)):=qh (HR.o.keep hb)
 replace HB:=qh (Bgo HB.o hb)
 clear hb x0 x1 x2 x3 x4 x5 x6 x7 x8
 obtain⟨x0,x1,x2,x3,x4,x5,x6,x7,x8⟩:=HG.o.nineP
 obtain⟨z0,z1,z2,z3,z4,z5,z6,z7,z8⟩:=HR.o.nineP
 obtain⟨f0,f1,f2,f3,f4,f5,f6,f7,f8⟩:=HR.o.thawP
 go_wp2_with fail
 go_region
 obtain⟨WF,hWF⟩:∃ WF,setP w2 (w.heap.size+1) U=WF:=⟨_,rfl⟩
 have zz:=Held.setP HR.o U
 have hBF:=qMg (g:=w.heap.size+1) HB.o qo U
 rw[hWF] at zz hBF
 unfold setP at hWF
 rw[hWF]
 replace zz:=zz.keep (Bdrew (B0 _))
 replace hBF:=Bgo hBF (Bdrew (B0 _))
 obtain⟨y0,y1,y2,y3,y4,y5,y6,y7,y8⟩:=zz.nineP
 clear x0 x1 x2 x3 x4 x5 x6 x7 x8 z0 z1 z2 z3 z4 z5 z6 z7 z8 f0 f1 f2 f3 f4 f5 f6 f7 f8
 go_wp2
 exact bodyPost_ret (v := .tuple #[.int .i64 0,.agg (pkC U),.bool false]) (by simp[results,Tryz.results75,go_sem,y0,y1,y2,y3,y4,y5,y6,y7,y8]) rfl ⟨rfl,hBF⟩
end
section
theorem qL1 (U:Nat->Sl)(Z:Nat->List Int)(k:Nat)(ys:List Int)(a:Int)(hk:k<9)(hz:Z k=ys ++ [a])(h4:ys.length<=1000000)(w:World)(hT:SlotsLaid w)(h:PkV w U Z) :
  Calls Tryz.prog 75 #[.agg (pkC U),.int .i64 (k:Int)] w fun e w'=>∃ x:Sl,e = .returned (.tuple #[.int .i64 a,.agg (pkC (updF U k x)),.bool true])/\(∀ ad,x.a=some ad->w.heap.size<=ad.block)/\PkV w' (updF U k x) (updF Z k ys)/\Below w.heap.size w w':=by
 have HG:=qh ((Held.new w 36 (pkC U)).alloc (.cells #[.slice none 0 0,.slice none 0 0,.slice none 0 0,.slice none 0 0,.slice none 0 0,.slice none 0 0,.slice none 0 0,.slice none 0 0,.slice none 0 0] 36))
 have HR:=qh (Held.new2 w (.cells (pkC U) 36) 36 #[.slice none 0 0,.slice none 0 0,.slice none 0 0,.slice none 0 0,.slice none 0 0,.slice none 0 0,.slice none 0 0,.slice none 0 0,.slice none 0 0])
 have HB:=qh (Bnew (Bnew (B0 w) (.cells (pkC U) 36)) (.cells #[.slice none 0 0,.slice none 0 0,.slice none 0 0,.slice none 0 0,.slice none 0 0,.slice none 0 0,.slice none 0 0,.slice none 0 0,.slice none 0 0] 36))
 have HP:=qh h
 have HT:=qh hT
 have HN:qH (lastP Z (k:Int)=some a):=qh (by rw[qUw hk,hz];simp)
 obtain⟨A,c,hu,hlc,hcm,hbd,hno,hcl⟩:=h k hk
 obtain⟨n,hn⟩:∃ n,ys.length=n:=⟨_,rfl⟩
 have hl:(Z k).length=n+1:=by rw[hz,List.length_append,hn];rfl
 rw[hl] at hu hlc
 rw[hn] at h4
 have HYL:=qh hn
 obtain⟨x,hx⟩:∃ x,U k=x:=⟨_,rfl⟩
 rw[hx] at hu
 obtain⟨xa,xn,xc⟩:=x
 injection hu with e1 e2 e3
 have e1:xa=A:=e1
 have e2:xn=n+1:=e2
 have e3:xc=c:=e3
 subst e1 e2 e3
 have HX:=qh hx
 have hxa:xa≠none:=fun e=>absurd (hno e).1 (by rw[hz];simp)
 have hn9:n+1<=9223372036854775807:=by unfold maxLen at hcm;omega
 obtain⟨ad,rfl⟩:∃ ad,xa=some ad:=by cases xa with|none=>exact absurd rfl hxa|some ad=>exact⟨ad,rfl⟩
 have HYB:qH (∀ z∈ys,-9223372036854775808<=z/\z<=9223372036854775807):=qh (fun z hz2=>hbd z (by rw[hz];exact List.mem_append_left _ hz2))
 have HYC:qH (∀ w',Below w.heap.size w w'->∀ j u,(lgVs ys)[j]?=some u->w'.cell? (ad.add j)=some u):=qh (fun w' hb j u hu=>by
  obtain⟨z,hz2,rfl⟩:=qSW hu
  have h1:=(hcl ad rfl).1 (by rw[hz];simp)
  refine(hb.cell (p:=ad.add j) (by rw[qXL];exact h1)).trans ((hcl ad rfl).2 j z ?_)
  rw[hz,List.getElem?_append_left (by
   rcases Nat.lt_or_ge j ys.length with h1|h1
   ·exact h1
   ·rw[List.getElem?_eq_none h1] at hz2;cases hz2)]
  exact hz2)
 have hki:(k:Int)<9:=qo
 have hxc:n+1<=xc:=hlc
 have t3:((n+1:Nat):Int)-1=(n:Int):=qo
 have t4:IntKind.i64.wrap (n:Int)=(n:Int):=qIv qo qo
 have t5:0<=(n:Int)/\(n:Int)<=(xc:Int):=⟨qo,qo⟩
 have h0 : -9223372036854775808<=(k:Int):=qo
 have h1:(k:Int)<=9223372036854775807:=qo
 clear h hT hz hl hx hbd hno hcl hn hxa
 obtain⟨x0,x1,x2,x3,x4,x5,x6,x7,x8⟩:=HG.o.nineP
 go_enter Tryz.func75,Tryz.ntmps75
 go_wp2_with fail
 refine(qVc U Z k h0 h1 _ (HT.o.below HB.o) (HP.o.below HB.o)).mono ?_
 rintro e w2 ⟨rfl,hb⟩
 rw[HN.o,show lastV (some a) = .tuple #[.int .i64 a,.bool true] from rfl]
 replace HG:=qh (HG.o.keep hb)
 replace HR:qH (Held w2 (w.heap.size+1) 36 (pkC zeroU)):=qh (HR.o.keep hb)
 replace HB:=qh (Bgo HB.o hb)
 clear hb x0 x1 x2 x3 x4 x5 x6 x7 x8
 have HLT:qH (w.heap.size<w2.drew.heap.size):=qh HG.o.lt
 have HLT2:qH (w.heap.size+1<w2.drew.heap.size):=qh HR.o.lt
 have c0:=HG.o.pk hk
 rw[HX.o] at c0
 go_wp2_with fail
 refine wp_region_held_drew (S:=(fun _=>True)) qr ?_ (fun hHeld=>?_)
 ·trivial
 refine tkz 0 ?_
 refine tkz 1 ?_
 refine tkz 2 ?_
 refine tkz 4 ?_
 refine tkz 5 ?_
 refine wpAnyH_ready (rs := [3,6]) qr (by simp) ?_
 refine AllReadyH.cons (o:=_) rfl (fun K hK=>?_) (AllReadyH.cons (o:=_) rfl (fun K hK=>?_) AllReadyH.nil)
 ·go_simp
  refine RYe ?_;clear hK K;intro hHeld
  refine rdz 6 fun K hK=>?_
  go_simp
  skip
  refine RYe ?_;clear hK K;intro hHeld
  refine tkz 7 ?_
  refine tkz 8 ?_
  exact MYL
 ·go_simp
  refine RYe ?_;clear hK K;intro hHeld
  refine tkz 7 ?_
  refine tkz 8 ?_
  refine rdz 3 fun K hK=>?_
  go_simp
  skip
  refine RYe ?_;clear hK K;intro hHeld
  exact MYL
end
section
section
variable {O : Ob} {w w0 : World} {A Q G : Nat -> Prop} {g b : Nat} {t q s : Int} {U : Nat -> Sl} {Z : Nat -> List Int} {st : Vst}

theorem qIu (k:Nat)(hk:k<9)(p i a:Int)(ha:atI t q s (k:Int) p i=a)(hab : -9223372036854775808<=a/\a<=9223372036854775807)(h3:(Z k).length<=3)(hT:SlotsLaid w)(h:Hnd O w0 A Q G w g b t q s U Z st w) :
  Calls Tryz.prog 62 #[.pointer (some ⟨g,0,none⟩),.int .i64 (k:Int),.int .i64 p,.int .i64 i] w fun e w'=>e = .returned (.bool true)/\∃ x:Sl,(∀ ad,x.a=some ad->w.heap.size<=ad.block)/\Turns (fun i=>i=g) w w'/\Hnd O w0 A Q G w g b t q s (updF U k x) (updF Z k (Z k ++ [a])) st w':=by
 have HN:=qh h
 have HT:=qh hT
 have HA:=qh ha
 have HB:=qh (B0 w)
 clear h hT ha
 obtain⟨x0,x1,x2,x3⟩:=HN.o.held.hd4
 obtain⟨u0,u1,u2,u3,u4,u5,u6,u7,u8⟩:=HN.o.held.hdU
 go_enter Tryz.func62,Tryz.ntmps62
 go_wp2_with fail
 refine(qSa t q s (k:Int) p i qo qo _ HT.o).mono ?_
 rintro e w2 ⟨rfl,hb⟩
 rw[HA.o]
 replace HN:=qh (HN.o.keep hb)
 replace HB:=qh (Bgo HB.o hb)
 clear hb
 clear x0 x1 x2 x3 u0 u1 u2 u3 u4 u5 u6 u7 u8
 obtain⟨x0,x1,x2,x3⟩:=HN.o.held.hd4
 obtain⟨u0,u1,u2,u3,u4,u5,u6,u7,u8⟩:=HN.o.held.hdU
 go_wp2_with fail
 refine(qD8 U Z k a hab hk h3 _ (HT.o.below HB.o) HN.o.p.pk).mono ?_
 rintro e w3 ⟨x,rfl,hx,hV,hb⟩
 have HNT:=qh (HN.o.turn hb hV (fun i hi=>hi.turn_new hx))
 have HX:=qh (fun ad (e:x.a=some ad)=>Nat.le_trans HB.o.size (hx ad e))
 have HTU:=qh (fun V=>Turns.setH (F:=fun i=>i=g) (Turns.of_below (Bgo HB.o hb) _) rfl V)
 replace HN:=qh (HN.o.keep hb)
 obtain⟨U2,hU2⟩:∃ U2,(updF U k x)=U2:=⟨_,rfl⟩
 have HU2:=qh hU2
 rw[hU2] at HNT ⊢
 clear hb hx hV hU2 HB HT HA
 clear x0 x1 x2 x3 u0 u1 u2 u3 u4 u5 u6 u7 u8
 obtain⟨x0,x1,x2,x3⟩:=HN.o.held.hd4
 obtain⟨u0,u1,u2,u3,u4,u5,u6,u7,u8⟩:=HN.o.held.hdU
 obtain⟨f0,f1,f2,f3,f4,f5,f6,f7,f8⟩:=HN.o.held.hdF
 have HN4:=qh (HN.o.keep (Bnew (B0 _) (.cells (pkC U2) 36)))
 obtain⟨y0,y1,y2,y3,y4,y5,y6,y7,y8⟩:=HN4.o.held.hdU
 obtain⟨e0,e1,e2,e3,e4,e5,e6,e7,e8⟩:=HN4.o.held.hdF
 have hgl:=HN.o.held.lt
 go_wp2_with fail
 obtain⟨WF,hWF⟩:∃ WF,setH w3 g U2=WF:=⟨_,rfl⟩
 have HTW:=qh (HTU.o U2)
 rw[hWF] at HNT HTW
 unfold setH at hWF
 rw[hWF]
 replace HTW:=qh (HTW.o.trans (Turns.of_below (Bnew (B0 _) (.cells (pkC U2) 36)) _))
 clear hWF f0 f1 f2 f3 f4 f5 f6 f7 f8 x0 x1 x2 x3 u0 u1 u2 u3 u4 u5 u6 u7 u8 y0 y1 y2 y3 y4 y5 y6 y7 y8 e0 e1 e2 e3 e4 e5 e6 e7 e8 hgl HN HN4
 go_wp2
 go_ret
 exact⟨rfl,x,HX.o,HTW.o,by rw[HU2.o];exact HNT.o.keep (Bnew (B0 _) _)⟩

theorem qJY (k:Int)(k0 : -9223372036854775808<=k)(k1:k<=9223372036854775807)(hn:lastP Z k=none)(hT:SlotsLaid w)(h:Hnd O w0 A Q G w g b t q s U Z st w) :
  Calls Tryz.prog 37 #[.pointer (some ⟨g,0,none⟩),.int .i64 k] w fun e w'=>e = .returned (.tuple #[.int .i64 0,.bool false])/\Hnd O w0 A Q G w g b t q s U Z st w':=by
 have HN:=qh h
 have HT:=qh hT
 have HL:=qh hn
 clear h hT hn
 obtain⟨x0,x1,x2,x3⟩:=HN.o.held.hd4
 obtain⟨u0,u1,u2,u3,u4,u5,u6,u7,u8⟩:=HN.o.held.hdU
 go_enter Tryz.func37,Tryz.ntmps37
 go_wp2_with fail
 refine(qAa U Z k k0 k1 _ HT.o HN.o.p.pk HL.o).mono ?_
 rintro e w3 ⟨rfl,hb⟩
 replace HN:=qh (HN.o.keep hb)
 clear hb
 clear x0 x1 x2 x3 u0 u1 u2 u3 u4 u5 u6 u7 u8
 obtain⟨x0,x1,x2,x3⟩:=HN.o.held.hd4
 obtain⟨u0,u1,u2,u3,u4,u5,u6,u7,u8⟩:=HN.o.held.hdU
 go_wp2
 go_ret2
 exact⟨rfl,HN.o.keep (Bnew (B0 _) _)⟩
end
section
variable {base b n : Nat} {wh : Bool} {K : Nat -> Option Nat} {st : Vst} {w w0 : World} {A Q G : Nat -> Prop} {g : Nat} {t q s : Int} {U : Nat -> Sl} {Z : Nat -> List Int}
theorem qLk (hn:n<2^40)(k:Nat)(hk:k<9)(ys:List Int)(a:Int)(hz:Z k=ys ++ [a])(h4:ys.length<=1000000)(hs:spotB t q s a=true)(hr:slotB t q s (k:Int) (spotO t q s a)=true)(p:Int)(i:Nat)(hp:spotP t q s a=p)(hi:slotR t q s (k:Int) (spotO t q s a)=(i:Int))(hi32:i<32)
  (hT:SlotsLaid w0) (hA:¬ A 0) (h:Hnd (vOb base b n wh K) w0 A Q G w g b t q s U Z st w) :
  Calls Tryz.prog 37 #[.pointer (some ⟨g,0,none⟩),.int .i64 (k:Int)] w fun e w'=>e = .returned (.tuple #[.int .i64 a,.bool true])/\∃ x:Sl,(∀ ad,x.a=some ad->w.heap.size<=ad.block) /\
   Hnd (vOb base b n wh K) w0 A Q G w g b t q s (updF U k x) (updF Z k ys) (putS n (getS n K st (pageI t q s p 4)) (pageI t q s p 4) (getV n K st (pageI t q s p 4) ||| 2^i)) w':=by
 have HN:=qh h
 have HT:=qh hT
 have HZ:=qh hz
 have HS:=qh hs
 have HR:=qh hr
 have HP:=qh hp
 have HI:=qh hi
 have hab : -9223372036854775808<=a/\a<=9223372036854775807:=by
  have:=qSv hs
  omega
 clear h hT hz hs hr hp hi
 obtain⟨x0,x1,x2,x3⟩:=HN.o.held.hd4
 obtain⟨u0,u1,u2,u3,u4,u5,u6,u7,u8⟩:=HN.o.held.hdU
 go_enter Tryz.func37,Tryz.ntmps37
 go_wp2_with fail
 refine(qL1 U Z k ys a hk HZ.o h4 _ (HT.o.at_ hA HN.o.at_) HN.o.p.pk).mono ?_
 rintro e w3 ⟨x,rfl,hx,hV,hb⟩
 have HNT:=qh (HN.o.turn hb hV (fun i hi=>hi.turn_new hx))
 have HX:=qh hx
 replace HN:=qh (HN.o.keep hb)
 obtain⟨U2,hU2⟩:∃ U2,updF U k x=U2:=⟨_,rfl⟩
 have HU2:=qh hU2
 rw[hU2] at HNT ⊢
 clear hb hx hV hU2 HZ
 clear x0 x1 x2 x3 u0 u1 u2 u3 u4 u5 u6 u7 u8
 obtain⟨x0,x1,x2,x3⟩:=HN.o.held.hd4
 obtain⟨u0,u1,u2,u3,u4,u5,u6,u7,u8⟩:=HN.o.held.hdU
 obtain⟨f0,f1,f2,f3,f4,f5,f6,f7,f8⟩:=HN.o.held.hdF
 have HN4:=qh (HN.o.keep (Bnew (B0 _) (.cells (pkC U2) 36)))
 obtain⟨y0,y1,y2,y3,y4,y5,y6,y7,y8⟩:=HN4.o.held.hdU
 obtain⟨e0,e1,e2,e3,e4,e5,e6,e7,e8⟩:=HN4.o.held.hdF
 have hgl:=HN.o.held.lt
 go_wp2_with fail
 obtain⟨WF,hWF⟩:∃ WF,setH w3 g U2=WF:=⟨_,rfl⟩
 rw[hWF] at HNT
 unfold setH at hWF
 rw[hWF]
 replace HNT:=qh (HNT.o.keep (Bnew (B0 _) (.cells (pkC U2) 36)))
 clear hWF f0 f1 f2 f3 f4 f5 f6 f7 f8 x0 x1 x2 x3 u0 u1 u2 u3 u4 u5 u6 u7 u8 y0 y1 y2 y3 y4 y5 y6 y7 y8 e0 e1 e2 e3 e4 e5 e6 e7 e8 hgl HN HN4
 generalize hw4:WF.alloc (.cells (pkC U2) 36)=w4 at *
 clear hw4
 refine(qHl k hk a hab.1 hab.2 HS.o HR.o _ (HT.o.at_ hA HNT.o.at_) HNT.o.held).mono ?_
 rintro e w5 ⟨rfl,hb⟩
 rw[HP.o,HI.o]
 replace HNT:=qh (HNT.o.keep hb)
 clear hb
 go_wp2_with fail
 refine(qUs hn p i hi32 HG.hand HNT.o.held HNT.o.at_).mono ?_
 rintro e w6 ⟨rfl,h1,h2⟩
 replace HNT:=qh (HNT.o.call h1 h2)
 clear h1 h2
 go_wp2
 go_ret2
 exact⟨rfl,x,HX.o,by rw[HU2.o];exact HNT.o⟩

end
end
end Go.Proofs.YtjjfcaliippgpaaGreatDoor
