/-
  A slice of values of 32 bits that came in, opened. (Made of XKit's open_words.)
-/
import Derived.Test.YtgifnhcknodekaaGreatC02
import Derived.Test.YtgifnhcknodekaaGreatC13
import Derived.Test.YtgifnhcknodekaaGreatC07
import Derived.Test.YtgifnhcknodekaaGreatC09
import Derived.Test.YtgifnhcknodekaaGreatC06
import Derived.Test.YtgifnhcknodekaaGreatC03
import Derived.Test.YtgifnhcknodekaaGreatC01
import Derived.Deep.RegionHeld3
import Derived.Test.YtgifnhcknodekaaGreatC05
import Derived.Test.YtgifnhcknodekaaGreatC04
import Derived.Test.YtgifnhcknodekaaGreatC08
namespace Go.Proofs.YtgifnhcknodekaaGreat
theorem MnD {P:Prop}(h:P:=by
 go_enter Tryz.func47,Tryz.ntmps47
 go_wp2_with fail
 refine(qYm a _).mono ?_;rintro e w1 ⟨rfl,rfl⟩
 go_wp2_with fail
 refine(qYm b _).mono ?_;rintro e w1 ⟨rfl,rfl⟩
 go_wp2
 go_ret
 exact⟨rfl,B0 _⟩):P:=h
theorem Mch {P:Prop}(h:P:=by
 go_enter Tryz.func17,Tryz.ntmps17
 go_wp2
 go_ret
 exact⟨rfl,HB.o⟩):P:=h
theorem MJH {P:Prop}(h:P:=by
 clear hb HC HX x0 x1 x2 y0 y1 y2 y3 v0 v1 v2
 obtain⟨y0,y1,y2⟩:=HI.o.three
 go_wp2
 go_ret
 exact⟨rfl,HB.o⟩):P:=h
end Go.Proofs.YtgifnhcknodekaaGreat
set_option linter.unusedVariables false
set_option linter.unusedSimpArgs false
set_option maxRecDepth 100000
set_option maxHeartbeats 25600000
namespace Go.Proofs.YtgifnhcknodekaaGreat
open Go.ChangeShapes Go.WideShapes Go.ChangeAt Go.RowKit
section
section
variable {H : Type} {enc : TypeId × Value -> H} {P : Program} {w : World} {base : Nat} {sp : Nat -> Bool} {held : Bool}
theorem qV8 {t e:TypeId}{v:Value}{d:DataW H}{p:List MemPlace}(ht:P.underlying t=some (.slice e))(he:P.underlying e=some (.int .u32))(hc:P.cellsOf e=1)
  {r:Reach} {b0:Nat} (hval:Value.okWide P w r b0 t v) (h:DataW.Trod enc P w base sp held t v d p) (hlt:∀ x∈p,x.block<w.heap.size) :
  ∃ (A:Option Addr) (c:Nat) (ws:List Nat),v = .slice A ws.length c/\ws.length<=c/\c<=maxLen/\(∀ x∈ws,x<2^32)/\Reads w w.heap.size 1 A ws.length (valVs ws):=by
 obtain⟨fuel,hf⟩:=h
 have hv:v.cells=#[v]:=by
  obtain⟨A,n,c,rfl⟩:=okWide_slice ht hval
  rfl
 rw[hv] at hf
 rcases open_ints ht he hc hf with ⟨hcs,_⟩|⟨a,len,cap,zs,hcs,hb,hl,hm,hz,hx,hcell,hwf⟩
 ·exact MsV
 ·injection hcs with hcs
  subst hcs
  have hlz:len<=zs.length:=by rw[hz];split <;> omega
  have hlen:((zs.take len).map Int.toNat).length=len:=qs
  refine⟨some a,cap,(zs.take len).map Int.toNat,by rw[hlen],by rw[hlen];exact hl,hm,?_,?_⟩
  ·intro x hx
   obtain⟨z,hz1,rfl⟩:=List.mem_map.1 hx
   obtain⟨n,rfl,hn⟩:=qNK (hwf z (List.mem_of_mem_take hz1))
   simpa using hn
  ·refine⟨by rw[qRT];omega,fun hn=>?_⟩
   rw[hlen] at hn
   refine⟨a,rfl,?_,fun j u hu=>?_⟩
   ·exact MfV
   ·unfold valVs at hu
    rw[List.map_map] at hu
    have hj:j<len:=by
     rcases Nat.lt_or_ge j len with h1|h1
     ·exact h1
     ·rw[List.getElem?_eq_none qs] at hu;cases hu
    rw[List.getElem?_map,List.getElem?_take_of_lt hj,List.getElem?_eq_getElem qo] at hu
    simp only[Option.map_some,Option.some.injEq,Function.comp_apply] at hu
    subst hu
    rw[hcell j qo]
    have hw:=hwf zs[j] (List.getElem_mem _)
    obtain⟨n,hn1,_⟩:=qNK hw
    exact MM6
end
end
section
theorem qFz (W:World)(t q s:Int)(A:Option Addr)(c:Nat)(vals:List Nat)(hnc:vals.length<=c)(hcm:c<=maxLen)(h32:∀ x∈vals,x<2^32)(hR:Reads W W.heap.size 1 A vals.length (valVs vals))(h:lC t q s≠0/\(vals.length:Int)=lC t q s) :
  ∃ (H:AuH) (ad:Addr),t=H.t/\q=H.p/\s=H.s/\A=some ad/\(∀ i,H.V i=vals.getD i 0)/\HeapV H vals.length c/\IsVals W ad vals.length H.V:=by
 cases hr:rightB t q s
 ·exact absurd (qJj hr).5 h.1
 ·have hn:=(qQB t q s).1 hr
  have hl:=(qVu hr).5
  have hlen:0<vals.length:=by have:=h.2;rw[hl] at this;omega
  obtain⟨ad,rfl,hb,hc⟩:=hR.2 hlen
  have hx:∀ i,i<vals.length->vals[i]?=some (vals.getD i 0):=fun i hi=>by simp[List.getD,List.getElem?_eq_getElem hi]
  refine⟨⟨t.toNat,q.toNat,s.toNat,fun i=>vals.getD i 0⟩,ad,by show t=_;simp;omega,by show q=_;simp;omega,by show s=_;simp;omega,rfl,fun i=>rfl,⟨?_,?_,hnc,hcm,fun i hi=>?_⟩,hb,fun i hi=>?_⟩
  ·show rightB ((t.toNat:Nat):Int) ((q.toNat:Nat):Int) ((s.toNat:Nat):Int)=true
   rw[show ((t.toNat:Nat):Int)=t by omega,show ((q.toNat:Nat):Int)=q by omega,show ((s.toNat:Nat):Int)=s by omega]
   exact hr
  ·show vals.length=30+4*t.toNat+6*q.toNat
   have:=h.2
   rw[hl] at this
   omega
  ·exact h32 _ (List.mem_of_getElem? (hx i hi))
  ·refine hc i _ ?_
   unfold valVs
   rw[List.getElem?_map,hx i hi]
   rfl
theorem qXV (W:World)(t q s:Int)(A:Option Addr)(c:Nat)(vals:List Nat)(hnc:vals.length<=c)(hcm:c<=maxLen)(h32:∀ x∈vals,x<2^32)(hR:Reads W W.heap.size 1 A vals.length (valVs vals)) :
  (∃ m,XCheckIs W t q s A vals.length c m false)\/∃ (H:AuH) (ad:Addr) (m:Nat),t=H.t/\q=H.p/\s=H.s/\A=some ad/\(∀ i,H.V i=vals.getD i 0)/\HeapV H vals.length c/\IsVals W ad vals.length H.V/\H.Told m true/\XCheckIs W H.t H.p H.s (some ad) vals.length c m true:=by
 by_cases h:lC t q s≠0/\(vals.length:Int)=lC t q s
 ·obtain⟨H,ad,rfl,rfl,rfl,rfl,hV,HV,hv⟩:=qFz W t q s A c vals hnc hcm h32 hR h
  obtain⟨m,b,hto⟩:=H.told_is
  have hX:=qZU HV ad W hv hto
  cases b with
  | true=>exact .inr ⟨H,ad,m,rfl,rfl,rfl,rfl,hV,HV,hv,hto,hX⟩
  | false=>exact .inl ⟨m,hX⟩
 ·exact .inl ⟨1,qSU W t q s A vals.length c hnc hcm h⟩
end
open Go.Maps
section
theorem qAW {H:AuH}{m:Nat}(h:H.Told m true):∀ i,i<10->H.rule i:=by
 rcases h with ⟨_,_,h⟩|⟨h,_⟩
 ·exact h
 ·cases h
end
section
def addStep (b:Int × Int) (s:List (Int × Int) × Bool) (x:Int × Int):List (Int × Int) × Bool :=
 if s.2=false/\b.1<x.1 then (s.1 ++ [b] ++ [x],true) else (s.1 ++ [x],s.2)
def addTo (b:Int × Int) (L:List (Int × Int)):List (Int × Int) × Bool:=L.foldl (addStep b) ([],false)
def addB (L:List (Int × Int)) (b:Int × Int):List (Int × Int):=if (addTo b L).2=true then (addTo b L).1 else (addTo b L).1 ++ [b]
theorem qKS {b:Int × Int}:∀ (X acc:List (Int × Int)),(∀ x∈X,x.1<=b.1)->X.foldl (addStep b) (acc,false)=(acc++X,false)
 | [],acc,_=>by simp
 | x :: X,acc,h=>by
  rw[List.foldl_cons]
  have h1:=h x (List.mem_cons_self ..)
  unfold addStep
  rw[if_neg qs]
  have:=qKS X (acc ++ [x]) (fun y hy=>h y (List.mem_cons_of_mem _ hy))
  unfold addStep at this
  rw[this]
  simp
theorem qQg {b:Int × Int}:∀ (Y acc:List (Int × Int)),Y.foldl (addStep b) (acc,true)=(acc++Y,true)
 | [],acc=>by simp
 | y :: Y,acc=>by
  rw[List.foldl_cons]
  unfold addStep
  rw[if_neg (by simp)]
  have:=qQg (b:=b) Y (acc ++ [y])
  unfold addStep at this
  rw[this]
  simp
theorem qAz {X Y:List (Int × Int)}{b:Int × Int}(hX:∀ x∈X,x.1<b.1)(hY:∀ y∈Y,b.1<y.1):addB (X++Y) b=X ++ [b]++Y:=by
 have e:addTo b (X++Y)=Y.foldl (addStep b) (X,false):=by
  unfold addTo
  rw[List.foldl_append,qKS X [] (fun x hx=>by have:=hX x hx;omega)]
  rfl
 unfold addB
 rw[e]
 cases Y with
 | nil=>simp
 | cons y Y =>
  have h1:=hY y (List.mem_cons_self ..)
  rw[List.foldl_cons]
  have e2:addStep b (X,false) y=(X ++ [b] ++ [y],true):=by
   unfold addStep
   rw[if_pos ⟨rfl,h1⟩]
  rw[e2,qQg]
  simp
def offB (a:Int) (L:List (Int × Int)):List (Int × Int):=L.filter fun x=>decide (x.1≠a)
theorem qLD {a:Int}{L:List (Int × Int)}(h:∀ x∈L,x.1≠a):offB a L=L:=by
 unfold offB
 rw[List.filter_eq_self]
 exact fun x hx=>decide_eq_true (h x hx)
theorem qGw {X Y:List (Int × Int)}{b:Int × Int}(hX:∀ x∈X,x.1<b.1)(hY:∀ y∈Y,b.1<y.1):offB b.1 (X ++ [b]++Y)=X++Y:=by
 have e:offB b.1 (X ++ [b]++Y)=offB b.1 X++offB b.1 [b]++offB b.1 Y:=by unfold offB;simp
 rw[e,qLD (fun x hx=>by have:=hX x hx;omega),qLD (L:=Y) (fun x hx=>by have:=hY x hx;omega)]
 unfold offB
 simp

def upS (n:Nat) (K:Nat->Option Nat) (st:Vst):Vst:=putS n (getS n K st 1) 1 (qOO (getV n K st 1) 1)
section
variable {H : AuH} {n c : Nat} {K : Nat -> Option Nat} {st s' : Vst} {L L' : Nat -> List Nat} {g : Nat -> Nat} {A k e : Nat}
theorem qUw (H:AuH){a b:Nat}(h:a<b):H.first a<H.first b:=by
 unfold AuH.first
 have:0<H.pg:=Nat.two_pow_pos _
 exact Int.mul_lt_mul_of_pos_right qo qo
theorem qGJ {f:Nat->Nat}{i0:Nat}:∀ m,i0<m->(∀ i,i<m->i≠i0->f i=0)->AuH.sumTo f m=f i0
 | 0,h,_=>by omega
 | m+1,h,ho=>by
  show AuH.sumTo f m+f m=_
  rcases Nat.lt_or_ge i0 m with h1|h1
  ·rw[qGJ m h1 (fun i hi hne=>ho i qo hne),ho m qo qo,Nat.add_zero]
  ·obtain rfl:i0=m:=qo
   have:AuH.sumTo f i0=0:=by
    have:=AuH.sumTo_le f 0 i0 (fun q hq=>by have:=ho q qo qo;omega)
    omega
   rw[this]
   omega
theorem Around.lives {p m la lr:Nat}(a:Around H L p m A la lr):AuH.sumTo (fun i=>H.liveF (A+i)) (la+m+lr)=1:=by
 have hA:=a.ahead
 have hpos:=a.pos
 rw[qGJ (f:=fun i=>H.liveF (A+i)) (i0:=la) (la+m+lr) qo (fun i hi hne=>?_)]
 ·show H.liveF (A+la)=1
  rw[hA]
  unfold AuH.liveF
  rw[if_pos a.used]
 ·show H.liveF (A+i)=0
  unfold AuH.liveF
  rcases a.kinds (A+i) qo qo with ⟨h5,_⟩|⟨_,_,h5⟩|⟨_,_,h5⟩|⟨h5,_⟩
  ·omega
  ·rw[if_neg qo,if_neg qo]
  ·rw[if_neg qo,if_neg qo]
  ·rw[if_neg qo,if_neg qo]
end
section
variable {H : AuH} {n c : Nat} {K : Nat -> Option Nat} {st : Vst} {L L' : Nat -> List Nat} {g : Nat -> Nat} {A k e : Nat}

theorem qBk {s3 s5:Vst}:nowH (nowH H n K s3) n K s5=nowH H n K s5:=by
 unfold nowH AuH.re
 congr 1
 funext i
 unfold curV
 by_cases h:i<n
 ·rw[if_pos h,if_pos h]
 ·rw[if_neg h,if_neg h]
  show (if i<n then getV n K s3 (i:Int) else H.V i)=H.V i
  rw[if_neg h]
end
end
section
section
variable (n : Nat) (K : Nat -> Option Nat) (t q s : Int)
def lenI (p:Nat) (st:Vst):Nat:=(infoOf n K t q s (p:Int) st).2.1.toNat
def readS (p:Nat) (st:Vst):Vst:=getS n K st (pageI t q s (p:Int) 0)
def allocL (m:Int) (st:Vst):Option Nat × Vst:=match (takeI n K t q s m st).1 with
 | some p=>(some p,upS n K (takeI n K t q s m st).2)
 | none=>(none,(takeI n K t q s m st).2)
def resizeL (p:Nat) (m:Int) (st:Vst):Bool × Vst :=
 let l:=lenI n K t q s p st
 let s1:=readS n K t q s p st
 if m=(l:Int) then (true,s1)
 else if 1<=m/\m<(l:Int) then (true,shrinkS n K t q s p l m.toNat s1)
 else if (l:Int)<m/\m<=q then (growB n K t q s p l m s1,growS n K t q s p l m s1)
 else (false,s1)
end
section
variable {H : AuH} {n c : Nat} {K : Nat -> Option Nat} {st : Vst} {L L' : Nat -> List Nat} {g : Nat -> Nat} {A k e : Nat}
theorem Work.len_used (W:Work H.t H.p H.s n K st L H.V)(hf:Fit H.t H.p H.s n){p l:Nat}(hp:p<H.p)(hk:H.K p=2)(hl:H.ln p=l):infoOf n K H.t H.p H.s (p:Int) st=(2,(l:Int),0,true)/\lenI n K H.t H.p H.s p st=l:=by
 have h1:infoOf n K H.t H.p H.s (p:Int) st=(2,(l:Int),0,true):=by
  rw[W.infoAt hf hp,<- hl]
  exact qUu hk
 exact⟨h1,by unfold lenI;rw[h1];simp⟩
theorem qJJ (h:VW n K st)(a:Int):nowH H n K (getS n K st a)=nowH H n K st:=by
 unfold nowH
 rw[(h.get a).2]
end
structure Resized (H:AuH) (n:Nat) (K:Nat->Option Nat) (s':Vst) (p l m:Nat):Prop where
 lists:∃ L,(nowH H n K s').Ok L/\Work H.t H.p H.s n K s' L (nowH H n K s').V
 roots:∀ i,i<8->(nowH H n K s').V (22+i)=H.V (22+i)
 pos:1<=m
 kind:(nowH H n K s').K p=2
 len:(nowH H n K s').ln p=m
 blocks:∃ X Y,blocksOf H.parts=X ++ [(H.first p,(l:Int)*(H.pg:Int))]++Y/\blocksOf (nowH H n K s').parts=X ++ [(H.first p,(m:Int)*(H.pg:Int))]++Y/\(∀ b∈X,b.1<H.first p)/\∀ b∈Y,H.first p<b.1
 back:m<l->p+m<H.p/\(nowH H n K s').K (p+m)=1/\l-m<=(nowH H n K s').ln (p+m)
section
variable {H : AuH} {n c : Nat} {K : Nat -> Option Nat} {st : Vst} {L L' : Nat -> List Nat} {g : Nat -> Nat} {A k e : Nat}
theorem qOw {s':Vst}{p l lr m e:Nat}(HV:HeapV H n c)(h:H.Ok L)(W:Work H.t H.p H.s n K s' L' g)(R:RelaidG H g L L' p m e)(a:Around H L p l p 0 lr)(hke:m+e=l+lr)(hm:1<=m)
  (live:g 1=H.V 1):Resized H n K s' p l m:=by
 have hpos:=a.pos
 have hle:=a.le
 have hP:=HV.fit.nums
 have hpp:p<H.p:=qo
 obtain⟨d1,d2,d3,d4,X,Y,d5,d6,d7,d8⟩:=qMz HV h W R (by
  rw[hke]
  have:=a.lives
  rw[Nat.zero_add] at this
  rw[this,if_pos qo,live]) (fun i hi hv b1 b2=>by
  obtain⟨b3,b4,b5⟩:=a.root h hi hv b1 qo
  exact⟨qo,b3⟩)
 rw[if_pos qo] at d6
 have e5:=a.blocks
 rw[Nat.zero_add] at e5
 rw[hke,e5] at d5
 have hce:(nowH H n K s').cel p 0=infoV 2 (m:Int) 0:=by
  have:=W.cel HV.len hpp (b:=0) qo qo qo
  rw[R.used qo] at this
  exact this
 have hin:=qCV (m:=m) hm qo
 refine⟨⟨L',d1,W.again⟩,d2,hm,by unfold AuH.K;rw[hce,hin],by unfold AuH.ln AuH.L;rw[hce,hin];simp,⟨X,Y,d5,d6,d7,fun b hb=>?_⟩,fun hml=>?_⟩
 ·have:=d8 b hb
  have:=qUw H (show p<p+m+e by omega)
  omega
 ·have hpm:p+m<H.p:=qo
  have hcr:(nowH H n K s').cel (p+m) 0=infoV 1 (e:Int) 0:=by
   have:=W.cel HV.len hpm (b:=0) qo qo qo
   rw[R.rest qo] at this
   exact this
  have hinr:=qQt (m:=e) qo qo
  refine⟨hpm,by unfold AuH.K;rw[hcr,hinr],?_⟩
  unfold AuH.ln AuH.L
  rw[hcr,hinr]
  simp
  omega
theorem Resized.heap {s':Vst}{p l m:Nat}(T:Resized H n K s' p l m)(HV:HeapV H n c)(hok:VOk n s')(h32:∀ i x,K i=some x->x<2^32):HeapV (nowH H n K s') n c:=qN5 HV hok h32 HV.cap HV.max
theorem qOG (HV:HeapV H n c)(h:H.Ok L){p l:Nat}(hp:p<H.p)(hk:H.K p=2)(hl:H.ln p=l) :
  ∃ X Y,blocksOf H.parts=X ++ [(H.first p,(l:Int)*(H.pg:Int))]++Y/\(∀ b∈X,b.1<H.first p)/\∀ b∈Y,H.first p<b.1:=by
 obtain⟨r,hr⟩:∃ r,H.p=p+1+r:=⟨H.p-(p+1),qo⟩
 refine⟨blocksOf (AuH.catTo H.partsAt p),blocksOf (AuH.catTo (fun i=>H.partsAt (p+1+i)) r),?_,fun b hb=>?_,fun b hb=>?_⟩
 ·have e1:H.parts=AuH.catTo H.partsAt (p+1+r):=by unfold AuH.parts;rw[hr]
  have e2:AuH.catTo H.partsAt (p+1)=AuH.catTo H.partsAt p++H.partsAt p:=rfl
  rw[e1,AuH.catTo_split,e2,qGG,qGG,qZ2 hk,hl]
 ·obtain⟨q,hq,hx⟩:=(AuH.mem_catTo p).1 (mem_blocksOf.1 hb)
  obtain⟨hk1,h1,h2⟩:=AuH.blocks_page HV (mem_blocksOf.2 hx)
  have h3:=h.spans.ahead (x:=p) qo hq qo hk1
  have h4:=AuH.first_mono H h3
  omega
 ·obtain⟨i,hi,hx⟩:=(AuH.mem_catTo r).1 (mem_blocksOf.1 hb)
  obtain⟨hk1,h1,h2⟩:=AuH.blocks_page HV (mem_blocksOf.2 hx)
  have h4:=qUw H (show p<p+1+i by omega)
  omega
theorem qCw (HV:HeapV H n c)(h:H.Ok L)(W:Work H.t H.p H.s n K st L (nowH H n K st).V)(hs:nowH H n K st=H){p l:Nat}(hp:p<H.p)(hk:H.K p=2)(hl:H.ln p=l):Resized H n K st p l l:=by
 obtain⟨X,Y,h1,h2,h3⟩:=qOG HV h hp hk hl
 have:=(qRA h hp qo qo).2.1
 exact⟨⟨L,by rw[hs];exact h,W⟩,fun i _=>by rw[hs],qo,by rw[hs];exact hk,by rw[hs];exact hl,⟨X,Y,h1,by rw[hs];exact h1,h2,h3⟩,fun h=>by omega⟩
theorem qNb (HV:HeapV H n c)(h:H.Ok L)(W:Work H.t H.p H.s n K st L H.V)(hs:nowH H n K st=H){p l:Nat}(hp:p<H.p)(hk:H.K p=2)(hl:H.ln p=l)(m:Int) :
  ((resizeL n K H.t H.p H.s p m st).1=true/\∃ k:Nat,m=(k:Int)/\Resized H n K (resizeL n K H.t H.p H.s p m st).2 p l k) \/
   ((resizeL n K H.t H.p H.s p m st).1=false/\(resizeL n K H.t H.p H.s p m st).2.wr=st.wr/\(m<1\/(l:Int)<m)):=by
 have hf:=HV.fit
 have hP:=hf.nums
 have hlen:=(W.len_used hf hp hk hl).2
 have hpos:=qRA h hp qo qo
 rw[hl] at hpos
 have W1:Work H.t H.p H.s n K (readS n K H.t H.p H.s p st) L H.V:=W.get _
 have hs1:nowH H n K (readS n K H.t H.p H.s p st)=H:=(qJJ W.vw _).trans hs
 have hwr:(readS n K H.t H.p H.s p st).wr=st.wr:=(qSx n K st _).2
 unfold resizeL
 simp only[hlen]
 by_cases h1:m=(l:Int)
 ·rw[if_pos h1]
  exact .inl ⟨rfl,l,h1,qCw HV h (by rw[hs1];exact W1) hs1 hp hk hl⟩
 ·rw[if_neg h1]
  by_cases h2:1<=m/\m<(l:Int)
  ·rw[if_pos h2]
   obtain⟨k,rfl⟩:=Int.eq_ofNat_of_zero_le (show 0<=m by omega)
   obtain⟨L',g',lr,W',R,a,e1,e0⟩:=qSN HV h W1 hp hk hl (m:=k) qo qo
   exact .inl ⟨rfl,k,rfl,qOw HV h W' R a qo qo e1⟩
  ·rw[if_neg h2]
   by_cases h3:(l:Int)<m/\m<=((H.p:Nat):Int)
   ·rw[if_pos h3]
    obtain⟨k,rfl⟩:=Int.eq_ofNat_of_zero_le (show 0<=m by omega)
    cases hb:growB n K H.t H.p H.s p l (k:Int) (readS n K H.t H.p H.s p st) with
    | true =>
     obtain⟨L',g',lr,W',R,a,hlr,hml,e1,e0,e00⟩:=qP8 HV h W1 hp hk hl (m:=k) qo hb
     exact .inl ⟨rfl,k,rfl,qOw HV h W' R a qo qo e1⟩
    | false=>exact .inr ⟨rfl,(qVi hb).trans hwr,.inr qo⟩
   ·rw[if_neg h3]
    exact .inr ⟨rfl,hwr,qo⟩
theorem qIm {s1:Vst}{p l k:Nat}(HV:HeapV H n c)(h:H.Ok L)(hp:p<H.p)(hk:H.K p=2)(hl:H.ln p=l)(T:Resized H n K s1 p l k)(hok:VOk n s1)(h32:∀ i x,K i=some x->x<2^32) :
  (resizeL n K H.t H.p H.s p (l:Int) s1).1=true/\(∀ i,i<10->(nowH H n K (resizeL n K H.t H.p H.s p (l:Int) s1).2).rule i)/\(∀ i,i<8->(nowH H n K (resizeL n K H.t H.p H.s p (l:Int) s1).2).V (22+i)=H.V (22+i)) /\
   blocksOf (nowH H n K (resizeL n K H.t H.p H.s p (l:Int) s1).2).parts=blocksOf H.parts/\VW n K (resizeL n K H.t H.p H.s p (l:Int) s1).2:=by
 have HV1:=T.heap HV hok h32
 have hP:=HV.fit.nums
 obtain⟨L1,O1,W1⟩:=T.lists
 have hpos:=qRA h hp qo qo
 rw[hl] at hpos
 have hlen:=(Work.len_used (H:=nowH H n K s1) W1 HV1.fit hp T.kind T.len).2
 have hlen:lenI n K H.t H.p H.s p s1=k:=hlen
 have hkp:=T.pos
 have hR:=qNb (H:=nowH H n K s1) HV1 O1 W1 (by rw[qBk]) hp T.kind T.len (l:Int)
 rcases hR with ⟨h1,k',h2,T2⟩|⟨h1,h2,h3⟩
 ·have h2:k'=l:=qo
  subst h2
  have T2:Resized (nowH H n K s1) n K (resizeL n K H.t H.p H.s p (k':Int) s1).2 p k k':=T2
  obtain⟨L2,O2,W2⟩:=T2.lists
  rw[qBk] at O2
  refine⟨h1,O2.rules,fun i hi=>?_,?_,W2.vw⟩
  ·have:=T2.roots i hi
   rw[qBk] at this
   exact this.trans (T.roots i hi)
  ·obtain⟨X,Y,b1,b2,b3,b4⟩:=T.blocks
   obtain⟨X2,Y2,c1,c2,c3,c4⟩:=T2.blocks
   rw[qBk] at c2
   have hf:∀ q,(nowH H n K s1).first q=H.first q:=fun q=>rfl
   have hg:(nowH H n K s1).pg=H.pg:=rfl
   rw[hf,hg] at c1 c2
   rw[hf] at c3 c4
   have g1:=qGw (b:=(H.first p,(k:Int)*(H.pg:Int))) b3 b4
   have g2:=qGw (b:=(H.first p,(k:Int)*(H.pg:Int))) c3 c4
   rw[<- b2,c1] at g1
   rw[g2] at g1
   rw[c2,b1,<- qAz (b:=(H.first p,(k':Int)*(H.pg:Int))) c3 c4,g1,qAz (b:=(H.first p,(k':Int)*(H.pg:Int))) b3 b4]
 ·exfalso
  have h4:k<l:=qo
  obtain⟨b1,b2,b3⟩:=T.back h4
  have W1r:Work H.t H.p H.s n K (readS n K H.t H.p H.s p s1) L1 (nowH H n K s1).V:=W1.get _
  have hb:=(qZr (H:=nowH H n K s1) O1 W1r HV1.fit (p:=p) (l:=k) (l:Int)).2 ⟨b1,b2,qo⟩
  have e:(resizeL n K H.t H.p H.s p (l:Int) s1).1=growB n K H.t H.p H.s p k (l:Int) (readS n K H.t H.p H.s p s1):=by
   unfold resizeL
   simp only[hlen]
   rw[if_neg qo,if_neg qo,if_pos qo]
  have h1:(resizeL n K H.t H.p H.s p (l:Int) s1).1=false:=h1
  rw[e] at h1
  have hb:growB n K H.t H.p H.s p k (l:Int) (readS n K H.t H.p H.s p s1)=true:=hb
  rw[hb] at h1
  cases h1
theorem Resized.map {s':Vst}{p l k:Nat}(T:Resized H n K s' p l k):blocksOf (nowH H n K s').parts=(blocksOf H.parts).map fun b=>if b.1=H.first p then (b.1,(k:Int)*(H.pg:Int)) else b:=by
 obtain⟨X,Y,b1,b2,b3,b4⟩:=T.blocks
 rw[b1,b2]
 simp only[List.map_append,List.map_cons,List.map_nil,if_true]
 rw[List.map_congr_left (g:=id) (l:=X) (fun b hb=>by have:=b3 b hb;rw[if_neg qo];rfl),List.map_congr_left (g:=id) (l:=Y) (fun b hb=>by have:=b4 b hb;rw[if_neg qo];rfl),List.map_id,List.map_id]
end
end
section
theorem qYm (a:Int)(w:World):Calls Tryz.prog 89 #[.int .i64 a] w fun e w'=>e = .returned (.bool false)/\w=w':=by
 have e1:(a != a)=false:=by simp
 go_enter Tryz.func89,Tryz.ntmps89
 go_wp2
 go_ret
 exact⟨rfl,rfl⟩
def cmpI (a b:Int):Int:=if a<b then -1 else if b<a then 1 else 0
theorem qCL (a b:Int)(w:World):Calls Tryz.prog 47 #[.int .i64 a,.int .i64 b] w fun e w'=>e = .returned (.int .i64 (cmpI a b))/\Below w.heap.size w w':=by
 obtain⟨x,hx⟩:∃ x,cmpI a b=x:=⟨_,rfl⟩
 have HX:=qh hx
 rw[hx]
 have hc:(a<b/\x = -1)\/(b<a/\x=1)\/(a=b/\x=0):=by
  rw[<- hx]
  unfold cmpI
  rcases Int.lt_trichotomy a b with h|h|h
  ·exact .inl ⟨h,by rw[if_pos h]⟩
  ·exact .inr (.inr ⟨h,by rw[if_neg qo,if_neg qo]⟩)
  ·exact .inr (.inl ⟨h,by rw[if_neg qo,if_pos h]⟩)
 clear hx
 rcases hc with ⟨h,rfl⟩|⟨h,rfl⟩|⟨h,rfl⟩
 ·have t1:decide (a<b)=true:=decide_eq_true h
  exact MnD
 ·have t1:decide (a<b)=false:=qf
  have t2:decide (b<a)=true:=decide_eq_true h
  exact MnD
 ·subst h
  have t1:decide (a<a)=false:=qf
  go_enter Tryz.func47,Tryz.ntmps47
  go_wp2_with fail
  refine(qYm a _).mono ?_;rintro e w1 ⟨rfl,rfl⟩
  go_wp2_with fail
  refine(qYm a _).mono ?_;rintro e w1 ⟨rfl,rfl⟩
  go_wp2
  go_ret
  exact⟨rfl,B0 _⟩

section
variable {base b n : Nat} {wh all : Bool} {K : Nat -> Option Nat} {st : Vst} {w w0 : World} {A G : Nat -> Prop} {t q s : Int}

theorem qUg (hn:n<2^40)(p:Int)(k l c:Int)(ok:Bool)(hI:infoOf n K t q s p st=(k,l,c,ok))(h:(vOb base b n wh K).At w0 A G st w) :
  Calls Tryz.prog 43 #[.pointer (some ⟨b,0,none⟩),.agg #[.int .i64 t,.int .i64 q,.int .i64 s],.int .i64 p] w fun e w'=>e = .returned (.int .i64 l)/\(vOb base b n wh K).At w0 A G (getS n K st (pageI t q s p 0)) w'/\Stay G w w':=by
 have W0:=qh ((WL.start h).new 23 #[.int .i64 t,.int .i64 q,.int .i64 s])
 obtain⟨v,hv⟩:∃ v,getV n K st (pageI t q s p 0)=v:=⟨_,rfl⟩
 have hv32:v<2^32:=by rw[<- hv];exact qHJ h _
 have HI:qH (infoG v=(k,l,c,ok)):=qh (by rw[<- hv];exact hI)
 have HV:=qh hv
 clear h hI hv
 go_enter Tryz.func43,Tryz.ntmps43
 obtain⟨x0,x1,x2⟩:=W0.o.h0.three
 go_wp2_with fail
 refine(qSM t q s p _).mono ?_;rintro e w1 ⟨rfl,hb⟩;have W1:=qh (W0.o.keep hb);clear hb W0
 obtain⟨x0,x1,x2⟩:=W1.o.h0.three
 go_wp2_with fail
 refine(vGetA hn _ W1.o.at_).mono ?_;rintro e w2 ⟨rfl,h1,h2⟩;have W2:=qh (W1.o.call h1 h2);clear h1 h2 W1;rw[HV.o]
 obtain⟨x0,x1,x2⟩:=W2.o.h0.three
 go_wp2_with fail
 refine(qMJ v k l c ok hv32 HI.o _).mono ?_;rintro e w3 ⟨rfl,hb⟩;have W3:=qh (W2.o.keep hb);clear hb W2
 generalize hNI:w3.heap.size=NI at *
 replace W3:=qh (W3.o.new 90 #[.int .i64 k,.int .i64 l,.int .i64 c])
 rw[hNI] at W3
 obtain⟨i0,i1,i2⟩:=W3.o.h0.three
 obtain⟨x0,x1,x2⟩:=W3.o.h1.three
 go_wp2
 go_ret
 exact⟨rfl,W3.o.fin⟩

theorem qFI (hn:n<2^40)(m:Int)(h:(vOb base b n wh K).At w0 A G st w) :
  Calls Tryz.prog 33 #[.pointer (some ⟨b,0,none⟩),.int .i64 m] w fun e w'=>e = .returned (.tuple #[])/\(vOb base b n wh K).At w0 A G (putS n (getS n K st 1) 1 (qOO (getV n K st 1) m)) w'/\Stay G w w':=by
 have W0:=qh (WL.start h)
 obtain⟨v,hv⟩:∃ v,getV n K st 1=v:=⟨_,rfl⟩
 have HV:=qh hv
 rw[hv]
 have HA:=qN8 v m
 have HL:=qCG v m
 obtain⟨x,hx⟩:∃ x,qOO v m=x:=⟨_,rfl⟩
 rw[hx] at HA HL ⊢
 have HX:=qh HL
 obtain⟨y,hy⟩:∃ y:Nat,IntKind.u32.wrap m=(y:Int):=Int.eq_ofNat_of_zero_le (by show 0<=m%4294967296;exact Int.emod_nonneg _ qo)
 rw[hy] at HA
 clear h hv hx HL
 go_enter Tryz.func33,Tryz.ntmps33
 go_wp2_with fail
 refine(vGetA hn 1 W0.o.at_).mono ?_;rintro e w1 ⟨rfl,h1,h2⟩;have W1:=qh (W0.o.call h1 h2);clear h1 h2 W0;rw[HV.o]
 go_wp2_with fail
 refine(vPutA hn 1 x HX.o W1.o.at_).mono ?_;rintro e w2 ⟨rfl,h1,h2⟩;have W2:=qh (W1.o.call h1 h2);clear h1 h2 W1
 go_wp2
 go_end0
 exact⟨rfl,W2.o.fin⟩

theorem qNE (hn:n<2^40)(hq:q<=1024)(nn:Int)(hf:(takeI n K t q s nn st).1=none)(h:(vOb base b n wh K).At w0 A G st w) :
  Calls Tryz.prog 11 #[.pointer (some ⟨b,0,none⟩),.agg #[.int .i64 t,.int .i64 q,.int .i64 s],.int .i64 nn] w fun e w'=>e = .returned (.tuple #[.int .i64 0,.bool false])/\(vOb base b n wh K).At w0 A G ((takeI n K t q s nn st).2) w'/\Stay G w w':=by
 have W0:=qh ((WL.start h).new 23 #[.int .i64 t,.int .i64 q,.int .i64 s])
 have HF:=qh hf
 obtain⟨s1,hs⟩:∃ s1,(takeI n K t q s nn st).2=s1:=⟨_,rfl⟩
 have HS:=qh hs
 rw[hs]
 clear h hf hs
 go_enter Tryz.func11,Tryz.ntmps11
 obtain⟨x0,x1,x2⟩:=W0.o.h0.three
 go_wp2_with fail
 refine(qTz hn hq nn W0.o.at_).mono ?_;rintro e w1 ⟨rfl,h1,h2⟩;have W1:=qh (W0.o.call h1 h2);clear h1 h2 W0;rw[HS.o] at W1;rw[HF.o];dsimp only[foundI,Option.isSome]
 obtain⟨x0,x1,x2⟩:=W1.o.h0.three
 go_wp2
 go_ret2
 exact⟨rfl,W1.o.fin⟩

theorem qNT (hn:n<2^40)(hq:q<=1024)(nn:Int)(p:Nat)(hf:(takeI n K t q s nn st).1=some p)(h:(vOb base b n wh K).At w0 A G st w) :
  Calls Tryz.prog 11 #[.pointer (some ⟨b,0,none⟩),.agg #[.int .i64 t,.int .i64 q,.int .i64 s],.int .i64 nn] w fun e w'=>e = .returned (.tuple #[.int .i64 (p:Int),.bool true])/\(vOb base b n wh K).At w0 A G (upS n K (takeI n K t q s nn st).2) w'/\Stay G w w':=by
 have W0:=qh ((WL.start h).new 23 #[.int .i64 t,.int .i64 q,.int .i64 s])
 have HF:=qh hf
 obtain⟨s1,hs⟩:∃ s1,(takeI n K t q s nn st).2=s1:=⟨_,rfl⟩
 have HS:=qh hs
 rw[hs]
 unfold upS
 clear h hf hs
 go_enter Tryz.func11,Tryz.ntmps11
 obtain⟨x0,x1,x2⟩:=W0.o.h0.three
 go_wp2_with fail
 refine(qTz hn hq nn W0.o.at_).mono ?_;rintro e w1 ⟨rfl,h1,h2⟩;have W1:=qh (W0.o.call h1 h2);clear h1 h2 W0;rw[HS.o] at W1;rw[HF.o];dsimp only[foundI,Option.isSome]
 obtain⟨x0,x1,x2⟩:=W1.o.h0.three
 go_wp2_with fail
 refine(qFI hn 1 W1.o.at_).mono ?_;rintro e w2 ⟨rfl,h1,h2⟩;have W2:=qh (W1.o.call h1 h2);clear h1 h2 W1
 obtain⟨x0,x1,x2⟩:=W2.o.h0.three
 go_wp2
 go_ret2
 exact⟨rfl,W2.o.fin⟩

theorem qHr (hn:n<2^40)(hq:q<=1024)(nn:Int)(h:(vOb base b n wh K).At w0 A G st w) :
  Calls Tryz.prog 11 #[.pointer (some ⟨b,0,none⟩),.agg #[.int .i64 t,.int .i64 q,.int .i64 s],.int .i64 nn] w fun e w'=>e = .returned (.tuple #[.int .i64 (foundI (allocL n K t q s nn st).1),.bool (allocL n K t q s nn st).1.isSome])/\(vOb base b n wh K).At w0 A G ((allocL n K t q s nn st).2) w'/\Stay G w w':=by
 unfold allocL
 cases hf:(takeI n K t q s nn st).1 with
 | none=>exact qNE hn hq nn hf h
 | some p=>exact qNT hn hq nn p hf h

theorem qAD (hn:n<2^40)(hq:q<=1024)(p l:Nat)(m:Int){gm gv gc gp gn:Nat}(hgm:Held w gm 3 #[.int .i64 m])(hgv:Held w gv 29 #[.pointer (some ⟨b,0,none⟩)])(hgc:Held w gc 23 #[.int .i64 t,.int .i64 q,.int .i64 s])(hgp:Held w gp 3 #[.int .i64 (p:Int)])(hgn:Held w gn 3 #[.int .i64 (l:Int)])(hm:m=(l:Int))(h:(vOb base b n wh K).At w0 A G st w) :
  Calls Tryz.prog 44 #[.int .i64 0,.pointer (some ⟨gm,0,none⟩),.pointer (some ⟨gv,0,none⟩),.pointer (some ⟨gc,0,none⟩),.pointer (some ⟨gp,0,none⟩),.pointer (some ⟨gn,0,none⟩)] w fun e w'=>e = .returned (.bool true)/\(vOb base b n wh K).At w0 A G (st) w'/\Stay G w w':=by
 have W0:=qh (WL.start h)
 obtain m0:=hgm.one
 obtain v0:=hgv.one
 obtain⟨c0,c1,c2⟩:=hgc.three
 obtain p0:=hgp.one
 obtain n0:=hgn.one
 clear hm
 clear h hgm hgv hgc hgp hgn
 go_enter Tryz.func44,Tryz.ntmps44
 go_wp2
 go_ret
 exact⟨rfl,W0.o.fin⟩

theorem qVn (hn:n<2^40)(hq:q<=1024)(p l:Nat)(m:Int){gm gv gc gp gn:Nat}(hgm:Held w gm 3 #[.int .i64 m])(hgv:Held w gv 29 #[.pointer (some ⟨b,0,none⟩)])(hgc:Held w gc 23 #[.int .i64 t,.int .i64 q,.int .i64 s])(hgp:Held w gp 3 #[.int .i64 (p:Int)])(hgn:Held w gn 3 #[.int .i64 (l:Int)])(h1:1<=m)(hm:m<(l:Int))(hp:(p:Int)+(l:Int)<=1024)(h:(vOb base b n wh K).At w0 A G st w) :
  Calls Tryz.prog 44 #[.int .i64 (-1),.pointer (some ⟨gm,0,none⟩),.pointer (some ⟨gv,0,none⟩),.pointer (some ⟨gc,0,none⟩),.pointer (some ⟨gp,0,none⟩),.pointer (some ⟨gn,0,none⟩)] w fun e w'=>e = .returned (.bool true)/\(vOb base b n wh K).At w0 A G (shrinkS n K t q s p l m.toNat st) w'/\Stay G w w':=by
 have W0:=qh (WL.start h)
 obtain m0:=hgm.one
 obtain v0:=hgv.one
 obtain⟨c0,c1,c2⟩:=hgc.three
 obtain p0:=hgp.one
 obtain n0:=hgn.one
 obtain⟨k,rfl⟩:=Int.eq_ofNat_of_zero_le (show 0<=m by omega)
 have t1:decide ((1:Int)<=(k:Int))=true:=decide_eq_true h1
 have t1n:decide (1<=k)=true:=qt
 rw[Int.toNat_natCast]
 have hkl:k<=l:=qo
 have hpl:p+l<=1024:=qo
 clear h hgm hgv hgc hgp hgn
 go_enter Tryz.func44,Tryz.ntmps44
 go_wp2_with fail
 refine(qRJ hn hq p l k hpl hkl W0.o.at_).mono ?_;rintro e w1 ⟨rfl,h1,h2⟩;have W1:=qh (W0.o.call h1 h2);clear h1 h2 W0
 go_wp2
 go_ret
 exact⟨rfl,W1.o.fin⟩

theorem qM6 (hn:n<2^40)(hq:q<=1024)(p l:Nat)(m:Int){gm gv gc gp gn:Nat}(hgm:Held w gm 3 #[.int .i64 m])(hgv:Held w gv 29 #[.pointer (some ⟨b,0,none⟩)])(hgc:Held w gc 23 #[.int .i64 t,.int .i64 q,.int .i64 s])(hgp:Held w gp 3 #[.int .i64 (p:Int)])(hgn:Held w gn 3 #[.int .i64 (l:Int)])(h1:m<1)(h:(vOb base b n wh K).At w0 A G st w) :
  Calls Tryz.prog 44 #[.int .i64 (-1),.pointer (some ⟨gm,0,none⟩),.pointer (some ⟨gv,0,none⟩),.pointer (some ⟨gc,0,none⟩),.pointer (some ⟨gp,0,none⟩),.pointer (some ⟨gn,0,none⟩)] w fun e w'=>e = .returned (.bool false)/\(vOb base b n wh K).At w0 A G (st) w'/\Stay G w w':=by
 have W0:=qh (WL.start h)
 obtain m0:=hgm.one
 obtain v0:=hgv.one
 obtain⟨c0,c1,c2⟩:=hgc.three
 obtain p0:=hgp.one
 obtain n0:=hgn.one
 have t1:decide ((1:Int)<=m)=false:=qf
 clear h hgm hgv hgc hgp hgn
 go_enter Tryz.func44,Tryz.ntmps44
 go_wp2
 go_ret
 exact⟨rfl,W0.o.fin⟩

theorem qGi (hn:n<2^40)(hq:q<=1024)(p l:Nat)(m:Int){gm gv gc gp gn:Nat}(hgm:Held w gm 3 #[.int .i64 m])(hgv:Held w gv 29 #[.pointer (some ⟨b,0,none⟩)])(hgc:Held w gc 23 #[.int .i64 t,.int .i64 q,.int .i64 s])(hgp:Held w gp 3 #[.int .i64 (p:Int)])(hgn:Held w gn 3 #[.int .i64 (l:Int)])(hm:(l:Int)<m)(h1:m<=q)(hp:(p:Int)+(l:Int)<=q)(h:(vOb base b n wh K).At w0 A G st w) :
  Calls Tryz.prog 44 #[.int .i64 1,.pointer (some ⟨gm,0,none⟩),.pointer (some ⟨gv,0,none⟩),.pointer (some ⟨gc,0,none⟩),.pointer (some ⟨gp,0,none⟩),.pointer (some ⟨gn,0,none⟩)] w fun e w'=>e = .returned (.bool (growB n K t q s p l m st))/\(vOb base b n wh K).At w0 A G (growS n K t q s p l m st) w'/\Stay G w w':=by
 have W0:=qh (WL.start h)
 obtain m0:=hgm.one
 obtain v0:=hgv.one
 obtain⟨c0,c1,c2⟩:=hgc.three
 obtain p0:=hgp.one
 obtain n0:=hgn.one
 have t1:decide (m<=q)=true:=decide_eq_true h1
 obtain⟨gb,hgb⟩:∃ gb,growB n K t q s p l m st=gb:=⟨_,rfl⟩
 have HGB:=qh hgb
 rw[hgb]
 have hm9:m<=9223372036854775807:=qo
 clear hgb
 clear h hgm hgv hgc hgp hgn
 go_enter Tryz.func44,Tryz.ntmps44
 go_wp2_with fail
 refine(qYA hn hq p l m hp hm hm9 W0.o.at_).mono ?_;rintro e w1 ⟨rfl,h1,h2⟩;have W1:=qh (W0.o.call h1 h2);clear h1 h2 W0;rw[HGB.o]
 go_wp2
 go_ret
 exact⟨rfl,W1.o.fin⟩

theorem qK5 (hn:n<2^40)(hq:q<=1024)(p l:Nat)(m:Int){gm gv gc gp gn:Nat}(hgm:Held w gm 3 #[.int .i64 m])(hgv:Held w gv 29 #[.pointer (some ⟨b,0,none⟩)])(hgc:Held w gc 23 #[.int .i64 t,.int .i64 q,.int .i64 s])(hgp:Held w gp 3 #[.int .i64 (p:Int)])(hgn:Held w gn 3 #[.int .i64 (l:Int)])(h1:q<m)(h:(vOb base b n wh K).At w0 A G st w) :
  Calls Tryz.prog 44 #[.int .i64 1,.pointer (some ⟨gm,0,none⟩),.pointer (some ⟨gv,0,none⟩),.pointer (some ⟨gc,0,none⟩),.pointer (some ⟨gp,0,none⟩),.pointer (some ⟨gn,0,none⟩)] w fun e w'=>e = .returned (.bool false)/\(vOb base b n wh K).At w0 A G (st) w'/\Stay G w w':=by
 have W0:=qh (WL.start h)
 obtain m0:=hgm.one
 obtain v0:=hgv.one
 obtain⟨c0,c1,c2⟩:=hgc.three
 obtain p0:=hgp.one
 obtain n0:=hgn.one
 have t1:decide (m<=q)=false:=qf
 clear h hgm hgv hgc hgp hgn
 go_enter Tryz.func44,Tryz.ntmps44
 go_wp2
 go_ret
 exact⟨rfl,W0.o.fin⟩

theorem qQ6 (hn:n<2^40)(hq:q<=1024)(p l:Nat)(m:Int)(k c:Int)(ok:Bool)(hI:infoOf n K t q s (p:Int) st=(k,(l:Int),c,ok))(hm:m=(l:Int))(h:(vOb base b n wh K).At w0 A G st w) :
  Calls Tryz.prog 18 #[.pointer (some ⟨b,0,none⟩),.agg #[.int .i64 t,.int .i64 q,.int .i64 s],.int .i64 (p:Int),.int .i64 m] w fun e w'=>e = .returned (.bool true)/\(vOb base b n wh K).At w0 A G ((getS n K st (pageI t q s (p:Int) 0))) w'/\Stay G w w':=by
 have W0:=qh (((((WL.start h).new 29 #[.pointer (some ⟨b,0,none⟩)]).new 23 #[.int .i64 t,.int .i64 q,.int .i64 s]).new 3 #[.int .i64 (p:Int)]).new 3 #[.int .i64 m])
 simp only[World.size_alloc] at W0
 have HI:=qh hI
 have HMM:=qh hm
 have HCM:qH (cmpI m (l:Int)=0):=qh (by unfold cmpI;rw[hm,if_neg qo,if_neg qo])
 obtain⟨sg,hsg⟩:∃ sg,(getS n K st (pageI t q s (p:Int) 0))=sg:=⟨_,rfl⟩
 have HSG:=qh hsg
 rw[hsg]
 have hmf:∀ (fn:Fn) (first cap:Array Value) (w:World),(Instr.makeFunc fn first cap).run Tryz.prog w = .ok (.func fn first cap) w:=fun _ _ _ _=>rfl
 obtain m0:=W0.o.h0.one
 obtain p0:=W0.o.h1.one
 obtain⟨c0,c1,c2⟩:=W0.o.h2.three
 obtain v0:=W0.o.h3.one
 clear h hI hsg hm
 go_enter Tryz.func18,Tryz.ntmps18
 go_wp2_with fail
 refine(qUg hn (p:Int) k (l:Int) c ok HI.o W0.o.at_).mono ?_;rintro e w1 ⟨rfl,h1,h2⟩;have W1:=qh (W0.o.call h1 h2);clear h1 h2 W0;rw[HSG.o] at W1
 clear m0 p0 c0 c1 c2 v0
 generalize hNN:w1.heap.size=NN at *
 replace W1:=qh (W1.o.new 3 #[.int .i64 (l:Int)])
 rw[hNN] at W1
 obtain n0:=W1.o.h0.one
 obtain m0:=W1.o.h1.one
 obtain p0:=W1.o.h2.one
 obtain⟨c0,c1,c2⟩:=W1.o.h3.three
 obtain v0:=W1.o.h4.one
 go_wp2_with fail
 refine(qCL m (l:Int) _).mono ?_;rintro e w2 ⟨rfl,hb⟩;have W2:=qh (W1.o.keep hb);clear hb W1;rw[HCM.o]
 clear m0 p0 c0 c1 c2 v0
 clear n0
 obtain n0:=W2.o.h0.one
 obtain m0:=W2.o.h1.one
 obtain p0:=W2.o.h2.one
 obtain⟨c0,c1,c2⟩:=W2.o.h3.three
 obtain v0:=W2.o.h4.one
 go_wp2_with fail
 refine(qAD hn hq p l m W2.o.h1 W2.o.h4 W2.o.h3 W2.o.h2 W2.o.h0 HMM.o W2.o.at_).mono ?_;rintro e w3 ⟨rfl,h1,h2⟩;have W3:=qh (W2.o.call h1 h2);clear h1 h2 W2
 go_wp2
 go_ret
 exact⟨rfl,W3.o.fin⟩

theorem qQE (hn:n<2^40)(hq:q<=1024)(p l:Nat)(m:Int)(k c:Int)(ok:Bool)(hI:infoOf n K t q s (p:Int) st=(k,(l:Int),c,ok))(h1:1<=m)(hm:m<(l:Int))(hp:(p:Int)+(l:Int)<=1024)(h:(vOb base b n wh K).At w0 A G st w) :
  Calls Tryz.prog 18 #[.pointer (some ⟨b,0,none⟩),.agg #[.int .i64 t,.int .i64 q,.int .i64 s],.int .i64 (p:Int),.int .i64 m] w fun e w'=>e = .returned (.bool true)/\(vOb base b n wh K).At w0 A G (shrinkS n K t q s p l m.toNat (getS n K st (pageI t q s (p:Int) 0))) w'/\Stay G w w':=by
 have W0:=qh (((((WL.start h).new 29 #[.pointer (some ⟨b,0,none⟩)]).new 23 #[.int .i64 t,.int .i64 q,.int .i64 s]).new 3 #[.int .i64 (p:Int)]).new 3 #[.int .i64 m])
 simp only[World.size_alloc] at W0
 have HI:=qh hI
 have HCM:qH (cmpI m (l:Int)=(-1)):=qh (by unfold cmpI;rw[if_pos hm])
 obtain⟨sg,hsg⟩:∃ sg,(getS n K st (pageI t q s (p:Int) 0))=sg:=⟨_,rfl⟩
 have HSG:=qh hsg
 rw[hsg]
 have hmf:∀ (fn:Fn) (first cap:Array Value) (w:World),(Instr.makeFunc fn first cap).run Tryz.prog w = .ok (.func fn first cap) w:=fun _ _ _ _=>rfl
 obtain m0:=W0.o.h0.one
 obtain p0:=W0.o.h1.one
 obtain⟨c0,c1,c2⟩:=W0.o.h2.three
 obtain v0:=W0.o.h3.one
 clear h hI hsg
 go_enter Tryz.func18,Tryz.ntmps18
 go_wp2_with fail
 refine(qUg hn (p:Int) k (l:Int) c ok HI.o W0.o.at_).mono ?_;rintro e w1 ⟨rfl,h1,h2⟩;have W1:=qh (W0.o.call h1 h2);clear h1 h2 W0;rw[HSG.o] at W1
 clear m0 p0 c0 c1 c2 v0
 generalize hNN:w1.heap.size=NN at *
 replace W1:=qh (W1.o.new 3 #[.int .i64 (l:Int)])
 rw[hNN] at W1
 obtain n0:=W1.o.h0.one
 obtain m0:=W1.o.h1.one
 obtain p0:=W1.o.h2.one
 obtain⟨c0,c1,c2⟩:=W1.o.h3.three
 obtain v0:=W1.o.h4.one
 go_wp2_with fail
 refine(qCL m (l:Int) _).mono ?_;rintro e w2 ⟨rfl,hb⟩;have W2:=qh (W1.o.keep hb);clear hb W1;rw[HCM.o]
 clear m0 p0 c0 c1 c2 v0
 clear n0
 obtain n0:=W2.o.h0.one
 obtain m0:=W2.o.h1.one
 obtain p0:=W2.o.h2.one
 obtain⟨c0,c1,c2⟩:=W2.o.h3.three
 obtain v0:=W2.o.h4.one
 go_wp2_with fail
 refine(qVn hn hq p l m W2.o.h1 W2.o.h4 W2.o.h3 W2.o.h2 W2.o.h0 h1 hm hp W2.o.at_).mono ?_;rintro e w3 ⟨rfl,h1,h2⟩;have W3:=qh (W2.o.call h1 h2);clear h1 h2 W2
 go_wp2
 go_ret
 exact⟨rfl,W3.o.fin⟩

theorem qRD (hn:n<2^40)(hq:q<=1024)(p l:Nat)(m:Int)(k c:Int)(ok:Bool)(hI:infoOf n K t q s (p:Int) st=(k,(l:Int),c,ok))(h1:m<1)(hm:m<(l:Int))(h:(vOb base b n wh K).At w0 A G st w) :
  Calls Tryz.prog 18 #[.pointer (some ⟨b,0,none⟩),.agg #[.int .i64 t,.int .i64 q,.int .i64 s],.int .i64 (p:Int),.int .i64 m] w fun e w'=>e = .returned (.bool false)/\(vOb base b n wh K).At w0 A G ((getS n K st (pageI t q s (p:Int) 0))) w'/\Stay G w w':=by
 have W0:=qh (((((WL.start h).new 29 #[.pointer (some ⟨b,0,none⟩)]).new 23 #[.int .i64 t,.int .i64 q,.int .i64 s]).new 3 #[.int .i64 (p:Int)]).new 3 #[.int .i64 m])
 simp only[World.size_alloc] at W0
 have HI:=qh hI
 have HCM:qH (cmpI m (l:Int)=(-1)):=qh (by unfold cmpI;rw[if_pos hm])
 obtain⟨sg,hsg⟩:∃ sg,(getS n K st (pageI t q s (p:Int) 0))=sg:=⟨_,rfl⟩
 have HSG:=qh hsg
 rw[hsg]
 have hmf:∀ (fn:Fn) (first cap:Array Value) (w:World),(Instr.makeFunc fn first cap).run Tryz.prog w = .ok (.func fn first cap) w:=fun _ _ _ _=>rfl
 obtain m0:=W0.o.h0.one
 obtain p0:=W0.o.h1.one
 obtain⟨c0,c1,c2⟩:=W0.o.h2.three
 obtain v0:=W0.o.h3.one
 clear h hI hsg
 go_enter Tryz.func18,Tryz.ntmps18
 go_wp2_with fail
 refine(qUg hn (p:Int) k (l:Int) c ok HI.o W0.o.at_).mono ?_;rintro e w1 ⟨rfl,h1,h2⟩;have W1:=qh (W0.o.call h1 h2);clear h1 h2 W0;rw[HSG.o] at W1
 clear m0 p0 c0 c1 c2 v0
 generalize hNN:w1.heap.size=NN at *
 replace W1:=qh (W1.o.new 3 #[.int .i64 (l:Int)])
 rw[hNN] at W1
 obtain n0:=W1.o.h0.one
 obtain m0:=W1.o.h1.one
 obtain p0:=W1.o.h2.one
 obtain⟨c0,c1,c2⟩:=W1.o.h3.three
 obtain v0:=W1.o.h4.one
 go_wp2_with fail
 refine(qCL m (l:Int) _).mono ?_;rintro e w2 ⟨rfl,hb⟩;have W2:=qh (W1.o.keep hb);clear hb W1;rw[HCM.o]
 clear m0 p0 c0 c1 c2 v0
 clear n0
 obtain n0:=W2.o.h0.one
 obtain m0:=W2.o.h1.one
 obtain p0:=W2.o.h2.one
 obtain⟨c0,c1,c2⟩:=W2.o.h3.three
 obtain v0:=W2.o.h4.one
 go_wp2_with fail
 refine(qM6 hn hq p l m W2.o.h1 W2.o.h4 W2.o.h3 W2.o.h2 W2.o.h0 h1 W2.o.at_).mono ?_;rintro e w3 ⟨rfl,h1,h2⟩;have W3:=qh (W2.o.call h1 h2);clear h1 h2 W2
 go_wp2
 go_ret
 exact⟨rfl,W3.o.fin⟩

theorem qAk (hn:n<2^40)(hq:q<=1024)(p l:Nat)(m:Int)(k c:Int)(ok:Bool)(hI:infoOf n K t q s (p:Int) st=(k,(l:Int),c,ok))(hm:(l:Int)<m)(h1:m<=q)(hp:(p:Int)+(l:Int)<=q)(h:(vOb base b n wh K).At w0 A G st w) :
  Calls Tryz.prog 18 #[.pointer (some ⟨b,0,none⟩),.agg #[.int .i64 t,.int .i64 q,.int .i64 s],.int .i64 (p:Int),.int .i64 m] w fun e w'=>e = .returned (.bool (growB n K t q s p l m (getS n K st (pageI t q s (p:Int) 0))))/\(vOb base b n wh K).At w0 A G (growS n K t q s p l m (getS n K st (pageI t q s (p:Int) 0))) w'/\Stay G w w':=by
 have W0:=qh (((((WL.start h).new 29 #[.pointer (some ⟨b,0,none⟩)]).new 23 #[.int .i64 t,.int .i64 q,.int .i64 s]).new 3 #[.int .i64 (p:Int)]).new 3 #[.int .i64 m])
 simp only[World.size_alloc] at W0
 have HI:=qh hI
 have HCM:qH (cmpI m (l:Int)=1):=qh (by unfold cmpI;rw[if_neg qo,if_pos hm])
 obtain⟨sg,hsg⟩:∃ sg,(getS n K st (pageI t q s (p:Int) 0))=sg:=⟨_,rfl⟩
 have HSG:=qh hsg
 rw[hsg]
 have hmf:∀ (fn:Fn) (first cap:Array Value) (w:World),(Instr.makeFunc fn first cap).run Tryz.prog w = .ok (.func fn first cap) w:=fun _ _ _ _=>rfl
 obtain m0:=W0.o.h0.one
 obtain p0:=W0.o.h1.one
 obtain⟨c0,c1,c2⟩:=W0.o.h2.three
 obtain v0:=W0.o.h3.one
 clear h hI hsg
 go_enter Tryz.func18,Tryz.ntmps18
 go_wp2_with fail
 refine(qUg hn (p:Int) k (l:Int) c ok HI.o W0.o.at_).mono ?_;rintro e w1 ⟨rfl,h1,h2⟩;have W1:=qh (W0.o.call h1 h2);clear h1 h2 W0;rw[HSG.o] at W1
 clear m0 p0 c0 c1 c2 v0
 generalize hNN:w1.heap.size=NN at *
 replace W1:=qh (W1.o.new 3 #[.int .i64 (l:Int)])
 rw[hNN] at W1
 obtain n0:=W1.o.h0.one
 obtain m0:=W1.o.h1.one
 obtain p0:=W1.o.h2.one
 obtain⟨c0,c1,c2⟩:=W1.o.h3.three
 obtain v0:=W1.o.h4.one
 go_wp2_with fail
 refine(qCL m (l:Int) _).mono ?_;rintro e w2 ⟨rfl,hb⟩;have W2:=qh (W1.o.keep hb);clear hb W1;rw[HCM.o]
 clear m0 p0 c0 c1 c2 v0
 clear n0
 obtain n0:=W2.o.h0.one
 obtain m0:=W2.o.h1.one
 obtain p0:=W2.o.h2.one
 obtain⟨c0,c1,c2⟩:=W2.o.h3.three
 obtain v0:=W2.o.h4.one
 go_wp2_with fail
 refine(qGi hn hq p l m W2.o.h1 W2.o.h4 W2.o.h3 W2.o.h2 W2.o.h0 hm h1 hp W2.o.at_).mono ?_;rintro e w3 ⟨rfl,h1,h2⟩;have W3:=qh (W2.o.call h1 h2);clear h1 h2 W2
 go_wp2
 go_ret
 exact⟨rfl,W3.o.fin⟩

theorem qVv (hn:n<2^40)(hq:q<=1024)(p l:Nat)(m:Int)(k c:Int)(ok:Bool)(hI:infoOf n K t q s (p:Int) st=(k,(l:Int),c,ok))(hm:(l:Int)<m)(h1:q<m)(h:(vOb base b n wh K).At w0 A G st w) :
  Calls Tryz.prog 18 #[.pointer (some ⟨b,0,none⟩),.agg #[.int .i64 t,.int .i64 q,.int .i64 s],.int .i64 (p:Int),.int .i64 m] w fun e w'=>e = .returned (.bool false)/\(vOb base b n wh K).At w0 A G ((getS n K st (pageI t q s (p:Int) 0))) w'/\Stay G w w':=by
 have W0:=qh (((((WL.start h).new 29 #[.pointer (some ⟨b,0,none⟩)]).new 23 #[.int .i64 t,.int .i64 q,.int .i64 s]).new 3 #[.int .i64 (p:Int)]).new 3 #[.int .i64 m])
 simp only[World.size_alloc] at W0
 have HI:=qh hI
 have HCM:qH (cmpI m (l:Int)=1):=qh (by unfold cmpI;rw[if_neg qo,if_pos hm])
 obtain⟨sg,hsg⟩:∃ sg,(getS n K st (pageI t q s (p:Int) 0))=sg:=⟨_,rfl⟩
 have HSG:=qh hsg
 rw[hsg]
 have hmf:∀ (fn:Fn) (first cap:Array Value) (w:World),(Instr.makeFunc fn first cap).run Tryz.prog w = .ok (.func fn first cap) w:=fun _ _ _ _=>rfl
 obtain m0:=W0.o.h0.one
 obtain p0:=W0.o.h1.one
 obtain⟨c0,c1,c2⟩:=W0.o.h2.three
 obtain v0:=W0.o.h3.one
 clear h hI hsg
 go_enter Tryz.func18,Tryz.ntmps18
 go_wp2_with fail
 refine(qUg hn (p:Int) k (l:Int) c ok HI.o W0.o.at_).mono ?_;rintro e w1 ⟨rfl,h1,h2⟩;have W1:=qh (W0.o.call h1 h2);clear h1 h2 W0;rw[HSG.o] at W1
 clear m0 p0 c0 c1 c2 v0
 generalize hNN:w1.heap.size=NN at *
 replace W1:=qh (W1.o.new 3 #[.int .i64 (l:Int)])
 rw[hNN] at W1
 obtain n0:=W1.o.h0.one
 obtain m0:=W1.o.h1.one
 obtain p0:=W1.o.h2.one
 obtain⟨c0,c1,c2⟩:=W1.o.h3.three
 obtain v0:=W1.o.h4.one
 go_wp2_with fail
 refine(qCL m (l:Int) _).mono ?_;rintro e w2 ⟨rfl,hb⟩;have W2:=qh (W1.o.keep hb);clear hb W1;rw[HCM.o]
 clear m0 p0 c0 c1 c2 v0
 clear n0
 obtain n0:=W2.o.h0.one
 obtain m0:=W2.o.h1.one
 obtain p0:=W2.o.h2.one
 obtain⟨c0,c1,c2⟩:=W2.o.h3.three
 obtain v0:=W2.o.h4.one
 go_wp2_with fail
 refine(qK5 hn hq p l m W2.o.h1 W2.o.h4 W2.o.h3 W2.o.h2 W2.o.h0 h1 W2.o.at_).mono ?_;rintro e w3 ⟨rfl,h1,h2⟩;have W3:=qh (W2.o.call h1 h2);clear h1 h2 W2
 go_wp2
 go_ret
 exact⟨rfl,W3.o.fin⟩

theorem qQF (hn:n<2^40)(hq:q<=1024)(p l:Nat)(m:Int)(k c:Int)(ok:Bool)(hI:infoOf n K t q s (p:Int) st=(k,(l:Int),c,ok))(hp:(p:Int)+(l:Int)<=q)(h:(vOb base b n wh K).At w0 A G st w) :
  Calls Tryz.prog 18 #[.pointer (some ⟨b,0,none⟩),.agg #[.int .i64 t,.int .i64 q,.int .i64 s],.int .i64 (p:Int),.int .i64 m] w fun e w'=>e = .returned (.bool (resizeL n K t q s p m st).1)/\(vOb base b n wh K).At w0 A G ((resizeL n K t q s p m st).2) w'/\Stay G w w':=by
 have hL:lenI n K t q s p st=l:=by unfold lenI;rw[hI];simp
 unfold resizeL
 simp only[hL]
 unfold readS
 by_cases h1:m=(l:Int)
 ·rw[if_pos h1]
  exact qQ6 hn hq p l m k c ok hI h1 h
 ·rw[if_neg h1]
  by_cases h2:1<=m/\m<(l:Int)
  ·rw[if_pos h2]
   exact qQE hn hq p l m k c ok hI h2.1 h2.2 qo h
  ·rw[if_neg h2]
   by_cases h3:(l:Int)<m/\m<=q
   ·rw[if_pos h3]
    exact qAk hn hq p l m k c ok hI h3.1 h3.2 hp h
   ·rw[if_neg h3]
    by_cases h4:m<(l:Int)
    ·exact qRD hn hq p l m k c ok hI qo h4 h
    ·exact qVv hn hq p l m k c ok hI qo qo h
end
end
section
theorem qXO {w:World}{base base':Nat}{e:TypeId}{size n:Nat}{v:Value}{xs:List Value}(h:w.ownsRow base e size v n xs)(hb:base'<=base):w.ownsRow base' e size v n xs:=by
 refine⟨h.1,?_⟩
 rcases h.2 with h2|⟨g,cap,cur,rfl,hbg,hg,hr⟩
 ·exact .inl h2
 ·exact .inr ⟨g,cap,cur,rfl,Nat.le_trans hb hbg,hg,hr⟩

section
variable {O : Ob} {w0 ws w w' : World} {A G : Nat -> Prop} {N : Nat} {T : TypeId} {cs : Array Value} {base : Nat} {u : Value} {nl : Nat} {xs : List Value} {st s' : Vst}
theorem qLg {t e:TypeId}{size:Nat}{v:Value}{g:Nat}(h:Held w g t cs)(ho:w.ownsRow base e size v nl xs)(hne:t≠e):v.ownBlock≠some g:=by
 intro hv
 rcases ho.2 with ⟨rfl,_⟩|⟨g',cap,cur,rfl,hb,hg,_⟩
 ·simp[Value.ownBlock] at hv
 ·have:g'=g:=by simpa [Value.ownBlock] using hv
  subst this
  unfold Held at h
  rw[h] at hg
  injection hg with hg
  injection hg with _ h2
  exact hne h2
end
end
section
structure Duo (W:World) (O1 O2:Ob) (A B G:Nat->Prop) (s1 s2:Vst) (w:World):Prop where
 i1:O1.I w s1 A
 i2:O2.I w s2 B
 ab:∀ i,A i->¬ B i
 aG:∀ g,G g->g<w.heap.size/\¬ A g/\¬ B g
 lo:∀ i,A i\/B i->W.heap.size<=i
 bel:Below W.heap.size W w
def noOb:Ob where
 I _ _ A:=∀ i,¬ A i
 lt h i hi:=absurd hi (h i)
 turns h _ _:=h

section
variable {W w w' : World} {O1 O2 : Ob} {A B G : Nat -> Prop} {s1 s2 s' : Vst}
theorem Duo.left1 (h:Duo W O1 O2 A B G s1 s2 w)(hl:O1.Left w A s' w'):∃ A',Duo W O1 O2 A' B G s' s2 w'/\Stay G w w':=by
 obtain⟨A',k1,k2,k3⟩:=hl
 have hs:=h.bel.size
 refine⟨A',⟨k1,O2.turns h.i2 k3 (fun i hi ha=>h.ab i ha hi),fun i hi hb=>?_,fun g hg=>⟨Nat.lt_of_lt_of_le (h.aG g hg).1 k3.size,fun x=>?_,(h.aG g hg).2.2⟩,fun i hi=>?_,k3.below h.bel (fun i hi=>h.lo i (.inl hi))⟩,⟨k3.size,fun g hg hl=>k3.block g hl (h.aG g hg).2.1⟩⟩
 ·rcases k2 i hi with h1|h1
  ·exact h.ab i h1 hb
  ·have:=O2.lt h.i2 i hb;omega
 ·rcases k2 g x with h1|h1
  ·exact(h.aG g hg).2.1 h1
  ·have:=(h.aG g hg).1;omega
 ·rcases hi with hi|hi
  ·rcases k2 i hi with h1|h1
   ·exact h.lo i (.inl h1)
   ·omega
  ·exact h.lo i (.inr hi)
theorem Duo.keep (h:Duo W O1 O2 A B G s1 s2 w)(hb:Below w.heap.size w w'):Duo W O1 O2 A B G s1 s2 w' :=
 ⟨Ob.keep h.i1 hb,Ob.keep h.i2 hb,h.ab,fun g hg=>⟨Nat.lt_of_lt_of_le (h.aG g hg).1 hb.size,(h.aG g hg).2⟩,h.lo,Bgo h.bel hb⟩
theorem Duo.at1 (h:Duo W O1 O2 A B G s1 s2 w):O1.At w A (fun _=>False) s1 w:=Ob.At.start h.i1
theorem qAg {b n base:Nat}{wh:Bool}{o:VGeo}{K:Nat->Option Nat}{s:Vst}(hI:IsView w base b n wh o K s)(hb:W.heap.size<=base)(hB:Below W.heap.size W w)(hG:∀ g,G g->g<w.heap.size/\¬ o.A b g) :
  Duo W (vOb base b n wh K) noOb (o.A b) (fun _=>False) G s freshS w :=
 ⟨⟨o,hI,rfl⟩,fun _ x=>x,fun _ _ x=>x,fun g hg=>⟨(hG g hg).1,(hG g hg).2,fun x=>x⟩,fun i hi=>by
  rcases hi with hi|hi
  ·exact Nat.le_trans hb (hI.ge i hi)
  ·exact hi.elim,hB⟩
end
end
section
theorem qYU (t q s:Int)(w:World):Calls Tryz.prog 6 #[.agg #[.int .i64 t,.int .i64 q,.int .i64 s]] w fun e w'=>e = .returned (.bool (decide (q<=64)))/\Below w.heap.size w w':=by
 go_enter Tryz.func6,Tryz.ntmps6
 go_wp2
 go_ret
 exact⟨rfl,Bnew (B0 _) _⟩
theorem qSQ (w:World):(Instr.makeSlice 24 (.int .i64 82) (.int .i64 82)).run Tryz.prog w = .ok (.slice (some ⟨w.heap.size,0,none⟩) 82 82) (w.alloc (.cells (Array.replicate 82 (.int .u32 0)) 57)):=by kernel_rfl
def ex14L:List Nat:=((((List.replicate 82 0).set 0 8).set 5 1).set 34 129).set 77 1
def ex14C:Array Value:=((((Array.replicate 82 (Value.int .u32 0)).setIfInBounds 0 (.int .u32 8)).setIfInBounds 5 (.int .u32 1)).setIfInBounds 34 (.int .u32 129)).setIfInBounds 77 (.int .u32 1)
theorem qLh:ex14C.toList=valVs ex14L:=by
 unfold ex14C ex14L valVs
 simp only[Array.toList_setIfInBounds,Array.toList_replicate,List.map_set,List.map_replicate]
 rfl
def qEr:Nat->Option Nat:=fun i=>ex14L[i]?
theorem qGI (w:World):Calls Tryz.prog 27 #[] w fun e w'=>∃ g,e = .returned (.tuple #[.agg #[.int .i64 1,.int .i64 8,.int .i64 10],.slice (some ⟨g,0,none⟩) 82 82])/\Held w' g 57 ex14C/\Below w.heap.size w w':=by
 have hmk:=qSQ
 have HC:=(Held.new w 23 #[.int .i64 0,.int .i64 0,.int .i64 0]).alloc (.cells (Array.replicate 82 (.int .u32 0)) 57)
 have HG:=Held.new2 w (.cells #[.int .i64 0,.int .i64 0,.int .i64 0] 23) 57 (Array.replicate 82 (.int .u32 0))
 have g0:_=some (Value.int .u32 0):=(HG.cell 0).trans (by simp)
 have g1:_=some (Value.int .u32 0):=(HG.cell 5).trans (by simp)
 have g2:_=some (Value.int .u32 0):=(HG.cell 34).trans (by simp)
 have g3:_=some (Value.int .u32 0):=(HG.cell 77).trans (by simp)
 have f0:=HG.thawed
 obtain⟨c0,c1,c2⟩:=HC.three
 have f1:=HC.thawed
 clear HC HG
 go_enter Tryz.func27,Tryz.ntmps27
 go_wp2
 refine bodyPost_ret (v := .tuple #[.agg #[.int .i64 1,.int .i64 8,.int .i64 10],.slice (some ⟨w.heap.size+1,0,none⟩) 82 82]) (by simp[results,Tryz.results27,go_sem]) rfl ⟨w.heap.size+1,rfl,?_,?_⟩
 ·unfold ex14C
  exact Held.new2 w (.cells #[.int .i64 1,.int .i64 8,.int .i64 10] 23) 57 _
 ·exact Bnew (Bnew (B0 w) _) _
end
section
theorem qOo:ex14L.length=82:=by decide
theorem qDC:∀ x∈ex14L,x<2^32:=by decide
theorem qGe {w:World}{g:Nat}{t:TypeId}(h:Held w g t ex14C):∀ j u,(valVs ex14L)[j]?=some u->w.cell? ((⟨g,0,none⟩:Addr).add j)=some u:=by
 intro j u hu
 have e:(⟨g,0,none⟩:Addr).add j=⟨g,j,none⟩:=by
  unfold Addr.add
  by_cases hz:j=0
  ·rw[if_pos hz,hz]
  ·rw[if_neg hz];simp
 rw[e,h.cell j,<- hu,<- qLh]
 simp
end
section
def exA1:Vst:=(allocL 82 qEr 1 8 10 3 freshS).2
def exA2:Vst:=(resizeL 82 qEr 1 8 10 0 5 exA1).2
def exA3:Vst:=(resizeL 82 qEr 1 8 10 0 9 exA2).2
theorem qXh:allocL 82 qEr 1 8 10 3 freshS=(some 0,exA1):=by
 have h:(allocL 82 qEr 1 8 10 3 freshS).1=some 0:=by decide +kernel
 unfold exA1
 rw[<- h]
theorem qJ8:infoOf 82 qEr 1 8 10 ((0:Nat):Int) exA1=(2,((3:Nat):Int),0,true):=by decide +kernel
theorem qLk:resizeL 82 qEr 1 8 10 0 5 exA1=(true,exA2):=by
 have h:(resizeL 82 qEr 1 8 10 0 5 exA1).1=true:=by decide +kernel
 unfold exA2
 rw[<- h]
theorem qWe:infoOf 82 qEr 1 8 10 ((0:Nat):Int) exA2=(2,((5:Nat):Int),0,true):=by decide +kernel
theorem qG1:resizeL 82 qEr 1 8 10 0 9 exA2=(false,exA3):=by
 have h:(resizeL 82 qEr 1 8 10 0 9 exA2).1=false:=by decide +kernel
 unfold exA3
 rw[<- h]
theorem qBX:getV 82 qEr exA3 0=3:=by decide +kernel
theorem qBE:getV 82 qEr (getS 82 qEr exA3 0) 1=1:=by decide +kernel

theorem qVa (w:World):Calls Tryz.prog 8 #[] w fun e w'=>e = .returned (.bool true)/\Below w.heap.size w w':=by
 have HTK:=qh qXh
 have HI1:=qh qJ8
 have HI2:=qh qWe
 have HR5:=qh qLk
 have HR9:=qh qG1
 have H0:=qh qBX
 have H1:=qh qBE
 go_enter Tryz.func8,Tryz.ntmps8
 go_wp2_with fail
 refine(qGI _).mono ?_
 rintro e w1 ⟨g,rfl,hg,hb⟩
 have HG:=qh (hg.alloc (.cells #[.int .i64 1,.int .i64 8,.int .i64 10] 23))
 have HC:=qh (Held.new w1 23 #[.int .i64 1,.int .i64 8,.int .i64 10])
 have HB:=qh (Bnew hb (.cells #[.int .i64 1,.int .i64 8,.int .i64 10] 23))
 clear hg hb
 obtain⟨x0,x1,x2⟩:=HC.o.three
 go_wp2_with fail
 generalize hNC:w1.heap.size=NC at *
 generalize hW1:w1.alloc (.cells #[.int .i64 1,.int .i64 8,.int .i64 10] 23)=W1 at *
 clear hNC hW1
 refine(qWm (some ⟨g,0,none⟩) 82 ex14L 82 qOo qo qDC _ (fun _=>⟨_,rfl,qGe HG.o⟩)).mono ?_
 rintro e w3 ⟨b,o,rfl,hI,hB⟩
 have HD:=qh (qAg (W:=w) (G:=fun i=>i=NC) hI HB.o.size (Bgo HB.o hB) (fun i hi=>by
  have h1:=HC.o.lt
  have h3:=hB.size
  rcases hi with rfl
  exact⟨qo,fun x=>by have:=hI.ge _ x;omega⟩))
 replace HC:=qh (HC.o.keep hB)
 clear hI hB HB HG
 rw[show (fun i=>ex14L[i]?)=qEr from rfl] at HD
 clear x0 x1 x2
 obtain⟨x0,x1,x2⟩:=HC.o.three
 go_wp2_with fail
 refine(qHr (t:=1) (q:=8) (s:=10) qo qo 3 HD.o.at1).mono ?_
 rintro e w2 ⟨rfl,h1,_⟩
 obtain⟨A4,h2,h3⟩:=HD.o.left1 h1.left
 rw[HTK.o] at h2 ⊢
 dsimp only[foundI,Option.isSome] at h2 ⊢
 replace HC:=qh (h3.held rfl HC.o)
 replace HD:qH (Duo w (vOb _ b 82 true qEr) noOb A4 (fun _=>False) (fun i=>i=NC) exA1 freshS w2):=qh h2
 clear h1 h2 h3
 clear x0 x1 x2
 obtain⟨x0,x1,x2⟩:=HC.o.three
 go_wp2_with fail
 refine(qQF (t:=1) (q:=8) (s:=10) qo qo 0 3 5 2 0 true HI1.o qo HD.o.at1).mono ?_
 rintro e w2 ⟨rfl,h1,_⟩
 obtain⟨A4,h2,h3⟩:=HD.o.left1 h1.left
 rw[HR5.o] at h2 ⊢
 dsimp only at h2 ⊢
 replace HC:=qh (h3.held rfl HC.o)
 replace HD:qH (Duo w (vOb _ b 82 true qEr) noOb A4 (fun _=>False) (fun i=>i=NC) exA2 freshS w2):=qh h2
 clear h1 h2 h3
 clear x0 x1 x2
 obtain⟨x0,x1,x2⟩:=HC.o.three
 go_wp2_with fail
 refine(qQF (t:=1) (q:=8) (s:=10) qo qo 0 5 9 2 0 true HI2.o qo HD.o.at1).mono ?_
 rintro e w2 ⟨rfl,h1,_⟩
 obtain⟨A4,h2,h3⟩:=HD.o.left1 h1.left
 rw[HR9.o] at h2 ⊢
 dsimp only at h2 ⊢
 replace HC:=qh (h3.held rfl HC.o)
 replace HD:qH (Duo w (vOb _ b 82 true qEr) noOb A4 (fun _=>False) (fun i=>i=NC) exA3 freshS w2):=qh h2
 clear h1 h2 h3
 clear x0 x1 x2
 obtain⟨x0,x1,x2⟩:=HC.o.three
 go_wp2_with fail
 refine(vGetA qo 0 HD.o.at1).mono ?_
 rintro e w2 ⟨rfl,h1,_⟩
 obtain⟨A4,h2,h3⟩:=HD.o.left1 h1.left
 rw[H0.o]
 replace HC:=qh (h3.held rfl HC.o)
 replace HD:qH (Duo w (vOb _ b 82 true qEr) noOb A4 (fun _=>False) (fun i=>i=NC) (getS 82 qEr exA3 0) freshS w2):=qh h2
 clear h1 h2 h3
 clear x0 x1 x2
 obtain⟨x0,x1,x2⟩:=HC.o.three
 go_wp2_with fail
 refine(vGetA qo 1 HD.o.at1).mono ?_
 rintro e w2 ⟨rfl,h1,_⟩
 obtain⟨A4,h2,h3⟩:=HD.o.left1 h1.left
 rw[H1.o]
 replace HC:=qh (h3.held rfl HC.o)
 replace HD:qH (Duo w (vOb _ b 82 true qEr) noOb A4 (fun _=>False) (fun i=>i=NC) _ freshS w2):=qh h2
 clear h1 h2 h3
 clear x0 x1 x2
 obtain⟨x0,x1,x2⟩:=HC.o.three
 have HB:=qh HD.o.bel
 go_wp2
 go_ret
 exact⟨rfl,HB.o⟩

theorem qBo (t q s p:Int)(A:Option Addr)(n c:Nat)(h:p<0\/q<=p)(w:World) :
  Calls Tryz.prog 17 #[.agg #[.int .i64 t,.int .i64 q,.int .i64 s],.slice A n c,.int .i64 p] w fun e w'=>e = .returned (.int .i64 0)/\Below w.heap.size w w':=by
 have HB:=qh (Bnew (B0 w) (.cells #[.int .i64 t,.int .i64 q,.int .i64 s] 23))
 obtain⟨x0,x1,x2⟩:=(Held.new w 23 #[.int .i64 t,.int .i64 q,.int .i64 s]).three
 by_cases h0:p<0
 ·have t0:decide (p<(0:Int))=true:=decide_eq_true h0
  exact Mch
 ·have t0:decide (p<(0:Int))=false:=decide_eq_false h0
  have t1:decide (q<=p)=true:=qt
  exact Mch
def usedN (H:AuH) (p:Nat):Nat:=if H.K p=2 then H.ln p else 0
theorem qHy {H:AuH}{n c:Nat}(HV:HeapV H n c)(ad:Addr){p:Nat}(hp:p<H.p)(w:World)(hv:IsVals w ad n H.V) :
  Calls Tryz.prog 17 #[.agg #[.int .i64 (H.t:Int),.int .i64 (H.p:Int),.int .i64 (H.s:Int)],.slice (some ad) n c,.int .i64 (p:Int)] w fun e w'=>e = .returned (.int .i64 (usedN H p:Int))/\Below w.heap.size w w':=by
 have t0:decide ((p:Int)<0)=false:=qf
 have t1:decide ((H.p:Int)<=(p:Int))=false:=qf
 have HVL:=qh hv
 have HC:=qh ((Held.new w 23 #[.int .i64 (H.t:Int),.int .i64 (H.p:Int),.int .i64 (H.s:Int)]).alloc (.cells #[.int .i64 (H.t:Int),.int .i64 (H.p:Int),.int .i64 (H.s:Int),.slice (some ad) n c] 88))
 have HX:=qh (Held.new2 w (.cells #[.int .i64 (H.t:Int),.int .i64 (H.p:Int),.int .i64 (H.s:Int)] 23) 88 #[.int .i64 (H.t:Int),.int .i64 (H.p:Int),.int .i64 (H.s:Int),.slice (some ad) n c])
 have HB:=qh (Bnew (Bnew (B0 w) (.cells #[.int .i64 (H.t:Int),.int .i64 (H.p:Int),.int .i64 (H.s:Int)] 23)) (.cells #[.int .i64 (H.t:Int),.int .i64 (H.p:Int),.int .i64 (H.s:Int),.slice (some ad) n c] 88))
 obtain⟨x0,x1,x2⟩:=HC.o.three
 obtain⟨v0,v1,v2⟩:=(Held.new w 23 #[.int .i64 (H.t:Int),.int .i64 (H.p:Int),.int .i64 (H.s:Int)]).three
 obtain⟨y0,y1,y2,y3⟩:=HX.o.four
 obtain⟨kk,hkk⟩:∃ kk,H.K p=kk:=⟨_,rfl⟩
 obtain⟨ll,hll⟩:∃ ll,H.ln p=ll:=⟨_,rfl⟩
 obtain⟨cc,hcc⟩:∃ cc,H.Cl p=cc:=⟨_,rfl⟩
 obtain⟨uu,huu⟩:∃ uu,usedN H p=uu:=⟨_,rfl⟩
 have HK:=qh hkk
 have HL:=qh hll
 have HCC:=qh hcc
 rw[huu]
 have hu:(kk=2/\uu=ll)\/(kk≠2/\uu=0):=by
  rw[<- huu,<- hkk,<- hll]
  unfold usedN
  by_cases h:H.K p=2
  ·exact .inl ⟨h,by rw[if_pos h]⟩
  ·exact .inr ⟨h,by rw[if_neg h]⟩
 clear hkk hll hcc hv huu
 rcases hu with ⟨rfl,rfl⟩|⟨hne,rfl⟩
 ·skip
  skip
  go_enter Tryz.func17,Tryz.ntmps17
  go_wp2_with fail
  refine(qMU HV ad hp _ (HVL.o.below HB.o)).mono ?_
  rintro e w4 ⟨rfl,hb⟩
  rw[HK.o,HL.o,HCC.o]
  have HI:=qh (Held.new w4 90 #[.int .i64 2,.int .i64 (uu:Int),.int .i64 cc])
  replace HB:=qh (Bnew (Bgo HB.o hb) (.cells #[.int .i64 2,.int .i64 (uu:Int),.int .i64 cc] 90))
  exact MJH
 ·have t2:(kk != 2)=true:=by simpa using hne
  clear hne
  go_enter Tryz.func17,Tryz.ntmps17
  go_wp2_with fail
  refine(qMU HV ad hp _ (HVL.o.below HB.o)).mono ?_
  rintro e w4 ⟨rfl,hb⟩
  rw[HK.o,HL.o,HCC.o]
  have HI:=qh (Held.new w4 90 #[.int .i64 kk,.int .i64 (ll:Int),.int .i64 cc])
  replace HB:=qh (Bnew (Bgo HB.o hb) (.cells #[.int .i64 kk,.int .i64 (ll:Int),.int .i64 cc] 90))
  exact MJH
end
open Go.Shelf
section
def set9 (w:World) (g:Nat) (a0 a1 a2 a3 a4 a5 a6 a7 a8:Value):World:=((((((((w.setCell ⟨g,0,none⟩ a0).setCell ⟨g,1,none⟩ a1).setCell ⟨g,2,none⟩ a2).setCell ⟨g,3,none⟩ a3).setCell ⟨g,4,none⟩ a4).setCell ⟨g,5,none⟩ a5).setCell ⟨g,6,none⟩ a6).setCell ⟨g,7,none⟩ a7).setCell ⟨g,8,none⟩ a8
section
variable {w : World} {g : Nat} {t : TypeId} {c0 c1 c2 c3 c4 c5 c6 c7 c8 : Value}
theorem Held.nine (h:Held w g t #[c0,c1,c2,c3,c4,c5,c6,c7,c8]):w.cell? ⟨g,0,none⟩=some c0/\w.cell? ⟨g,1,none⟩=some c1/\w.cell? ⟨g,2,none⟩=some c2/\w.cell? ⟨g,3,none⟩=some c3/\w.cell? ⟨g,4,none⟩=some c4/\w.cell? ⟨g,5,none⟩=some c5/\w.cell? ⟨g,6,none⟩=some c6/\w.cell? ⟨g,7,none⟩=some c7/\w.cell? ⟨g,8,none⟩=some c8:=⟨h.cell 0,h.cell 1,h.cell 2,h.cell 3,h.cell 4,h.cell 5,h.cell 6,h.cell 7,h.cell 8⟩
theorem Held.thawed9 {cs:Array Value}(h:Held w g t cs):w.frozen? ⟨g,0,none⟩=false/\w.frozen? ⟨g,1,none⟩=false/\w.frozen? ⟨g,2,none⟩=false/\w.frozen? ⟨g,3,none⟩=false/\w.frozen? ⟨g,4,none⟩=false/\w.frozen? ⟨g,5,none⟩=false/\w.frozen? ⟨g,6,none⟩=false/\w.frozen? ⟨g,7,none⟩=false/\w.frozen? ⟨g,8,none⟩=false:=⟨h.thawed 0,h.thawed 1,h.thawed 2,h.thawed 3,h.thawed 4,h.thawed 5,h.thawed 6,h.thawed 7,h.thawed 8⟩
theorem Held.set9 (h:Held w g t #[c0,c1,c2,c3,c4,c5,c6,c7,c8])(a0 a1 a2 a3 a4 a5 a6 a7 a8:Value):Held (set9 w g a0 a1 a2 a3 a4 a5 a6 a7 a8) g t #[a0,a1,a2,a3,a4,a5,a6,a7,a8]:=by
 have h0:Held _ g t #[a0,c1,c2,c3,c4,c5,c6,c7,c8]:=h.put 0 a0
 have h1:Held _ g t #[a0,a1,c2,c3,c4,c5,c6,c7,c8]:=h0.put 1 a1
 have h2:Held _ g t #[a0,a1,a2,c3,c4,c5,c6,c7,c8]:=h1.put 2 a2
 have h3:Held _ g t #[a0,a1,a2,a3,c4,c5,c6,c7,c8]:=h2.put 3 a3
 have h4:Held _ g t #[a0,a1,a2,a3,a4,c5,c6,c7,c8]:=h3.put 4 a4
 have h5:Held _ g t #[a0,a1,a2,a3,a4,a5,c6,c7,c8]:=h4.put 5 a5
 have h6:Held _ g t #[a0,a1,a2,a3,a4,a5,a6,c7,c8]:=h5.put 6 a6
 have h7:Held _ g t #[a0,a1,a2,a3,a4,a5,a6,a7,c8]:=h6.put 7 a7
 have h8:Held _ g t #[a0,a1,a2,a3,a4,a5,a6,a7,a8]:=h7.put 8 a8
 exact h8
theorem qLN {W:World}(h:Below W.heap.size W w)(hg:W.heap.size<=g)(a0 a1 a2 a3 a4 a5 a6 a7 a8:Value):Below W.heap.size W (set9 w g a0 a1 a2 a3 a4 a5 a6 a7 a8) :=
 Bput (Bput (Bput (Bput (Bput (Bput (Bput (Bput (Bput h (p:=⟨g,0,none⟩) hg a0) (p:=⟨g,1,none⟩) hg a1) (p:=⟨g,2,none⟩) hg a2) (p:=⟨g,3,none⟩) hg a3) (p:=⟨g,4,none⟩) hg a4) (p:=⟨g,5,none⟩) hg a5) (p:=⟨g,6,none⟩) hg a6) (p:=⟨g,7,none⟩) hg a7) (p:=⟨g,8,none⟩) hg a8
theorem qMB {j:Nat}(hj:j≠g)(a0 a1 a2 a3 a4 a5 a6 a7 a8:Value):(set9 w g a0 a1 a2 a3 a4 a5 a6 a7 a8).heap[j]?=w.heap[j]?:=by
 unfold _root_.Go.Proofs.YtgifnhcknodekaaGreat.set9
 repeat rw[Below.heap_setCell _ _ _ _ hj]
theorem qL8 {base:Nat}{e:TypeId}{size:Nat}{v:Value}{n:Nat}{xs:List Value}(h:w.ownsRow base e size v n xs)(hg:∀ j,v.ownBlock=some j->j≠g)(a0 a1 a2 a3 a4 a5 a6 a7 a8:Value):(set9 w g a0 a1 a2 a3 a4 a5 a6 a7 a8).ownsRow base e size v n xs :=
 qWQ h (fun j hj=>qMB (hg j hj) _ _ _ _ _ _ _ _ _)
end
theorem qYK (H:AuH):∃ (r0 r1 r2 r3 r4 r5 r6 r7:Nat),rootsV H = .agg #[.int .i64 (r0:Int),.int .i64 (r1:Int),.int .i64 (r2:Int),.int .i64 (r3:Int),.int .i64 (r4:Int),.int .i64 (r5:Int),.int .i64 (r6:Int),.int .i64 (r7:Int)]/\H.V 22=r0/\H.V 23=r1/\H.V 24=r2/\H.V 25=r3/\H.V 26=r4/\H.V 27=r5/\H.V 28=r6/\H.V 29=r7:=⟨_,_,_,_,_,_,_,_,rfl,rfl,rfl,rfl,rfl,rfl,rfl,rfl,rfl⟩
end
end Go.Proofs.YtgifnhcknodekaaGreat
