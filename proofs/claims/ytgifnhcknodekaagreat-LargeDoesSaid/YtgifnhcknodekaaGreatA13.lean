/-
  Values that came in are a right configuration's cells, or not; and then a heap, or none, for the document.
-/
import Derived.Test.YtgifnhcknodekaaGreatA12
import Derived.Test.YtgifnhcknodekaaGreatA08
import Derived.Test.YtgifnhcknodekaaGreatA07
import Derived.Test.YtgifnhcknodekaaGreatA04
import Derived.Test.YtgifnhcknodekaaGreatA05
namespace Go.Proofs.YtgifnhcknodekaaGreat
theorem MMN {P:Prop}(h:P:=by first|exact⟨W1.o.drew.h1.three.1,W1.o.drew.h1.three.2.1,W1.o.drew.h1.three.2.2,W1.o.drew.h0.three.2.1⟩|exact⟨W1.o.h1.three.1,W1.o.h1.three.2.1,W1.o.h1.three.2.2,W1.o.h0.three.2.1⟩|exact⟨W2.o.h1.three.1,W2.o.h1.three.2.1,W2.o.h1.three.2.2,W2.o.h0.three.2.1⟩|exact hHeld):P:=h
theorem MnD {P:Prop}(h:P:=by
 go_enter Tryz.func47,Tryz.ntmps47
 go_wp2_with fail
 refine(qYm a _).mono ?_;rintro e w1 ⟨rfl,rfl⟩
 go_wp2_with fail
 refine(qYm b _).mono ?_;rintro e w1 ⟨rfl,rfl⟩
 go_wp2
 go_ret
 exact⟨rfl,B0 _⟩):P:=h
theorem MZ6 {P:Prop}(h:P:=by first|exact W5.o.drew.h0.three|exact W5.o.h0.three|exact W6.o.h0.three|exact hHeld):P:=h
end Go.Proofs.YtgifnhcknodekaaGreat
set_option linter.unusedVariables false
set_option linter.unusedSimpArgs false
set_option maxRecDepth 100000
set_option maxHeartbeats 25600000
namespace Go.Proofs.YtgifnhcknodekaaGreat
open Go.ChangeShapes Go.WideShapes Go.ChangeAt Go.RowKit
section
theorem qFz (W:World)(t q s:Int)(A:Option Addr)(c:Nat)(vals:List Nat)(hnc:vals.length<=c)(hcm:c<=maxLen)(h32:∀ x∈vals,x<2^32)(hR:Reads W W.heap.size 1 A vals.length (valVs vals))(h:lC t q s≠0/\(vals.length:Int)=lC t q s) :
  ∃ (H:AuH) (ad:Addr),t=H.t/\q=H.p/\s=H.s/\A=some ad/\(∀ i,H.V i=vals.getD i 0)/\HeapV H vals.length c/\IsVals W ad vals.length H.V:=by
 cases hr:rightB t q s
 ·exact absurd (qJj hr).5 h.1
 ·have hn:=(qQB t q s).1 hr
  have hl:=(qVu hr).5
  have hlen:0<vals.length:=by have:=h.2;rw[hl] at this;omega
  obtain⟨ad,rfl,hb,hc⟩:=hR.2 hlen
  have hx:∀ i,i<vals.length->vals[i]?=some (vals.getD i 0):=fun i hi=>by simp[List.getD,List.getElem?_eq_getElem hi]
  refine⟨⟨t.toNat,q.toNat,s.toNat,fun i=>vals.getD i 0⟩,ad,by show t=_;simp;omega,by show q=_;simp;omega,by show s=_;simp;omega,rfl,fun i=>rfl,⟨?_,?_,hnc,hcm,fun i hi=>?_⟩,hb,fun i hi=>?_⟩
  ·show rightB ((t.toNat:Nat):Int) ((q.toNat:Nat):Int) ((s.toNat:Nat):Int)=true
   rw[show ((t.toNat:Nat):Int)=t by omega,show ((q.toNat:Nat):Int)=q by omega,show ((s.toNat:Nat):Int)=s by omega]
   exact hr
  ·show vals.length=30+4*t.toNat+6*q.toNat
   have:=h.2
   rw[hl] at this
   omega
  ·exact h32 _ (List.mem_of_getElem? (hx i hi))
  ·refine hc i _ ?_
   unfold valVs
   rw[List.getElem?_map,hx i hi]
   rfl
theorem qXV (W:World)(t q s:Int)(A:Option Addr)(c:Nat)(vals:List Nat)(hnc:vals.length<=c)(hcm:c<=maxLen)(h32:∀ x∈vals,x<2^32)(hR:Reads W W.heap.size 1 A vals.length (valVs vals)) :
  (∃ m,XCheckIs W t q s A vals.length c m false)\/∃ (H:AuH) (ad:Addr) (m:Nat),t=H.t/\q=H.p/\s=H.s/\A=some ad/\(∀ i,H.V i=vals.getD i 0)/\HeapV H vals.length c/\IsVals W ad vals.length H.V/\H.Told m true/\XCheckIs W H.t H.p H.s (some ad) vals.length c m true:=by
 by_cases h:lC t q s≠0/\(vals.length:Int)=lC t q s
 ·obtain⟨H,ad,rfl,rfl,rfl,rfl,hV,HV,hv⟩:=qFz W t q s A c vals hnc hcm h32 hR h
  obtain⟨m,b,hto⟩:=H.told_is
  have hX:=qZU HV ad W hv hto
  cases b with
  | true=>exact .inr ⟨H,ad,m,rfl,rfl,rfl,rfl,hV,HV,hv,hto,hX⟩
  | false=>exact .inl ⟨m,hX⟩
 ·exact .inl ⟨1,qOW W t q s A vals.length c hnc hcm h⟩
end
open Go.Maps
section
theorem qCW {H:AuH}{m:Nat}(h:H.Told m true):∀ i,i<10->H.rule i:=by
 rcases h with ⟨_,_,h⟩|⟨h,_⟩
 ·exact h
 ·cases h
end
section
def upS (n:Nat) (K:Nat->Option Nat) (st:Vst):Vst:=putS n (getS n K st 1) 1 (qOO (getV n K st 1) 1)
def downS (n:Nat) (K:Nat->Option Nat) (st:Vst):Vst:=putS n (getS n K st 1) 1 (qZB (getV n K st 1) 1)
section
variable {H : AuH} {n c : Nat} {K : Nat -> Option Nat} {st s' : Vst} {L L' : Nat -> List Nat} {g : Nat -> Nat} {A k e : Nat}
end
section
variable {H : AuH} {n c : Nat} {K : Nat -> Option Nat} {st : Vst} {L L' : Nat -> List Nat} {g : Nat -> Nat} {A k e : Nat}

end
end
section
section
variable (n : Nat) (K : Nat -> Option Nat) (t q s : Int)
def lenI (p:Nat) (st:Vst):Nat:=(infoOf n K t q s (p:Int) st).2.1.toNat
def readS (p:Nat) (st:Vst):Vst:=getS n K st (pageI t q s (p:Int) 0)
def allocL (m:Int) (st:Vst):Option Nat × Vst:=match (takeI n K t q s m st).1 with
 | some p=>(some p,upS n K (takeI n K t q s m st).2)
 | none=>(none,(takeI n K t q s m st).2)
def freeL (p:Nat) (st:Vst):Vst:=downS n K (releaseS n K t q s p (lenI n K t q s p st) (readS n K t q s p st))
def resizeL (p:Nat) (m:Int) (st:Vst):Bool × Vst :=
 let l:=lenI n K t q s p st
 let s1:=readS n K t q s p st
 if m=(l:Int) then (true,s1)
 else if 1<=m/\m<(l:Int) then (true,shrinkS n K t q s p l m.toNat s1)
 else if (l:Int)<m/\m<=q then (growB n K t q s p l m s1,growS n K t q s p l m s1)
 else (false,s1)
end
section
variable {H : AuH} {n c : Nat} {K : Nat -> Option Nat} {st : Vst} {L L' : Nat -> List Nat} {g : Nat -> Nat} {A k e : Nat}
theorem Work.len_used (W:Work H.t H.p H.s n K st L H.V)(hf:Fit H.t H.p H.s n){p l:Nat}(hp:p<H.p)(hk:H.K p=2)(hl:H.ln p=l):infoOf n K H.t H.p H.s (p:Int) st=(2,(l:Int),0,true)/\lenI n K H.t H.p H.s p st=l:=by
 have h1:infoOf n K H.t H.p H.s (p:Int) st=(2,(l:Int),0,true):=by
  rw[W.infoAt hf hp,<- hl]
  exact qUu hk
 exact⟨h1,by unfold lenI;rw[h1];simp⟩
end
section
variable {H : AuH} {n c : Nat} {K : Nat -> Option Nat} {st : Vst} {L L' : Nat -> List Nat} {g : Nat -> Nat} {A k e : Nat}
end
end
section
theorem qYm (a:Int)(w:World):Calls Tryz.prog 89 #[.int .i64 a] w fun e w'=>e = .returned (.bool false)/\w=w':=by
 have e1:(a != a)=false:=by simp
 go_enter Tryz.func89,Tryz.ntmps89
 go_wp2
 go_ret
 exact⟨rfl,rfl⟩
def cmpI (a b:Int):Int:=if a<b then -1 else if b<a then 1 else 0
theorem qCL (a b:Int)(w:World):Calls Tryz.prog 47 #[.int .i64 a,.int .i64 b] w fun e w'=>e = .returned (.int .i64 (cmpI a b))/\Below w.heap.size w w':=by
 obtain⟨x,hx⟩:∃ x,cmpI a b=x:=⟨_,rfl⟩
 have HX:=qh hx
 rw[hx]
 have hc:(a<b/\x = -1)\/(b<a/\x=1)\/(a=b/\x=0):=by
  rw[<- hx]
  unfold cmpI
  rcases Int.lt_trichotomy a b with h|h|h
  ·exact .inl ⟨h,by rw[if_pos h]⟩
  ·exact .inr (.inr ⟨h,by rw[if_neg qo,if_neg qo]⟩)
  ·exact .inr (.inl ⟨h,by rw[if_neg qo,if_pos h]⟩)
 clear hx
 rcases hc with ⟨h,rfl⟩|⟨h,rfl⟩|⟨h,rfl⟩
 ·have t1:decide (a<b)=true:=decide_eq_true h
  exact MnD
 ·have t1:decide (a<b)=false:=qf
  have t2:decide (b<a)=true:=decide_eq_true h
  exact MnD
 ·subst h
  have t1:decide (a<a)=false:=qf
  go_enter Tryz.func47,Tryz.ntmps47
  go_wp2_with fail
  refine(qYm a _).mono ?_;rintro e w1 ⟨rfl,rfl⟩
  go_wp2_with fail
  refine(qYm a _).mono ?_;rintro e w1 ⟨rfl,rfl⟩
  go_wp2
  go_ret
  exact⟨rfl,B0 _⟩

section
variable {base b n : Nat} {wh all : Bool} {K : Nat -> Option Nat} {st : Vst} {w w0 : World} {A G : Nat -> Prop} {t q s : Int}

theorem qUg (hn:n<2^40)(p:Int)(k l c:Int)(ok:Bool)(hI:infoOf n K t q s p st=(k,l,c,ok))(h:(vOb base b n wh K).At w0 A G st w) :
  Calls Tryz.prog 43 #[.pointer (some ⟨b,0,none⟩),.agg #[.int .i64 t,.int .i64 q,.int .i64 s],.int .i64 p] w fun e w'=>e = .returned (.int .i64 l)/\(vOb base b n wh K).At w0 A G (getS n K st (pageI t q s p 0)) w'/\Stay G w w':=by
 have W0:=qh ((WL.start h).new 23 #[.int .i64 t,.int .i64 q,.int .i64 s])
 obtain⟨v,hv⟩:∃ v,getV n K st (pageI t q s p 0)=v:=⟨_,rfl⟩
 have hv32:v<2^32:=by rw[<- hv];exact qHJ h _
 have HI:qH (infoG v=(k,l,c,ok)):=qh (by rw[<- hv];exact hI)
 have HV:=qh hv
 clear h hI hv
 go_enter Tryz.func43,Tryz.ntmps43
 obtain⟨x0,x1,x2⟩:=W0.o.h0.three
 go_wp2_with fail
 refine(qSM t q s p _).mono ?_;rintro e w1 ⟨rfl,hb⟩;have W1:=qh (W0.o.keep hb);clear hb W0
 obtain⟨x0,x1,x2⟩:=W1.o.h0.three
 go_wp2_with fail
 refine(vGetA hn _ W1.o.at_).mono ?_;rintro e w2 ⟨rfl,h1,h2⟩;have W2:=qh (W1.o.call h1 h2);clear h1 h2 W1;rw[HV.o]
 obtain⟨x0,x1,x2⟩:=W2.o.h0.three
 go_wp2_with fail
 refine(qMJ v k l c ok hv32 HI.o _).mono ?_;rintro e w3 ⟨rfl,hb⟩;have W3:=qh (W2.o.keep hb);clear hb W2
 generalize hNI:w3.heap.size=NI at *
 replace W3:=qh (W3.o.new 90 #[.int .i64 k,.int .i64 l,.int .i64 c])
 rw[hNI] at W3
 obtain⟨i0,i1,i2⟩:=W3.o.h0.three
 obtain⟨x0,x1,x2⟩:=W3.o.h1.three
 go_wp2
 go_ret
 exact⟨rfl,W3.o.fin⟩

theorem qFI (hn:n<2^40)(m:Int)(h:(vOb base b n wh K).At w0 A G st w) :
  Calls Tryz.prog 33 #[.pointer (some ⟨b,0,none⟩),.int .i64 m] w fun e w'=>e = .returned (.tuple #[])/\(vOb base b n wh K).At w0 A G (putS n (getS n K st 1) 1 (qOO (getV n K st 1) m)) w'/\Stay G w w':=by
 have W0:=qh (WL.start h)
 obtain⟨v,hv⟩:∃ v,getV n K st 1=v:=⟨_,rfl⟩
 have HV:=qh hv
 rw[hv]
 have HA:=qN8 v m
 have HL:=qFE v m
 obtain⟨x,hx⟩:∃ x,qOO v m=x:=⟨_,rfl⟩
 rw[hx] at HA HL ⊢
 have HX:=qh HL
 obtain⟨y,hy⟩:∃ y:Nat,IntKind.u32.wrap m=(y:Int):=Int.eq_ofNat_of_zero_le (by show 0<=m%4294967296;exact Int.emod_nonneg _ qo)
 rw[hy] at HA
 clear h hv hx HL
 go_enter Tryz.func33,Tryz.ntmps33
 go_wp2_with fail
 refine(vGetA hn 1 W0.o.at_).mono ?_;rintro e w1 ⟨rfl,h1,h2⟩;have W1:=qh (W0.o.call h1 h2);clear h1 h2 W0;rw[HV.o]
 go_wp2_with fail
 refine(vPutA hn 1 x HX.o W1.o.at_).mono ?_;rintro e w2 ⟨rfl,h1,h2⟩;have W2:=qh (W1.o.call h1 h2);clear h1 h2 W1
 go_wp2
 go_end0
 exact⟨rfl,W2.o.fin⟩

theorem qA1 (hn:n<2^40)(hq:q<=1024)(nn:Int)(hf:(takeI n K t q s nn st).1=none)(h:(vOb base b n wh K).At w0 A G st w) :
  Calls Tryz.prog 11 #[.pointer (some ⟨b,0,none⟩),.agg #[.int .i64 t,.int .i64 q,.int .i64 s],.int .i64 nn] w fun e w'=>e = .returned (.tuple #[.int .i64 0,.bool false])/\(vOb base b n wh K).At w0 A G ((takeI n K t q s nn st).2) w'/\Stay G w w':=by
 have W0:=qh ((WL.start h).new 23 #[.int .i64 t,.int .i64 q,.int .i64 s])
 have HF:=qh hf
 obtain⟨s1,hs⟩:∃ s1,(takeI n K t q s nn st).2=s1:=⟨_,rfl⟩
 have HS:=qh hs
 rw[hs]
 clear h hf hs
 go_enter Tryz.func11,Tryz.ntmps11
 obtain⟨x0,x1,x2⟩:=W0.o.h0.three
 go_wp2_with fail
 refine(qCT hn hq nn W0.o.at_).mono ?_;rintro e w1 ⟨rfl,h1,h2⟩;have W1:=qh (W0.o.call h1 h2);clear h1 h2 W0;rw[HS.o] at W1;rw[HF.o];dsimp only[foundI,Option.isSome]
 obtain⟨x0,x1,x2⟩:=W1.o.h0.three
 go_wp2
 go_ret2
 exact⟨rfl,W1.o.fin⟩

theorem qNT (hn:n<2^40)(hq:q<=1024)(nn:Int)(p:Nat)(hf:(takeI n K t q s nn st).1=some p)(h:(vOb base b n wh K).At w0 A G st w) :
  Calls Tryz.prog 11 #[.pointer (some ⟨b,0,none⟩),.agg #[.int .i64 t,.int .i64 q,.int .i64 s],.int .i64 nn] w fun e w'=>e = .returned (.tuple #[.int .i64 (p:Int),.bool true])/\(vOb base b n wh K).At w0 A G (upS n K (takeI n K t q s nn st).2) w'/\Stay G w w':=by
 have W0:=qh ((WL.start h).new 23 #[.int .i64 t,.int .i64 q,.int .i64 s])
 have HF:=qh hf
 obtain⟨s1,hs⟩:∃ s1,(takeI n K t q s nn st).2=s1:=⟨_,rfl⟩
 have HS:=qh hs
 rw[hs]
 unfold upS
 clear h hf hs
 go_enter Tryz.func11,Tryz.ntmps11
 obtain⟨x0,x1,x2⟩:=W0.o.h0.three
 go_wp2_with fail
 refine(qCT hn hq nn W0.o.at_).mono ?_;rintro e w1 ⟨rfl,h1,h2⟩;have W1:=qh (W0.o.call h1 h2);clear h1 h2 W0;rw[HS.o] at W1;rw[HF.o];dsimp only[foundI,Option.isSome]
 obtain⟨x0,x1,x2⟩:=W1.o.h0.three
 go_wp2_with fail
 refine(qFI hn 1 W1.o.at_).mono ?_;rintro e w2 ⟨rfl,h1,h2⟩;have W2:=qh (W1.o.call h1 h2);clear h1 h2 W1
 obtain⟨x0,x1,x2⟩:=W2.o.h0.three
 go_wp2
 go_ret2
 exact⟨rfl,W2.o.fin⟩

theorem qHr (hn:n<2^40)(hq:q<=1024)(nn:Int)(h:(vOb base b n wh K).At w0 A G st w) :
  Calls Tryz.prog 11 #[.pointer (some ⟨b,0,none⟩),.agg #[.int .i64 t,.int .i64 q,.int .i64 s],.int .i64 nn] w fun e w'=>e = .returned (.tuple #[.int .i64 (foundI (allocL n K t q s nn st).1),.bool (allocL n K t q s nn st).1.isSome])/\(vOb base b n wh K).At w0 A G ((allocL n K t q s nn st).2) w'/\Stay G w w':=by
 unfold allocL
 cases hf:(takeI n K t q s nn st).1 with
 | none=>exact qA1 hn hq nn hf h
 | some p=>exact qNT hn hq nn p hf h

theorem qQv (hn:n<2^40)(hq:q<=1024)(p l:Nat)(hp:p<=1024)(hl:l<=1024)(k c:Int)(ok:Bool)(hI:infoOf n K t q s (p:Int) st=(k,(l:Int),c,ok))(h:(vOb base b n wh K).At w0 A G st w) :
  Calls Tryz.prog 20 #[.pointer (some ⟨b,0,none⟩),.agg #[.int .i64 t,.int .i64 q,.int .i64 s],.int .i64 (p:Int)] w fun e w'=>e = .returned (.tuple #[])/\(vOb base b n wh K).At w0 A G (freeL n K t q s p st) w'/\Stay G w w':=by
 have W0:=qh ((WL.start h).new 23 #[.int .i64 t,.int .i64 q,.int .i64 s])
 have hL:lenI n K t q s p st=l:=by unfold lenI;rw[hI];simp
 have HI:=qh hI
 unfold freeL
 rw[hL]
 unfold readS downS
 rw[<- qZR]
 clear h hI hL
 go_enter Tryz.func20,Tryz.ntmps20
 obtain⟨x0,x1,x2⟩:=W0.o.h0.three
 go_wp2_with fail
 refine wp_region_held_drew (S:=(fun w'=>w'.cell? ⟨w.heap.size,0,none⟩=some (.int .i64 t)/\w'.cell? ⟨w.heap.size,1,none⟩=some (.int .i64 q)/\w'.cell? ⟨w.heap.size,2,none⟩=some (.int .i64 s))) qr ?_ (fun hHeld=>?_)
 ·(try dsimp only)
  exact⟨W0.o.drew.h0.three.1,W0.o.drew.h0.three.2.1,W0.o.drew.h0.three.2.2⟩
 refine tkz 0 ?_
 refine tkz 1 ?_
 refine tkz 2 ?_
 refine tkz 3 ?_
 refine tkz 4 ?_
 refine tkz 5 ?_
 refine rdz 6 fun K hK=>?_
 go_simp
 refine(qUg hn (p:Int) k (l:Int) c ok HI.o W0.o.drew.at_).mono ?_;rintro e w1 ⟨rfl,h1,h2⟩;have W1:=qh (W0.o.drew.call h1 h2);clear h1 h2 W0
 refine qk ?_ (fun hHeld=>?_)
 ·exact⟨W1.o.h0.three.1,W1.o.h0.three.2.1,W1.o.h0.three.2.2⟩
 clear hK K
 refine rdz 7 fun K hK=>?_
 go_simp
 refine(qDo hn hq p l hp hl W1.o.at_).mono ?_;rintro e w2 ⟨rfl,h1,h2⟩;have W2:=qh (W1.o.call h1 h2);clear h1 h2 W1
 refine qk ?_ (fun hHeld=>?_)
 ·exact⟨W2.o.h0.three.1,W2.o.h0.three.2.1,W2.o.h0.three.2.2⟩
 clear hK K
 refine dnz ?_
 obtain⟨x0,x1,x2⟩:=W2.o.h0.three
 go_wp2_with fail
 refine(qFI hn (-1) W2.o.at_).mono ?_;rintro e w3 ⟨rfl,h1,h2⟩;have W3:=qh (W2.o.call h1 h2);clear h1 h2 W2
 obtain⟨x0,x1,x2⟩:=W3.o.h0.three
 go_wp2
 go_end0
 exact⟨rfl,W3.o.fin⟩

theorem qAD (hn:n<2^40)(hq:q<=1024)(p l:Nat)(m:Int){gm gv gc gp gn:Nat}(hgm:Held w gm 3 #[.int .i64 m])(hgv:Held w gv 29 #[.pointer (some ⟨b,0,none⟩)])(hgc:Held w gc 23 #[.int .i64 t,.int .i64 q,.int .i64 s])(hgp:Held w gp 3 #[.int .i64 (p:Int)])(hgn:Held w gn 3 #[.int .i64 (l:Int)])(hm:m=(l:Int))(h:(vOb base b n wh K).At w0 A G st w) :
  Calls Tryz.prog 44 #[.int .i64 0,.pointer (some ⟨gm,0,none⟩),.pointer (some ⟨gv,0,none⟩),.pointer (some ⟨gc,0,none⟩),.pointer (some ⟨gp,0,none⟩),.pointer (some ⟨gn,0,none⟩)] w fun e w'=>e = .returned (.bool true)/\(vOb base b n wh K).At w0 A G (st) w'/\Stay G w w':=by
 have W0:=qh (WL.start h)
 obtain m0:=hgm.one
 obtain v0:=hgv.one
 obtain⟨c0,c1,c2⟩:=hgc.three
 obtain p0:=hgp.one
 obtain n0:=hgn.one
 clear hm
 clear h hgm hgv hgc hgp hgn
 go_enter Tryz.func44,Tryz.ntmps44
 go_wp2
 go_ret
 exact⟨rfl,W0.o.fin⟩

theorem qUY (hn:n<2^40)(hq:q<=1024)(p l:Nat)(m:Int){gm gv gc gp gn:Nat}(hgm:Held w gm 3 #[.int .i64 m])(hgv:Held w gv 29 #[.pointer (some ⟨b,0,none⟩)])(hgc:Held w gc 23 #[.int .i64 t,.int .i64 q,.int .i64 s])(hgp:Held w gp 3 #[.int .i64 (p:Int)])(hgn:Held w gn 3 #[.int .i64 (l:Int)])(h1:1<=m)(hm:m<(l:Int))(hp:(p:Int)+(l:Int)<=1024)(h:(vOb base b n wh K).At w0 A G st w) :
  Calls Tryz.prog 44 #[.int .i64 (-1),.pointer (some ⟨gm,0,none⟩),.pointer (some ⟨gv,0,none⟩),.pointer (some ⟨gc,0,none⟩),.pointer (some ⟨gp,0,none⟩),.pointer (some ⟨gn,0,none⟩)] w fun e w'=>e = .returned (.bool true)/\(vOb base b n wh K).At w0 A G (shrinkS n K t q s p l m.toNat st) w'/\Stay G w w':=by
 have W0:=qh (WL.start h)
 obtain m0:=hgm.one
 obtain v0:=hgv.one
 obtain⟨c0,c1,c2⟩:=hgc.three
 obtain p0:=hgp.one
 obtain n0:=hgn.one
 obtain⟨k,rfl⟩:=Int.eq_ofNat_of_zero_le (show 0<=m by omega)
 have t1:decide ((1:Int)<=(k:Int))=true:=decide_eq_true h1
 have t1n:decide (1<=k)=true:=qt
 rw[Int.toNat_natCast]
 have hkl:k<=l:=qo
 have hpl:p+l<=1024:=qo
 clear h hgm hgv hgc hgp hgn
 go_enter Tryz.func44,Tryz.ntmps44
 go_wp2_with fail
 refine(qRJ hn hq p l k hpl hkl W0.o.at_).mono ?_;rintro e w1 ⟨rfl,h1,h2⟩;have W1:=qh (W0.o.call h1 h2);clear h1 h2 W0
 go_wp2
 go_ret
 exact⟨rfl,W1.o.fin⟩

theorem qM6 (hn:n<2^40)(hq:q<=1024)(p l:Nat)(m:Int){gm gv gc gp gn:Nat}(hgm:Held w gm 3 #[.int .i64 m])(hgv:Held w gv 29 #[.pointer (some ⟨b,0,none⟩)])(hgc:Held w gc 23 #[.int .i64 t,.int .i64 q,.int .i64 s])(hgp:Held w gp 3 #[.int .i64 (p:Int)])(hgn:Held w gn 3 #[.int .i64 (l:Int)])(h1:m<1)(h:(vOb base b n wh K).At w0 A G st w) :
  Calls Tryz.prog 44 #[.int .i64 (-1),.pointer (some ⟨gm,0,none⟩),.pointer (some ⟨gv,0,none⟩),.pointer (some ⟨gc,0,none⟩),.pointer (some ⟨gp,0,none⟩),.pointer (some ⟨gn,0,none⟩)] w fun e w'=>e = .returned (.bool false)/\(vOb base b n wh K).At w0 A G (st) w'/\Stay G w w':=by
 have W0:=qh (WL.start h)
 obtain m0:=hgm.one
 obtain v0:=hgv.one
 obtain⟨c0,c1,c2⟩:=hgc.three
 obtain p0:=hgp.one
 obtain n0:=hgn.one
 have t1:decide ((1:Int)<=m)=false:=qf
 clear h hgm hgv hgc hgp hgn
 go_enter Tryz.func44,Tryz.ntmps44
 go_wp2
 go_ret
 exact⟨rfl,W0.o.fin⟩

theorem qGi (hn:n<2^40)(hq:q<=1024)(p l:Nat)(m:Int){gm gv gc gp gn:Nat}(hgm:Held w gm 3 #[.int .i64 m])(hgv:Held w gv 29 #[.pointer (some ⟨b,0,none⟩)])(hgc:Held w gc 23 #[.int .i64 t,.int .i64 q,.int .i64 s])(hgp:Held w gp 3 #[.int .i64 (p:Int)])(hgn:Held w gn 3 #[.int .i64 (l:Int)])(hm:(l:Int)<m)(h1:m<=q)(hp:(p:Int)+(l:Int)<=q)(h:(vOb base b n wh K).At w0 A G st w) :
  Calls Tryz.prog 44 #[.int .i64 1,.pointer (some ⟨gm,0,none⟩),.pointer (some ⟨gv,0,none⟩),.pointer (some ⟨gc,0,none⟩),.pointer (some ⟨gp,0,none⟩),.pointer (some ⟨gn,0,none⟩)] w fun e w'=>e = .returned (.bool (growB n K t q s p l m st))/\(vOb base b n wh K).At w0 A G (growS n K t q s p l m st) w'/\Stay G w w':=by
 have W0:=qh (WL.start h)
 obtain m0:=hgm.one
 obtain v0:=hgv.one
 obtain⟨c0,c1,c2⟩:=hgc.three
 obtain p0:=hgp.one
 obtain n0:=hgn.one
 have t1:decide (m<=q)=true:=decide_eq_true h1
 obtain⟨gb,hgb⟩:∃ gb,growB n K t q s p l m st=gb:=⟨_,rfl⟩
 have HGB:=qh hgb
 rw[hgb]
 have hm9:m<=9223372036854775807:=qo
 clear hgb
 clear h hgm hgv hgc hgp hgn
 go_enter Tryz.func44,Tryz.ntmps44
 go_wp2_with fail
 refine(qYA hn hq p l m hp hm hm9 W0.o.at_).mono ?_;rintro e w1 ⟨rfl,h1,h2⟩;have W1:=qh (W0.o.call h1 h2);clear h1 h2 W0;rw[HGB.o]
 go_wp2
 go_ret
 exact⟨rfl,W1.o.fin⟩

theorem qK5 (hn:n<2^40)(hq:q<=1024)(p l:Nat)(m:Int){gm gv gc gp gn:Nat}(hgm:Held w gm 3 #[.int .i64 m])(hgv:Held w gv 29 #[.pointer (some ⟨b,0,none⟩)])(hgc:Held w gc 23 #[.int .i64 t,.int .i64 q,.int .i64 s])(hgp:Held w gp 3 #[.int .i64 (p:Int)])(hgn:Held w gn 3 #[.int .i64 (l:Int)])(h1:q<m)(h:(vOb base b n wh K).At w0 A G st w) :
  Calls Tryz.prog 44 #[.int .i64 1,.pointer (some ⟨gm,0,none⟩),.pointer (some ⟨gv,0,none⟩),.pointer (some ⟨gc,0,none⟩),.pointer (some ⟨gp,0,none⟩),.pointer (some ⟨gn,0,none⟩)] w fun e w'=>e = .returned (.bool false)/\(vOb base b n wh K).At w0 A G (st) w'/\Stay G w w':=by
 have W0:=qh (WL.start h)
 obtain m0:=hgm.one
 obtain v0:=hgv.one
 obtain⟨c0,c1,c2⟩:=hgc.three
 obtain p0:=hgp.one
 obtain n0:=hgn.one
 have t1:decide (m<=q)=false:=qf
 clear h hgm hgv hgc hgp hgn
 go_enter Tryz.func44,Tryz.ntmps44
 go_wp2
 go_ret
 exact⟨rfl,W0.o.fin⟩

theorem qAz (hn:n<2^40)(hq:q<=1024)(p l:Nat)(m:Int)(k c:Int)(ok:Bool)(hI:infoOf n K t q s (p:Int) st=(k,(l:Int),c,ok))(hm:m=(l:Int))(h:(vOb base b n wh K).At w0 A G st w) :
  Calls Tryz.prog 18 #[.pointer (some ⟨b,0,none⟩),.agg #[.int .i64 t,.int .i64 q,.int .i64 s],.int .i64 (p:Int),.int .i64 m] w fun e w'=>e = .returned (.bool true)/\(vOb base b n wh K).At w0 A G ((getS n K st (pageI t q s (p:Int) 0))) w'/\Stay G w w':=by
 have W0:=qh (((((WL.start h).new 29 #[.pointer (some ⟨b,0,none⟩)]).new 23 #[.int .i64 t,.int .i64 q,.int .i64 s]).new 3 #[.int .i64 (p:Int)]).new 3 #[.int .i64 m])
 simp only[World.size_alloc] at W0
 have HI:=qh hI
 have HMM:=qh hm
 have HCM:qH (cmpI m (l:Int)=0):=qh (by unfold cmpI;rw[hm,if_neg qo,if_neg qo])
 obtain⟨sg,hsg⟩:∃ sg,(getS n K st (pageI t q s (p:Int) 0))=sg:=⟨_,rfl⟩
 have HSG:=qh hsg
 rw[hsg]
 have hmf:∀ (fn:Fn) (first cap:Array Value) (w:World),(Instr.makeFunc fn first cap).run Tryz.prog w = .ok (.func fn first cap) w:=fun _ _ _ _=>rfl
 obtain m0:=W0.o.h0.one
 obtain p0:=W0.o.h1.one
 obtain⟨c0,c1,c2⟩:=W0.o.h2.three
 obtain v0:=W0.o.h3.one
 clear h hI hsg hm
 go_enter Tryz.func18,Tryz.ntmps18
 go_wp2_with fail
 refine(qUg hn (p:Int) k (l:Int) c ok HI.o W0.o.at_).mono ?_;rintro e w1 ⟨rfl,h1,h2⟩;have W1:=qh (W0.o.call h1 h2);clear h1 h2 W0;rw[HSG.o] at W1
 clear m0 p0 c0 c1 c2 v0
 generalize hNN:w1.heap.size=NN at *
 replace W1:=qh (W1.o.new 3 #[.int .i64 (l:Int)])
 rw[hNN] at W1
 obtain n0:=W1.o.h0.one
 obtain m0:=W1.o.h1.one
 obtain p0:=W1.o.h2.one
 obtain⟨c0,c1,c2⟩:=W1.o.h3.three
 obtain v0:=W1.o.h4.one
 go_wp2_with fail
 refine(qCL m (l:Int) _).mono ?_;rintro e w2 ⟨rfl,hb⟩;have W2:=qh (W1.o.keep hb);clear hb W1;rw[HCM.o]
 clear m0 p0 c0 c1 c2 v0
 clear n0
 obtain n0:=W2.o.h0.one
 obtain m0:=W2.o.h1.one
 obtain p0:=W2.o.h2.one
 obtain⟨c0,c1,c2⟩:=W2.o.h3.three
 obtain v0:=W2.o.h4.one
 go_wp2_with fail
 refine(qAD hn hq p l m W2.o.h1 W2.o.h4 W2.o.h3 W2.o.h2 W2.o.h0 HMM.o W2.o.at_).mono ?_;rintro e w3 ⟨rfl,h1,h2⟩;have W3:=qh (W2.o.call h1 h2);clear h1 h2 W2
 go_wp2
 go_ret
 exact⟨rfl,W3.o.fin⟩

theorem qEy (hn:n<2^40)(hq:q<=1024)(p l:Nat)(m:Int)(k c:Int)(ok:Bool)(hI:infoOf n K t q s (p:Int) st=(k,(l:Int),c,ok))(h1:1<=m)(hm:m<(l:Int))(hp:(p:Int)+(l:Int)<=1024)(h:(vOb base b n wh K).At w0 A G st w) :
  Calls Tryz.prog 18 #[.pointer (some ⟨b,0,none⟩),.agg #[.int .i64 t,.int .i64 q,.int .i64 s],.int .i64 (p:Int),.int .i64 m] w fun e w'=>e = .returned (.bool true)/\(vOb base b n wh K).At w0 A G (shrinkS n K t q s p l m.toNat (getS n K st (pageI t q s (p:Int) 0))) w'/\Stay G w w':=by
 have W0:=qh (((((WL.start h).new 29 #[.pointer (some ⟨b,0,none⟩)]).new 23 #[.int .i64 t,.int .i64 q,.int .i64 s]).new 3 #[.int .i64 (p:Int)]).new 3 #[.int .i64 m])
 simp only[World.size_alloc] at W0
 have HI:=qh hI
 have HCM:qH (cmpI m (l:Int)=(-1)):=qh (by unfold cmpI;rw[if_pos hm])
 obtain⟨sg,hsg⟩:∃ sg,(getS n K st (pageI t q s (p:Int) 0))=sg:=⟨_,rfl⟩
 have HSG:=qh hsg
 rw[hsg]
 have hmf:∀ (fn:Fn) (first cap:Array Value) (w:World),(Instr.makeFunc fn first cap).run Tryz.prog w = .ok (.func fn first cap) w:=fun _ _ _ _=>rfl
 obtain m0:=W0.o.h0.one
 obtain p0:=W0.o.h1.one
 obtain⟨c0,c1,c2⟩:=W0.o.h2.three
 obtain v0:=W0.o.h3.one
 clear h hI hsg
 go_enter Tryz.func18,Tryz.ntmps18
 go_wp2_with fail
 refine(qUg hn (p:Int) k (l:Int) c ok HI.o W0.o.at_).mono ?_;rintro e w1 ⟨rfl,h1,h2⟩;have W1:=qh (W0.o.call h1 h2);clear h1 h2 W0;rw[HSG.o] at W1
 clear m0 p0 c0 c1 c2 v0
 generalize hNN:w1.heap.size=NN at *
 replace W1:=qh (W1.o.new 3 #[.int .i64 (l:Int)])
 rw[hNN] at W1
 obtain n0:=W1.o.h0.one
 obtain m0:=W1.o.h1.one
 obtain p0:=W1.o.h2.one
 obtain⟨c0,c1,c2⟩:=W1.o.h3.three
 obtain v0:=W1.o.h4.one
 go_wp2_with fail
 refine(qCL m (l:Int) _).mono ?_;rintro e w2 ⟨rfl,hb⟩;have W2:=qh (W1.o.keep hb);clear hb W1;rw[HCM.o]
 clear m0 p0 c0 c1 c2 v0
 clear n0
 obtain n0:=W2.o.h0.one
 obtain m0:=W2.o.h1.one
 obtain p0:=W2.o.h2.one
 obtain⟨c0,c1,c2⟩:=W2.o.h3.three
 obtain v0:=W2.o.h4.one
 go_wp2_with fail
 refine(qUY hn hq p l m W2.o.h1 W2.o.h4 W2.o.h3 W2.o.h2 W2.o.h0 h1 hm hp W2.o.at_).mono ?_;rintro e w3 ⟨rfl,h1,h2⟩;have W3:=qh (W2.o.call h1 h2);clear h1 h2 W2
 go_wp2
 go_ret
 exact⟨rfl,W3.o.fin⟩

theorem qRD (hn:n<2^40)(hq:q<=1024)(p l:Nat)(m:Int)(k c:Int)(ok:Bool)(hI:infoOf n K t q s (p:Int) st=(k,(l:Int),c,ok))(h1:m<1)(hm:m<(l:Int))(h:(vOb base b n wh K).At w0 A G st w) :
  Calls Tryz.prog 18 #[.pointer (some ⟨b,0,none⟩),.agg #[.int .i64 t,.int .i64 q,.int .i64 s],.int .i64 (p:Int),.int .i64 m] w fun e w'=>e = .returned (.bool false)/\(vOb base b n wh K).At w0 A G ((getS n K st (pageI t q s (p:Int) 0))) w'/\Stay G w w':=by
 have W0:=qh (((((WL.start h).new 29 #[.pointer (some ⟨b,0,none⟩)]).new 23 #[.int .i64 t,.int .i64 q,.int .i64 s]).new 3 #[.int .i64 (p:Int)]).new 3 #[.int .i64 m])
 simp only[World.size_alloc] at W0
 have HI:=qh hI
 have HCM:qH (cmpI m (l:Int)=(-1)):=qh (by unfold cmpI;rw[if_pos hm])
 obtain⟨sg,hsg⟩:∃ sg,(getS n K st (pageI t q s (p:Int) 0))=sg:=⟨_,rfl⟩
 have HSG:=qh hsg
 rw[hsg]
 have hmf:∀ (fn:Fn) (first cap:Array Value) (w:World),(Instr.makeFunc fn first cap).run Tryz.prog w = .ok (.func fn first cap) w:=fun _ _ _ _=>rfl
 obtain m0:=W0.o.h0.one
 obtain p0:=W0.o.h1.one
 obtain⟨c0,c1,c2⟩:=W0.o.h2.three
 obtain v0:=W0.o.h3.one
 clear h hI hsg
 go_enter Tryz.func18,Tryz.ntmps18
 go_wp2_with fail
 refine(qUg hn (p:Int) k (l:Int) c ok HI.o W0.o.at_).mono ?_;rintro e w1 ⟨rfl,h1,h2⟩;have W1:=qh (W0.o.call h1 h2);clear h1 h2 W0;rw[HSG.o] at W1
 clear m0 p0 c0 c1 c2 v0
 generalize hNN:w1.heap.size=NN at *
 replace W1:=qh (W1.o.new 3 #[.int .i64 (l:Int)])
 rw[hNN] at W1
 obtain n0:=W1.o.h0.one
 obtain m0:=W1.o.h1.one
 obtain p0:=W1.o.h2.one
 obtain⟨c0,c1,c2⟩:=W1.o.h3.three
 obtain v0:=W1.o.h4.one
 go_wp2_with fail
 refine(qCL m (l:Int) _).mono ?_;rintro e w2 ⟨rfl,hb⟩;have W2:=qh (W1.o.keep hb);clear hb W1;rw[HCM.o]
 clear m0 p0 c0 c1 c2 v0
 clear n0
 obtain n0:=W2.o.h0.one
 obtain m0:=W2.o.h1.one
 obtain p0:=W2.o.h2.one
 obtain⟨c0,c1,c2⟩:=W2.o.h3.three
 obtain v0:=W2.o.h4.one
 go_wp2_with fail
 refine(qM6 hn hq p l m W2.o.h1 W2.o.h4 W2.o.h3 W2.o.h2 W2.o.h0 h1 W2.o.at_).mono ?_;rintro e w3 ⟨rfl,h1,h2⟩;have W3:=qh (W2.o.call h1 h2);clear h1 h2 W2
 go_wp2
 go_ret
 exact⟨rfl,W3.o.fin⟩

theorem qAk (hn:n<2^40)(hq:q<=1024)(p l:Nat)(m:Int)(k c:Int)(ok:Bool)(hI:infoOf n K t q s (p:Int) st=(k,(l:Int),c,ok))(hm:(l:Int)<m)(h1:m<=q)(hp:(p:Int)+(l:Int)<=q)(h:(vOb base b n wh K).At w0 A G st w) :
  Calls Tryz.prog 18 #[.pointer (some ⟨b,0,none⟩),.agg #[.int .i64 t,.int .i64 q,.int .i64 s],.int .i64 (p:Int),.int .i64 m] w fun e w'=>e = .returned (.bool (growB n K t q s p l m (getS n K st (pageI t q s (p:Int) 0))))/\(vOb base b n wh K).At w0 A G (growS n K t q s p l m (getS n K st (pageI t q s (p:Int) 0))) w'/\Stay G w w':=by
 have W0:=qh (((((WL.start h).new 29 #[.pointer (some ⟨b,0,none⟩)]).new 23 #[.int .i64 t,.int .i64 q,.int .i64 s]).new 3 #[.int .i64 (p:Int)]).new 3 #[.int .i64 m])
 simp only[World.size_alloc] at W0
 have HI:=qh hI
 have HCM:qH (cmpI m (l:Int)=1):=qh (by unfold cmpI;rw[if_neg qo,if_pos hm])
 obtain⟨sg,hsg⟩:∃ sg,(getS n K st (pageI t q s (p:Int) 0))=sg:=⟨_,rfl⟩
 have HSG:=qh hsg
 rw[hsg]
 have hmf:∀ (fn:Fn) (first cap:Array Value) (w:World),(Instr.makeFunc fn first cap).run Tryz.prog w = .ok (.func fn first cap) w:=fun _ _ _ _=>rfl
 obtain m0:=W0.o.h0.one
 obtain p0:=W0.o.h1.one
 obtain⟨c0,c1,c2⟩:=W0.o.h2.three
 obtain v0:=W0.o.h3.one
 clear h hI hsg
 go_enter Tryz.func18,Tryz.ntmps18
 go_wp2_with fail
 refine(qUg hn (p:Int) k (l:Int) c ok HI.o W0.o.at_).mono ?_;rintro e w1 ⟨rfl,h1,h2⟩;have W1:=qh (W0.o.call h1 h2);clear h1 h2 W0;rw[HSG.o] at W1
 clear m0 p0 c0 c1 c2 v0
 generalize hNN:w1.heap.size=NN at *
 replace W1:=qh (W1.o.new 3 #[.int .i64 (l:Int)])
 rw[hNN] at W1
 obtain n0:=W1.o.h0.one
 obtain m0:=W1.o.h1.one
 obtain p0:=W1.o.h2.one
 obtain⟨c0,c1,c2⟩:=W1.o.h3.three
 obtain v0:=W1.o.h4.one
 go_wp2_with fail
 refine(qCL m (l:Int) _).mono ?_;rintro e w2 ⟨rfl,hb⟩;have W2:=qh (W1.o.keep hb);clear hb W1;rw[HCM.o]
 clear m0 p0 c0 c1 c2 v0
 clear n0
 obtain n0:=W2.o.h0.one
 obtain m0:=W2.o.h1.one
 obtain p0:=W2.o.h2.one
 obtain⟨c0,c1,c2⟩:=W2.o.h3.three
 obtain v0:=W2.o.h4.one
 go_wp2_with fail
 refine(qGi hn hq p l m W2.o.h1 W2.o.h4 W2.o.h3 W2.o.h2 W2.o.h0 hm h1 hp W2.o.at_).mono ?_;rintro e w3 ⟨rfl,h1,h2⟩;have W3:=qh (W2.o.call h1 h2);clear h1 h2 W2
 go_wp2
 go_ret
 exact⟨rfl,W3.o.fin⟩

theorem qVv (hn:n<2^40)(hq:q<=1024)(p l:Nat)(m:Int)(k c:Int)(ok:Bool)(hI:infoOf n K t q s (p:Int) st=(k,(l:Int),c,ok))(hm:(l:Int)<m)(h1:q<m)(h:(vOb base b n wh K).At w0 A G st w) :
  Calls Tryz.prog 18 #[.pointer (some ⟨b,0,none⟩),.agg #[.int .i64 t,.int .i64 q,.int .i64 s],.int .i64 (p:Int),.int .i64 m] w fun e w'=>e = .returned (.bool false)/\(vOb base b n wh K).At w0 A G ((getS n K st (pageI t q s (p:Int) 0))) w'/\Stay G w w':=by
 have W0:=qh (((((WL.start h).new 29 #[.pointer (some ⟨b,0,none⟩)]).new 23 #[.int .i64 t,.int .i64 q,.int .i64 s]).new 3 #[.int .i64 (p:Int)]).new 3 #[.int .i64 m])
 simp only[World.size_alloc] at W0
 have HI:=qh hI
 have HCM:qH (cmpI m (l:Int)=1):=qh (by unfold cmpI;rw[if_neg qo,if_pos hm])
 obtain⟨sg,hsg⟩:∃ sg,(getS n K st (pageI t q s (p:Int) 0))=sg:=⟨_,rfl⟩
 have HSG:=qh hsg
 rw[hsg]
 have hmf:∀ (fn:Fn) (first cap:Array Value) (w:World),(Instr.makeFunc fn first cap).run Tryz.prog w = .ok (.func fn first cap) w:=fun _ _ _ _=>rfl
 obtain m0:=W0.o.h0.one
 obtain p0:=W0.o.h1.one
 obtain⟨c0,c1,c2⟩:=W0.o.h2.three
 obtain v0:=W0.o.h3.one
 clear h hI hsg
 go_enter Tryz.func18,Tryz.ntmps18
 go_wp2_with fail
 refine(qUg hn (p:Int) k (l:Int) c ok HI.o W0.o.at_).mono ?_;rintro e w1 ⟨rfl,h1,h2⟩;have W1:=qh (W0.o.call h1 h2);clear h1 h2 W0;rw[HSG.o] at W1
 clear m0 p0 c0 c1 c2 v0
 generalize hNN:w1.heap.size=NN at *
 replace W1:=qh (W1.o.new 3 #[.int .i64 (l:Int)])
 rw[hNN] at W1
 obtain n0:=W1.o.h0.one
 obtain m0:=W1.o.h1.one
 obtain p0:=W1.o.h2.one
 obtain⟨c0,c1,c2⟩:=W1.o.h3.three
 obtain v0:=W1.o.h4.one
 go_wp2_with fail
 refine(qCL m (l:Int) _).mono ?_;rintro e w2 ⟨rfl,hb⟩;have W2:=qh (W1.o.keep hb);clear hb W1;rw[HCM.o]
 clear m0 p0 c0 c1 c2 v0
 clear n0
 obtain n0:=W2.o.h0.one
 obtain m0:=W2.o.h1.one
 obtain p0:=W2.o.h2.one
 obtain⟨c0,c1,c2⟩:=W2.o.h3.three
 obtain v0:=W2.o.h4.one
 go_wp2_with fail
 refine(qK5 hn hq p l m W2.o.h1 W2.o.h4 W2.o.h3 W2.o.h2 W2.o.h0 h1 W2.o.at_).mono ?_;rintro e w3 ⟨rfl,h1,h2⟩;have W3:=qh (W2.o.call h1 h2);clear h1 h2 W2
 go_wp2
 go_ret
 exact⟨rfl,W3.o.fin⟩

theorem qQF (hn:n<2^40)(hq:q<=1024)(p l:Nat)(m:Int)(k c:Int)(ok:Bool)(hI:infoOf n K t q s (p:Int) st=(k,(l:Int),c,ok))(hp:(p:Int)+(l:Int)<=q)(h:(vOb base b n wh K).At w0 A G st w) :
  Calls Tryz.prog 18 #[.pointer (some ⟨b,0,none⟩),.agg #[.int .i64 t,.int .i64 q,.int .i64 s],.int .i64 (p:Int),.int .i64 m] w fun e w'=>e = .returned (.bool (resizeL n K t q s p m st).1)/\(vOb base b n wh K).At w0 A G ((resizeL n K t q s p m st).2) w'/\Stay G w w':=by
 have hL:lenI n K t q s p st=l:=by unfold lenI;rw[hI];simp
 unfold resizeL
 simp only[hL]
 unfold readS
 by_cases h1:m=(l:Int)
 ·rw[if_pos h1]
  exact qAz hn hq p l m k c ok hI h1 h
 ·rw[if_neg h1]
  by_cases h2:1<=m/\m<(l:Int)
  ·rw[if_pos h2]
   exact qEy hn hq p l m k c ok hI h2.1 h2.2 qo h
  ·rw[if_neg h2]
   by_cases h3:(l:Int)<m/\m<=q
   ·rw[if_pos h3]
    exact qAk hn hq p l m k c ok hI h3.1 h3.2 hp h
   ·rw[if_neg h3]
    by_cases h4:m<(l:Int)
    ·exact qRD hn hq p l m k c ok hI qo h4 h
    ·exact qVv hn hq p l m k c ok hI qo qo h
end
end
section
section
variable {base b n : Nat} {wh all : Bool} {K : Nat -> Option Nat} {st : Vst} {w w0 : World} {A G : Nat -> Prop} {t q s : Int}

theorem qHI (p nn:Int)(hp:pgB q p=false)(h:(rOb base b n all K).At w0 A G st w) :
  Calls Tryz.prog 80 #[.pointer (some ⟨b,0,none⟩),.agg #[.int .i64 t,.int .i64 q,.int .i64 s],.int .i64 p,.int .i64 nn] w fun e w'=>e = .returned (.tuple #[])/\(rOb base b n all K).At w0 A G (st) w'/\Stay G w w':=by
 have W0:=qh ((WL.start h).new 23 #[.int .i64 t,.int .i64 q,.int .i64 s])
 obtain⟨x0,x1,x2⟩:=W0.o.h0.three
 have hp:=qKG hp
 clear h
 go_enter Tryz.func80,Tryz.ntmps80
 by_cases h0:p<0
 ·have t0:decide (p<(0:Int))=true:=decide_eq_true h0
  exact Mxr
 ·refine R4Q ?_;intro t0 t1
  exact Mxr

theorem qRc (k:Nat)(nn:Int)(hq:q<=2147483648)(hk:pgB q (k:Int)=true)(h1:nn<1)(h:(rOb base b n all K).At w0 A G st w) :
  Calls Tryz.prog 80 #[.pointer (some ⟨b,0,none⟩),.agg #[.int .i64 t,.int .i64 q,.int .i64 s],.int .i64 (k:Int),.int .i64 nn] w fun e w'=>e = .returned (.tuple #[])/\(rOb base b n all K).At w0 A G (st) w'/\Stay G w w':=by
 have W0:=qh ((WL.start h).new 23 #[.int .i64 t,.int .i64 q,.int .i64 s])
 obtain⟨x0,x1,x2⟩:=W0.o.h0.three
 have hk2:=(qHC _ _).1 hk
 have hk31:k<2147483648:=qo
 have sq:IntKind.i64.wrap (q-(k:Int))=q-(k:Int):=qIv qo qo
 have t8:decide ((k:Int)<0)=false:=qf
 have t9:decide (q<=(k:Int))=false:=qf
 clear hk
 have t0:decide (nn<(1:Int))=true:=qt
 clear h
 go_enter Tryz.func80,Tryz.ntmps80
 go_wp2
 (try simp only[Exit.inBlock,Exit.then])
 refine bodyPost_ret (results_none rfl _ _ _) rfl ?_
 exact⟨rfl,W0.o.fin⟩

theorem qLT (k:Nat)(nn:Int)(hq:q<=2147483648)(hk:pgB q (k:Int)=true)(h1:1<=nn)(h2:q-(k:Int)<nn)(h:(rOb base b n all K).At w0 A G st w) :
  Calls Tryz.prog 80 #[.pointer (some ⟨b,0,none⟩),.agg #[.int .i64 t,.int .i64 q,.int .i64 s],.int .i64 (k:Int),.int .i64 nn] w fun e w'=>e = .returned (.tuple #[])/\(rOb base b n all K).At w0 A G (st) w'/\Stay G w w':=by
 have W0:=qh ((WL.start h).new 23 #[.int .i64 t,.int .i64 q,.int .i64 s])
 obtain⟨x0,x1,x2⟩:=W0.o.h0.three
 have hk2:=(qHC _ _).1 hk
 have hk31:k<2147483648:=qo
 have sq:IntKind.i64.wrap (q-(k:Int))=q-(k:Int):=qIv qo qo
 have t8:decide ((k:Int)<0)=false:=qf
 have t9:decide (q<=(k:Int))=false:=qf
 clear hk
 have t0:decide (nn<(1:Int))=false:=qf
 have t1:decide (q-(k:Int)<nn)=true:=qt
 clear h
 go_enter Tryz.func80,Tryz.ntmps80
 go_wp2
 (try simp only[Exit.inBlock,Exit.then])
 refine bodyPost_ret (results_none rfl _ _ _) rfl ?_
 exact⟨rfl,W0.o.fin⟩

theorem qIq (hn:n<2^40)(k m:Nat)(hq:q<=2147483648)(hk:pgB q (k:Int)=true)(h1:1<=(m:Int))(h2:(m:Int)<=q-(k:Int))(h:(rOb base b n all K).At w0 A G st w) :
  Calls Tryz.prog 80 #[.pointer (some ⟨b,0,none⟩),.agg #[.int .i64 t,.int .i64 q,.int .i64 s],.int .i64 (k:Int),.int .i64 (m:Int)] w fun e w'=>e = .returned (.tuple #[])/\(rOb base b n all K).At w0 A G (addS n K t q s (k:Int) (m:Int) st) w'/\Stay G w w':=by
 have W0:=qh ((WL.start h).new 23 #[.int .i64 t,.int .i64 q,.int .i64 s])
 obtain⟨x0,x1,x2⟩:=W0.o.h0.three
 have t0:decide ((m:Int)<(1:Int))=false:=qf
 have t1:decide (q-(k:Int)<(m:Int))=false:=qf
 have hm31:m<=2147483648:=qo
 have sk:IntKind.u32.wrap ((k:Int)+1)=((k+1:Nat):Int):=by have:=qTt (k+1) qo;simpa using this
 have HIV:=qh (qPM 1 (m:Int) 0)
 have HE:qH (addS n K t q s (k:Int) (m:Int) st=pushI n K t q s (nthI 2 11 1 (ofI (m:Int))) (k:Int) (putS n (putS n st (pageI t q s (k:Int) 0) (infoV 1 (m:Int) 0)) (pageI t q s ((k:Int)+(m:Int)-1) 1) (k+1))):=qh (qV2 ⟨hk,h1,h2⟩)
 have hk2:=(qHC _ _).1 hk
 have hk31:k<2147483648:=qo
 have sq:IntKind.i64.wrap (q-(k:Int))=q-(k:Int):=qIv qo qo
 have t8:decide ((k:Int)<0)=false:=qf
 have t9:decide (q<=(k:Int))=false:=qf
 clear hk
 clear h
 go_enter Tryz.func80,Tryz.ntmps80
 go_wp2_with fail
 refine(qQ1 t q s (k:Int) _).mono ?_;rintro e w1 ⟨rfl,hb⟩;have W1:=qh (W0.o.keep hb);clear hb W0
 obtain⟨x0,x1,x2⟩:=W1.o.h0.three
 go_wp2_with fail
 refine(qI0 1 (m:Int) 0 _).mono ?_;rintro e w2 ⟨rfl,hb⟩;have W2:=qh (W1.o.keep hb);clear hb W1
 obtain⟨x0,x1,x2⟩:=W2.o.h0.three
 go_wp2_with fail
 refine(rPutA hn _ _ HIV.o W2.o.at_).mono ?_;rintro e w3 ⟨rfl,h1,h2⟩;have W3:=qh (W2.o.call h1 h2);clear h1 h2 W2
 obtain⟨x0,x1,x2⟩:=W3.o.h0.three
 go_wp2_with fail
 refine(qGC t q s ((k:Int)+(m:Int)-1) _).mono ?_;rintro e w4 ⟨rfl,hb⟩;have W4:=qh (W3.o.keep hb);clear hb W3
 obtain⟨x0,x1,x2⟩:=W4.o.h0.three
 go_wp2_with fail
 refine(rPutA hn _ (k+1) qo W4.o.at_).mono ?_;rintro e w5 ⟨rfl,h1,h2⟩;have W5:=qh (W4.o.call h1 h2);clear h1 h2 W4
 obtain⟨x0,x1,x2⟩:=W5.o.h0.three
 go_wp2_with fail
 refine wp_region_held_drew (S:=(fun w'=>w'.cell? ⟨w.heap.size,0,none⟩=some (.int .i64 t)/\w'.cell? ⟨w.heap.size,1,none⟩=some (.int .i64 q)/\w'.cell? ⟨w.heap.size,2,none⟩=some (.int .i64 s))) qr ?_ (fun hHeld=>?_)
 ·(try dsimp only)
  exact MZ6
 refine tkz 0 ?_
 refine tkz 1 ?_
 refine tkz 2 ?_
 refine tkz 5 ?_
 refine rdz 3 fun K hK=>?_
 go_simp
 refine(qT2 (m:Int) qo qo _).mono ?_;rintro e w9 ⟨rfl,rfl⟩
 refine qk ?_ (fun hHeld=>?_)
 ·exact MZ6
 clear hK K
 refine rdz 4 fun K hK=>?_
 go_simp
 refine(qSW (ofI (m:Int)) _).mono ?_;rintro e w9 ⟨rfl,rfl⟩
 refine qk ?_ (fun hHeld=>?_)
 ·exact MZ6
 clear hK K
 refine rdz 6 fun K hK=>?_
 go_simp
 refine(qD2 hn qo (k:Int) W5.o.drew.at_).mono ?_;rintro e w6 ⟨rfl,h1,h2⟩;have W6:=qh (W5.o.drew.call h1 h2);clear h1 h2 W5
 refine qk ?_ (fun hHeld=>?_)
 ·exact MZ6
 clear hK K
 refine dnz ?_
 obtain⟨x0,x1,x2⟩:=W6.o.h0.three
 go_wp2
 go_end0
 exact⟨rfl,by rw[HE.o];exact W6.o.fin⟩

theorem qAc (hn:n<2^40)(hq:q<=2147483648)(p nn:Int)(h:(rOb base b n all K).At w0 A G st w) :
  Calls Tryz.prog 80 #[.pointer (some ⟨b,0,none⟩),.agg #[.int .i64 t,.int .i64 q,.int .i64 s],.int .i64 p,.int .i64 nn] w fun e w'=>e = .returned (.tuple #[])/\(rOb base b n all K).At w0 A G (addS n K t q s p nn st) w'/\Stay G w w':=by
 cases hp:pgB q p with
 | false=>rw[qCd (by rw[hp];simp)];exact qHI p nn hp h
 | true =>
  have h1:=(qHC _ _).1 hp
  obtain⟨k,rfl⟩:=Int.eq_ofNat_of_zero_le h1.1
  by_cases h2:nn<1
  ·rw[qCd qo];exact qRc k nn hq hp h2 h
  ·by_cases h3:q-(k:Int)<nn
   ·rw[qCd qo];exact qLT k nn hq hp qo h3 h
   ·obtain⟨m,rfl⟩:=Int.eq_ofNat_of_zero_le (show 0<=nn by omega)
    exact qIq hn k m hq hp qo qo h

theorem qYc (p:Int)(hp:pgB q p=false)(h:(rOb base b n all K).At w0 A G st w) :
  Calls Tryz.prog 76 #[.pointer (some ⟨b,0,none⟩),.agg #[.int .i64 t,.int .i64 q,.int .i64 s],.int .i64 p] w fun e w'=>e = .returned (.int .i64 0)/\(rOb base b n all K).At w0 A G (st) w'/\Stay G w w':=by
 have W0:=qh ((WL.start h).new 23 #[.int .i64 t,.int .i64 q,.int .i64 s])
 obtain⟨x0,x1,x2⟩:=W0.o.h0.three
 have hp:=qKG hp
 clear h
 go_enter Tryz.func76,Tryz.ntmps76
 by_cases h0:p<0
 ·have t0:decide (p<(0:Int))=true:=decide_eq_true h0
  go_wp2
  go_ret
  exact⟨rfl,W0.o.fin⟩
 ·refine R4Q ?_;intro t0 t1
  go_wp2
  go_ret
  exact⟨rfl,W0.o.fin⟩

theorem qKH (hn:n<2^40)(k:Nat)(hq:q<=2147483648)(hk:pgB q (k:Int)=true)(kk l c:Int)(ok:Bool)(hI:infoOf n K t q s (k:Int) st=(kk,l,c,ok))(h1:kk≠1)(h:(rOb base b n all K).At w0 A G st w) :
  Calls Tryz.prog 76 #[.pointer (some ⟨b,0,none⟩),.agg #[.int .i64 t,.int .i64 q,.int .i64 s],.int .i64 (k:Int)] w fun e w'=>e = .returned (.int .i64 0)/\(rOb base b n all K).At w0 A G (getS n K st (pageI t q s (k:Int) 0)) w'/\Stay G w w':=by
 have W0:=qh ((WL.start h).new 23 #[.int .i64 t,.int .i64 q,.int .i64 s])
 obtain⟨x0,x1,x2⟩:=W0.o.h0.three
 have hk2:=(qHC _ _).1 hk
 have hk31:k<2147483648:=qo
 have sq:IntKind.i64.wrap (q-(k:Int))=q-(k:Int):=qIv qo qo
 have t8:decide ((k:Int)<0)=false:=qf
 have t9:decide (q<=(k:Int))=false:=qf
 clear hk
 have t0:(kk==1)=false:=by simpa using h1
 have t1:(kk != 1)=true:=by simpa using h1
 have HI:=qh hI
 clear hI
 clear h
 go_enter Tryz.func76,Tryz.ntmps76
 go_wp2_with fail
 refine(qHu hn (k:Int) kk l c ok HI.o W0.o.at_).mono ?_;rintro e w1 ⟨rfl,h1,h2⟩;have W1:=qh (W0.o.call h1 h2);clear h1 h2 W0
 replace W1:=qh (W1.o.new 90 #[.int .i64 kk,.int .i64 l,.int .i64 c])
 obtain⟨x0,x1,x2⟩:=W1.o.h1.three
 obtain⟨y0,y1,y2⟩:=W1.o.h0.three
 go_wp2
 go_ret
 exact⟨rfl,W1.o.fin⟩

theorem qUG (hn:n<2^40)(k:Nat)(hq:q<=2147483648)(hk:pgB q (k:Int)=true)(kk l c:Int)(ok:Bool)(hI:infoOf n K t q s (k:Int) st=(kk,l,c,ok))(h1:kk=1)(hl0:0<=l)(hl1:l<=1024)(h:(rOb base b n all K).At w0 A G st w) :
  Calls Tryz.prog 76 #[.pointer (some ⟨b,0,none⟩),.agg #[.int .i64 t,.int .i64 q,.int .i64 s],.int .i64 (k:Int)] w fun e w'=>e = .returned (.int .i64 l)/\(rOb base b n all K).At w0 A G (pullI n K t q s (nthI 2 11 1 (ofI l)) (k:Int) (getS n K st (pageI t q s (k:Int) 0))) w'/\Stay G w w':=by
 have W0:=qh ((WL.start h).new 23 #[.int .i64 t,.int .i64 q,.int .i64 s])
 obtain⟨x0,x1,x2⟩:=W0.o.h0.three
 have hk2:=(qHC _ _).1 hk
 have hk31:k<2147483648:=qo
 have sq:IntKind.i64.wrap (q-(k:Int))=q-(k:Int):=qIv qo qo
 have t8:decide ((k:Int)<0)=false:=qf
 have t9:decide (q<=(k:Int))=false:=qf
 clear hk
 subst h1
 have HI:=qh hI
 clear hI
 clear h
 go_enter Tryz.func76,Tryz.ntmps76
 go_wp2_with fail
 refine(qHu hn (k:Int) 1 l c ok HI.o W0.o.at_).mono ?_;rintro e w1 ⟨rfl,h1,h2⟩;have W1:=qh (W0.o.call h1 h2);clear h1 h2 W0
 generalize hNI:w1.heap.size=NI at *
 replace W1:=qh (W1.o.new 90 #[.int .i64 1,.int .i64 l,.int .i64 c])
 rw[hNI] at W1
 obtain⟨x0,x1,x2⟩:=W1.o.h1.three
 obtain⟨y0,y1,y2⟩:=W1.o.h0.three
 go_wp2_with fail
 refine wp_region_held_drew (S:=(fun w'=>w'.cell? ⟨w.heap.size,0,none⟩=some (.int .i64 t)/\w'.cell? ⟨w.heap.size,1,none⟩=some (.int .i64 q)/\w'.cell? ⟨w.heap.size,2,none⟩=some (.int .i64 s)/\w'.cell? ⟨NI,1,none⟩=some (.int .i64 l))) qr ?_ (fun hHeld=>?_)
 ·(try dsimp only)
  exact MMN
 refine tkz 0 ?_
 refine tkz 1 ?_
 refine tkz 2 ?_
 refine tkz 3 ?_
 refine tkz 6 ?_
 refine rdz 4 fun K hK=>?_
 go_simp
 refine(qT2 l qo qo _).mono ?_;rintro e w9 ⟨rfl,rfl⟩
 refine qk ?_ (fun hHeld=>?_)
 ·exact MMN
 clear hK K
 refine rdz 5 fun K hK=>?_
 go_simp
 refine(qSW (ofI l) _).mono ?_;rintro e w9 ⟨rfl,rfl⟩
 refine qk ?_ (fun hHeld=>?_)
 ·exact MMN
 clear hK K
 refine rdz 7 fun K hK=>?_
 go_simp
 refine(qAB hn qo (k:Int) W1.o.drew.at_).mono ?_;rintro e w2 ⟨rfl,h1,h2⟩;have W2:=qh (W1.o.drew.call h1 h2);clear h1 h2 W1
 refine qk ?_ (fun hHeld=>?_)
 ·exact MMN
 clear hK K
 refine dnz ?_
 obtain⟨x0,x1,x2⟩:=W2.o.h1.three
 obtain⟨y0,y1,y2⟩:=W2.o.h0.three
 go_wp2
 go_ret
 exact⟨rfl,W2.o.fin⟩

theorem qVK (hn:n<2^40)(hq:q<=2147483648)(p:Int)(h:(rOb base b n all K).At w0 A G st w) :
  Calls Tryz.prog 76 #[.pointer (some ⟨b,0,none⟩),.agg #[.int .i64 t,.int .i64 q,.int .i64 s],.int .i64 p] w fun e w'=>e = .returned (.int .i64 (dropV n K t q s p st))/\(rOb base b n all K).At w0 A G (dropS n K t q s p st) w'/\Stay G w w':=by
 unfold dropS dropV
 cases hp:pgB q p with
 | false=>exact qYc p hp h
 | true =>
  have h1:=(qHC _ _).1 hp
  obtain⟨k,rfl⟩:=Int.eq_ofNat_of_zero_le h1.1
  obtain⟨⟨kk,l,c,ok⟩,hI⟩:∃ x,infoOf n K t q s (k:Int) st=x:=⟨_,rfl⟩
  rw[hI]
  simp only[if_true]
  by_cases h2:kk=1
  ·rw[if_pos h2,if_pos h2]
   have h3:0<=l/\l<=1024:=by
    unfold infoOf at hI
    rw[h2] at hI
    exact qUX hI
   exact qUG hn k hq hp kk l c ok hI h2 h3.1 h3.2 h
  ·rw[if_neg h2,if_neg h2]
   exact qKH hn k hq hp kk l c ok hI h2 h
end
end
end Go.Proofs.YtgifnhcknodekaaGreat
