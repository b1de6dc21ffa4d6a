/-
  What span's Take, Shrink and Grow do. Written by span/gen_take.py.
-/
import Derived.Test.YtgifnhcknodekaaGreatCSpanRelease
import Derived.Test.YtgifnhcknodekaaGreatC02
import Derived.Deep.RegionHeld3
import Derived.IntWalk
import Derived.KernelRfl
import Derived.Test.YtgifnhcknodekaaGreatC03
import Derived.Test.YtgifnhcknodekaaGreatC01
import Derived.RegionTactic
import Derived.ChangeAlike
import Derived.BigQuiet
import Derived.Test.YtgifnhcknodekaaGreatCKit
import Derived.RangeFuncNested
import Derived.RangeFuncBound
import Derived.RangeFuncLeaves
import Derived.Shelf.Abstract
import Derived.Shelf.RegionOpen
import Derived.WalkKit
import Derived.OwnWalkIn
import Derived.TacticsInMore
import Derived.LoopNIn
import Derived.LoopIn
import Derived.Laws.BitsAllLaws
import Derived.Laws.CopyOwn
import Derived.Laws.MakeOwn
import Derived.Deep.RegionLaw
namespace Go.Proofs.YtgifnhcknodekaaGreat
theorem RPF {P Q:Prop}(kq:Q)(h:HQ Q->P:=by
 intro kq
 go_simp
 refine(qNv hn hq2 ((p:Int)+(l:Int)) ((p:Int)+(l:Int)) v6 W2.o.drew.at_).mono ?_
 rintro e w3 ⟨rfl,h1,h2⟩
 have W3:=qh (W2.o.drew.call h1 h2)
 clear h1 h2
 rw[HDV.o]
 revert w3 W3
 exact kq.o):P:=h ⟨kq⟩
theorem R1p {P Q:Prop}(kq:Q)(h:HQ Q->P:=by
 intro kq
 refine qk ?_ (fun hHeld=>?_)
 ·exact MdP
 refine tkz 6 ?_
 refine tkz 7 ?_
 refine rdz 8 fun K hK=>?_
 obtain⟨z0,z1⟩:=W3.o.h0.two
 have f0:=W3.o.h0.thawed 0
 have f1:=W3.o.h0.thawed 1
 go_simp
 have W4:=qh (W3.o.put 1 (.int .i64 ((l:Int)+l1)))
 clear z0 z1 f0 f1
 refine qk ?_ (fun hHeld=>?_)
 ·exact Mi2
 clear hK K
 refine dnz ?_
 obtain⟨s0,s1⟩:=W4.o.h0.two
 obtain⟨i0,i1,i2⟩:=W4.o.h1.three
 obtain⟨g0,g1,g2,g3⟩:=W4.o.h2.four
 obtain⟨x0,x1,x2⟩:=W4.o.h3.three
 revert W4 hHeld s0 s1 i0 i1 i2 g0 g1 g2 g3 x0 x1 x2
 exact kq.o):P:=h ⟨kq⟩
theorem RxR {P Q:Prop}(kq:Q)(h:HQ Q->P:=by
 intro kq
 replace W5:=qh ((W5.o.new 111 #[.int .i64 (p:Int),.int .i64 (m:Int)]).new 111 #[.int .i64 ((p:Int)+(m:Int)),.int .i64 (((l:Int)+l1)-(m:Int))])
 rw[World.size_alloc,hNA] at W5
 obtain⟨c0,c1⟩:=W5.o.h0.two
 obtain⟨a0,a1⟩:=W5.o.h1.two
 obtain⟨s0,s1⟩:=W5.o.h2.two
 obtain⟨i0,i1,i2⟩:=W5.o.h3.three
 obtain⟨g0,g1,g2,g3⟩:=W5.o.h4.four
 obtain⟨x0,x1,x2⟩:=W5.o.h5.three
 revert W5 c0 c1 a0 a1 s0 s1 i0 i1 i2 g0 g1 g2 g3 x0 x1 x2
 exact kq.o):P:=h ⟨kq⟩
theorem Rql {P Q:Prop}(kq:Q)(h:HQ Q->P:=by
 intro kq
 refine(qN3 hn p m qo qo W5.o.at_).mono ?_
 rintro e w6 ⟨rfl,h1,h2⟩
 have W6:=qh (W5.o.call h1 h2)
 clear h1 h2
 obtain⟨c0,c1⟩:=W6.o.h0.two
 obtain⟨a0,a1⟩:=W6.o.h1.two
 obtain⟨s0,s1⟩:=W6.o.h2.two
 obtain⟨i0,i1,i2⟩:=W6.o.h3.three
 obtain⟨g0,g1,g2,g3⟩:=W6.o.h4.four
 obtain⟨x0,x1,x2⟩:=W6.o.h5.three
 revert w6 W6 c0 c1 a0 a1 s0 s1 i0 i1 i2 g0 g1 g2 g3 x0 x1 x2
 exact kq.o):P:=h ⟨kq⟩
theorem MNm {P:Prop}(h:P:=by
 refine R1p ?_;clear hK K W3;intro W4 hHeld s0 s1 i0 i1 i2 g0 g1 g2 g3 x0 x1 x2
 go_wp2_with fail
 refine(qR0 (p:Int) ((l:Int)+l1) (m:Int) v7 v9 _).mono ?_;rintro e w5 ⟨rfl,hb⟩;have W5:=qh (W4.o.keep hb);clear hb W4
 generalize hNA:w5.heap.size=NA at *
 refine RxR ?_;clear W5;intro W5 c0 c1 a0 a1 s0 s1 i0 i1 i2 g0 g1 g2 g3 x0 x1 x2
 go_wp2_with fail
 refine Rql ?_;clear W5;intro w6 W6 c0 c1 a0 a1 s0 s1 i0 i1 i2 g0 g1 g2 g3 x0 x1 x2
 go_wp2_with fail
 refine(qGD hn hq2 ((p:Int)+(m:Int)) (((l:Int)+l1)-(m:Int)) W6.o.at_).mono ?_;rintro e w7 ⟨rfl,h1,h2⟩;have W7:=qh (W6.o.call h1 h2);clear h1 h2 W6;rw[HNO.o] at W7
 exact MqO):P:=h
theorem Mz4 {P:Prop}(h:P:=by
 refine R1p ?_;clear hK K W3;intro W4 hHeld s0 s1 i0 i1 i2 g0 g1 g2 g3 x0 x1 x2
 go_wp2_with fail
 refine(qR0 (p:Int) ((l:Int)+l1) (m:Int) v7 v9 _).mono ?_;rintro e w5 ⟨rfl,hb⟩;have W5:=qh (W4.o.keep hb);clear hb W4
 generalize hNA:w5.heap.size=NA at *
 refine RxR ?_;clear W5;intro W5 c0 c1 a0 a1 s0 s1 i0 i1 i2 g0 g1 g2 g3 x0 x1 x2
 go_wp2_with fail
 refine Rql ?_;clear W5;intro w6 W6 c0 c1 a0 a1 s0 s1 i0 i1 i2 g0 g1 g2 g3 x0 x1 x2
 go_wp2_with fail
 refine(qGD hn hq2 ((p:Int)+(m:Int)) (((l:Int)+l1)-(m:Int)) W6.o.at_).mono ?_;rintro e w7 ⟨rfl,h1,h2⟩;have W7:=qh (W6.o.call h1 h2);clear h1 h2 W6
 exact MqO):P:=h
theorem MqO {P:Prop}(h:P:=by
 obtain⟨c0,c1⟩:=W7.o.h0.two
 obtain⟨a0,a1⟩:=W7.o.h1.two
 obtain⟨s0,s1⟩:=W7.o.h2.two
 obtain⟨i0,i1,i2⟩:=W7.o.h3.three
 obtain⟨g0,g1,g2,g3⟩:=W7.o.h4.four
 obtain⟨x0,x1,x2⟩:=W7.o.h5.three
 go_wp2_with fail
 refine(qKc hn ((l:Int)-(m:Int)) W7.o.at_).mono ?_;rintro e w8 ⟨rfl,h1,h2⟩;have W8:=qh (W7.o.call h1 h2);clear h1 h2 W7
 obtain⟨c0,c1⟩:=W8.o.h0.two
 obtain⟨a0,a1⟩:=W8.o.h1.two
 obtain⟨s0,s1⟩:=W8.o.h2.two
 obtain⟨i0,i1,i2⟩:=W8.o.h3.three
 obtain⟨g0,g1,g2,g3⟩:=W8.o.h4.four
 obtain⟨x0,x1,x2⟩:=W8.o.h5.three
 go_wp2
 go_ret
 exact⟨rfl,by rw[HSB.o];exact W8.o.fin.1,W8.o.fin.2⟩):P:=h
end Go.Proofs.YtgifnhcknodekaaGreat
set_option linter.unusedVariables false
set_option linter.unusedSimpArgs false
set_option maxRecDepth 100000
set_option maxHeartbeats 25600000
namespace Go.Proofs.YtgifnhcknodekaaGreat
open Go.ChangeShapes Go.WideShapes Go.ChangeAt Go.RowKit Go.Maps
section
section
variable {base b n : Nat} {wh all : Bool} {K : Nat -> Option Nat} {st : Vst} {w w0 : World} {A G : Nat -> Prop} {t q s : Int}

theorem qG8 (hn:n<2^40)(hq:q<=1024)(P M:Int)(p m:Nat)(eP:P=(p:Int))(eM:M=(m:Int))(hp:p<=1024)(hm:m<=1024)(h:(vOb base b n wh K).At w0 A G st w) :
  Calls Tryz.prog 85 #[.agg #[.pointer (some ⟨b,0,none⟩),.int .i64 t,.int .i64 q,.int .i64 s],.agg #[.int .i64 P,.int .i64 M]] w fun e w'=>e = .returned (.tuple #[])/\(vOb base b n wh K).At w0 A G (releaseS n K t q s p m st) w'/\Stay G w w':=by
 subst eP eM
 exact qQd hn hq p m hp hm h
theorem qRq (a:Nat)(x y:Int):qZB a (x-y)=qOO a (y-x):=by
 rw[<- qZR,show -(x-y)=y-x by omega]
theorem qHK {p:Int}{l:Int}(h:l<1):addS n K t q s p l st=st:=qCd (fun hx=>by omega)

theorem qUR {nn:Int}{st:Vst}:∀ (k l:Nat) (st:Vst) {p:Nat},(lookF n K t q s nn k l st).1=some p->(p:Int)<q
 | 0,l,st,p,h=>by rw[lookF] at h;cases h
 | k+1,l,st,p,h=>by
  rw[lookF] at h
  by_cases h1:1<=l/\(l:Int)<=q
  ·rw[if_pos h1] at h
   by_cases h2:fitB nn (getV n K st (pageI t q s ((l:Int)-1) 0))=true
   ·rw[if_pos h2] at h
    injection h with h
    omega
   ·rw[if_neg h2] at h
    exact qUR (st:=st) k _ _ h
  ·rw[if_neg h1] at h
   cases h
theorem qTd:∀ (j k:Nat) (st:Vst) {p:Nat},(nextF n K q j k st).1=some p->(p:Int)<q
 | 0,k,st,p,h=>by rw[nextF] at h;cases h
 | j+1,k,st,p,h=>by
  rw[nextF] at h
  by_cases h1:1<=getV n K st ((2+k:Nat):Int)/\((getV n K st ((2+k:Nat):Int):Nat):Int)<=q
  ·rw[if_pos h1] at h
   injection h with h
   omega
  ·rw[if_neg h1] at h
   exact qTd j _ _ h
theorem qEN {nn:Int}{st s1:Vst}{p:Nat}(h:findI n K t q s nn st=(some p,s1)):(p:Int)<q/\1<=nn/\nn<=q:=by
 by_cases h1:1<=nn/\nn<=q
 ·refine⟨?_,h1⟩
  unfold findI at h
  rw[if_pos h1] at h
  unfold findF at h
  simp only at h
  cases hl:(lookF n K t q s nn q.toNat (getV n K st ((2+(ofI nn).toNat:Nat):Int)) (getS n K st ((2+(ofI nn).toNat:Nat):Int))).1 with
  | some x =>
   rw[hl] at h
   injection h with h _
   injection h with h
   subst h
   exact qUR (st:=st) _ _ _ hl
  | none =>
   rw[hl] at h
   exact qTd _ _ _ (congrArg Prod.fst h)
 ·rw[qYH h1] at h
  injection h with h _
  cases h
theorem qKW {nn:Int}{st s1:Vst}(h:findI n K t q s nn st=(none,s1)):takeI n K t q s nn st=(none,s1):=by
 unfold takeI
 rw[h]
theorem qTA {m p:Nat}{st s1:Vst}(h:findI n K t q s (m:Int) st=(some p,s1)):takeI n K t q s (m:Int) st=(some p,takeS n K t q s p m s1):=by
 unfold takeI
 rw[h]
 simp
theorem qCs {x:Nat}{z:Int}{st:Vst}(h:(x:Int)=z):lessS n K x st=putS n (getS n K st 0) 0 (qZB (getV n K st 0) z):=by
 subst h
 rfl
theorem qCk {p m:Nat}{l:Int}{st:Vst}(h:(m:Int)<l):restS n K t q s p m l st=addS n K t q s ((p:Int)+(m:Int)) (l-(m:Int)) st:=by unfold restS;rw[if_pos h]
theorem qLP {p m:Nat}{l:Int}{st:Vst}(h:¬ (m:Int)<l):restS n K t q s p m l st=st:=by unfold restS;rw[if_neg h]
theorem qSm {a:Int}{st:Vst}(h:getV n K st a≠0):getV n K (getS n K st a) a=getV n K st a:=by
 unfold getV getS at *
 by_cases ho:opn n st a
 ·rw[if_pos ho] at h ⊢
  rw[if_pos ho]
  cases hp:pos st.wr a.toNat with
  | some k=>simp only[hp];rw[if_pos ho]
  | none =>
   rw[hp] at h
   simp only at h ⊢
   cases hk:K a.toNat with
   | some v =>
    simp only
    have hw:(noteS st a.toNat).wr=st.wr:=by unfold noteS;split <;> rfl
    have hl:opn n (noteS st a.toNat) a=opn n st a:=by unfold opn noteS;split <;> rfl
    rw[hl,if_pos ho,hw,hp]
   | none =>
    rw[hk] at h
    exact absurd rfl h
 ·rw[if_neg ho] at h
  exact absurd rfl h
theorem qZq {a:Int}{st:Vst}{l c:Int}{ok:Bool}(hp:pgB q a=true)(hi:infoOf n K t q s a st=(1,l,c,ok)):dropV n K t q s a (getS n K st (pageI t q s a 0))=l:=by
 unfold dropV infoOf at *
 rw[if_pos hp,qSm (fun h0=>by
  rw[h0] at hi
  have:infoG 0=(0,0,0,true):=by decide
  rw[this] at hi
  cases hi),hi]
 rfl
theorem qHE {p l:Nat}{m:Int}{st:Vst}(h:¬ ((p:Int)+(l:Int))<q):growB n K t q s p l m st=false/\growS n K t q s p l m st=st:=by
 have h2:¬ (((p+l:Nat):Int)<q):=by rw[Int.natCast_add];exact h
 refine⟨?_,?_⟩
 ·unfold growB
  rw[decide_eq_false h2]
  rfl
 ·unfold growS
  simp only
  rw[if_neg h2]
theorem qZs {p l:Nat}{m:Int}{st:Vst}{k1 l1 c1:Int}{o1:Bool}(h:((p:Int)+(l:Int))<q)(hi:infoOf n K t q s ((p:Int)+(l:Int)) st=(k1,l1,c1,o1)):growB n K t q s p l m st=(decide (k1=1)&&decide (m-(l:Int)<=l1)):=by
 unfold growB
 rw[Int.natCast_add,hi,decide_eq_true h]
 simp
theorem qYN {p l:Nat}{m:Int}{st:Vst}(h:((p:Int)+(l:Int))<q)(hb:growB n K t q s p l m st=false):growS n K t q s p l m st=getS n K st (pageI t q s ((p:Int)+(l:Int)) 0):=by
 unfold growS
 simp only
 rw[if_pos (by rw[Int.natCast_add];exact h),if_neg (by rw[hb];simp),Int.natCast_add]
theorem qWC {p l:Nat}{m:Nat}{st:Vst}{l1 c1:Int}{o1:Bool}(h:((p:Int)+(l:Int))<q)(hlm:l<=m)(hi:infoOf n K t q s ((p:Int)+(l:Int)) st=(1,l1,c1,o1))(hb:growB n K t q s p l (m:Int) st=true) :
  growS n K t q s p l (m:Int) st=putS n (getS n K (restS n K t q s p m ((l:Int)+l1) (usedS n t q s p m (putS n (putS n (dropS n K t q s ((p:Int)+(l:Int)) (getS n K st (pageI t q s ((p:Int)+(l:Int)) 0))) (pageI t q s ((p:Int)+(l:Int)) 0) 0) (pageI t q s ((p:Int)+(l:Int)-1) 1) 0))) 0) 0
   (qZB (getV n K (restS n K t q s p m ((l:Int)+l1) (usedS n t q s p m (putS n (putS n (dropS n K t q s ((p:Int)+(l:Int)) (getS n K st (pageI t q s ((p:Int)+(l:Int)) 0))) (pageI t q s ((p:Int)+(l:Int)) 0) 0) (pageI t q s ((p:Int)+(l:Int)-1) 1) 0))) 0) ((m:Int)-(l:Int))):=by
 unfold growS
 simp only
 rw[if_pos (by rw[Int.natCast_add];exact h),if_pos hb,Int.natCast_add,hi,Int.toNat_natCast]
 exact qCs qo

theorem WL.h3 {O:Ob}{w0 ws w:World}{A G:Nat->Prop}{L:List Blk}{x y z u:Blk}{st:Vst}(h:WL O w0 A G ws (x :: y :: z :: u :: L) st w):Held w u.n u.t u.cs:=h.held u (by simp)
theorem WL.h4 {O:Ob}{w0 ws w:World}{A G:Nat->Prop}{L:List Blk}{x y z u v:Blk}{st:Vst}(h:WL O w0 A G ws (x :: y :: z :: u :: v :: L) st w):Held w v.n v.t v.cs:=h.held v (by simp)
theorem WL.h5 {O:Ob}{w0 ws w:World}{A G:Nat->Prop}{L:List Blk}{x y z u v r:Blk}{st:Vst}(h:WL O w0 A G ws (x :: y :: z :: u :: v :: r :: L) st w):Held w r.n r.t r.cs:=h.held r (by simp)

theorem qP3 (hn:n<2^40)(hq:q<=1024)(nn:Int)(s1:Vst)(hf:findI n K t q s nn st=(none,s1))(h:(vOb base b n wh K).At w0 A G st w) :
  Calls Tryz.prog 32 #[.pointer (some ⟨b,0,none⟩),.agg #[.int .i64 t,.int .i64 q,.int .i64 s],.int .i64 nn] w fun e w'=>e = .returned (.tuple #[.int .i64 0,.bool false])/\(vOb base b n wh K).At w0 A G (s1) w'/\Stay G w w':=by
 have W0:=qh ((WL.start h).new 23 #[.int .i64 t,.int .i64 q,.int .i64 s])
 have hq2:q<=2147483648:=qo
 have HFO:=qh hf
 clear h hf
 go_enter Tryz.func32,Tryz.ntmps32
 obtain⟨x0,x1,x2⟩:=W0.o.h0.three
 go_wp2_with fail
 refine(qUz hn hq nn W0.o.at_).mono ?_;rintro e w1 ⟨rfl,h1,h2⟩;have W1:=qh (W0.o.call h1 h2);clear h1 h2 W0;rw[HFO.o] at W1 ⊢;dsimp only[foundI,Option.isSome] at W1 ⊢
 obtain⟨x0,x1,x2⟩:=W1.o.h0.three
 go_wp2
 go_ret2
 exact⟨rfl,W1.o.fin⟩

theorem qWM (hn:n<2^40)(hq:q<=1024)(p m:Nat)(hp:p<=1024)(hm:m<=1024)(l:Int)(hl0:0<=l)(hl1:l<=1024)(s1:Vst)(hf:findI n K t q s (m:Int) st=(some p,s1))(hd:dropV n K t q s (p:Int) s1=l)(hml:(m:Int)<l)(h:(vOb base b n wh K).At w0 A G st w) :
  Calls Tryz.prog 32 #[.pointer (some ⟨b,0,none⟩),.agg #[.int .i64 t,.int .i64 q,.int .i64 s],.int .i64 (m:Int)] w fun e w'=>e = .returned (.tuple #[.int .i64 (p:Int),.bool true])/\(vOb base b n wh K).At w0 A G (putS n (getS n K (addS n K t q s ((p:Int)+(m:Int)) (l-(m:Int)) (usedS n t q s p m (dropS n K t q s (p:Int) s1))) 0) 0 (qZB (getV n K (addS n K t q s ((p:Int)+(m:Int)) (l-(m:Int)) (usedS n t q s p m (dropS n K t q s (p:Int) s1))) 0) (m:Int))) w'/\Stay G w w':=by
 have W0:=qh ((WL.start h).new 23 #[.int .i64 t,.int .i64 q,.int .i64 s])
 have hq2:q<=2147483648:=qo
 have HFO:=qh hf
 have HDV:=qh hd
 have v4:IntKind.i64.wrap ((p:Int)+(m:Int))=((p:Int)+(m:Int)):=qIv qo qo
 have v6:IntKind.i64.wrap (l-(m:Int))=(l-(m:Int)):=qIv qo qo
 have v7:IntKind.i64.wrap (-(m:Int))=(-(m:Int)):=qIv qo qo
 have HSB:qH (qZB (getV n K (addS n K t q s ((p:Int)+(m:Int)) (l-(m:Int)) (usedS n t q s p m (dropS n K t q s (p:Int) s1))) 0) (m:Int)=qOO (getV n K (addS n K t q s ((p:Int)+(m:Int)) (l-(m:Int)) (usedS n t q s p m (dropS n K t q s (p:Int) s1))) 0) (-(m:Int))):=qh (qZR _ _).symm
 clear h hf hd
 go_enter Tryz.func32,Tryz.ntmps32
 obtain⟨x0,x1,x2⟩:=W0.o.h0.three
 go_wp2_with fail
 refine(qUz hn hq (m:Int) W0.o.at_).mono ?_;rintro e w1 ⟨rfl,h1,h2⟩;have W1:=qh (W0.o.call h1 h2);clear h1 h2 W0;rw[HFO.o] at W1 ⊢;dsimp only[foundI,Option.isSome] at W1 ⊢
 obtain⟨x0,x1,x2⟩:=W1.o.h0.three
 generalize hNP:w1.heap.size=NP at *
 replace W1:=qh (W1.o.new 110 #[.pointer (some ⟨b,0,none⟩),.int .i64 t,.int .i64 q,.int .i64 s])
 rw[hNP] at W1
 obtain⟨g0,g1,g2,g3⟩:=W1.o.h0.four
 obtain⟨x0,x1,x2⟩:=W1.o.h1.three
 go_wp2_with fail
 refine(qAQ hn hq2 (p:Int) W1.o.at_).mono ?_;rintro e w2 ⟨rfl,h1,h2⟩;have W2:=qh (W1.o.call h1 h2);clear h1 h2 W1;rw[HDV.o]
 obtain⟨g0,g1,g2,g3⟩:=W2.o.h0.four
 obtain⟨x0,x1,x2⟩:=W2.o.h1.three
 go_wp2_with fail
 refine(qR0 (p:Int) l (m:Int) v4 v6 _).mono ?_;rintro e w3 ⟨rfl,hb⟩;have W3:=qh (W2.o.keep hb);clear hb W2
 generalize hNA:w3.heap.size=NA at *
 replace W3:=qh ((W3.o.new 111 #[.int .i64 (p:Int),.int .i64 (m:Int)]).new 111 #[.int .i64 ((p:Int)+(m:Int)),.int .i64 (l-(m:Int))])
 rw[World.size_alloc,hNA] at W3
 obtain⟨c0,c1⟩:=W3.o.h0.two
 obtain⟨a0,a1⟩:=W3.o.h1.two
 obtain⟨g0,g1,g2,g3⟩:=W3.o.h2.four
 obtain⟨x0,x1,x2⟩:=W3.o.h3.three
 go_wp2_with fail
 refine(qN3 hn p m qo qo W3.o.at_).mono ?_;rintro e w4 ⟨rfl,h1,h2⟩;have W4:=qh (W3.o.call h1 h2);clear h1 h2 W3
 obtain⟨c0,c1⟩:=W4.o.h0.two
 obtain⟨a0,a1⟩:=W4.o.h1.two
 obtain⟨g0,g1,g2,g3⟩:=W4.o.h2.four
 obtain⟨x0,x1,x2⟩:=W4.o.h3.three
 go_wp2_with fail
 refine(qGD hn hq2 ((p:Int)+(m:Int)) (l-(m:Int)) W4.o.at_).mono ?_;rintro e w5 ⟨rfl,h1,h2⟩;have W5:=qh (W4.o.call h1 h2);clear h1 h2 W4
 obtain⟨c0,c1⟩:=W5.o.h0.two
 obtain⟨a0,a1⟩:=W5.o.h1.two
 obtain⟨g0,g1,g2,g3⟩:=W5.o.h2.four
 obtain⟨x0,x1,x2⟩:=W5.o.h3.three
 go_wp2_with fail
 refine(qKc hn (-(m:Int)) W5.o.at_).mono ?_;rintro e w6 ⟨rfl,h1,h2⟩;have W6:=qh (W5.o.call h1 h2);clear h1 h2 W5
 obtain⟨c0,c1⟩:=W6.o.h0.two
 obtain⟨a0,a1⟩:=W6.o.h1.two
 obtain⟨g0,g1,g2,g3⟩:=W6.o.h2.four
 obtain⟨x0,x1,x2⟩:=W6.o.h3.three
 go_wp2
 go_ret2
 exact⟨rfl,by rw[HSB.o];exact W6.o.fin.1,W6.o.fin.2⟩

theorem qCZ (hn:n<2^40)(hq:q<=1024)(p m:Nat)(hp:p<=1024)(hm:m<=1024)(l:Int)(hl0:0<=l)(hl1:l<=1024)(s1:Vst)(hf:findI n K t q s (m:Int) st=(some p,s1))(hd:dropV n K t q s (p:Int) s1=l)(hml:¬ (m:Int)<l)(h:(vOb base b n wh K).At w0 A G st w) :
  Calls Tryz.prog 32 #[.pointer (some ⟨b,0,none⟩),.agg #[.int .i64 t,.int .i64 q,.int .i64 s],.int .i64 (m:Int)] w fun e w'=>e = .returned (.tuple #[.int .i64 (p:Int),.bool true])/\(vOb base b n wh K).At w0 A G (putS n (getS n K (usedS n t q s p m (dropS n K t q s (p:Int) s1)) 0) 0 (qZB (getV n K (usedS n t q s p m (dropS n K t q s (p:Int) s1)) 0) (m:Int))) w'/\Stay G w w':=by
 have W0:=qh ((WL.start h).new 23 #[.int .i64 t,.int .i64 q,.int .i64 s])
 have hq2:q<=2147483648:=qo
 have HFO:=qh hf
 have HDV:=qh hd
 have v4:IntKind.i64.wrap ((p:Int)+(m:Int))=((p:Int)+(m:Int)):=qIv qo qo
 have v6:IntKind.i64.wrap (l-(m:Int))=(l-(m:Int)):=qIv qo qo
 have v7:IntKind.i64.wrap (-(m:Int))=(-(m:Int)):=qIv qo qo
 have HSB:qH (qZB (getV n K (usedS n t q s p m (dropS n K t q s (p:Int) s1)) 0) (m:Int)=qOO (getV n K (usedS n t q s p m (dropS n K t q s (p:Int) s1)) 0) (-(m:Int))):=qh (qZR _ _).symm
 have HNO:qH (addS n K t q s ((p:Int)+(m:Int)) (l-(m:Int)) (usedS n t q s p m (dropS n K t q s (p:Int) s1))=usedS n t q s p m (dropS n K t q s (p:Int) s1)):=qh (qHK qo)
 clear h hf hd
 go_enter Tryz.func32,Tryz.ntmps32
 obtain⟨x0,x1,x2⟩:=W0.o.h0.three
 go_wp2_with fail
 refine(qUz hn hq (m:Int) W0.o.at_).mono ?_;rintro e w1 ⟨rfl,h1,h2⟩;have W1:=qh (W0.o.call h1 h2);clear h1 h2 W0;rw[HFO.o] at W1 ⊢;dsimp only[foundI,Option.isSome] at W1 ⊢
 obtain⟨x0,x1,x2⟩:=W1.o.h0.three
 generalize hNP:w1.heap.size=NP at *
 replace W1:=qh (W1.o.new 110 #[.pointer (some ⟨b,0,none⟩),.int .i64 t,.int .i64 q,.int .i64 s])
 rw[hNP] at W1
 obtain⟨g0,g1,g2,g3⟩:=W1.o.h0.four
 obtain⟨x0,x1,x2⟩:=W1.o.h1.three
 go_wp2_with fail
 refine(qAQ hn hq2 (p:Int) W1.o.at_).mono ?_;rintro e w2 ⟨rfl,h1,h2⟩;have W2:=qh (W1.o.call h1 h2);clear h1 h2 W1;rw[HDV.o]
 obtain⟨g0,g1,g2,g3⟩:=W2.o.h0.four
 obtain⟨x0,x1,x2⟩:=W2.o.h1.three
 go_wp2_with fail
 refine(qR0 (p:Int) l (m:Int) v4 v6 _).mono ?_;rintro e w3 ⟨rfl,hb⟩;have W3:=qh (W2.o.keep hb);clear hb W2
 generalize hNA:w3.heap.size=NA at *
 replace W3:=qh ((W3.o.new 111 #[.int .i64 (p:Int),.int .i64 (m:Int)]).new 111 #[.int .i64 ((p:Int)+(m:Int)),.int .i64 (l-(m:Int))])
 rw[World.size_alloc,hNA] at W3
 obtain⟨c0,c1⟩:=W3.o.h0.two
 obtain⟨a0,a1⟩:=W3.o.h1.two
 obtain⟨g0,g1,g2,g3⟩:=W3.o.h2.four
 obtain⟨x0,x1,x2⟩:=W3.o.h3.three
 go_wp2_with fail
 refine(qN3 hn p m qo qo W3.o.at_).mono ?_;rintro e w4 ⟨rfl,h1,h2⟩;have W4:=qh (W3.o.call h1 h2);clear h1 h2 W3
 obtain⟨c0,c1⟩:=W4.o.h0.two
 obtain⟨a0,a1⟩:=W4.o.h1.two
 obtain⟨g0,g1,g2,g3⟩:=W4.o.h2.four
 obtain⟨x0,x1,x2⟩:=W4.o.h3.three
 go_wp2_with fail
 refine(qGD hn hq2 ((p:Int)+(m:Int)) (l-(m:Int)) W4.o.at_).mono ?_;rintro e w5 ⟨rfl,h1,h2⟩;have W5:=qh (W4.o.call h1 h2);clear h1 h2 W4;rw[HNO.o] at W5
 obtain⟨c0,c1⟩:=W5.o.h0.two
 obtain⟨a0,a1⟩:=W5.o.h1.two
 obtain⟨g0,g1,g2,g3⟩:=W5.o.h2.four
 obtain⟨x0,x1,x2⟩:=W5.o.h3.three
 go_wp2_with fail
 refine(qKc hn (-(m:Int)) W5.o.at_).mono ?_;rintro e w6 ⟨rfl,h1,h2⟩;have W6:=qh (W5.o.call h1 h2);clear h1 h2 W5
 obtain⟨c0,c1⟩:=W6.o.h0.two
 obtain⟨a0,a1⟩:=W6.o.h1.two
 obtain⟨g0,g1,g2,g3⟩:=W6.o.h2.four
 obtain⟨x0,x1,x2⟩:=W6.o.h3.three
 go_wp2
 go_ret2
 exact⟨rfl,by rw[HSB.o];exact W6.o.fin.1,W6.o.fin.2⟩

theorem qRJ (hn:n<2^40)(hq:q<=1024)(p l m:Nat)(hp:p+l<=1024)(hm:m<=l)(h:(vOb base b n wh K).At w0 A G st w) :
  Calls Tryz.prog 45 #[.pointer (some ⟨b,0,none⟩),.agg #[.int .i64 t,.int .i64 q,.int .i64 s],.int .i64 (p:Int),.int .i64 (l:Int),.int .i64 (m:Int)] w fun e w'=>e = .returned (.tuple #[])/\(vOb base b n wh K).At w0 A G (shrinkS n K t q s p l m st) w'/\Stay G w w':=by
 have W0:=qh (((WL.start h).new 23 #[.int .i64 t,.int .i64 q,.int .i64 s]).new 110 #[.pointer (some ⟨b,0,none⟩),.int .i64 t,.int .i64 q,.int .i64 s])
 simp only[World.size_alloc] at W0
 have hq2:q<=2147483648:=qo
 have v4:IntKind.i64.wrap ((p:Int)+(m:Int))=((p:Int)+(m:Int)):=qIv qo qo
 have v6:IntKind.i64.wrap ((l:Int)-(m:Int))=((l:Int)-(m:Int)):=qIv qo qo
 clear h 
 go_enter Tryz.func45,Tryz.ntmps45
 obtain⟨g0,g1,g2,g3⟩:=W0.o.h0.four
 obtain⟨x0,x1,x2⟩:=W0.o.h1.three
 go_wp2_with fail
 refine(qR0 (p:Int) (l:Int) (m:Int) v4 v6 _).mono ?_;rintro e w1 ⟨rfl,hb⟩;have W1:=qh (W0.o.keep hb);clear hb W0
 generalize hNA:w1.heap.size=NA at *
 replace W1:=qh ((W1.o.new 111 #[.int .i64 (p:Int),.int .i64 (m:Int)]).new 111 #[.int .i64 ((p:Int)+(m:Int)),.int .i64 ((l:Int)-(m:Int))])
 rw[World.size_alloc,hNA] at W1
 obtain⟨c0,c1⟩:=W1.o.h0.two
 obtain⟨a0,a1⟩:=W1.o.h1.two
 obtain⟨g0,g1,g2,g3⟩:=W1.o.h2.four
 obtain⟨x0,x1,x2⟩:=W1.o.h3.three
 go_wp2_with fail
 refine(qN3 hn p m qo qo W1.o.at_).mono ?_;rintro e w2 ⟨rfl,h1,h2⟩;have W2:=qh (W1.o.call h1 h2);clear h1 h2 W1
 obtain⟨c0,c1⟩:=W2.o.h0.two
 obtain⟨a0,a1⟩:=W2.o.h1.two
 obtain⟨g0,g1,g2,g3⟩:=W2.o.h2.four
 obtain⟨x0,x1,x2⟩:=W2.o.h3.three
 go_wp2_with fail
 refine(qG8 hn hq ((p:Int)+(m:Int)) ((l:Int)-(m:Int)) (p+m) (l-m) qo qo qo qo W2.o.at_).mono ?_;rintro e w3 ⟨rfl,h1,h2⟩;have W3:=qh (W2.o.call h1 h2);clear h1 h2 W2
 obtain⟨c0,c1⟩:=W3.o.h0.two
 obtain⟨a0,a1⟩:=W3.o.h1.two
 obtain⟨g0,g1,g2,g3⟩:=W3.o.h2.four
 obtain⟨x0,x1,x2⟩:=W3.o.h3.three
 go_wp2
 go_end0
 exact⟨rfl,W3.o.fin⟩

theorem qAR (hn:n<2^40)(hq:q<=1024)(p l:Nat)(m:Int)(hp:p+l<=1024)(hm:(l:Int)<m)(hm2:m<=9223372036854775807)(hr:¬ ((p:Int)+(l:Int))<q)(hre:((p:Int)+(l:Int))<=q)(h:(vOb base b n wh K).At w0 A G st w) :
  Calls Tryz.prog 46 #[.pointer (some ⟨b,0,none⟩),.agg #[.int .i64 t,.int .i64 q,.int .i64 s],.int .i64 (p:Int),.int .i64 (l:Int),.int .i64 m] w fun e w'=>e = .returned (.bool false)/\(vOb base b n wh K).At w0 A G (st) w'/\Stay G w w':=by
 have W0:=qh ((((WL.start h).new 23 #[.int .i64 t,.int .i64 q,.int .i64 s]).new 110 #[.pointer (some ⟨b,0,none⟩),.int .i64 t,.int .i64 q,.int .i64 s]).new 111 #[.int .i64 (p:Int),.int .i64 (l:Int)])
 simp only[World.size_alloc] at W0
 have hq2:q<=2147483648:=qo
 have v4:IntKind.i64.wrap ((p:Int)+(l:Int))=((p:Int)+(l:Int)):=qIv qo qo
 have t0:(((p:Int)+(l:Int))==q)=true:=qs
 clear h hr hre
 go_enter Tryz.func46,Tryz.ntmps46
 obtain⟨s0,s1⟩:=W0.o.h0.two
 obtain⟨g0,g1,g2,g3⟩:=W0.o.h1.four
 obtain⟨x0,x1,x2⟩:=W0.o.h2.three
 go_wp2_with fail
 refine(qLO (p:Int) (l:Int) v4 _).mono ?_;rintro e w1 ⟨rfl,hb⟩;have W1:=qh (W0.o.keep hb);clear hb W0
 obtain⟨s0,s1⟩:=W1.o.h0.two
 obtain⟨g0,g1,g2,g3⟩:=W1.o.h1.four
 obtain⟨x0,x1,x2⟩:=W1.o.h2.three
 go_wp2
 go_ret
 exact⟨rfl,W1.o.fin⟩

theorem qPu (hn:n<2^40)(hq:q<=1024)(p l:Nat)(m:Int)(hp:p+l<=1024)(hm:(l:Int)<m)(hm2:m<=9223372036854775807)(hr:((p:Int)+(l:Int))<q)(k1 l1 c1:Int)(o1:Bool)(hi1:infoOf n K t q s ((p:Int)+(l:Int)) st=(k1,l1,c1,o1))(hk1:k1≠1)(h:(vOb base b n wh K).At w0 A G st w) :
  Calls Tryz.prog 46 #[.pointer (some ⟨b,0,none⟩),.agg #[.int .i64 t,.int .i64 q,.int .i64 s],.int .i64 (p:Int),.int .i64 (l:Int),.int .i64 m] w fun e w'=>e = .returned (.bool false)/\(vOb base b n wh K).At w0 A G (getS n K st (pageI t q s ((p:Int)+(l:Int)) 0)) w'/\Stay G w w':=by
 have W0:=qh ((((WL.start h).new 23 #[.int .i64 t,.int .i64 q,.int .i64 s]).new 110 #[.pointer (some ⟨b,0,none⟩),.int .i64 t,.int .i64 q,.int .i64 s]).new 111 #[.int .i64 (p:Int),.int .i64 (l:Int)])
 simp only[World.size_alloc] at W0
 have hq2:q<=2147483648:=qo
 have v4:IntKind.i64.wrap ((p:Int)+(l:Int))=((p:Int)+(l:Int)):=qIv qo qo
 have t0:(((p:Int)+(l:Int))==q)=false:=qs
 have v5:IntKind.i64.wrap (m-(l:Int))=(m-(l:Int)):=qIv qo qo
 have HI1:=qh hi1
 have u0:(k1==1)=false:=by simpa using hk1
 have u1:(k1 != 1)=true:=by simpa using hk1
 clear h hi1
 go_enter Tryz.func46,Tryz.ntmps46
 obtain⟨s0,s1⟩:=W0.o.h0.two
 obtain⟨g0,g1,g2,g3⟩:=W0.o.h1.four
 obtain⟨x0,x1,x2⟩:=W0.o.h2.three
 go_wp2_with fail
 refine(qLO (p:Int) (l:Int) v4 _).mono ?_;rintro e w1 ⟨rfl,hb⟩;have W1:=qh (W0.o.keep hb);clear hb W0
 obtain⟨s0,s1⟩:=W1.o.h0.two
 obtain⟨g0,g1,g2,g3⟩:=W1.o.h1.four
 obtain⟨x0,x1,x2⟩:=W1.o.h2.three
 go_wp2_with fail
 refine(qPp hn ((p:Int)+(l:Int)) k1 l1 c1 o1 HI1.o W1.o.at_).mono ?_;rintro e w2 ⟨rfl,h1,h2⟩;have W2:=qh (W1.o.call h1 h2);clear h1 h2 W1
 generalize hNI:w2.heap.size=NI at *
 replace W2:=qh ((W2.o.new 90 #[.int .i64 k1,.int .i64 l1,.int .i64 c1]).swap)
 rw[hNI] at W2
 obtain⟨s0,s1⟩:=W2.o.h0.two
 obtain⟨i0,i1,i2⟩:=W2.o.h1.three
 obtain⟨g0,g1,g2,g3⟩:=W2.o.h2.four
 obtain⟨x0,x1,x2⟩:=W2.o.h3.three
 go_wp2
 go_ret
 exact⟨rfl,W2.o.fin⟩

theorem qY0 (hn:n<2^40)(hq:q<=1024)(p l:Nat)(m:Int)(hp:p+l<=1024)(hm:(l:Int)<m)(hm2:m<=9223372036854775807)(hr:((p:Int)+(l:Int))<q)(k1 l1 c1:Int)(o1:Bool)(hi1:infoOf n K t q s ((p:Int)+(l:Int)) st=(k1,l1,c1,o1))(hk1:k1=1)(hs:l1<m-(l:Int))(h:(vOb base b n wh K).At w0 A G st w) :
  Calls Tryz.prog 46 #[.pointer (some ⟨b,0,none⟩),.agg #[.int .i64 t,.int .i64 q,.int .i64 s],.int .i64 (p:Int),.int .i64 (l:Int),.int .i64 m] w fun e w'=>e = .returned (.bool false)/\(vOb base b n wh K).At w0 A G (getS n K st (pageI t q s ((p:Int)+(l:Int)) 0)) w'/\Stay G w w':=by
 have W0:=qh ((((WL.start h).new 23 #[.int .i64 t,.int .i64 q,.int .i64 s]).new 110 #[.pointer (some ⟨b,0,none⟩),.int .i64 t,.int .i64 q,.int .i64 s]).new 111 #[.int .i64 (p:Int),.int .i64 (l:Int)])
 simp only[World.size_alloc] at W0
 have hq2:q<=2147483648:=qo
 have v4:IntKind.i64.wrap ((p:Int)+(l:Int))=((p:Int)+(l:Int)):=qIv qo qo
 have t0:(((p:Int)+(l:Int))==q)=false:=qs
 have v5:IntKind.i64.wrap (m-(l:Int))=(m-(l:Int)):=qIv qo qo
 subst hk1
 have HI1:=qh hi1
 have t1:decide (l1<m-(l:Int))=true:=decide_eq_true hs
 clear h hi1
 go_enter Tryz.func46,Tryz.ntmps46
 obtain⟨s0,s1⟩:=W0.o.h0.two
 obtain⟨g0,g1,g2,g3⟩:=W0.o.h1.four
 obtain⟨x0,x1,x2⟩:=W0.o.h2.three
 go_wp2_with fail
 refine(qLO (p:Int) (l:Int) v4 _).mono ?_;rintro e w1 ⟨rfl,hb⟩;have W1:=qh (W0.o.keep hb);clear hb W0
 obtain⟨s0,s1⟩:=W1.o.h0.two
 obtain⟨g0,g1,g2,g3⟩:=W1.o.h1.four
 obtain⟨x0,x1,x2⟩:=W1.o.h2.three
 go_wp2_with fail
 refine(qPp hn ((p:Int)+(l:Int)) 1 l1 c1 o1 HI1.o W1.o.at_).mono ?_;rintro e w2 ⟨rfl,h1,h2⟩;have W2:=qh (W1.o.call h1 h2);clear h1 h2 W1
 generalize hNI:w2.heap.size=NI at *
 replace W2:=qh ((W2.o.new 90 #[.int .i64 1,.int .i64 l1,.int .i64 c1]).swap)
 rw[hNI] at W2
 obtain⟨s0,s1⟩:=W2.o.h0.two
 obtain⟨i0,i1,i2⟩:=W2.o.h1.three
 obtain⟨g0,g1,g2,g3⟩:=W2.o.h2.four
 obtain⟨x0,x1,x2⟩:=W2.o.h3.three
 go_wp2
 go_ret
 exact⟨rfl,W2.o.fin⟩

theorem qQY (hn:n<2^40)(hq:q<=1024)(p l m:Nat)(hp:p+l<=1024)(hm:l<m)(hm2:m<=2048)(hr:((p:Int)+(l:Int))<q)(k1 l1 c1:Int)(o1:Bool)(hi1:infoOf n K t q s ((p:Int)+(l:Int)) st=(k1,l1,c1,o1))(hk1:k1=1)(hl0:0<=l1)(hl1:l1<=1024)(hs:¬ l1<((m:Int)-(l:Int)))(hml:((m:Int)-(l:Int))<l1)(h:(vOb base b n wh K).At w0 A G st w) :
  Calls Tryz.prog 46 #[.pointer (some ⟨b,0,none⟩),.agg #[.int .i64 t,.int .i64 q,.int .i64 s],.int .i64 (p:Int),.int .i64 (l:Int),.int .i64 (m:Int)] w fun e w'=>e = .returned (.bool true)/\(vOb base b n wh K).At w0 A G (putS n (getS n K (addS n K t q s ((p:Int)+(m:Int)) (l1-((m:Int)-(l:Int))) (usedS n t q s p m (putS n (putS n (dropS n K t q s ((p:Int)+(l:Int)) (getS n K st (pageI t q s ((p:Int)+(l:Int)) 0))) (pageI t q s ((p:Int)+(l:Int)) 0) 0) (pageI t q s (((p:Int)+(l:Int))-1) 1) 0))) 0) 0 (qZB (getV n K (addS n K t q s ((p:Int)+(m:Int)) (l1-((m:Int)-(l:Int))) (usedS n t q s p m (putS n (putS n (dropS n K t q s ((p:Int)+(l:Int)) (getS n K st (pageI t q s ((p:Int)+(l:Int)) 0))) (pageI t q s ((p:Int)+(l:Int)) 0) 0) (pageI t q s (((p:Int)+(l:Int))-1) 1) 0))) 0) ((m:Int)-(l:Int)))) w'/\Stay G w w':=by
 have W0:=qh ((((WL.start h).new 23 #[.int .i64 t,.int .i64 q,.int .i64 s]).new 110 #[.pointer (some ⟨b,0,none⟩),.int .i64 t,.int .i64 q,.int .i64 s]).new 111 #[.int .i64 (p:Int),.int .i64 (l:Int)])
 simp only[World.size_alloc] at W0
 have hq2:q<=2147483648:=qo
 have v4:IntKind.i64.wrap ((p:Int)+(l:Int))=((p:Int)+(l:Int)):=qIv qo qo
 have t0:(((p:Int)+(l:Int))==q)=false:=qs
 have v5:IntKind.i64.wrap ((m:Int)-(l:Int))=((m:Int)-(l:Int)):=qIv qo qo
 subst hk1
 have HI1:=qh hi1
 have t1:decide (l1<((m:Int)-(l:Int)))=false:=decide_eq_false hs
 have v6:IntKind.i64.wrap (((p:Int)+(l:Int))-1)=(((p:Int)+(l:Int))-1):=qIv qo qo
 have v7:IntKind.i64.wrap ((p:Int)+(m:Int))=((p:Int)+(m:Int)):=qIv qo qo
 have v8:IntKind.i64.wrap ((l:Int)+l1)=((l:Int)+l1):=qIv qo qo
 have v9:IntKind.i64.wrap (((l:Int)+l1)-(m:Int))=(((l:Int)+l1)-(m:Int)):=qIv qo qo
 have v10:IntKind.i64.wrap ((l:Int)-(m:Int))=((l:Int)-(m:Int)):=qIv qo qo
 have HDV:qH (dropV n K t q s ((p:Int)+(l:Int)) (getS n K st (pageI t q s ((p:Int)+(l:Int)) 0))=l1):=qh (qZq ((qHC _ _).2 ⟨qo,hr⟩) hi1)
 rw[show l1-((m:Int)-(l:Int))=((l:Int)+l1)-(m:Int) by omega]
 have HSB:qH (qZB (getV n K (addS n K t q s ((p:Int)+(m:Int)) (((l:Int)+l1)-(m:Int)) (usedS n t q s p m (putS n (putS n (dropS n K t q s ((p:Int)+(l:Int)) (getS n K st (pageI t q s ((p:Int)+(l:Int)) 0))) (pageI t q s ((p:Int)+(l:Int)) 0) 0) (pageI t q s (((p:Int)+(l:Int))-1) 1) 0))) 0) ((m:Int)-(l:Int))=qOO (getV n K (addS n K t q s ((p:Int)+(m:Int)) (((l:Int)+l1)-(m:Int)) (usedS n t q s p m (putS n (putS n (dropS n K t q s ((p:Int)+(l:Int)) (getS n K st (pageI t q s ((p:Int)+(l:Int)) 0))) (pageI t q s ((p:Int)+(l:Int)) 0) 0) (pageI t q s (((p:Int)+(l:Int))-1) 1) 0))) 0) ((l:Int)-(m:Int))):=qh (qRq _ _ _)
 clear h hi1
 go_enter Tryz.func46,Tryz.ntmps46
 obtain⟨s0,s1⟩:=W0.o.h0.two
 obtain⟨g0,g1,g2,g3⟩:=W0.o.h1.four
 obtain⟨x0,x1,x2⟩:=W0.o.h2.three
 go_wp2_with fail
 refine(qLO (p:Int) (l:Int) v4 _).mono ?_;rintro e w1 ⟨rfl,hb⟩;have W1:=qh (W0.o.keep hb);clear hb W0
 obtain⟨s0,s1⟩:=W1.o.h0.two
 obtain⟨g0,g1,g2,g3⟩:=W1.o.h1.four
 obtain⟨x0,x1,x2⟩:=W1.o.h2.three
 go_wp2_with fail
 refine(qPp hn ((p:Int)+(l:Int)) 1 l1 c1 o1 HI1.o W1.o.at_).mono ?_;rintro e w2 ⟨rfl,h1,h2⟩;have W2:=qh (W1.o.call h1 h2);clear h1 h2 W1
 generalize hNI:w2.heap.size=NI at *
 replace W2:=qh ((W2.o.new 90 #[.int .i64 1,.int .i64 l1,.int .i64 c1]).swap)
 rw[hNI] at W2
 obtain⟨s0,s1⟩:=W2.o.h0.two
 obtain⟨i0,i1,i2⟩:=W2.o.h1.three
 obtain⟨g0,g1,g2,g3⟩:=W2.o.h2.four
 obtain⟨x0,x1,x2⟩:=W2.o.h3.three
 go_wp2_with fail
 refine wp_region_held_drew (S:=(fun w'=>w'.cell? ⟨(w.heap.size+1),0,none⟩=some (.pointer (some ⟨b,0,none⟩))/\w'.cell? ⟨(w.heap.size+1),1,none⟩=some (.int .i64 t)/\w'.cell? ⟨(w.heap.size+1),2,none⟩=some (.int .i64 q)/\w'.cell? ⟨(w.heap.size+1),3,none⟩=some (.int .i64 s))) qr ?_ (fun hHeld=>?_)
 ·exact MnM
 refine tkz 0 ?_
 refine tkz 2 ?_
 refine tkz 3 ?_
 refine tkz 4 ?_
 refine wpAnyH_ready (rs := [1,5]) qr (by simp) ?_
 refine AllReadyH.cons (o:=_) rfl (fun K hK=>?_) (AllReadyH.cons (o:=_) rfl (fun K hK=>?_) AllReadyH.nil)
 ·skip
  obtain⟨s0,s1⟩:=W2.o.drew.h0.two
  go_simp
  refine qk ?_ (fun hHeld=>?_)
  ·exact M4J
  clear hK K
  refine rdz 5 fun K hK=>?_
  refine RPF ?_;clear W2;intro w3 W3
  exact Mz4
 ·skip
  refine RPF ?_;clear W2;intro w3 W3
  refine qk ?_ (fun hHeld=>?_)
  ·exact MdP
  clear hK K
  refine rdz 1 fun K hK=>?_
  obtain⟨s0,s1⟩:=W3.o.h0.two
  go_simp
  exact Mz4

theorem qVd (hn:n<2^40)(hq:q<=1024)(p l m:Nat)(hp:p+l<=1024)(hm:l<m)(hm2:m<=2048)(hr:((p:Int)+(l:Int))<q)(k1 l1 c1:Int)(o1:Bool)(hi1:infoOf n K t q s ((p:Int)+(l:Int)) st=(k1,l1,c1,o1))(hk1:k1=1)(hl0:0<=l1)(hl1:l1<=1024)(hs:¬ l1<((m:Int)-(l:Int)))(hml:¬ ((m:Int)-(l:Int))<l1)(h:(vOb base b n wh K).At w0 A G st w) :
  Calls Tryz.prog 46 #[.pointer (some ⟨b,0,none⟩),.agg #[.int .i64 t,.int .i64 q,.int .i64 s],.int .i64 (p:Int),.int .i64 (l:Int),.int .i64 (m:Int)] w fun e w'=>e = .returned (.bool true)/\(vOb base b n wh K).At w0 A G (putS n (getS n K (usedS n t q s p m (putS n (putS n (dropS n K t q s ((p:Int)+(l:Int)) (getS n K st (pageI t q s ((p:Int)+(l:Int)) 0))) (pageI t q s ((p:Int)+(l:Int)) 0) 0) (pageI t q s (((p:Int)+(l:Int))-1) 1) 0)) 0) 0 (qZB (getV n K (usedS n t q s p m (putS n (putS n (dropS n K t q s ((p:Int)+(l:Int)) (getS n K st (pageI t q s ((p:Int)+(l:Int)) 0))) (pageI t q s ((p:Int)+(l:Int)) 0) 0) (pageI t q s (((p:Int)+(l:Int))-1) 1) 0)) 0) ((m:Int)-(l:Int)))) w'/\Stay G w w':=by
 have W0:=qh ((((WL.start h).new 23 #[.int .i64 t,.int .i64 q,.int .i64 s]).new 110 #[.pointer (some ⟨b,0,none⟩),.int .i64 t,.int .i64 q,.int .i64 s]).new 111 #[.int .i64 (p:Int),.int .i64 (l:Int)])
 simp only[World.size_alloc] at W0
 have hq2:q<=2147483648:=qo
 have v4:IntKind.i64.wrap ((p:Int)+(l:Int))=((p:Int)+(l:Int)):=qIv qo qo
 have t0:(((p:Int)+(l:Int))==q)=false:=qs
 have v5:IntKind.i64.wrap ((m:Int)-(l:Int))=((m:Int)-(l:Int)):=qIv qo qo
 subst hk1
 have HI1:=qh hi1
 have t1:decide (l1<((m:Int)-(l:Int)))=false:=decide_eq_false hs
 have v6:IntKind.i64.wrap (((p:Int)+(l:Int))-1)=(((p:Int)+(l:Int))-1):=qIv qo qo
 have v7:IntKind.i64.wrap ((p:Int)+(m:Int))=((p:Int)+(m:Int)):=qIv qo qo
 have v8:IntKind.i64.wrap ((l:Int)+l1)=((l:Int)+l1):=qIv qo qo
 have v9:IntKind.i64.wrap (((l:Int)+l1)-(m:Int))=(((l:Int)+l1)-(m:Int)):=qIv qo qo
 have v10:IntKind.i64.wrap ((l:Int)-(m:Int))=((l:Int)-(m:Int)):=qIv qo qo
 have HDV:qH (dropV n K t q s ((p:Int)+(l:Int)) (getS n K st (pageI t q s ((p:Int)+(l:Int)) 0))=l1):=qh (qZq ((qHC _ _).2 ⟨qo,hr⟩) hi1)
 have HNO:qH (addS n K t q s ((p:Int)+(m:Int)) (((l:Int)+l1)-(m:Int)) (usedS n t q s p m (putS n (putS n (dropS n K t q s ((p:Int)+(l:Int)) (getS n K st (pageI t q s ((p:Int)+(l:Int)) 0))) (pageI t q s ((p:Int)+(l:Int)) 0) 0) (pageI t q s (((p:Int)+(l:Int))-1) 1) 0))=usedS n t q s p m (putS n (putS n (dropS n K t q s ((p:Int)+(l:Int)) (getS n K st (pageI t q s ((p:Int)+(l:Int)) 0))) (pageI t q s ((p:Int)+(l:Int)) 0) 0) (pageI t q s (((p:Int)+(l:Int))-1) 1) 0)):=qh (qHK qo)
 have HSB:qH (qZB (getV n K (usedS n t q s p m (putS n (putS n (dropS n K t q s ((p:Int)+(l:Int)) (getS n K st (pageI t q s ((p:Int)+(l:Int)) 0))) (pageI t q s ((p:Int)+(l:Int)) 0) 0) (pageI t q s (((p:Int)+(l:Int))-1) 1) 0)) 0) ((m:Int)-(l:Int))=qOO (getV n K (usedS n t q s p m (putS n (putS n (dropS n K t q s ((p:Int)+(l:Int)) (getS n K st (pageI t q s ((p:Int)+(l:Int)) 0))) (pageI t q s ((p:Int)+(l:Int)) 0) 0) (pageI t q s (((p:Int)+(l:Int))-1) 1) 0)) 0) ((l:Int)-(m:Int))):=qh (qRq _ _ _)
 clear h hi1
 go_enter Tryz.func46,Tryz.ntmps46
 obtain⟨s0,s1⟩:=W0.o.h0.two
 obtain⟨g0,g1,g2,g3⟩:=W0.o.h1.four
 obtain⟨x0,x1,x2⟩:=W0.o.h2.three
 go_wp2_with fail
 refine(qLO (p:Int) (l:Int) v4 _).mono ?_;rintro e w1 ⟨rfl,hb⟩;have W1:=qh (W0.o.keep hb);clear hb W0
 obtain⟨s0,s1⟩:=W1.o.h0.two
 obtain⟨g0,g1,g2,g3⟩:=W1.o.h1.four
 obtain⟨x0,x1,x2⟩:=W1.o.h2.three
 go_wp2_with fail
 refine(qPp hn ((p:Int)+(l:Int)) 1 l1 c1 o1 HI1.o W1.o.at_).mono ?_;rintro e w2 ⟨rfl,h1,h2⟩;have W2:=qh (W1.o.call h1 h2);clear h1 h2 W1
 generalize hNI:w2.heap.size=NI at *
 replace W2:=qh ((W2.o.new 90 #[.int .i64 1,.int .i64 l1,.int .i64 c1]).swap)
 rw[hNI] at W2
 obtain⟨s0,s1⟩:=W2.o.h0.two
 obtain⟨i0,i1,i2⟩:=W2.o.h1.three
 obtain⟨g0,g1,g2,g3⟩:=W2.o.h2.four
 obtain⟨x0,x1,x2⟩:=W2.o.h3.three
 go_wp2_with fail
 refine wp_region_held_drew (S:=(fun w'=>w'.cell? ⟨(w.heap.size+1),0,none⟩=some (.pointer (some ⟨b,0,none⟩))/\w'.cell? ⟨(w.heap.size+1),1,none⟩=some (.int .i64 t)/\w'.cell? ⟨(w.heap.size+1),2,none⟩=some (.int .i64 q)/\w'.cell? ⟨(w.heap.size+1),3,none⟩=some (.int .i64 s))) qr ?_ (fun hHeld=>?_)
 ·exact MnM
 refine tkz 0 ?_
 refine tkz 2 ?_
 refine tkz 3 ?_
 refine tkz 4 ?_
 refine wpAnyH_ready (rs := [1,5]) qr (by simp) ?_
 refine AllReadyH.cons (o:=_) rfl (fun K hK=>?_) (AllReadyH.cons (o:=_) rfl (fun K hK=>?_) AllReadyH.nil)
 ·skip
  obtain⟨s0,s1⟩:=W2.o.drew.h0.two
  go_simp
  refine qk ?_ (fun hHeld=>?_)
  ·exact M4J
  clear hK K
  refine rdz 5 fun K hK=>?_
  refine RPF ?_;clear W2;intro w3 W3
  exact MNm
 ·skip
  refine RPF ?_;clear W2;intro w3 W3
  refine qk ?_ (fun hHeld=>?_)
  ·exact MdP
  clear hK K
  refine rdz 1 fun K hK=>?_
  obtain⟨s0,s1⟩:=W3.o.h0.two
  go_simp
  exact MNm

theorem qTz (hn:n<2^40)(hq:q<=1024)(nn:Int)(h:(vOb base b n wh K).At w0 A G st w) :
  Calls Tryz.prog 32 #[.pointer (some ⟨b,0,none⟩),.agg #[.int .i64 t,.int .i64 q,.int .i64 s],.int .i64 nn] w fun e w'=>e = .returned (.tuple #[.int .i64 (foundI (takeI n K t q s nn st).1),.bool (takeI n K t q s nn st).1.isSome])/\(vOb base b n wh K).At w0 A G ((takeI n K t q s nn st).2) w'/\Stay G w w':=by
 obtain⟨⟨o,s1⟩,hf⟩:∃ x,findI n K t q s nn st=x:=⟨_,rfl⟩
 cases o with
 | none =>
  rw[qKW hf]
  exact qP3 hn hq nn s1 hf h
 | some p =>
  obtain⟨h1,h2,h3⟩:=qEN hf
  obtain⟨m,rfl⟩:=Int.eq_ofNat_of_zero_le (show 0<=nn by omega)
  rw[qTA hf]
  dsimp only[foundI,Option.isSome]
  have hd:=qKM (n:=n) (K:=K) (t:=t) (q:=q) (s:=s) (p:Int) s1
  unfold takeS
  rw[qCs rfl]
  by_cases hml:(m:Int)<dropV n K t q s (p:Int) s1
  ·rw[qCk hml]
   exact qWM hn hq p m qo qo _ hd.1 hd.2 s1 hf rfl hml h
  ·rw[qLP hml]
   exact qCZ hn hq p m qo qo _ hd.1 hd.2 s1 hf rfl hml h
theorem qYA (hn:n<2^40)(hq:q<=1024)(p l:Nat)(m:Int)(hp:((p:Int)+(l:Int))<=q)(hm:(l:Int)<m)(hm2:m<=9223372036854775807)(h:(vOb base b n wh K).At w0 A G st w) :
  Calls Tryz.prog 46 #[.pointer (some ⟨b,0,none⟩),.agg #[.int .i64 t,.int .i64 q,.int .i64 s],.int .i64 (p:Int),.int .i64 (l:Int),.int .i64 m] w fun e w'=>e = .returned (.bool (growB n K t q s p l m st))/\(vOb base b n wh K).At w0 A G (growS n K t q s p l m st) w'/\Stay G w w':=by
 by_cases hr:((p:Int)+(l:Int))<q
 ·obtain⟨⟨k1,l1,c1,o1⟩,hi1⟩:∃ x,infoOf n K t q s ((p:Int)+(l:Int)) st=x:=⟨_,rfl⟩
  have hb:=qZs (m:=m) hr hi1
  by_cases hk:k1=1
  ·have h3:0<=l1/\l1<=1024:=by
    have h4:=hi1
    unfold infoOf at h4
    rw[hk] at h4
    exact qUX h4
   by_cases hs:l1<m-(l:Int)
   ·rw[decide_eq_false (show ¬ m-(l:Int)<=l1 by omega),Bool.and_false] at hb
    rw[qYN hr hb,hb]
    exact qY0 hn hq p l m qo hm hm2 hr k1 l1 c1 o1 hi1 hk hs h
   ·rw[decide_eq_true hk,decide_eq_true (show m-(l:Int)<=l1 by omega)] at hb
    obtain⟨mm,rfl⟩:=Int.eq_ofNat_of_zero_le (show 0<=m by omega)
    rw[qWC hr qo (by rw[hi1,hk]) hb,hb]
    by_cases hml:(mm:Int)-(l:Int)<l1
    ·rw[qCk qo,show (l:Int)+l1-(mm:Int)=l1-((mm:Int)-(l:Int)) by omega]
     exact qQY hn hq p l mm qo qo qo hr k1 l1 c1 o1 hi1 hk h3.1 h3.2 hs hml h
    ·rw[qLP qo]
     exact qVd hn hq p l mm qo qo qo hr k1 l1 c1 o1 hi1 hk h3.1 h3.2 hs hml h
  ·rw[decide_eq_false hk,Bool.false_and] at hb
   rw[qYN hr hb,hb]
   exact qPu hn hq p l m qo hm hm2 hr k1 l1 c1 o1 hi1 hk h
 ·obtain⟨hb,hs⟩:=qHE (n:=n) (K:=K) (t:=t) (s:=s) (m:=m) (st:=st) hr
  rw[hb,hs]
  exact qAR hn hq p l m qo hm hm2 hr qo h

end
end
section
theorem put_new (x a v:Nat)(ha:a+16<=64)(hx:x<2^a)(hv:v<65536):HM.putN x a 16 v=x+v*2^a:=by
 have hx64:x<2^64:=Nat.lt_of_lt_of_le hx (Nat.pow_le_pow_right qo qo)
 have h1:x+v*2^a=2^a*v+x:=by rw[Nat.mul_comm,Nat.add_comm]
 have hlt:2^a*v+x<2^64:=by
  have e:(2:Nat)^64=2^a*2^(64-a):=by rw[<- Nat.pow_add];congr 1;omega
  have e2:(2:Nat)^16<=2^(64-a):=Nat.pow_le_pow_right qo qo
  exact Mxp
 rw[h1]
 apply Nat.eq_of_testBit_eq
 intro i
 by_cases hi:i<64
 ·rw[HM.bit_putN x a 16 v i ha hv hi,Nat.testBit_two_pow_mul_add _ hx]
  by_cases h2:i<a
  ·rw[if_neg qo,if_pos h2]
  ·rw[if_neg h2]
   by_cases h3:i<a+16
   ·rw[if_pos ⟨qo,h3⟩]
   ·rw[if_neg qo,Nat.testBit_lt_two_pow (Nat.lt_of_lt_of_le hx (Nat.pow_le_pow_right qo qo)),Nat.testBit_lt_two_pow (Nat.lt_of_lt_of_le hv (show 65536<=2^(i-a) from Nat.pow_le_pow_right (n:=2) qo (show 16<=i-a by omega)))]
 ·rw[HM.bit_high (HM.putN_lt x a 16 v ha hv) qo,HM.bit_high hlt qo]
end
section
theorem qML (k:Int)(h0 : -9223372036854775808<=k)(h1:k<=9223372036854775807)(w:World) :
  Calls Tryz.prog 95 #[.int .i64 k] w fun e w'=>e = .returned (.int .i64 ((slotI k:Nat):Int))/\w=w':=by
 by_cases a:0<=k/\k<9
 ·obtain⟨k,rfl⟩:∃ n:Nat,k=n:=⟨k.toNat,qo⟩
  have hk:k<9:=qo
  clear a h0 h1
  match k,hk with
  | 0,_|1,_|2,_|3,_|4,_|5,_|6,_|7,_|8,_ =>
   go_enter Tryz.func95,Tryz.ntmps95
   go_wp2
   go_ret
   exact⟨rfl,rfl⟩
 ·have E:=qh (qXI (k:=k) qo)
  have e0:(k==0)=false:=qs
  have e1:(k==1)=false:=qs
  have e2:(k==2)=false:=qs
  have e3:(k==3)=false:=qs
  have e4:(k==4)=false:=qs
  have e5:(k==5)=false:=qs
  have e6:(k==6)=false:=qs
  have e7:(k==7)=false:=qs
  have e8:(k==8)=false:=qs
  go_enter Tryz.func95,Tryz.ntmps95
  go_wp2
  go_ret
  exact⟨by rw[E.o];rfl,rfl⟩

theorem qXs (s k:Int)(h0 : -9223372036854775808<=k)(h1:k<=9223372036854775807)(w:World) :
  Calls Tryz.prog 154 #[.int .i64 s,.int .i64 k] w fun e w'=>e = .returned (.int .i64 ((sizeN s k:Nat):Int))/\Below w.heap.size w w':=by
 obtain⟨n,hn⟩:∃ n,slotI k=n:=⟨_,rfl⟩
 obtain⟨p,hp⟩:∃ p,pageS s=p:=⟨_,rfl⟩
 have hn1:n<=32:=hn ▸ qWU k
 have hp1:p<=1048576:=hp ▸ qQS s
 have E:sizeN s k=p / n-p / n%16:=by unfold sizeN;rw[hn,hp]
 have HN:=qh hn
 have HP:=qh (show pageN 1 4 s=p from hp)
 have HE:=qh E
 clear hn hp E
 by_cases hz:n=0\/p=0
 ·have hE:p / n-p / n%16=0:=by rcases hz with rfl|rfl <;> simp
  have HE2:=qh (HE.o.trans hE)
  clear hE
  rcases hz with rfl|rfl
  ·go_enter Tryz.func154,Tryz.ntmps154
   go_wp2_with fail
   refine(qYE 1 4 s _).mono ?_
   rintro e w2 ⟨rfl,hb2⟩
   rw[HP.o]
   go_wp2_with fail
   refine(qML k h0 h1 _).mono ?_
   rintro e w1 ⟨rfl,rfl⟩
   rw[HN.o]
   go_wp2
   go_ret
   exact⟨by rw[HE2.o];rfl,hb2⟩
  ·have hn0:¬ n=0\/n=0:=qo
   rcases hn0 with hn0|rfl
   all_goals
    go_enter Tryz.func154,Tryz.ntmps154
    go_wp2_with fail
    refine(qYE 1 4 s _).mono ?_
    rintro e w2 ⟨rfl,hb2⟩
    rw[HP.o]
    go_wp2_with fail
    refine(qML k h0 h1 _).mono ?_
    rintro e w1 ⟨rfl,rfl⟩
    rw[HN.o]
    go_wp2
    go_ret
    exact⟨by rw[HE2.o];rfl,hb2⟩
 ·have hq:((p:Int).tdiv n)=((p / n:Nat):Int):=by rw[Int.tdiv_eq_ediv_of_nonneg qo];norm_cast
  have hq1:p / n<=1048576:=Nat.le_trans (Nat.div_le_self _ _) hp1
  obtain⟨q,hqq⟩:∃ q,p / n=q:=⟨_,rfl⟩
  rw[hqq] at hq hq1
  have HQ:=qh hqq
  have hn2:¬ n=0:=qo
  have hp2:¬ p=0:=qo
  have hn3:((n:Int)==0)=false:=by simpa using hn2
  have hp3:((p:Int)==0)=false:=by simpa using hp2
  clear hqq hz
  go_enter Tryz.func154,Tryz.ntmps154
  go_wp2_with fail
  refine(qYE 1 4 s _).mono ?_
  rintro e w2 ⟨rfl,hb2⟩
  rw[HP.o]
  go_wp2_with fail
  refine(qML k h0 h1 _).mono ?_
  rintro e w1 ⟨rfl,rfl⟩
  rw[HN.o]
  go_wp2
  go_ret
  refine⟨?_,hb2⟩
  rw[HE.o,HQ.o]
  refine qYg ?_
  omega
end
section
theorem Held.drew {w:World}{g:Nat}{t:TypeId}{cs:Array Value}(h:Held w g t cs):Held w.drew g t cs:=h
structure HeapV (H:AuH) (n c:Nat):Prop where
 right:rightB H.t H.p H.s=true
 len:n=30+4*H.t+6*H.p
 cap:n<=c
 max:c<=maxLen
 lt:∀ i,i<n->H.V i<2^32
def IsVals (w:World) (ad:Addr) (n:Nat) (V:Nat->Nat):Prop:=ad.block<w.heap.size/\∀ i,i<n->w.cell? (ad.add i)=some (.int .u32 (V i:Nat))
theorem IsVals.below {w w':World}{ad:Addr}{n:Nat}{V:Nat->Nat}(h:IsVals w ad n V)(hb:Below w.heap.size w w'):IsVals w' ad n V :=
 ⟨Nat.lt_of_lt_of_le h.1 hb.size,fun i hi=>by
  have e:(ad.add i).block<w.heap.size:=by rw[qXL];exact h.1
  exact(hb.cell e).trans (h.2 i hi)⟩
theorem IsVals.drew {w:World}{ad:Addr}{n:Nat}{V:Nat->Nat}(h:IsVals w ad n V):IsVals w.drew ad n V:=h
theorem HeapV.nums {H:AuH}{n c:Nat}(h:HeapV H n c):1<=H.t/\H.t<=16/\4<=H.p/\H.p<=1024/\10<=H.s/\H.s<=20/\n<=6238/\n<=c/\c<=maxLen:=by
 have h1:=(qQB _ _ _).1 h.right
 have h2:=h.len
 have h3:=h.cap
 have h4:=h.max
 omega
theorem HeapV.cel_lt {H:AuH}{n c:Nat}(h:HeapV H n c){q b:Nat}(hq:q<H.p)(hb:b<6):H.cel q b<2^32:=h.lt _ (by have:=h.len;omega)
theorem HeapV.page {H:AuH}{n c:Nat}(h:HeapV H n c){q b:Nat}(hq:q<H.p)(hb:b<6):pageI H.t H.p H.s q b=((30+4*H.t+6*q+b:Nat):Int):=by
 rw[qKF h.right qo qo qo qo]
 push_cast
 omega
def hpV (H:AuH) (ad:Addr) (n c:Nat):Value := .agg #[.int .i64 (H.t:Int),.int .i64 (H.p:Int),.int .i64 (H.s:Int),.slice (some ad) n c]
end
open Go.Shelf
section
theorem Held.one {w:World}{g:Nat}{t:TypeId}{c0:Value}(h:Held w g t #[c0]):w.cell? ⟨g,0,none⟩=some c0/\w.frozen? ⟨g,0,none⟩=false:=⟨h.cell 0,h.thawed 0⟩
theorem qE5 {b:Bool}{p:Prop}(hb:b=true↔p)(h:¬ p):b=false:=by cases b;rfl;exact absurd (hb.1 rfl) h
theorem qPA {b:Bool}{p:Prop}(hb:b=true↔p)(h:p):b=true:=hb.2 h

section
attribute [local go_sem] Oper.semAt_some
end
end
section
def slotKd (taken live s:Nat):Nat:=if live.testBit s then 2 else if taken.testBit s then 4 else 3
end
section
namespace AuH
def Foot (H:AuH) (q:Nat):Prop:=(∀ r,q<=r->r+1<q+H.ln q->H.cel r 1=0)/\H.cel (q+H.ln q-1) 1=q+1
def R3 (H:AuH):Prop:=∀ q,q<H.p->H.K q≠0->H.Foot q
end AuH
section
attribute [local go_sem] Oper.semAt_some

end
end
section
namespace AuH
def R4 (H:AuH):Prop:=∀ q,H.At q->q<H.p->H.K q=1->H.nx q<H.p->H.K (H.nx q)≠1
variable {H : AuH}
end AuH
section
attribute [local go_sem] Oper.semAt_some

end
end
section
def SubB (a b:Nat):Prop:=∀ i,i<32->a.testBit i=true->b.testBit i=true
theorem qWX (a n:Nat)(ha:a<2^32)(hn:n<=32):SubB a (2^n-1)↔a<2^n:=by
 constructor
 ·intro h
  apply Nat.lt_pow_two_of_testBit
  intro i hi
  rcases Nat.lt_or_ge i 32 with h2|h2
  ·cases hai:a.testBit i
   ·rfl
   ·have:=h i h2 hai
    rw[Nat.testBit_two_pow_sub_one] at this
    have:=of_decide_eq_true this
    omega
  ·exact Nat.testBit_lt_two_pow (Nat.lt_of_lt_of_le ha (Nat.pow_le_pow_right qo h2))
 ·intro h i hi hai
  rw[Nat.testBit_two_pow_sub_one]
  rcases Nat.lt_or_ge i n with h2|h2
  ·exact decide_eq_true h2
  ·rw[Nat.testBit_lt_two_pow (Nat.lt_of_lt_of_le h (Nat.pow_le_pow_right qo h2))] at hai;cases hai
theorem qVQ (a:Nat)(ha:a<2^32):SubB a 0↔a=0:=by
 have:=qWX a 0 ha qo
 simpa using this
namespace AuH
def Slot5 (H:AuH) (q:Nat):Prop:=(H.K q=3->H.cel q 5≠0/\H.cel q 5<2^slotI (H.Cl q)/\SubB (H.cel q 4) (H.cel q 5))/\(H.K q≠3->H.cel q 5=0/\H.cel q 4=0)
def R5 (H:AuH):Prop:=∀ q,q<H.p->H.Slot5 q
variable {H : AuH}
end AuH
section
attribute [local go_sem] Oper.semAt_some

end
end
section
namespace AuH
variable (H : AuH)
def freeF (q:Nat):Nat:=if H.K q=1 then H.ln q else 0
def liveF (q:Nat):Nat:=if H.K q=2 then 1 else if H.K q=3 then HM.onesTo (H.cel q 4) 32 else 0
def R9:Prop:=H.V 0=sumTo H.freeF H.p%4294967296/\H.V 1=sumTo H.liveF H.p%4294967296
variable {H}
theorem freeF_no {q:Nat}(h:H.K q=0):H.freeF q=0:=by unfold freeF;rw[if_neg qo]
theorem liveF_no {q:Nat}(h:H.K q=0):H.liveF q=0:=by unfold liveF;rw[if_neg qo,if_neg qo]
theorem qYq (q:Nat):H.freeF q<=1024:=by
 unfold freeF
 split
 ·exact(H.ln_pos q qo).2
 ·omega
theorem qJK (q:Nat):H.liveF q<=32:=by
 unfold liveF
 split
 ·omega
 ·split
  ·exact HM.onesTo_le _ _
  ·omega
theorem sums_le (x:Nat)(hx:x<=1024):sumTo H.freeF x<=1048576/\sumTo H.liveF x<=32768:=by
 have h1:=sumTo_le H.freeF 1024 x (fun q _=>qYq q)
 have h2:=sumTo_le H.liveF 32 x (fun q _=>qJK q)
 have h3:x*1024<=1024*1024:=Nat.mul_le_mul_right _ hx
 have h4:x*32<=1024*32:=Nat.mul_le_mul_right _ hx
 omega
end AuH
section
attribute [local go_sem] Oper.semAt_some

end
end
section
namespace AuH
def tgt (H:AuH) (q:Nat):Int:=if H.K q=1 then 2+HM.logI (H.ln q:Int) else if H.K q=3/\H.cel q 5≠2^slotI (H.Cl q)-1 then 13+H.Cl q else -1
variable {H : AuH}
theorem tgt_free {q:Nat}(h:H.K q=1):H.tgt q=2+HM.logI (H.ln q:Int):=by unfold tgt;rw[if_pos h]
theorem tgt_slab {q:Nat}(h:H.K q=3)(h2:H.cel q 5≠2^slotI (H.Cl q)-1):H.tgt q=13+H.Cl q:=by unfold tgt;rw[if_neg qo,if_pos ⟨h,h2⟩]
theorem tgt_full {q:Nat}(h:H.K q=3)(h2:H.cel q 5=2^slotI (H.Cl q)-1):H.tgt q = -1:=by unfold tgt;rw[if_neg qo,if_neg (fun h3=>h3.2 h2)]
theorem tgt_used {q:Nat}(h:H.K q=2):H.tgt q = -1:=by unfold tgt;rw[if_neg qo,if_neg qo]
theorem tgt_none {q:Nat}(h:H.K q=0):H.tgt q = -1:=by unfold tgt;rw[if_neg qo,if_neg qo]
theorem log_few {n:Nat}(h1:1<=n)(h2:n<=1024):0<=HM.logI (n:Int)/\HM.logI (n:Int)<=10:=by
 have h:∃ k:Nat,k<=10/\2^k<=n/\n<2^(k+1):=by
  exact Mnr
 obtain⟨k,hk,ha,hb⟩:=h
 rw[HM.logI_at (n:Int) k (by
  have e:((n:Int) / 2^k)=((n / 2^k:Nat):Int):=by push_cast;rfl
  rw[e]
  have:=Nat.div_le_div_right (c:=2^k) ha
  rw[Nat.div_self (Nat.two_pow_pos k)] at this
  omega) (by
  have e:((n:Int) / 2^(k+1))=((n / 2^(k+1):Nat):Int):=by push_cast;rfl
  rw[e,Nat.div_eq_of_lt hb]
  omega)]
 omega
end AuH
section
attribute [local go_sem] Oper.semAt_some

end
end
section
namespace AuH
variable (H : AuH)
def chain (head:Int):Nat->Nat->Nat->Prop
 | 0,at_,_=>at_=0
 | m+1,at_,ahead=>(1<=at_/\at_<=H.p/\H.tgt (at_-1)=head/\H.cel (at_-1) 3=ahead)/\chain head m (H.cel (at_-1) 2) at_
def isF (head:Int) (q:Nat):Nat:=if H.tgt q=head then 1 else 0
def cnt (head:Int) (x:Nat):Nat:=sumTo (H.isF head) x
def ListOk (head:Nat):Prop:=H.chain head (H.cnt head H.p) (H.V head) 0
variable {H}
end AuH
end
section
namespace AuH
def R8 (H:AuH):Prop:=∀ q,q<H.p->H.tgt q = -1->H.cel q 2=0/\H.cel q 3=0
end AuH
end
section
namespace AuH
variable (H : AuH)
def LiveAt (a:Int):Prop:=spotB H.t H.p H.s a=true /\
  ((H.K (spotP H.t H.p H.s a).toNat=2/\spotO H.t H.p H.s a=0) \/
   (H.K (spotP H.t H.p H.s a).toNat=3/\slotB H.t H.p H.s (H.Cl (spotP H.t H.p H.s a).toNat) (spotO H.t H.p H.s a)=true /\
     (H.cel (spotP H.t H.p H.s a).toNat 4).testBit (slotR H.t H.p H.s (H.Cl (spotP H.t H.p H.s a).toNat) (spotO H.t H.p H.s a)).toNat=true))
def R10:Prop:=∀ i,i<8->H.V (22+i)≠0->H.LiveAt (H.V (22+i):Int)
end AuH

def rootsV (H:AuH):Value := .agg #[.int .i64 (H.V 22:Nat),.int .i64 (H.V 23:Nat),.int .i64 (H.V 24:Nat),.int .i64 (H.V 25:Nat),.int .i64 (H.V 26:Nat),.int .i64 (H.V 27:Nat),.int .i64 (H.V 28:Nat),.int .i64 (H.V 29:Nat)]
end
section
def AuH.rule (H:AuH):Nat->Prop
 | 1=>H.Tiled
 | 2=>H.R3
 | 3=>H.R4
 | 4=>H.R5
 | 5=>∀ k,k<11->H.ListOk (2+k)
 | 6=>∀ k,k<9->H.ListOk (13+k)
 | 7=>H.R8
 | 8=>H.R9
 | 9=>H.R10
 | _=>True
def AuH.Told (H:AuH) (m:Nat) (b:Bool):Prop:=(b=true/\m=0/\∀ i,i<10->H.rule i)\/(b=false/\∃ k,m=k+1/\1<=k/\k<10/\(∀ i,i<k->H.rule i)/\¬ H.rule k)
theorem qHa (R:Nat->Prop):∀ n,(∀ i,i<n->R i)\/∃ k,k<n/\(∀ i,i<k->R i)/\¬ R k
 | 0 => .inl fun i h=>absurd h qo
 | n+1=>by
  rcases qHa R n with h|⟨k,h1,h2,h3⟩
  ·by_cases hn:R n
   ·exact .inl fun i hi=>by
     rcases Nat.lt_or_ge i n with h4|h4
     ·exact h i h4
     ·have:i=n:=qo
      subst this;exact hn
   ·exact .inr ⟨n,qo,h,hn⟩
  ·exact .inr ⟨k,qo,h2,h3⟩
theorem AuH.told_is (H:AuH):∃ m b,H.Told m b:=by
 rcases qHa H.rule 10 with h|⟨k,h1,h2,h3⟩
 ·exact⟨0,true,.inl ⟨rfl,rfl,h⟩⟩
 ·refine⟨k+1,false,.inr ⟨rfl,k,rfl,?_,h1,h2,h3⟩⟩
  rcases Nat.eq_zero_or_pos k with h6|h6
  ·subst h6;exact absurd trivial h3
  ·exact h6
end
end Go.Proofs.YtgifnhcknodekaaGreat
