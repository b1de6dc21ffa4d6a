/-
  Contracts of conf's and nacreref04's bytes and words.
-/
import Derived.Test.YtjjfcaliippgpaaGreatDoorV04
import Derived.Deep.RegionHeld3
import Derived.IntWalk
import Derived.KernelRfl
import Derived.Test.YtjjfcaliippgpaaGreatDoorV05
import Derived.Test.YtjjfcaliippgpaaGreatDoorV01
import Derived.RegionTactic
import Derived.ChangeAlike
import Derived.BigQuiet
import Derived.Test.YtjjfcaliippgpaaGreatDoorVKit
import Derived.RangeFuncNested
import Derived.RangeFuncBound
import Derived.RangeFuncLeaves
import Derived.Shelf.Abstract
import Derived.Shelf.RegionOpen
import Derived.WalkKit
import Derived.OwnWalkIn
import Derived.TacticsInMore
import Derived.LoopNIn
import Derived.LoopIn
import Derived.Laws.BitsAllLaws
import Derived.Laws.CopyOwn
import Derived.Laws.MakeOwn
import Derived.Deep.RegionLaw
namespace Go.Proofs.YtjjfcaliippgpaaGreatDoor
theorem RLK {P Q:Prop}(kq:Q)(h:HQ Q->P:=by
 intro kq
 obtain⟨z,hz⟩:∃ z,sizeN s k=z:=⟨_,rfl⟩
 have hz2:=hz ▸ qHU s k
 have h3:j*(z:Int)<=32*1048576:=Int.mul_le_mul qo qo qo qo
 have h4:0<=j*(z:Int):=Int.mul_nonneg qo qo
 have hA:=qUV (t:=t) (p:=p) (s:=s) (k:=k) (i:=i) (j:=j) qo
 rw[hz] at hA
 obtain⟨y,hy⟩:∃ y,j*(z:Int)=y:=⟨_,rfl⟩
 revert z hz hz2 h3 h4 hA y hy
 exact kq.o):P:=h ⟨kq⟩
theorem RQf {P Q:Prop}(kq:Q)(h:HQ Q->P:=by
 intro kq
 have HB:=qh (qPs (t:=t) (p:=p) (s:=s) (k:=k) (i:=i) (j:=j) qo)
 revert HB
 exact kq.o):P:=h ⟨kq⟩
theorem R6m {P Q:Prop}(kq:Q)(h:HQ Q->P:=by
 intro kq
 refine(qQx t p s a qo qo _).mono ?_
 rintro e w3 ⟨rfl,hb3⟩
 rw[HS.o,HP.o,HO.o]
 have hz3:=hz2.keep hb3
 revert w3 hb3 hz3
 exact kq.o):P:=h ⟨kq⟩
theorem RTo {P Q:Prop}(kq:Q)(h:HQ Q->P:=by
 intro kq
 have hc2:=((Held.drewN hc 1).keep hbl).keep hbl2
 have hz2:=((Held.drewN hz 1).keep hbl).keep hbl2
 have c3:=hc2.three
 revert hc2 hz2 c3
 exact kq.o):P:=h ⟨kq⟩
theorem RHu {P Q:Prop}(kq:Q)(h:HQ Q->P:=by
 intro kq
 go_at_call 163
 refine(qXb t p s _).mono ?_
 rintro e w' ⟨rfl,hbl⟩
 have hst:=qE1 hbl
 revert w' hbl hst
 exact kq.o):P:=h ⟨kq⟩
theorem MD6 {P:Prop}(h:P:=by
 rintro pos F A ⟨hi,hsz,hl,hk⟩ hsA hc
 have hlt:w.heap.size+1<A.heap.size:=(Array.getElem?_eq_some_iff.1 hl).1
 have hy:=run_yield (P:=P) (args:=enc pos) hl (by rw[hrec];exact hps pos)
 rw[hrec] at hy
 have hFl:¬ F (w.heap.size+1):=fun hf=>by obtain⟨o,ho,hoc⟩:=hIF pos F A hi _ hf;rw[hl] at ho;cases ho;cases hoc
 have hFk:¬ F w.heap.size:=fun hf=>by obtain⟨o,ho,hoc⟩:=hIF pos F A hi _ hf;rw[hk] at ho;cases ho;cases hoc
 refine⟨fn,_,assign,body,hy,roundIn_of_wpIn hfn (wpIn_mono (hround _ pos F A hc hi hsz) ?_)⟩
 rintro e a₁ A₁ hg1
 cases e with
 | normal =>
  obtain⟨hbA,hgo⟩:=hg1
  have hl1:=keepRow hbA hl
  have hk1:=keepRow hbA hk
  have hlt1:w.heap.size+1<A₁.heap.size:=(Array.getElem?_eq_some_iff.1 hl1).1
  refine⟨_,run_beginRound hl1 (by rw[hrec]),?_⟩
  obtain⟨A₂,hA₂⟩:∃ A₂,A₁.putObj (w.heap.size+1) (.loop { rec .ready none with state := .busy })=A₂:=⟨_,rfl⟩
  have hl2:A₂.heap[w.heap.size+1]?=some (.loop { rec .ready none with state := .busy }):=by rw[<- hA₂];exact World.putObj_heap_same hlt1
  have hk2:A₂.heap[w.heap.size]?=some (.deferred (some [])):=by rw[<- hA₂];exact(World.putObj_heap_other qo).trans hk1
  have hM2:Mild w.heap.size A₁ A₂:=by rw[<- hA₂];exact Mild.put _ qo hl1 rfl
  have hs2:A₂.heap.size=A₁.heap.size:=by rw[<- hA₂];simp
  have hrows:∀ k,W1.heap.size<=k->k<A.heap.size->A₂.heap[k]?=A.heap[k]?:=fun k h1 h2=>by
   rw[<- hA₂];exact(World.putObj_heap_other qo).trans (hbA.block k h2)
  rw[hA₂]
  refine wpIn_mono (hgo A₂ hM2 hs2) ?_
  have fin:∀ (jump:Option Code) (B:World),Turns F A₂ B->(Instr.endRound (w.heap.size+1) jump).run P B = .ok (.bool jump.isNone) (B.putObj (w.heap.size+1) (.loop (rec (if jump.isNone then .ready else .done) jump))) /\
    Mild w.heap.size B (B.putObj (w.heap.size+1) (.loop (rec (if jump.isNone then .ready else .done) jump))) /\
    (B.putObj (w.heap.size+1) (.loop (rec (if jump.isNone then .ready else .done) jump))).heap[w.heap.size+1]?=some (.loop (rec (if jump.isNone then .ready else .done) jump)) /\
    (B.putObj (w.heap.size+1) (.loop (rec (if jump.isNone then .ready else .done) jump))).heap[w.heap.size]?=some (.deferred (some [])):=fun jump B hT=>by
   have hl3:=(hT.block _ (Array.getElem?_eq_some_iff.1 hl2).1 hFl).trans hl2
   have hk3:=(hT.block _ (Array.getElem?_eq_some_iff.1 hk2).1 hFk).trans hk2
   have:=run_endRound (P:=P) jump hl3
   rw[hrec] at this ⊢
   exact⟨this,Mild.put _ qo hl3 rfl,World.putObj_heap_same (Array.getElem?_eq_some_iff.1 hl3).1,(World.putObj_heap_other qo).trans hk3⟩
  rintro e a3 B hp
  cases e with
  | normal =>
   obtain⟨hT,F',hi3,hF'⟩:=hp
   obtain⟨hr,hm,hl4,hk4⟩:=fin none B hT
   have hsB:A.heap.size<=B.heap.size:=by have:=hT.size;have:=hbA.size;omega
   refine⟨_,_,hr,.inl ⟨rfl,F',⟨hI _ _ _ _ hi3 hm,?_,hl4,hk4⟩,by simpa using hsB,fun k h1 h2 hf=>?_,hF'⟩⟩
   ·have:=hm.size;omega
   ·rw[World.putObj_heap_other qo,hT.block k (by have:=hbA.size;omega) hf];exact hrows k h1 h2
  | ret =>
   obtain⟨hT,hx⟩:=hp
   obtain⟨hr,hm,hl4,hk4⟩:=fin (some .ret) B hT
   exact⟨_,_,hr,.inr ⟨rfl,.ret,hIx _ _ _ hx hm,by have:=hm.size;have:=hT.size;have:=hbA.size;omega,hl4,hk4⟩⟩
  | exit id =>
   obtain⟨hT,hx⟩:=hp
   obtain⟨hr,hm,hl4,hk4⟩:=fin (some (.exit id)) B hT
   exact⟨_,_,hr,.inr ⟨rfl,.exit id,hIx _ _ _ hx hm,by have:=hm.size;have:=hT.size;have:=hbA.size;omega,hl4,hk4⟩⟩
  | goto t =>
   obtain⟨hT,hx⟩:=hp
   obtain⟨hr,hm,hl4,hk4⟩:=fin (some (.goto t)) B hT
   exact⟨_,_,hr,.inr ⟨rfl,.goto t,hIx _ _ _ hx hm,by have:=hm.size;have:=hT.size;have:=hbA.size;omega,hl4,hk4⟩⟩
  | panic ch=>exact hp.elim
  | outgrown=>exact hp.elim
 | exit id=>exact hg1.elim
 | goto t=>exact hg1.elim
 | ret=>exact hg1.elim
 | panic ch=>exact hg1.elim
 | outgrown=>exact hg1.elim):P:=h
theorem MXu {P:Prop}(h:P:=by
 rintro e B ⟨⟨v,rfl⟩,(⟨pos,F,⟨hi,hsz,hl,hk⟩,hc⟩|⟨c,hx,hsz,hl,hk⟩)⟩
 ·have hm:Mild w.heap.size B (B.putObj (w.heap.size+1) (.loop { rec .ready none with state := .exhausted })):=Mild.put _ qo hl rfl
  exact⟨none,_,by have:=run_endLoop (P:=P) hl (by rw[hrec];simp);rw[hrec] at this ⊢;exact this,hdone _ pos F _ (Nat.le_refl _) hc (hI _ _ _ _ hi hm) ((World.putObj_heap_other qo).trans hk)⟩
 ·have hm:Mild w.heap.size B (B.putObj (w.heap.size+1) (.loop { rec .done (some c) with state := .exhausted })):=Mild.put _ qo hl rfl
  exact⟨some c,_,by have:=run_endLoop (P:=P) hl (by rw[hrec];simp);rw[hrec] at this ⊢;exact this,wpIn_wide.2 (hstop _ c _ (Nat.le_refl _) (hIx _ _ _ hx hm) ((World.putObj_heap_other qo).trans hk))⟩):P:=h
theorem MGd {P:Prop}(h:P:=by
 have HB:=qh hB
 clear hz hn hE hB hRR hd hm
 go_enter Tryz.func112,Tryz.ntmps112
 go_wp2_with fail
 refine(qYr s k hk0 hk1 _ (HT.o.alloc _)).mono ?_
 rintro e w1 ⟨rfl,hb1⟩
 rw[HZ.o]
 have hc1:=hc.keep hb1
 have HT1:=qh ((HT.o.alloc _).below hb1)
 have c3:=hc1.three
 go_wp2_with fail
 refine(qI2 t p s _).mono ?_
 rintro e w2 ⟨rfl,hb2⟩
 rw[HK.o]
 have HT2:=qh (HT1.o.below hb2)
 go_wp2_with fail
 refine(qCz k hk0 hk1 _ HT2.o).mono ?_
 rintro e w3 ⟨rfl,rfl⟩
 rw[HN.o]
 go_wp2
 go_ret2
 refine⟨by rw[HR.o,HB.o];rfl,?_⟩
 all_goals exact blz):P:=h
theorem MR9 {P:Prop}(h:P:=by
 go_wp2
 go_ret2
 refine⟨by rw[HA.o,HB.o];rfl,?_⟩
 change Below w.heap.size w _
 have hbl:Below ((w.alloc (.cells #[.int .i64 t,.int .i64 p,.int .i64 s] 23)).alloc (.cells #[.int .i64 i,.int .i64 o] 177)).heap.size ((w.alloc (.cells #[.int .i64 t,.int .i64 p,.int .i64 s] 23)).alloc (.cells #[.int .i64 i,.int .i64 o] 177)) w':=qZh (n:=1) hbl
 all_goals exact blz):P:=h
theorem MQh {P:Prop}(h:P:=by
 clear hz hn hE hB
 exact MDl):P:=h
theorem MDl {P:Prop}(h:P:=by
 go_enter Tryz.func112,Tryz.ntmps112
 go_wp2_with fail
 refine(qYr s k hk0 hk1 _ (HT.o.alloc _)).mono ?_
 rintro e w1 ⟨rfl,hb1⟩
 rw[HZ.o]
 have hc1:=hc.keep hb1
 have HT1:=qh ((HT.o.alloc _).below hb1)
 have c3:=hc1.three
 go_wp2_with fail
 refine(qI2 t p s _).mono ?_
 rintro e w2 ⟨rfl,hb2⟩
 rw[HK.o]
 go_wp2
 go_ret2
 refine⟨by rw[HR.o,HB.o];rfl,?_⟩
 all_goals exact blz):P:=h
theorem MxM {P:Prop}(h:P:=by
 have HK:=qh (qFe hr)
 clear hr
 go_enter Tryz.func196,Tryz.ntmps196
 go_wp2_with fail
 refine(qI2 t p s _).mono ?_
 rintro e w1 ⟨rfl,hb1⟩
 rw[HK.o]
 exact Mrn):P:=h
theorem MBl {P:Prop}(h:P:=by
 go_wp2
 refine bodyPost_ret (v := .tuple #[.agg #[.int .i64 0,.int .i64 0],.bool false]) (by simp[results,Tryz.results151,go_sem,z0,z1]) rfl ⟨?_,?_⟩
 ·rw[HN.o,HZ.o.1,HZ.o.2]
 all_goals exact blz):P:=h
theorem Mnr {P:Prop}(h:P:=by
 rcases Nat.lt_or_ge n 1024 with h3|h3
 ·refine⟨Nat.log2 n,?_,Nat.log2_self_le qo,Nat.lt_log2_self⟩
  have:=Nat.log2_lt (n:=n) (k:=10) qo
  have:=this.2 h3
  omega
 ·exact⟨10,qo,qo,qo⟩):P:=h
theorem MNq {P:Prop}(h:P:=by
 go_enter Tryz.func113,Tryz.ntmps113
 go_wp2
 go_ret
 exact⟨by rw[E.o];rfl,rfl⟩):P:=h
theorem M40 {P:Prop}(h:P:=by
 have:=heap_alloc_new (w.alloc (.deferred (some []))) (.loop (rec .ready none))
 rw[hW1] at this;simpa using this):P:=h
theorem MxG {P:Prop}(h:P:=by
 rintro e w1 ⟨rfl,rfl⟩
 rw[HN.o]
 exact M8V):P:=h
theorem M8V {P:Prop}(h:P:=by
 go_wp2
 go_ret2
 refine⟨by rw[HB.o.1,HB.o.2];rfl,?_⟩
 all_goals exact blz):P:=h
theorem MNi {P:Prop}(h:P:=by
 simp only[IntKind.wrap,IntKind.bits,IntKind.signed]
 simp
 omega):P:=h
end Go.Proofs.YtjjfcaliippgpaaGreatDoor
set_option linter.unusedVariables false
set_option linter.unusedSimpArgs false
set_option maxRecDepth 100000
set_option maxHeartbeats 25600000
namespace Go.Proofs.YtjjfcaliippgpaaGreatDoor
open Go.ChangeShapes Go.WideShapes Go.ChangeAt Go.RowKit
section
theorem qN0:∀ k:Nat,k<=20->IntKind.i64.wrap (2^k)=((2^k:Nat):Int):=by
 intro k hk
 have:=qDn k hk
 have e:((2:Int)^k)=((2^k:Nat):Int):=by norm_cast
 rw[e]
 generalize 2^k=g at *
 exact MNi
theorem qVT (p:Int)(k:Nat)(hp:4<=p)(hp':p<=1024)(hk:k<=20):IntKind.i64.wrap (p*2^k)=((p.toNat*2^k:Nat):Int):=by
 have hb:=qDn k hk
 obtain⟨q,rfl⟩:∃ q:Nat,p=q:=⟨p.toNat,qo⟩
 have e:((q:Int)*(2:Int)^k)=((q*2^k:Nat):Int):=by norm_cast
 rw[e,Int.toNat_natCast]
 generalize 2^k=g at *
 have h1:q*g<=1024*1048576:=Nat.mul_le_mul qo hb.2
 exact MNi
theorem put_new (x a v:Nat)(ha:a+16<=64)(hx:x<2^a)(hv:v<65536):HM.putN x a 16 v=x+v*2^a:=by
 have hx64:x<2^64:=Nat.lt_of_lt_of_le hx (Nat.pow_le_pow_right qo qo)
 have h1:x+v*2^a=2^a*v+x:=by rw[Nat.mul_comm,Nat.add_comm]
 have hlt:2^a*v+x<2^64:=by
  have e:(2:Nat)^64=2^a*2^(64-a):=by rw[<- Nat.pow_add];congr 1;omega
  have e2:(2:Nat)^16<=2^(64-a):=Nat.pow_le_pow_right qo qo
  exact Mxp
 rw[h1]
 apply Nat.eq_of_testBit_eq
 intro i
 by_cases hi:i<64
 ·rw[HM.bit_putN x a 16 v i ha hv hi,Nat.testBit_two_pow_mul_add _ hx]
  by_cases h2:i<a
  ·rw[if_neg qo,if_pos h2]
  ·rw[if_neg h2]
   by_cases h3:i<a+16
   ·rw[if_pos ⟨qo,h3⟩]
   ·rw[if_neg qo,Nat.testBit_lt_two_pow (Nat.lt_of_lt_of_le hx (Nat.pow_le_pow_right qo qo)),Nat.testBit_lt_two_pow (Nat.lt_of_lt_of_le hv (show 65536<=2^(i-a) from Nat.pow_le_pow_right (n:=2) qo (show 16<=i-a by omega)))]
 ·rw[HM.bit_high (HM.putN_lt x a 16 v ha hv) qo,HM.bit_high hlt qo]
theorem qLg (t p s:Int)(g:Nat)(w:World)(hc:Held w g 23 #[.int .i64 t,.int .i64 p,.int .i64 s])(hs:10<=s)(hs':s<=20) :
  Calls Tryz.prog 197 #[.pointer (some ⟨g,0,none⟩)] w fun e w'=>e = .returned (.int .i64 ((2^s.toNat:Nat):Int))/\w=w':=by
 obtain⟨c0,c1,c2⟩:=hc.three
 have HS:=qh (qN0 s.toNat qo)
 go_enter Tryz.func197,Tryz.ntmps197
 go_wp2
 go_ret
 exact⟨qYg ((IntWalk.i64_left _).symm.trans HS.o),rfl⟩
theorem qSF (t p s:Int)(g:Nat)(w:World)(hc:Held w g 23 #[.int .i64 t,.int .i64 p,.int .i64 s])(hp:4<=p)(hp':p<=1024)(hs:10<=s)(hs':s<=20) :
  Calls Tryz.prog 201 #[.pointer (some ⟨g,0,none⟩)] w fun e w'=>e = .returned (.int .i64 ((p.toNat*2^s.toNat:Nat):Int))/\w=w':=by
 obtain⟨c0,c1,c2⟩:=hc.three
 have HS:=qh (qVT p s.toNat hp hp' qo)
 go_enter Tryz.func201,Tryz.ntmps201
 go_wp2
 go_ret
 exact⟨qYg ((IntWalk.i64_left _).symm.trans HS.o),rfl⟩

theorem qBa (t p s:Int)(g:Nat)(w:World)(hc:Held w g 23 #[.int .i64 t,.int .i64 p,.int .i64 s]) :
  Calls Tryz.prog 196 #[.agg #[.int .i64 t,.int .i64 p,.int .i64 s],.func (.func 197) #[] #[.pointer (some ⟨g,0,none⟩)]] w fun e w'=>e = .returned (.int .i64 ((pageN t p s:Nat):Int))/\Below w.heap.size w w':=by
 cases hr:rightB t p s
 ·have HP:=qh (qAf hr)
  exact MxM
 ·have HP:=qh (qXq hr)
  have HK:=qh (qU9 hr)
  obtain⟨_,⟨h4,h1024⟩,h10,h20⟩:=(qQB t p s).1 hr
  clear hr
  go_enter Tryz.func196,Tryz.ntmps196
  go_wp2_with fail
  refine(qI2 t p s _).mono ?_
  rintro e w1 ⟨rfl,hb1⟩
  rw[HK.o]
  have hc1:=(hc.alloc (.cells #[.int .i64 t,.int .i64 p,.int .i64 s] 23)).keep hb1
  go_wp2_with fail
  refine(qLg t p s g _ hc1 h10 h20).mono ?_
  rintro e w2 ⟨rfl,rfl⟩
  rw[<- HP.o]
  go_wp2
  go_ret
  exact⟨rfl,Bgo (Bnew (B0 _) _) hb1⟩
theorem qXb (t p s:Int)(w:World) :
  Calls Tryz.prog 163 #[.agg #[.int .i64 t,.int .i64 p,.int .i64 s]] w fun e w'=>e = .returned (.int .i64 ((pageN t p s:Nat):Int))/\Below w.heap.size w w':=by
 go_enter Tryz.func163,Tryz.ntmps163
 go_wp2_with fail
 refine(qBa t p s _ _ (Held.new w _ _)).mono ?_
 rintro e w1 ⟨rfl,hb1⟩
 go_wp2
 go_ret
 exact⟨rfl,Bgo (Bnew (B0 _) _) hb1⟩

theorem qGn (t p s:Int)(g:Nat)(w:World)(hc:Held w g 23 #[.int .i64 t,.int .i64 p,.int .i64 s]) :
  Calls Tryz.prog 196 #[.agg #[.int .i64 t,.int .i64 p,.int .i64 s],.func (.func 201) #[] #[.pointer (some ⟨g,0,none⟩)]] w fun e w'=>e = .returned (.int .i64 ((bytesN t p s:Nat):Int))/\Below w.heap.size w w':=by
 cases hr:rightB t p s
 ·have HP:=qh (qNu hr)
  exact MxM
 ·have HP:=qh (qG6 hr)
  have HK:=qh (qU9 hr)
  obtain⟨_,⟨h4,h1024⟩,h10,h20⟩:=(qQB t p s).1 hr
  clear hr
  go_enter Tryz.func196,Tryz.ntmps196
  go_wp2_with fail
  refine(qI2 t p s _).mono ?_
  rintro e w1 ⟨rfl,hb1⟩
  rw[HK.o]
  have hc1:=(hc.alloc (.cells #[.int .i64 t,.int .i64 p,.int .i64 s] 23)).keep hb1
  go_wp2_with fail
  refine(qSF t p s g _ hc1 h4 h1024 h10 h20).mono ?_
  rintro e w2 ⟨rfl,rfl⟩
  rw[<- HP.o]
  go_wp2
  go_ret
  exact⟨rfl,Bgo (Bnew (B0 _) _) hb1⟩
theorem qDF (t p s:Int)(w:World) :
  Calls Tryz.prog 181 #[.agg #[.int .i64 t,.int .i64 p,.int .i64 s]] w fun e w'=>e = .returned (.int .i64 ((bytesN t p s:Nat):Int))/\Below w.heap.size w w':=by
 go_enter Tryz.func181,Tryz.ntmps181
 go_wp2_with fail
 refine(qGn t p s _ _ (Held.new w _ _)).mono ?_
 rintro e w1 ⟨rfl,hb1⟩
 go_wp2
 go_ret
 exact⟨rfl,Bgo (Bnew (B0 _) _) hb1⟩
end
section
def SlotsLaid (w:World):Prop:=∀ k:Nat,k<9->w.cell? ⟨0,k,none⟩=some (.int .i64 ((slotN k:Nat):Int))
theorem SlotsLaid.below {w w':World}(h:SlotsLaid w)(hb:Below w.heap.size w w'):SlotsLaid w':=fun k hk=>qE1 hb _ _ (h k hk)
theorem SlotsLaid.alloc {w:World}(h:SlotsLaid w)(o:Obj):SlotsLaid (w.alloc o):=h.below (Bnew (B0 _) _)
theorem SlotsLaid.drewN {w:World}(h:SlotsLaid w)(n:Nat):SlotsLaid (w.drewN n):=h.below (Bdraw (B0 _) _)
theorem SlotsLaid.drew {w:World}(h:SlotsLaid w):SlotsLaid w.drew:=h.below (Bdrew (B0 _))

theorem qCz (k:Int)(h0 : -9223372036854775808<=k)(h1:k<=9223372036854775807)(w:World)(hT:SlotsLaid w) :
  Calls Tryz.prog 113 #[.int .i64 k] w fun e w'=>e = .returned (.int .i64 ((slotI k:Nat):Int))/\w=w':=by
 by_cases a:k<0
 ·have E:=qh (qXI (.inl a))
  exact MNq
 by_cases b:9<=k
 ·have E:=qh (qXI (.inr b))
  exact MNq
 ·obtain⟨k,rfl⟩:∃ n:Nat,k=n:=⟨k.toNat,qo⟩
  have E:=qh (qPN k)
  have hk:k<9:=qo
  have hc:=hT k hk
  have HT:=qh hT
  clear hT
  exact MNq

theorem qML (k:Int)(h0 : -9223372036854775808<=k)(h1:k<=9223372036854775807)(w:World) :
  Calls Tryz.prog 72 #[.int .i64 k] w fun e w'=>e = .returned (.int .i64 ((slotI k:Nat):Int))/\w=w':=by
 by_cases a:0<=k/\k<9
 ·obtain⟨k,rfl⟩:∃ n:Nat,k=n:=⟨k.toNat,qo⟩
  have hk:k<9:=qo
  clear a h0 h1
  match k,hk with
  | 0,_|1,_|2,_|3,_|4,_|5,_|6,_|7,_|8,_ =>
   go_enter Tryz.func72,Tryz.ntmps72
   go_wp2
   go_ret
   exact⟨rfl,rfl⟩
 ·have E:=qh (qXI (k:=k) qo)
  have e0:(k==0)=false:=qs
  have e1:(k==1)=false:=qs
  have e2:(k==2)=false:=qs
  have e3:(k==3)=false:=qs
  have e4:(k==4)=false:=qs
  have e5:(k==5)=false:=qs
  have e6:(k==6)=false:=qs
  have e7:(k==7)=false:=qs
  have e8:(k==8)=false:=qs
  go_enter Tryz.func72,Tryz.ntmps72
  go_wp2
  go_ret
  exact⟨by rw[E.o];rfl,rfl⟩

theorem qTy (s:Int)(w:World) :
  Calls Tryz.prog 164 #[.int .i64 s] w fun e w'=>e = .returned (.int .i64 ((pageS s:Nat):Int))/\Below w.heap.size w w':=by
 go_enter Tryz.func164,Tryz.ntmps164
 go_wp2_with fail
 refine(qXb 1 4 s _).mono ?_
 rintro e w1 ⟨rfl,hb1⟩
 go_wp2
 go_ret
 exact⟨rfl,Bgo (B0 _) hb1⟩

theorem qYr (s k:Int)(h0 : -9223372036854775808<=k)(h1:k<=9223372036854775807)(w:World)(hT:SlotsLaid w) :
  Calls Tryz.prog 118 #[.int .i64 s,.int .i64 k] w fun e w'=>e = .returned (.int .i64 ((sizeN s k:Nat):Int))/\Below w.heap.size w w':=by
 obtain⟨n,hn⟩:∃ n,slotI k=n:=⟨_,rfl⟩
 obtain⟨p,hp⟩:∃ p,pageS s=p:=⟨_,rfl⟩
 have hn1:n<=32:=hn ▸ qWU k
 have hp1:p<=1048576:=hp ▸ qQS s
 have E:sizeN s k=p / n-p / n%16:=by unfold sizeN;rw[hn,hp]
 have HN:=qh hn
 have HP:=qh hp
 have HE:=qh E
 clear hn hp E
 by_cases hz:n=0
 ·subst hz
  go_enter Tryz.func118,Tryz.ntmps118
  go_wp2_with fail
  refine(qCz k h0 h1 _ hT).mono ?_
  rintro e w1 ⟨rfl,rfl⟩
  rw[HN.o]
  go_wp2
  go_ret
  exact⟨by rw[HE.o];simp,B0 _⟩
 ·have hq:((p:Int).tdiv n)=((p / n:Nat):Int):=by rw[Int.tdiv_eq_ediv_of_nonneg qo];norm_cast
  have hq1:p / n<=1048576:=Nat.le_trans (Nat.div_le_self _ _) hp1
  obtain⟨q,hqq⟩:∃ q,p / n=q:=⟨_,rfl⟩
  rw[hqq] at hq hq1
  have HQ:=qh hqq
  clear hqq
  go_enter Tryz.func118,Tryz.ntmps118
  go_wp2_with fail
  refine(qCz k h0 h1 _ hT).mono ?_
  rintro e w1 ⟨rfl,rfl⟩
  rw[HN.o]
  go_wp2_with fail
  refine(qTy s _).mono ?_
  rintro e w2 ⟨rfl,hb2⟩
  rw[HP.o]
  go_wp2
  go_ret
  refine⟨?_,hb2⟩
  rw[HE.o,HQ.o]
  refine qYg ?_
  omega

theorem qBj (s k:Int)(h0 : -9223372036854775808<=k)(h1:k<=9223372036854775807)(w:World) :
  Calls Tryz.prog 28 #[.int .i64 s,.int .i64 k] w fun e w'=>e = .returned (.int .i64 ((sizeN s k:Nat):Int))/\Below w.heap.size w w':=by
 obtain⟨n,hn⟩:∃ n,slotI k=n:=⟨_,rfl⟩
 obtain⟨p,hp⟩:∃ p,pageS s=p:=⟨_,rfl⟩
 have hn1:n<=32:=hn ▸ qWU k
 have hp1:p<=1048576:=hp ▸ qQS s
 have E:sizeN s k=p / n-p / n%16:=by unfold sizeN;rw[hn,hp]
 have HN:=qh hn
 have HP:=qh (show pageN 1 4 s=p from hp)
 have HE:=qh E
 clear hn hp E
 by_cases hz:n=0\/p=0
 ·have hE:p / n-p / n%16=0:=by rcases hz with rfl|rfl <;> simp
  have HE2:=qh (HE.o.trans hE)
  clear hE
  rcases hz with rfl|rfl
  ·go_enter Tryz.func28,Tryz.ntmps28
   go_wp2_with fail
   refine(qQQ 1 4 s _).mono ?_
   rintro e w2 ⟨rfl,hb2⟩
   rw[HP.o]
   go_wp2_with fail
   refine(qML k h0 h1 _).mono ?_
   rintro e w1 ⟨rfl,rfl⟩
   rw[HN.o]
   go_wp2
   go_ret
   exact⟨by rw[HE2.o];rfl,hb2⟩
  ·have hn0:¬ n=0\/n=0:=qo
   rcases hn0 with hn0|rfl
   all_goals
    go_enter Tryz.func28,Tryz.ntmps28
    go_wp2_with fail
    refine(qQQ 1 4 s _).mono ?_
    rintro e w2 ⟨rfl,hb2⟩
    rw[HP.o]
    go_wp2_with fail
    refine(qML k h0 h1 _).mono ?_
    rintro e w1 ⟨rfl,rfl⟩
    rw[HN.o]
    go_wp2
    go_ret
    exact⟨by rw[HE2.o];rfl,hb2⟩
 ·have hq:((p:Int).tdiv n)=((p / n:Nat):Int):=by rw[Int.tdiv_eq_ediv_of_nonneg qo];norm_cast
  have hq1:p / n<=1048576:=Nat.le_trans (Nat.div_le_self _ _) hp1
  obtain⟨q,hqq⟩:∃ q,p / n=q:=⟨_,rfl⟩
  rw[hqq] at hq hq1
  have HQ:=qh hqq
  have hn2:¬ n=0:=qo
  have hp2:¬ p=0:=qo
  have hn3:((n:Int)==0)=false:=by simpa using hn2
  have hp3:((p:Int)==0)=false:=by simpa using hp2
  clear hqq hz
  go_enter Tryz.func28,Tryz.ntmps28
  go_wp2_with fail
  refine(qQQ 1 4 s _).mono ?_
  rintro e w2 ⟨rfl,hb2⟩
  rw[HP.o]
  go_wp2_with fail
  refine(qML k h0 h1 _).mono ?_
  rintro e w1 ⟨rfl,rfl⟩
  rw[HN.o]
  go_wp2
  go_ret
  refine⟨?_,hb2⟩
  rw[HE.o,HQ.o]
  refine qYg ?_
  omega
end
section
theorem qEn (t p s a:Int)(g b:Nat)(hg:pageN t p s=g)(hb:bytesN t p s=b):spotB t p s a=decide ((g:Int)<=a/\a-g<(b:Int)):=by unfold spotB;rw[hg,hb]
theorem qTn {t p s:Int}{b:Nat}(hb:bytesN t p s=b)(h:0<b):∃ g:Nat,pageN t p s=g/\1024<=g/\g<=1048576:=by
 cases hr:rightB t p s
 ·have:=qNu hr;omega
 ·obtain⟨g,q,hg,_,_,_,_,g1,g2,_⟩:=qNo hr
  exact⟨g,hg,g1,g2⟩
theorem qZk (t p s:Int):pageN t p s<=1048576:=by
 cases hr:rightB t p s
 ·rw[qAf hr];omega
 ·obtain⟨g,q,hg,_,_,_,_,g1,g2,_⟩:=qNo hr
  omega
theorem qPq (t p s:Int):bytesN t p s<=1073741824:=by
 cases hr:rightB t p s
 ·rw[qNu hr];omega
 ·obtain⟨g,q,_,_,hb,_,_,_,_,_,_,_,h⟩:=qNo hr
  omega

theorem qJV (i o:Int)(g:Nat)(w:World) :
  Calls Tryz.prog 162 #[.agg #[.int .i64 i,.int .i64 o],.int .i64 (g:Int)] w fun e w'=>e = .returned (.int .i64 (addrW i o g))/\Below w.heap.size w w':=by
 go_enter Tryz.func162,Tryz.ntmps162
 go_wp2
 go_ret
 refine⟨qYg ?_,?_⟩
 ·unfold addrW
  simp only[IntWalk.i64_left]
 ·repeat (first|exact B0 _|(with_reducible refine Bgo ?_ (by assumption))|(with_reducible refine Bdrew ?_)|(with_reducible refine Bdraw ?_ _)|(with_reducible refine Bnew ?_ _)|(with_reducible refine Bput ?_ (by first|(simp;done)|(simp;omega)) _))

theorem qQx (t p s a:Int)(h0 : -9223372036854775808<=a)(h1:a<=9223372036854775807)(w:World) :
  Calls Tryz.prog 151 #[.agg #[.int .i64 t,.int .i64 p,.int .i64 s],.int .i64 a] w fun e w'=>e = .returned (.tuple #[.agg #[.int .i64 (spotP t p s a),.int .i64 (spotO t p s a)],.bool (spotB t p s a)])/\Below w.heap.size w w':=by
 obtain⟨g,hg⟩:∃ g,pageN t p s=g:=⟨_,rfl⟩
 obtain⟨b,hb⟩:∃ b,bytesN t p s=b:=⟨_,rfl⟩
 have hE:=qEn t p s a g b hg hb
 have g2:=hg ▸ qZk t p s
 have b2:=hb ▸ qPq t p s
 have HG:=qh hg
 have HB:=qh hb
 have hc:=(Held.new w 23 #[.int .i64 t,.int .i64 p,.int .i64 s]).alloc (.cells #[.int .i64 0,.int .i64 0] 177)
 have hz:=Held.new2 w (.cells #[.int .i64 t,.int .i64 p,.int .i64 s] 23) 177 #[.int .i64 0,.int .i64 0]
 by_cases c1:a<(g:Int)
 ·have hN:spotB t p s a=false:=by rw[hE,decide_eq_false_iff_not];omega
  have HN:=qh hN
  have HZ:=qh (qXE hN)
  clear hg hb hE hN
  go_enter Tryz.func151,Tryz.ntmps151
  go_wp2_with fail
  refine(qXb t p s _).mono ?_
  rintro e w1 ⟨rfl,hb1⟩
  rw[HG.o]
  obtain⟨z0,z1⟩:=(hz.keep hb1).two
  have f0:=(hz.keep hb1).thawed 0
  have f1:=(hz.keep hb1).thawed 1
  exact MBl
 ·by_cases c2:a-(g:Int)<(b:Int)
  ·have hY:spotB t p s a=true:=by rw[hE,decide_eq_true_iff];omega
   obtain⟨g',hg',g1,_⟩:=qTn hb qo
   have g1:1024<=g:=qo
   have hP:spotP t p s a=a / (g:Int)-1:=by unfold spotP;rw[if_pos hY,hg]
   have hO:spotO t p s a=a%(g:Int):=by unfold spotO;rw[if_pos hY,hg]
   have hpp:=qSv hY
   rw[hP,hO] at hpp
   obtain⟨_,_,a1,a2,⟨d1,d2⟩,o1,o2⟩:=hpp
   have q1:a.tdiv (g:Int)=a / (g:Int):=Int.tdiv_eq_ediv_of_nonneg qo
   have q2:a.tmod (g:Int)=a%(g:Int):=Int.tmod_eq_emod_of_nonneg qo
   obtain⟨d,hd⟩:∃ d,a / (g:Int)=d:=⟨_,rfl⟩
   obtain⟨m,hm⟩:∃ m,a%(g:Int)=m:=⟨_,rfl⟩
   rw[hd] at hP d1 d2 q1
   rw[hm] at hO o1 o2 q2
   have HY:=qh hY
   have HP:=qh hP
   have HO:=qh hO
   have g3:¬ g=0:=qo
   have g4:((g:Int)==0)=false:=qs
   clear hg hb hE hY hP hO hg' hd hm
   go_enter Tryz.func151,Tryz.ntmps151
   go_wp2_with fail
   refine(qXb t p s _).mono ?_
   rintro e w1 ⟨rfl,hb1⟩
   rw[HG.o]
   have hc1:=hc.keep hb1
   obtain⟨x0,x1,x2⟩:=hc1.three
   go_wp2_with fail
   refine(qDF t p s _).mono ?_
   rintro e w2 ⟨rfl,hb2⟩
   rw[HB.o]
   obtain⟨z0,z1⟩:=((hz.keep hb1).keep hb2).two
   have f0:=((hz.keep hb1).keep hb2).thawed 0
   have f1:=((hz.keep hb1).keep hb2).thawed 1
   go_wp2
   go_region
   go_wp2
   refine bodyPost_ret (v := .tuple #[.agg #[.int .i64 (d-1),.int .i64 m],.bool true]) (by simp[results,Tryz.results151,go_sem,z0,z1]) rfl ⟨?_,?_⟩
   ·rw[HY.o,HP.o,HO.o]
   all_goals exact blz
  ·have hN:spotB t p s a=false:=by rw[hE,decide_eq_false_iff_not];omega
   have HN:=qh hN
   have HZ:=qh (qXE hN)
   clear hg hb hE hN
   go_enter Tryz.func151,Tryz.ntmps151
   go_wp2_with fail
   refine(qXb t p s _).mono ?_
   rintro e w1 ⟨rfl,hb1⟩
   rw[HG.o]
   have hc1:=hc.keep hb1
   obtain⟨x0,x1,x2⟩:=hc1.three
   go_wp2_with fail
   refine(qDF t p s _).mono ?_
   rintro e w2 ⟨rfl,hb2⟩
   rw[HB.o]
   obtain⟨z0,z1⟩:=((hz.keep hb1).keep hb2).two
   have f0:=((hz.keep hb1).keep hb2).thawed 0
   have f1:=((hz.keep hb1).keep hb2).thawed 1
   exact MBl

theorem qHr (i o:Int)(g:Nat) : -9223372036854775808<=addrW i o g/\addrW i o g<=9223372036854775807:=by
 unfold addrW
 generalize IntKind.i64.wrap (IntKind.i64.wrap (i+1)*(g:Int))+o=x
 exact MNi

theorem qVZ (t p s i o:Int)(h:addrB t p s i o=true)(w:World) :
  Calls Tryz.prog 117 #[.agg #[.int .i64 t,.int .i64 p,.int .i64 s],.int .i64 i,.int .i64 o] w fun e w'=>e = .returned (.tuple #[.int .i64 (addrI t p s i o),.bool (addrB t p s i o)])/\Below w.heap.size w w':=by
 obtain⟨a,ha⟩:∃ a,addrI t p s i o=a:=⟨_,rfl⟩
 have hy:=qNk h
 rw[ha] at hy
 have HY:=qh hy
 have HA:=qh ha
 have HB:=qh h
 obtain⟨_,_,_,_,a1,a2⟩:=hy
 clear ha h
 have hc:=(Held.new w 23 #[.int .i64 t,.int .i64 p,.int .i64 s]).alloc (.cells #[.int .i64 i,.int .i64 o] 177)
 have hz:=Held.new2 w (.cells #[.int .i64 t,.int .i64 p,.int .i64 s] 23) 177 #[.int .i64 i,.int .i64 o]
 go_enter Tryz.func117,Tryz.ntmps117
 go_wp2_with fail
 have c3:=hc.three
 have c2:=hz.two
 go_region_held3 (fun w'=>w'.cell? ⟨w.heap.size,0,none⟩=some (.int .i64 t)/\w'.cell? ⟨w.heap.size,1,none⟩=some (.int .i64 p)/\w'.cell? ⟨w.heap.size,2,none⟩=some (.int .i64 s)/\w'.cell? ⟨w.heap.size+1,0,none⟩=some (.int .i64 i)/\w'.cell? ⟨w.heap.size+1,1,none⟩=some (.int .i64 o))
  (first|exact⟨c3.1,c3.2.1,c3.2.2,c2.1,c2.2⟩|go_keep|exact⟨hst _ _ (by assumption),hst _ _ (by assumption),hst _ _ (by assumption),hst _ _ (by assumption),hst _ _ (by assumption)⟩)
  (first
   | (refine RHu ?_;intro w' hbl hst)
   | (go_at_call 162;refine(qJV i o (pageN t p s) _).mono ?_;rintro e w'' ⟨rfl,hbl2⟩;rw[HY.o.1];have hst:=qE1 hbl2))
 have hc2:=((Held.drewN hc 1).keep hbl).keep hbl2
 have hz2:=((Held.drewN hz 1).keep hbl).keep hbl2
 clear c3 c2
 have c3:=hc2.three
 go_wp2_with fail
 refine(qQx t p s a qo qo _).mono ?_
 rintro e w3 ⟨rfl,hb3⟩
 rw[HY.o.2.1,HY.o.2.2.1,HY.o.2.2.2.1]
 have hz3:=hz2.keep hb3
 obtain⟨y0,y1⟩:=(hz3.alloc (.cells #[.int .i64 i,.int .i64 o] 177)).two
 go_wp2
 go_ret2
 refine⟨by rw[HA.o,HB.o];rfl,?_⟩
 change Below w.heap.size w _
 have hbl:Below ((w.alloc (.cells #[.int .i64 t,.int .i64 p,.int .i64 s] 23)).alloc (.cells #[.int .i64 i,.int .i64 o] 177)).heap.size ((w.alloc (.cells #[.int .i64 t,.int .i64 p,.int .i64 s] 23)).alloc (.cells #[.int .i64 i,.int .i64 o] 177)) w':=qZh (n:=1) hbl
 all_goals exact blz

theorem qJg (t p s i o:Int)(h:addrB t p s i o=false)(w:World) :
  Calls Tryz.prog 117 #[.agg #[.int .i64 t,.int .i64 p,.int .i64 s],.int .i64 i,.int .i64 o] w fun e w'=>e = .returned (.tuple #[.int .i64 (addrI t p s i o),.bool (addrB t p s i o)])/\Below w.heap.size w w':=by
 obtain⟨a,ha⟩:∃ a,addrW i o (pageN t p s)=a:=⟨_,rfl⟩
 have hr:=qHr i o (pageN t p s)
 rw[ha] at hr
 obtain⟨a1,a2⟩:=hr
 have HW:=qh ha
 have HA:=qh (qZ3 h)
 have HB:=qh h
 have hc:=(Held.new w 23 #[.int .i64 t,.int .i64 p,.int .i64 s]).alloc (.cells #[.int .i64 i,.int .i64 o] 177)
 have hz:=Held.new2 w (.cells #[.int .i64 t,.int .i64 p,.int .i64 s] 23) 177 #[.int .i64 i,.int .i64 o]
 cases hs:spotB t p s a
 ·obtain⟨z1,z2⟩:=qXE hs
  have HS:=qh hs
  have HP:=qh z1
  have HO:=qh z2
  clear ha h hs z1 z2
  go_enter Tryz.func117,Tryz.ntmps117
  go_wp2_with fail
  have c3:=hc.three
  have c2:=hz.two
  go_region_held3 (fun w'=>w'.cell? ⟨w.heap.size,0,none⟩=some (.int .i64 t)/\w'.cell? ⟨w.heap.size,1,none⟩=some (.int .i64 p)/\w'.cell? ⟨w.heap.size,2,none⟩=some (.int .i64 s)/\w'.cell? ⟨w.heap.size+1,0,none⟩=some (.int .i64 i)/\w'.cell? ⟨w.heap.size+1,1,none⟩=some (.int .i64 o))
   (first|exact⟨c3.1,c3.2.1,c3.2.2,c2.1,c2.2⟩|go_keep|exact⟨hst _ _ (by assumption),hst _ _ (by assumption),hst _ _ (by assumption),hst _ _ (by assumption),hst _ _ (by assumption)⟩)
   (first
    | (refine RHu ?_;intro w' hbl hst)
    | (go_at_call 162;refine(qJV i o (pageN t p s) _).mono ?_;rintro e w'' ⟨rfl,hbl2⟩;rw[HW.o];have hst:=qE1 hbl2))
  refine RTo ?_;clear c3 c2;intro hc2 hz2 c3
  go_wp2_with fail
  refine R6m ?_;intro w3 hb3 hz3
  obtain⟨y0,y1⟩:=(hz3.alloc (.cells #[.int .i64 0,.int .i64 0] 177)).two
  exact MR9
 ·have hne:=qLe h hs
  obtain⟨d,hd⟩:∃ d,spotP t p s a=d:=⟨_,rfl⟩
  obtain⟨m,hm⟩:∃ m,spotO t p s a=m:=⟨_,rfl⟩
  rw[hd,hm] at hne
  have HS:=qh hs
  have HP:=qh hd
  have HO:=qh hm
  clear ha h hs hd hm
  by_cases hdi:d=i
  ·subst hdi
   have hmo:¬ m=o:=fun h=>hne ⟨rfl,h⟩
   have hmo2:(m==o)=false:=by simpa using hmo
   clear hne
   go_enter Tryz.func117,Tryz.ntmps117
   go_wp2_with fail
   have c3:=hc.three
   have c2:=hz.two
   go_region_held3 (fun w'=>w'.cell? ⟨w.heap.size,0,none⟩=some (.int .i64 t)/\w'.cell? ⟨w.heap.size,1,none⟩=some (.int .i64 p)/\w'.cell? ⟨w.heap.size,2,none⟩=some (.int .i64 s)/\w'.cell? ⟨w.heap.size+1,0,none⟩=some (.int .i64 d)/\w'.cell? ⟨w.heap.size+1,1,none⟩=some (.int .i64 o))
    (first|exact⟨c3.1,c3.2.1,c3.2.2,c2.1,c2.2⟩|go_keep|exact⟨hst _ _ (by assumption),hst _ _ (by assumption),hst _ _ (by assumption),hst _ _ (by assumption),hst _ _ (by assumption)⟩)
    (first
     | (refine RHu ?_;intro w' hbl hst)
     | (go_at_call 162;refine(qJV d o (pageN t p s) _).mono ?_;rintro e w'' ⟨rfl,hbl2⟩;rw[HW.o];have hst:=qE1 hbl2))
   refine RTo ?_;clear c3 c2;intro hc2 hz2 c3
   go_wp2_with fail
   refine R6m ?_;intro w3 hb3 hz3
   obtain⟨y0,y1⟩:=(hz3.alloc (.cells #[.int .i64 d,.int .i64 m] 177)).two
   go_wp2
   go_ret2
   refine⟨by rw[HA.o,HB.o];rfl,?_⟩
   change Below w.heap.size w _
   have hbl:Below ((w.alloc (.cells #[.int .i64 t,.int .i64 p,.int .i64 s] 23)).alloc (.cells #[.int .i64 d,.int .i64 o] 177)).heap.size ((w.alloc (.cells #[.int .i64 t,.int .i64 p,.int .i64 s] 23)).alloc (.cells #[.int .i64 d,.int .i64 o] 177)) w':=qZh (n:=1) hbl
   all_goals exact blz
  ·have hdi2:(d==i)=false:=by simpa using hdi
   clear hne
   go_enter Tryz.func117,Tryz.ntmps117
   go_wp2_with fail
   have c3:=hc.three
   have c2:=hz.two
   go_region_held3 (fun w'=>w'.cell? ⟨w.heap.size,0,none⟩=some (.int .i64 t)/\w'.cell? ⟨w.heap.size,1,none⟩=some (.int .i64 p)/\w'.cell? ⟨w.heap.size,2,none⟩=some (.int .i64 s)/\w'.cell? ⟨w.heap.size+1,0,none⟩=some (.int .i64 i)/\w'.cell? ⟨w.heap.size+1,1,none⟩=some (.int .i64 o))
    (first|exact⟨c3.1,c3.2.1,c3.2.2,c2.1,c2.2⟩|go_keep|exact⟨hst _ _ (by assumption),hst _ _ (by assumption),hst _ _ (by assumption),hst _ _ (by assumption),hst _ _ (by assumption)⟩)
    (first
     | (refine RHu ?_;intro w' hbl hst)
     | (go_at_call 162;refine(qJV i o (pageN t p s) _).mono ?_;rintro e w'' ⟨rfl,hbl2⟩;rw[HW.o];have hst:=qE1 hbl2))
   refine RTo ?_;clear c3 c2;intro hc2 hz2 c3
   go_wp2_with fail
   refine R6m ?_;intro w3 hb3 hz3
   obtain⟨y0,y1⟩:=(hz3.alloc (.cells #[.int .i64 d,.int .i64 m] 177)).two
   exact MR9

theorem qRR (t p s i o:Int)(w:World) :
  Calls Tryz.prog 117 #[.agg #[.int .i64 t,.int .i64 p,.int .i64 s],.int .i64 i,.int .i64 o] w fun e w'=>e = .returned (.tuple #[.int .i64 (addrI t p s i o),.bool (addrB t p s i o)])/\Below w.heap.size w w':=by
 cases h:addrB t p s i o
 ·exact h ▸ qJg t p s i o h w
 ·exact h ▸ qVZ t p s i o h w
end
section
theorem qRN (t p s a:Int)(h0 : -9223372036854775808<=a)(h1:a<=9223372036854775807)(w:World) :
  Calls Tryz.prog 111 #[.agg #[.int .i64 t,.int .i64 p,.int .i64 s],.int .i64 a] w fun e w'=>e = .returned (.tuple #[.int .i64 (spotP t p s a),.int .i64 (spotO t p s a),.bool (spotB t p s a)])/\Below w.heap.size w w':=by
 go_enter Tryz.func111,Tryz.ntmps111
 go_wp2_with fail
 refine(qQx t p s a h0 h1 _).mono ?_
 rintro e w1 ⟨rfl,hb1⟩
 go_wp2
 go_region
 all_goals
  go_wp2
  refine bodyPost_ret (v := .tuple #[.int .i64 (spotP t p s a),.int .i64 (spotO t p s a),.bool (spotB t p s a)]) (by simp[results,Tryz.results111,go_sem]) rfl ⟨rfl,?_⟩
  all_goals exact blz

theorem qPv (t p s k o:Int)(hk0 : -9223372036854775808<=k)(hk1:k<=9223372036854775807)(ho0 : -9223372036854775808<=o)(ho1:o<=9223372036854775807)(w:World)(hT:SlotsLaid w) :
  Calls Tryz.prog 112 #[.agg #[.int .i64 t,.int .i64 p,.int .i64 s],.int .i64 k,.int .i64 o] w fun e w'=>e = .returned (.tuple #[.int .i64 (slotR t p s k o),.bool (slotB t p s k o)])/\Below w.heap.size w w':=by
 have HT:=qh hT
 have hc:=Held.new w 23 #[.int .i64 t,.int .i64 p,.int .i64 s]
 clear hT
 obtain⟨z,hz⟩:∃ z,sizeN s k=z:=⟨_,rfl⟩
 obtain⟨n,hn⟩:∃ n,slotI k=n:=⟨_,rfl⟩
 have hz2:=hz ▸ qHU s k
 have hn2:=hn ▸ qWU k
 have hE:slotB t p s k o=(rightB t p s&&decide (0<z/\0<=o/\o%(z:Int)=0/\o / (z:Int)<(n:Int))):=by unfold slotB;rw[hz,hn]
 have HZ:=qh hz
 have HN:=qh hn
 cases hr:rightB t p s
 ·have HK:=qh (qFe hr)
  have hB:slotB t p s k o=false:=by rw[hE,hr];rfl
  have HR:=qh (qMc hB)
  have HB:=qh hB
  clear hz hn hE hr hB
  exact MDl
 ·have HK:=qh (qU9 hr)
  rw[hr,Bool.true_and] at hE
  clear hr
  by_cases c1:z=0
  ·have hB:slotB t p s k o=false:=by rw[hE,decide_eq_false_iff_not];omega
   have HR:=qh (qMc hB)
   have HB:=qh hB
   subst c1
   exact MQh
  ·have z1:((z:Int)==0)=false:=by simpa using c1
   by_cases c2:o<0
   ·have hB:slotB t p s k o=false:=by rw[hE,decide_eq_false_iff_not];omega
    have HR:=qh (qMc hB)
    have HB:=qh hB
    exact MQh
   ·have q1:o.tdiv (z:Int)=o / (z:Int):=Int.tdiv_eq_ediv_of_nonneg qo
    have q2:o.tmod (z:Int)=o%(z:Int):=Int.tmod_eq_emod_of_nonneg qo
    have m0:=Int.emod_nonneg o (show (z:Int)≠0 by omega)
    have m1:=Int.emod_lt_of_pos o (show (0:Int)<z by omega)
    have d0:=Int.ediv_nonneg (a:=o) (b:=(z:Int)) qo qo
    have d1:o / (z:Int)<=o:=Int.ediv_le_self _ qo
    have hRR:slotB t p s k o=true->slotR t p s k o=o / (z:Int):=fun h=>by unfold slotR;rw[if_pos h,hz]
    obtain⟨d,hd⟩:∃ d,o / (z:Int)=d:=⟨_,rfl⟩
    obtain⟨m,hm⟩:∃ m,o%(z:Int)=m:=⟨_,rfl⟩
    rw[hd] at q1 d0 d1 hE hRR
    rw[hm] at q2 m0 m1 hE
    by_cases c3:m=0
    ·have m3:(m != 0)=false:=by simpa using c3
     by_cases c4:d<(n:Int)
     ·have hB:slotB t p s k o=true:=by rw[hE,decide_eq_true_iff];omega
      have HR:=qh (hRR hB)
      exact MGd
     ·have hB:slotB t p s k o=false:=by rw[hE,decide_eq_false_iff_not];omega
      have HR:=qh (qMc hB)
      exact MGd
    ·have m3:(m != 0)=true:=by simpa using c3
     have hB:slotB t p s k o=false:=by rw[hE,decide_eq_false_iff_not];omega
     have HR:=qh (qMc hB)
     have HB:=qh hB
     clear hz hn hE hB hRR hd hm
     exact MDl

theorem qSa (t p s k i j:Int)(hk0 : -9223372036854775808<=k)(hk1:k<=9223372036854775807)(w:World)(hT:SlotsLaid w) :
  Calls Tryz.prog 80 #[.agg #[.int .i64 t,.int .i64 p,.int .i64 s],.int .i64 k,.int .i64 i,.int .i64 j] w fun e w'=>e = .returned (.tuple #[.int .i64 (atI t p s k i j),.bool (atB t p s k i j)])/\Below w.heap.size w w':=by
 have HT:=qh hT
 have hc:=Held.new w 23 #[.int .i64 t,.int .i64 p,.int .i64 s]
 clear hT
 obtain⟨n,hn⟩:∃ n,slotI k=n:=⟨_,rfl⟩
 have hn2:=hn ▸ qWU k
 have HN:=qh hn
 by_cases c1:j<0
 ·refine RQf ?_;intro HB
  clear hn
  go_enter Tryz.func80,Tryz.ntmps80
  exact M8V
 ·by_cases c2:j<(n:Int)
  ·refine RLK ?_;intro z hz hz2 h3 h4 hA y hy
   rw[hy] at h3 h4 hA
   have HA:=qh hA
   have HY:=qh hy
   have HZ:=qh hz
   have HWR:=qh (qIv (x:=y) qo qo)
   clear hz hy hA hn
   go_enter Tryz.func80,Tryz.ntmps80
   go_wp2_with fail
   refine(qCz k hk0 hk1 _ (HT.o.alloc _)).mono ?_
   rintro e w1 ⟨rfl,rfl⟩
   rw[HN.o]
   have HT1:=qh (HT.o.alloc (.cells #[.int .i64 t,.int .i64 p,.int .i64 s] 23))
   have c3:=hc.three
   go_wp2_with fail
   go_region_held3 (fun w'=>w'.cell? ⟨w.heap.size,0,none⟩=some (.int .i64 t)/\w'.cell? ⟨w.heap.size,1,none⟩=some (.int .i64 p)/\w'.cell? ⟨w.heap.size,2,none⟩=some (.int .i64 s))
    (first|exact⟨c3.1,c3.2.1,c3.2.2⟩|go_keep|exact⟨hst _ _ (by assumption),hst _ _ (by assumption),hst _ _ (by assumption)⟩)
    (first
     | (go_at_call 118;refine(qYr s k hk0 hk1 _ (HT1.o.drewN _)).mono ?_;rintro e w' ⟨rfl,hbl⟩;rw[HZ.o];have hst:=qE1 hbl)
     | (go_at_call 117;rw[HY.o,HWR.o];refine(qRR t p s i y _).mono ?_;rintro e w'' ⟨rfl,hbl2⟩;have hst:=qE1 hbl2))
   go_wp2
   go_ret2
   refine⟨by rw[HA.o.1,HA.o.2];rfl,?_⟩
   all_goals exact blz
  ·refine RQf ?_;intro HB
   clear hn
   go_enter Tryz.func80,Tryz.ntmps80
   go_wp2_with fail
   refine(qCz k hk0 hk1 _ (HT.o.alloc _)).mono ?_
   exact MxG
end
section
theorem Held.drew {w:World}{g:Nat}{t:TypeId}{cs:Array Value}(h:Held w g t cs):Held w.drew g t cs:=h
structure HeapV (H:AuH) (n c:Nat):Prop where
 right:rightB H.t H.p H.s=true
 len:n=30+4*H.t+6*H.p
 cap:n<=c
 max:c<=maxLen
 lt:∀ i,i<n->H.V i<2^32
def IsVals (w:World) (ad:Addr) (n:Nat) (V:Nat->Nat):Prop:=ad.block<w.heap.size/\∀ i,i<n->w.cell? (ad.add i)=some (.int .u32 (V i:Nat))
theorem IsVals.below {w w':World}{ad:Addr}{n:Nat}{V:Nat->Nat}(h:IsVals w ad n V)(hb:Below w.heap.size w w'):IsVals w' ad n V :=
 ⟨Nat.lt_of_lt_of_le h.1 hb.size,fun i hi=>by
  have e:(ad.add i).block<w.heap.size:=by rw[qXL];exact h.1
  exact(hb.cell e).trans (h.2 i hi)⟩
theorem IsVals.drew {w:World}{ad:Addr}{n:Nat}{V:Nat->Nat}(h:IsVals w ad n V):IsVals w.drew ad n V:=h
theorem HeapV.nums {H:AuH}{n c:Nat}(h:HeapV H n c):1<=H.t/\H.t<=16/\4<=H.p/\H.p<=1024/\10<=H.s/\H.s<=20/\n<=6238/\n<=c/\c<=maxLen:=by
 have h1:=(qQB _ _ _).1 h.right
 have h2:=h.len
 have h3:=h.cap
 have h4:=h.max
 omega
theorem HeapV.cel_lt {H:AuH}{n c:Nat}(h:HeapV H n c){q b:Nat}(hq:q<H.p)(hb:b<6):H.cel q b<2^32:=h.lt _ (by have:=h.len;omega)
theorem HeapV.page {H:AuH}{n c:Nat}(h:HeapV H n c){q b:Nat}(hq:q<H.p)(hb:b<6):pageI H.t H.p H.s q b=((30+4*H.t+6*q+b:Nat):Int):=by
 rw[qKF h.right qo qo qo qo]
 push_cast
 omega
def hpV (H:AuH) (ad:Addr) (n c:Nat):Value := .agg #[.int .i64 (H.t:Int),.int .i64 (H.p:Int),.int .i64 (H.s:Int),.slice (some ad) n c]
end
open Go.Maps
section
abbrev inR (l:Nat):Fence:=Fence.wide.inRound l
section
variable {P : Program} {ops : Array Oper} {Q : Exit -> Act -> World -> Prop} {md : Region.Mode} {l n : Nat}
theorem qLB {f:FuncId}{args:Array Value}{w:World}{R:Ending->World->Prop}(h:Calls P f args w R):CallsIn (inR l) n P f args w R:=CallsIn.inRound l (callsIn_wide.2 h)
end

structure Mild (D:Nat) (w w':World):Prop where
 os:w'.os=w.os
 tape:w'.tape=w.tape
 output:w'.output=w.output
 size:w.heap.size<=w'.heap.size
 low:∀ k,k<D->w'.heap[k]?=w.heap[k]?
 cells:∀ (k:Nat) (o:Obj),w.heap[k]?=some o->o.isCells=true->w'.heap[k]?=some o
section
variable {D : Nat} {w w' w'' : World}
theorem Mild.of_below (hD:D<=w.heap.size)(h:Below w.heap.size w w'):Mild D w w' :=
 ⟨h.os,h.tape,h.output,h.size,fun k hk=>h.block k qo,fun k o hk _=>(h.block k (Array.getElem?_eq_some_iff.1 hk).1).trans hk⟩
theorem Mild.put {l:Nat}{o:Obj}(o':Obj)(hl:D<=l)(h:w.heap[l]?=some o)(ho:o.isCells=false):Mild D w (w.putObj l o') :=
 ⟨rfl,rfl,rfl,by simp,fun k hk=>World.putObj_heap_other qo,fun k o2 hk ho2=>by
  by_cases e:k=l
  ·subst e;rw[h] at hk;cases hk;rw[ho] at ho2;cases ho2
  ·exact(World.putObj_heap_other e).trans hk⟩
theorem Mild.held {g:Nat}{t:TypeId}{cs:Array Value}(h:Mild D w w')(hg:Held w g t cs):Held w' g t cs:=h.cells g _ hg rfl
end

def SeqAt (P:Program) (gf:Nat) (bound:Array Value) (enc:Nat->Array Value) (can:Nat->Bool) (next:Nat->Nat) (w0:World):Prop :=
 ∀ (l:Nat) (J:Nat->(Nat->Prop)->World->Prop) (Jx:World->Prop) (W:World) (F0:Nat->Prop),Below w0.heap.size w0 W ->
  (∀ pos F A B,J pos F A->Below A.heap.size A B->J pos F B)->(∀ A B,Jx A->Below A.heap.size A B->Jx B) ->
  (∀ pos F A,J pos F A->Below w0.heap.size w0 A)->(∀ pos F A,J pos F A->∀ i,F i->i<A.heap.size) ->
  (∀ pos F A,J pos F A->W.heap.size<=A.heap.size->can pos=true->YieldAt Fence.wide 0 P l (enc pos) A fun e B =>
   (e = .returned (.bool true)/\∃ F',J (next pos) F' B/\A.heap.size<=B.heap.size/\(∀ k,W.heap.size<=k->k<A.heap.size->¬ F k->B.heap[k]?=A.heap[k]?)/\∀ i,F' i->F i\/A.heap.size<=i) \/
   (e = .returned (.bool false)/\Jx B)) ->
  J 0 F0 W ->
  CallsIn Fence.wide 0 P gf (bound ++ #[.func (.yield l) #[] #[]]) W fun e B=>(∃ v,e = .returned v)/\((∃ pos F,J pos F B/\can pos=false)\/Jx B)

def seqPost (I:Nat->(Nat->Prop)->World->Prop) (Ix:Code->World->Prop) (pos:Nat) (F:Nat->Prop) (N:Nat) (A:World):Exit->Act->World->Prop
 | .normal,_,B=>Turns F A B/\∃ F',I pos F' B/\∀ i,F' i->F i\/N<=i
 | .ret,_,B=>Turns F A B/\Ix .ret B
 | .exit id,_,B=>Turns F A B/\Ix (.exit id) B
 | .goto t,_,B=>Turns F A B/\Ix (.goto t) B
 | .panic _,_,_=>False
 | .outgrown,_,_=>False

def RoundGo (D:Nat) (P:Program) (l:Nat) (body:Code) (Q:World->Exit->Act->World->Prop) (A:World) (a₁:Act) (A₁:World):Prop :=
 Below A.heap.size A A₁/\∀ A₂,Mild D A₁ A₂->A₂.heap.size=A₁.heap.size->body.wpIn (inR l) 0 P (Q A₂) a₁ A₂

def mark (D:Nat):Deferred := { target := .collected D,args:=#[] }

theorem qEie {P:Program}{g:Operand}{ps:Array Tmp}{assign body:Code}{Q:Exit->Act->World->Prop}{a:Act}{w:World}{gf:Nat}{bound:Array Value}
  (hg:a.eval g = .func (.func gf) bound #[]) (eg:∀ args w,(callFunc gf args).run P w = .ok (.enter gf args) w)
  {enc:Nat->Array Value} {can:Nat->Bool} {next:Nat->Nat} {w0:World} (hseq:SeqAt P gf bound enc can next w0) (hb0:Below w0.heap.size w0 w) (hps:∀ pos,(enc pos).size=ps.size)
  (I:Nat->(Nat->Prop)->World->Prop) (Ix:Code->World->Prop)
  (hI:∀ pos F A B,I pos F A->Mild w.heap.size A B->I pos F B) (hIx:∀ c A B,Ix c A->Mild w.heap.size A B->Ix c B)
  (hIB:∀ pos F A,I pos F A->Below w0.heap.size w0 A) (hIF:∀ pos F A,I pos F A->∀ i,F i->∃ o,A.heap[i]?=some o/\o.isCells=true)
  {F0:Nat->Prop} (h0:I 0 F0 w)
  (hround:∀ (l pos:Nat) (F:Nat->Prop) (A:World),can pos=true->I pos F A->w.heap.size<=A.heap.size ->
   assign.wpIn (inR l) 0 P (Exit.then (RoundGo w.heap.size P l body (seqPost I Ix (next pos) F A.heap.size) A) (fun _ _ _=>False))
    { tmps:=(ps.zip (enc pos)).foldl (fun t (p,v)=>t.setIfInBounds p v) a.tmps,defers := [] } A)
  (hdone:∀ (D pos:Nat) (F:Nat->Prop) (A:World),w.heap.size<=D->can pos=false->I pos F A->A.heap[D]?=some (.deferred (some []))->Q .normal { a with defers:=mark D :: a.defers } A)
  (hstop:∀ (D:Nat) (c:Code) (A:World),w.heap.size<=D->Ix c A->A.heap[D]?=some (.deferred (some []))->c.wp P Q { a with defers:=mark D :: a.defers } A) :
  (Code.rangeFunc g ps assign body).wp P Q a w:=by
 refine(wpIn_wide (n:=1)).1 (wpIn_rangeFunc ?_)
 intro fn hfn
 obtain⟨rec,hrec⟩:∃ rec:LoopState->Option Code->Loop,rec=fun st pe => { state:=st,pending:=pe,fn,tmps:=a.tmps,params:=ps,assign,body,defers:=w.heap.size }:=⟨_,rfl⟩
 obtain⟨W1,hW1⟩:∃ W1,(w.alloc (.deferred (some []))).alloc (.loop (rec .ready none))=W1:=⟨_,rfl⟩
 have hbw:Below w.heap.size w W1:=by rw[<- hW1];exact Bnew (Bnew (B0 w) _) _
 have hs1:W1.heap.size=w.heap.size+2:=by rw[<- hW1];simp
 have hL1:W1.heap[w.heap.size+1]?=some (.loop (rec .ready none)):=by
  exact M40
 have hK1:W1.heap[w.heap.size]?=some (.deferred (some [])):=by
  rw[<- hW1];exact(Below.heap_alloc _ _ _ (by simp)).trans (heap_alloc_new w _)
 refine⟨w.heap.size+1,[mark w.heap.size],W1,{ target := .fn (.func gf) #[],args:=bound ++ #[.func (.yield (w.heap.size+1)) #[] #[]] },W1,gf,bound ++ #[.func (.yield (w.heap.size+1)) #[] #[]],W1,?_,?_,?_,?_,fun _=>Nat.le_refl _,?_⟩
 ·rw[<- hW1,hrec];exact run_enterLoop_outer _ _ _ _ _
 ·simp only[resolve,hg]
  simp[go_sem]
 ·intro f' hf';exact trivial
 ·simp[invoke,go_sem,eg]
 ·have keepRow:∀ {A B:World} {k:Nat} {o:Obj},Below A.heap.size A B->A.heap[k]?=some o->B.heap[k]?=some o:=fun hb hk=>(hb.block _ (Array.getElem?_eq_some_iff.1 hk).1).trans hk
  refine(hseq (w.heap.size+1)
   (fun pos F A=>I pos F A/\w.heap.size<=A.heap.size/\A.heap[w.heap.size+1]?=some (.loop (rec .ready none))/\A.heap[w.heap.size]?=some (.deferred (some [])))
   (fun A=>∃ c,Ix c A/\w.heap.size<=A.heap.size/\A.heap[w.heap.size+1]?=some (.loop (rec .done (some c)))/\A.heap[w.heap.size]?=some (.deferred (some [])))
   W1 F0 (hb0.trans (hbw.mono hb0.size))
   (fun pos F A B h hb=>⟨hI pos F A B h.1 (Mild.of_below h.2.1 hb),Nat.le_trans h.2.1 hb.size,keepRow hb h.2.2.1,keepRow hb h.2.2.2⟩)
   (fun A B h hb=>by obtain⟨c,h1,h2,h3,h4⟩:=h;exact⟨c,hIx c A B h1 (Mild.of_below h2 hb),Nat.le_trans h2 hb.size,keepRow hb h3,keepRow hb h4⟩)
   (fun pos F A h=>hIB pos F A h.1)
   (fun pos F A h i hi=>by obtain⟨o,ho,_⟩:=hIF pos F A h.1 i hi;exact(Array.getElem?_eq_some_iff.1 ho).1)
   ?_ ⟨hI 0 F0 w W1 h0 (Mild.of_below (Nat.le_refl _) hbw),hbw.size,hL1,hK1⟩).mono ?_
  ·exact MD6
  ·exact MXu

def noPanic (Q:Exit->Act->World->Prop):Exit->Act->World->Prop
 | .panic _,_,_=>False
 | .outgrown,_,_=>False
 | .normal,a,w=>Q .normal a w
 | .ret,a,w=>Q .ret a w
 | .exit id,a,w=>Q (.exit id) a w
 | .goto t,a,w=>Q (.goto t) a w
theorem qRD {P:Program}{f:FuncId}{fn:Func}{c:Code}{args:Array Value}{w:World}{R:Ending->World->Prop}(hf:P.funcs[f]?=some fn)(hb:fn.body=some c)
  (h:c.wp P (noPanic (bodyPostM Fence.wide 0 P fn R)) { tmps:=args++Array.replicate (fn.ntmps-args.size) undef,defers := [] } w):Calls P f args w R :=
 callsIn_wide.1 (callsIn_of_wp_marks hf hb trivial (wpIn_wide.2 (wp_mono h (fun e a w hq=>by cases e <;> first|exact hq|exact hq.elim))) rfl)
theorem qDw {P:Program}{fn:Func}{R:Ending->World->Prop}{a:Act}{w:World}{D:Nat}(hd:a.defers = [mark D])(hk:w.heap[D]?=some (.deferred (some [])))
  (h:bodyPost P fn R .ret { a with defers := [] } (w.putObj D (.deferred none))):bodyPostM Fence.wide 0 P fn R .ret a w:=by
 show LeavesInM Fence.wide 0 P fn a.tmps R a.defers .returning w
 rw[hd]
 refine⟨by simp,.inl ⟨_,_,rfl,run_takeDeferred hk,?_⟩⟩
 exact h.2
theorem qUC {P:Program}{fn:Func}{R:Ending->World->Prop}{a:Act}{w:World}(hd:a.defers = [])(h:bodyPost P fn R .ret a w):bodyPostM Fence.wide 0 P fn R .ret a w:=by
 show LeavesInM Fence.wide 0 P fn a.tmps R a.defers .returning w
 rw[hd]
 exact h.2
end
open Go.Shelf
section
theorem Held.one {w:World}{g:Nat}{t:TypeId}{c0:Value}(h:Held w g t #[c0]):w.cell? ⟨g,0,none⟩=some c0/\w.frozen? ⟨g,0,none⟩=false:=⟨h.cell 0,h.thawed 0⟩
theorem qE5 {b:Bool}{p:Prop}(hb:b=true↔p)(h:¬ p):b=false:=by cases b;rfl;exact absurd (hb.1 rfl) h
theorem qPA {b:Bool}{p:Prop}(hb:b=true↔p)(h:p):b=true:=hb.2 h

section
attribute [local go_sem] Oper.semAt_some
end
end
section
def slotKd (taken live s:Nat):Nat:=if live.testBit s then 2 else if taken.testBit s then 4 else 3
end
section
namespace AuH
def Foot (H:AuH) (q:Nat):Prop:=(∀ r,q<=r->r+1<q+H.ln q->H.cel r 1=0)/\H.cel (q+H.ln q-1) 1=q+1
def R3 (H:AuH):Prop:=∀ q,q<H.p->H.K q≠0->H.Foot q
end AuH
section
attribute [local go_sem] Oper.semAt_some

end
end
section
namespace AuH
def R4 (H:AuH):Prop:=∀ q,H.At q->q<H.p->H.K q=1->H.nx q<H.p->H.K (H.nx q)≠1
variable {H : AuH}
end AuH
section
attribute [local go_sem] Oper.semAt_some

end
end
section
def SubB (a b:Nat):Prop:=∀ i,i<32->a.testBit i=true->b.testBit i=true
theorem qWX (a n:Nat)(ha:a<2^32)(hn:n<=32):SubB a (2^n-1)↔a<2^n:=by
 constructor
 ·intro h
  apply Nat.lt_pow_two_of_testBit
  intro i hi
  rcases Nat.lt_or_ge i 32 with h2|h2
  ·cases hai:a.testBit i
   ·rfl
   ·have:=h i h2 hai
    rw[Nat.testBit_two_pow_sub_one] at this
    have:=of_decide_eq_true this
    omega
  ·exact Nat.testBit_lt_two_pow (Nat.lt_of_lt_of_le ha (Nat.pow_le_pow_right qo h2))
 ·intro h i hi hai
  rw[Nat.testBit_two_pow_sub_one]
  rcases Nat.lt_or_ge i n with h2|h2
  ·exact decide_eq_true h2
  ·rw[Nat.testBit_lt_two_pow (Nat.lt_of_lt_of_le h (Nat.pow_le_pow_right qo h2))] at hai;cases hai
theorem sub_zero (a:Nat)(ha:a<2^32):SubB a 0↔a=0:=by
 have:=qWX a 0 ha qo
 simpa using this
namespace AuH
def Slot5 (H:AuH) (q:Nat):Prop:=(H.K q=3->H.cel q 5≠0/\H.cel q 5<2^slotI (H.Cl q)/\SubB (H.cel q 4) (H.cel q 5))/\(H.K q≠3->H.cel q 5=0/\H.cel q 4=0)
def R5 (H:AuH):Prop:=∀ q,q<H.p->H.Slot5 q
variable {H : AuH}
end AuH
section
attribute [local go_sem] Oper.semAt_some

end
end
section
namespace AuH
variable (H : AuH)
def freeF (q:Nat):Nat:=if H.K q=1 then H.ln q else 0
def liveF (q:Nat):Nat:=if H.K q=2 then 1 else if H.K q=3 then HM.onesTo (H.cel q 4) 32 else 0
def R9:Prop:=H.V 0=sumTo H.freeF H.p%4294967296/\H.V 1=sumTo H.liveF H.p%4294967296
variable {H}
theorem freeF_no {q:Nat}(h:H.K q=0):H.freeF q=0:=by unfold freeF;rw[if_neg qo]
theorem liveF_no {q:Nat}(h:H.K q=0):H.liveF q=0:=by unfold liveF;rw[if_neg qo,if_neg qo]
theorem qOA (q:Nat):H.freeF q<=1024:=by
 unfold freeF
 split
 ·exact(H.ln_pos q qo).2
 ·omega
theorem qJK (q:Nat):H.liveF q<=32:=by
 unfold liveF
 split
 ·omega
 ·split
  ·exact HM.onesTo_le _ _
  ·omega
theorem sums_le (x:Nat)(hx:x<=1024):sumTo H.freeF x<=1048576/\sumTo H.liveF x<=32768:=by
 have h1:=qHA H.freeF 1024 x (fun q _=>qOA q)
 have h2:=qHA H.liveF 32 x (fun q _=>qJK q)
 have h3:x*1024<=1024*1024:=Nat.mul_le_mul_right _ hx
 have h4:x*32<=1024*32:=Nat.mul_le_mul_right _ hx
 omega
end AuH
section
attribute [local go_sem] Oper.semAt_some

end
end
section
namespace AuH
def tgt (H:AuH) (q:Nat):Int:=if H.K q=1 then 2+HM.logI (H.ln q:Int) else if H.K q=3/\H.cel q 5≠2^slotI (H.Cl q)-1 then 13+H.Cl q else -1
variable {H : AuH}
theorem tgt_free {q:Nat}(h:H.K q=1):H.tgt q=2+HM.logI (H.ln q:Int):=by unfold tgt;rw[if_pos h]
theorem tgt_slab {q:Nat}(h:H.K q=3)(h2:H.cel q 5≠2^slotI (H.Cl q)-1):H.tgt q=13+H.Cl q:=by unfold tgt;rw[if_neg qo,if_pos ⟨h,h2⟩]
theorem tgt_full {q:Nat}(h:H.K q=3)(h2:H.cel q 5=2^slotI (H.Cl q)-1):H.tgt q = -1:=by unfold tgt;rw[if_neg qo,if_neg (fun h3=>h3.2 h2)]
theorem tgt_used {q:Nat}(h:H.K q=2):H.tgt q = -1:=by unfold tgt;rw[if_neg qo,if_neg qo]
theorem tgt_none {q:Nat}(h:H.K q=0):H.tgt q = -1:=by unfold tgt;rw[if_neg qo,if_neg qo]
theorem log_few {n:Nat}(h1:1<=n)(h2:n<=1024):0<=HM.logI (n:Int)/\HM.logI (n:Int)<=10:=by
 have h:∃ k:Nat,k<=10/\2^k<=n/\n<2^(k+1):=by
  exact Mnr
 obtain⟨k,hk,ha,hb⟩:=h
 rw[HM.logI_at (n:Int) k (by
  have e:((n:Int) / 2^k)=((n / 2^k:Nat):Int):=by push_cast;rfl
  rw[e]
  have:=Nat.div_le_div_right (c:=2^k) ha
  rw[Nat.div_self (Nat.two_pow_pos k)] at this
  omega) (by
  have e:((n:Int) / 2^(k+1))=((n / 2^(k+1):Nat):Int):=by push_cast;rfl
  rw[e,Nat.div_eq_of_lt hb]
  omega)]
 omega
end AuH
section
attribute [local go_sem] Oper.semAt_some

end
end
section
namespace AuH
variable (H : AuH)
def chain (head:Int):Nat->Nat->Nat->Prop
 | 0,at_,_=>at_=0
 | m+1,at_,ahead=>(1<=at_/\at_<=H.p/\H.tgt (at_-1)=head/\H.cel (at_-1) 3=ahead)/\chain head m (H.cel (at_-1) 2) at_
def isF (head:Int) (q:Nat):Nat:=if H.tgt q=head then 1 else 0
def cnt (head:Int) (x:Nat):Nat:=sumTo (H.isF head) x
def ListOk (head:Nat):Prop:=H.chain head (H.cnt head H.p) (H.V head) 0
variable {H}
end AuH
end
section
namespace AuH
def R8 (H:AuH):Prop:=∀ q,q<H.p->H.tgt q = -1->H.cel q 2=0/\H.cel q 3=0
end AuH
end
section
namespace AuH
variable (H : AuH)
def LiveAt (a:Int):Prop:=spotB H.t H.p H.s a=true /\
  ((H.K (spotP H.t H.p H.s a).toNat=2/\spotO H.t H.p H.s a=0) \/
   (H.K (spotP H.t H.p H.s a).toNat=3/\slotB H.t H.p H.s (H.Cl (spotP H.t H.p H.s a).toNat) (spotO H.t H.p H.s a)=true /\
     (H.cel (spotP H.t H.p H.s a).toNat 4).testBit (slotR H.t H.p H.s (H.Cl (spotP H.t H.p H.s a).toNat) (spotO H.t H.p H.s a)).toNat=true))
def R10:Prop:=∀ i,i<8->H.V (22+i)≠0->H.LiveAt (H.V (22+i):Int)
end AuH
end
section
def AuH.rule (H:AuH):Nat->Prop
 | 1=>H.Tiled
 | 2=>H.R3
 | 3=>H.R4
 | 4=>H.R5
 | 5=>∀ k,k<11->H.ListOk (2+k)
 | 6=>∀ k,k<9->H.ListOk (13+k)
 | 7=>H.R8
 | 8=>H.R9
 | 9=>H.R10
 | _=>True
def AuH.Told (H:AuH) (m:Nat) (b:Bool):Prop:=(b=true/\m=0/\∀ i,i<10->H.rule i)\/(b=false/\∃ k,m=k+1/\1<=k/\k<10/\(∀ i,i<k->H.rule i)/\¬ H.rule k)
theorem qHa (R:Nat->Prop):∀ n,(∀ i,i<n->R i)\/∃ k,k<n/\(∀ i,i<k->R i)/\¬ R k
 | 0 => .inl fun i h=>absurd h qo
 | n+1=>by
  rcases qHa R n with h|⟨k,h1,h2,h3⟩
  ·by_cases hn:R n
   ·exact .inl fun i hi=>by
     rcases Nat.lt_or_ge i n with h4|h4
     ·exact h i h4
     ·have:i=n:=qo
      subst this;exact hn
   ·exact .inr ⟨n,qo,h,hn⟩
  ·exact .inr ⟨k,qo,h2,h3⟩
theorem AuH.told_is (H:AuH):∃ m b,H.Told m b:=by
 rcases qHa H.rule 10 with h|⟨k,h1,h2,h3⟩
 ·exact⟨0,true,.inl ⟨rfl,rfl,h⟩⟩
 ·refine⟨k+1,false,.inr ⟨rfl,k,rfl,?_,h1,h2,h3⟩⟩
  rcases Nat.eq_zero_or_pos k with h6|h6
  ·subst h6;exact absurd trivial h3
  ·exact h6
end
end Go.Proofs.YtjjfcaliippgpaaGreatDoor
