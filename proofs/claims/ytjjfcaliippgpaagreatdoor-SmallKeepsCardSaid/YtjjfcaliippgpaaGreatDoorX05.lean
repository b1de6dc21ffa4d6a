/-
  Contracts of addr's and nacreref06's functions.
-/
import Derived.Test.YtjjfcaliippgpaaGreatDoorX04
import Derived.RegionTactic
import Derived.ChangeAlike
import Derived.BigQuiet
import Derived.Test.YtjjfcaliippgpaaGreatDoorXKit
import Derived.Deep.RegionHeld3
import Derived.Test.YtjjfcaliippgpaaGreatDoorX01
import Derived.RangeFuncNested
import Derived.RangeFuncBound
import Derived.RangeFuncLeaves
import Derived.Shelf.Abstract
import Derived.Shelf.RegionOpen
import Derived.WalkKit
import Derived.OwnWalkIn
import Derived.TacticsInMore
import Derived.LoopNIn
import Derived.LoopIn
import Derived.Laws.BitsAllLaws
import Derived.Laws.CopyOwn
import Derived.Laws.MakeOwn
import Derived.Deep.RegionLaw
namespace Go.Proofs.YtjjfcaliippgpaaGreatDoor
theorem RLK {P Q:Prop}(kq:Q)(h:HQ Q->P:=by
 intro kq
 obtain⟨z,hz⟩:∃ z,sizeN s k=z:=⟨_,rfl⟩
 have hz2:=hz ▸ qHU s k
 have h3:j*(z:Int)<=32*1048576:=Int.mul_le_mul qo qo qo qo
 have h4:0<=j*(z:Int):=Int.mul_nonneg qo qo
 have hA:=qUV (t:=t) (p:=p) (s:=s) (k:=k) (i:=i) (j:=j) qo
 rw[hz] at hA
 obtain⟨y,hy⟩:∃ y,j*(z:Int)=y:=⟨_,rfl⟩
 revert z hz hz2 h3 h4 hA y hy
 exact kq.o):P:=h ⟨kq⟩
theorem RQf {P Q:Prop}(kq:Q)(h:HQ Q->P:=by
 intro kq
 have HB:=qh (qPs (t:=t) (p:=p) (s:=s) (k:=k) (i:=i) (j:=j) qo)
 revert HB
 exact kq.o):P:=h ⟨kq⟩
theorem R6m {P Q:Prop}(kq:Q)(h:HQ Q->P:=by
 intro kq
 refine(qQx t p s a qo qo _).mono ?_
 rintro e w3 ⟨rfl,hb3⟩
 rw[HS.o,HP.o,HO.o]
 have hz3:=hz2.keep hb3
 revert w3 hb3 hz3
 exact kq.o):P:=h ⟨kq⟩
theorem RTo {P Q:Prop}(kq:Q)(h:HQ Q->P:=by
 intro kq
 have hc2:=((Held.drewN hc 1).keep hbl).keep hbl2
 have hz2:=((Held.drewN hz 1).keep hbl).keep hbl2
 have c3:=hc2.three
 revert hc2 hz2 c3
 exact kq.o):P:=h ⟨kq⟩
theorem RHu {P Q:Prop}(kq:Q)(h:HQ Q->P:=by
 intro kq
 go_at_call 163
 refine(qXb t p s _).mono ?_
 rintro e w' ⟨rfl,hbl⟩
 have hst:=qE1 hbl
 revert w' hbl hst
 exact kq.o):P:=h ⟨kq⟩
theorem MD6 {P:Prop}(h:P:=by
 rintro pos F A ⟨hi,hsz,hl,hk⟩ hsA hc
 have hlt:w.heap.size+1<A.heap.size:=(Array.getElem?_eq_some_iff.1 hl).1
 have hy:=run_yield (P:=P) (args:=enc pos) hl (by rw[hrec];exact hps pos)
 rw[hrec] at hy
 have hFl:¬ F (w.heap.size+1):=fun hf=>by obtain⟨o,ho,hoc⟩:=hIF pos F A hi _ hf;rw[hl] at ho;cases ho;cases hoc
 have hFk:¬ F w.heap.size:=fun hf=>by obtain⟨o,ho,hoc⟩:=hIF pos F A hi _ hf;rw[hk] at ho;cases ho;cases hoc
 refine⟨fn,_,assign,body,hy,roundIn_of_wpIn hfn (wpIn_mono (hround _ pos F A hc hi hsz) ?_)⟩
 rintro e a₁ A₁ hg1
 cases e with
 | normal =>
  obtain⟨hbA,hgo⟩:=hg1
  have hl1:=keepRow hbA hl
  have hk1:=keepRow hbA hk
  have hlt1:w.heap.size+1<A₁.heap.size:=(Array.getElem?_eq_some_iff.1 hl1).1
  refine⟨_,run_beginRound hl1 (by rw[hrec]),?_⟩
  obtain⟨A₂,hA₂⟩:∃ A₂,A₁.putObj (w.heap.size+1) (.loop { rec .ready none with state := .busy })=A₂:=⟨_,rfl⟩
  have hl2:A₂.heap[w.heap.size+1]?=some (.loop { rec .ready none with state := .busy }):=by rw[<- hA₂];exact World.putObj_heap_same hlt1
  have hk2:A₂.heap[w.heap.size]?=some (.deferred (some [])):=by rw[<- hA₂];exact(World.putObj_heap_other qo).trans hk1
  have hM2:Mild w.heap.size A₁ A₂:=by rw[<- hA₂];exact Mild.put _ qo hl1 rfl
  have hs2:A₂.heap.size=A₁.heap.size:=by rw[<- hA₂];simp
  have hrows:∀ k,W1.heap.size<=k->k<A.heap.size->A₂.heap[k]?=A.heap[k]?:=fun k h1 h2=>by
   rw[<- hA₂];exact(World.putObj_heap_other qo).trans (hbA.block k h2)
  rw[hA₂]
  refine wpIn_mono (hgo A₂ hM2 hs2) ?_
  have fin:∀ (jump:Option Code) (B:World),Turns F A₂ B->(Instr.endRound (w.heap.size+1) jump).run P B = .ok (.bool jump.isNone) (B.putObj (w.heap.size+1) (.loop (rec (if jump.isNone then .ready else .done) jump))) /\
    Mild w.heap.size B (B.putObj (w.heap.size+1) (.loop (rec (if jump.isNone then .ready else .done) jump))) /\
    (B.putObj (w.heap.size+1) (.loop (rec (if jump.isNone then .ready else .done) jump))).heap[w.heap.size+1]?=some (.loop (rec (if jump.isNone then .ready else .done) jump)) /\
    (B.putObj (w.heap.size+1) (.loop (rec (if jump.isNone then .ready else .done) jump))).heap[w.heap.size]?=some (.deferred (some [])):=fun jump B hT=>by
   have hl3:=(hT.block _ (Array.getElem?_eq_some_iff.1 hl2).1 hFl).trans hl2
   have hk3:=(hT.block _ (Array.getElem?_eq_some_iff.1 hk2).1 hFk).trans hk2
   have:=run_endRound (P:=P) jump hl3
   rw[hrec] at this ⊢
   exact⟨this,Mild.put _ qo hl3 rfl,World.putObj_heap_same (Array.getElem?_eq_some_iff.1 hl3).1,(World.putObj_heap_other qo).trans hk3⟩
  rintro e a3 B hp
  cases e with
  | normal =>
   obtain⟨hT,F',hi3,hF'⟩:=hp
   obtain⟨hr,hm,hl4,hk4⟩:=fin none B hT
   have hsB:A.heap.size<=B.heap.size:=by have:=hT.size;have:=hbA.size;omega
   refine⟨_,_,hr,.inl ⟨rfl,F',⟨hI _ _ _ _ hi3 hm,?_,hl4,hk4⟩,by simpa using hsB,fun k h1 h2 hf=>?_,hF'⟩⟩
   ·have:=hm.size;omega
   ·rw[World.putObj_heap_other qo,hT.block k (by have:=hbA.size;omega) hf];exact hrows k h1 h2
  | ret =>
   obtain⟨hT,hx⟩:=hp
   obtain⟨hr,hm,hl4,hk4⟩:=fin (some .ret) B hT
   exact⟨_,_,hr,.inr ⟨rfl,.ret,hIx _ _ _ hx hm,by have:=hm.size;have:=hT.size;have:=hbA.size;omega,hl4,hk4⟩⟩
  | exit id =>
   obtain⟨hT,hx⟩:=hp
   obtain⟨hr,hm,hl4,hk4⟩:=fin (some (.exit id)) B hT
   exact⟨_,_,hr,.inr ⟨rfl,.exit id,hIx _ _ _ hx hm,by have:=hm.size;have:=hT.size;have:=hbA.size;omega,hl4,hk4⟩⟩
  | goto t =>
   obtain⟨hT,hx⟩:=hp
   obtain⟨hr,hm,hl4,hk4⟩:=fin (some (.goto t)) B hT
   exact⟨_,_,hr,.inr ⟨rfl,.goto t,hIx _ _ _ hx hm,by have:=hm.size;have:=hT.size;have:=hbA.size;omega,hl4,hk4⟩⟩
  | panic ch=>exact hp.elim
  | outgrown=>exact hp.elim
 | exit id=>exact hg1.elim
 | goto t=>exact hg1.elim
 | ret=>exact hg1.elim
 | panic ch=>exact hg1.elim
 | outgrown=>exact hg1.elim):P:=h
theorem MXu {P:Prop}(h:P:=by
 rintro e B ⟨⟨v,rfl⟩,(⟨pos,F,⟨hi,hsz,hl,hk⟩,hc⟩|⟨c,hx,hsz,hl,hk⟩)⟩
 ·have hm:Mild w.heap.size B (B.putObj (w.heap.size+1) (.loop { rec .ready none with state := .exhausted })):=Mild.put _ qo hl rfl
  exact⟨none,_,by have:=run_endLoop (P:=P) hl (by rw[hrec];simp);rw[hrec] at this ⊢;exact this,hdone _ pos F _ (Nat.le_refl _) hc (hI _ _ _ _ hi hm) ((World.putObj_heap_other qo).trans hk)⟩
 ·have hm:Mild w.heap.size B (B.putObj (w.heap.size+1) (.loop { rec .done (some c) with state := .exhausted })):=Mild.put _ qo hl rfl
  exact⟨some c,_,by have:=run_endLoop (P:=P) hl (by rw[hrec];simp);rw[hrec] at this ⊢;exact this,wpIn_wide.2 (hstop _ c _ (Nat.le_refl _) (hIx _ _ _ hx hm) ((World.putObj_heap_other qo).trans hk))⟩):P:=h
theorem MGd {P:Prop}(h:P:=by
 have HB:=qh hB
 clear hz hn hE hB hRR hd hm
 go_enter Tryz.func112,Tryz.ntmps112
 go_wp2_with fail
 refine(qYr s k hk0 hk1 _ (HT.o.alloc _)).mono ?_
 rintro e w1 ⟨rfl,hb1⟩
 rw[HZ.o]
 have hc1:=hc.keep hb1
 have HT1:=qh ((HT.o.alloc _).below hb1)
 have c3:=hc1.three
 go_wp2_with fail
 refine(qI2 t p s _).mono ?_
 rintro e w2 ⟨rfl,hb2⟩
 rw[HK.o]
 have HT2:=qh (HT1.o.below hb2)
 go_wp2_with fail
 refine(qCz k hk0 hk1 _ HT2.o).mono ?_
 rintro e w3 ⟨rfl,rfl⟩
 rw[HN.o]
 go_wp2
 go_ret2
 refine⟨by rw[HR.o,HB.o];rfl,?_⟩
 all_goals exact blz):P:=h
theorem MR9 {P:Prop}(h:P:=by
 go_wp2
 go_ret2
 refine⟨by rw[HA.o,HB.o];rfl,?_⟩
 change Below w.heap.size w _
 have hbl:Below ((w.alloc (.cells #[.int .i64 t,.int .i64 p,.int .i64 s] 23)).alloc (.cells #[.int .i64 i,.int .i64 o] 177)).heap.size ((w.alloc (.cells #[.int .i64 t,.int .i64 p,.int .i64 s] 23)).alloc (.cells #[.int .i64 i,.int .i64 o] 177)) w':=qWG (n:=1) hbl
 all_goals exact blz):P:=h
theorem MQh {P:Prop}(h:P:=by
 clear hz hn hE hB
 exact MDl):P:=h
theorem MDl {P:Prop}(h:P:=by
 go_enter Tryz.func112,Tryz.ntmps112
 go_wp2_with fail
 refine(qYr s k hk0 hk1 _ (HT.o.alloc _)).mono ?_
 rintro e w1 ⟨rfl,hb1⟩
 rw[HZ.o]
 have hc1:=hc.keep hb1
 have HT1:=qh ((HT.o.alloc _).below hb1)
 have c3:=hc1.three
 go_wp2_with fail
 refine(qI2 t p s _).mono ?_
 rintro e w2 ⟨rfl,hb2⟩
 rw[HK.o]
 go_wp2
 go_ret2
 refine⟨by rw[HR.o,HB.o];rfl,?_⟩
 all_goals exact blz):P:=h
theorem MBl {P:Prop}(h:P:=by
 go_wp2
 refine bodyPost_ret (v := .tuple #[.agg #[.int .i64 0,.int .i64 0],.bool false]) (by simp[results,Tryz.results151,go_sem,z0,z1]) rfl ⟨?_,?_⟩
 ·rw[HN.o,HZ.o.1,HZ.o.2]
 all_goals exact blz):P:=h
theorem Mnr {P:Prop}(h:P:=by
 rcases Nat.lt_or_ge n 1024 with h3|h3
 ·refine⟨Nat.log2 n,?_,Nat.log2_self_le qo,Nat.lt_log2_self⟩
  have:=Nat.log2_lt (n:=n) (k:=10) qo
  have:=this.2 h3
  omega
 ·exact⟨10,qo,qo,qo⟩):P:=h
theorem M40 {P:Prop}(h:P:=by
 have:=heap_alloc_new (w.alloc (.deferred (some []))) (.loop (rec .ready none))
 rw[hW1] at this;simpa using this):P:=h
theorem MxG {P:Prop}(h:P:=by
 rintro e w1 ⟨rfl,rfl⟩
 rw[HN.o]
 exact M8V):P:=h
theorem Mfw {P:Prop}(h:P:=by
 rcases Nat.lt_or_ge (i+1) l.length with h|h
 ·exact h
 ·rw[List.getElem?_eq_none h] at h4;cases h4):P:=h
theorem M8V {P:Prop}(h:P:=by
 go_wp2
 go_ret2
 refine⟨by rw[HB.o.1,HB.o.2];rfl,?_⟩
 all_goals exact blz):P:=h
end Go.Proofs.YtjjfcaliippgpaaGreatDoor
set_option linter.unusedVariables false
set_option linter.unusedSimpArgs false
set_option maxRecDepth 100000
set_option maxHeartbeats 25600000
namespace Go.Proofs.YtjjfcaliippgpaaGreatDoor
open Go.ChangeShapes Go.WideShapes Go.ChangeAt Go.RowKit
section
theorem qEn (t p s a:Int)(g b:Nat)(hg:pageN t p s=g)(hb:bytesN t p s=b):spotB t p s a=decide ((g:Int)<=a/\a-g<(b:Int)):=by unfold spotB;rw[hg,hb]
theorem qTn {t p s:Int}{b:Nat}(hb:bytesN t p s=b)(h:0<b):∃ g:Nat,pageN t p s=g/\1024<=g/\g<=1048576:=by
 cases hr:rightB t p s
 ·have:=qNu hr;omega
 ·obtain⟨g,q,hg,_,_,_,_,g1,g2,_⟩:=qNo hr
  exact⟨g,hg,g1,g2⟩
theorem qZk (t p s:Int):pageN t p s<=1048576:=by
 cases hr:rightB t p s
 ·rw[qAf hr];omega
 ·obtain⟨g,q,hg,_,_,_,_,g1,g2,_⟩:=qNo hr
  omega
theorem qK5 (t p s:Int):bytesN t p s<=1073741824:=by
 cases hr:rightB t p s
 ·rw[qNu hr];omega
 ·obtain⟨g,q,_,_,hb,_,_,_,_,_,_,_,h⟩:=qNo hr
  omega

theorem qJV (i o:Int)(g:Nat)(w:World) :
  Calls Tryz.prog 162 #[.agg #[.int .i64 i,.int .i64 o],.int .i64 (g:Int)] w fun e w'=>e = .returned (.int .i64 (addrW i o g))/\Below w.heap.size w w':=by
 go_enter Tryz.func162,Tryz.ntmps162
 go_wp2
 go_ret
 refine⟨qYg ?_,?_⟩
 ·unfold addrW
  simp only[IntWalk.i64_left]
 ·repeat (first|exact B0 _|(with_reducible refine Bgo ?_ (by assumption))|(with_reducible refine Bdrew ?_)|(with_reducible refine Bdraw ?_ _)|(with_reducible refine Bnew ?_ _)|(with_reducible refine Bput ?_ (by first|(simp;done)|(simp;omega)) _))

theorem qQx (t p s a:Int)(h0 : -9223372036854775808<=a)(h1:a<=9223372036854775807)(w:World) :
  Calls Tryz.prog 151 #[.agg #[.int .i64 t,.int .i64 p,.int .i64 s],.int .i64 a] w fun e w'=>e = .returned (.tuple #[.agg #[.int .i64 (spotP t p s a),.int .i64 (spotO t p s a)],.bool (spotB t p s a)])/\Below w.heap.size w w':=by
 obtain⟨g,hg⟩:∃ g,pageN t p s=g:=⟨_,rfl⟩
 obtain⟨b,hb⟩:∃ b,bytesN t p s=b:=⟨_,rfl⟩
 have hE:=qEn t p s a g b hg hb
 have g2:=hg ▸ qZk t p s
 have b2:=hb ▸ qK5 t p s
 have HG:=qh hg
 have HB:=qh hb
 have hc:=(Held.new w 23 #[.int .i64 t,.int .i64 p,.int .i64 s]).alloc (.cells #[.int .i64 0,.int .i64 0] 177)
 have hz:=Held.new2 w (.cells #[.int .i64 t,.int .i64 p,.int .i64 s] 23) 177 #[.int .i64 0,.int .i64 0]
 by_cases c1:a<(g:Int)
 ·have hN:spotB t p s a=false:=by rw[hE,decide_eq_false_iff_not];omega
  have HN:=qh hN
  have HZ:=qh (qXE hN)
  clear hg hb hE hN
  go_enter Tryz.func151,Tryz.ntmps151
  go_wp2_with fail
  refine(qXb t p s _).mono ?_
  rintro e w1 ⟨rfl,hb1⟩
  rw[HG.o]
  obtain⟨z0,z1⟩:=(hz.keep hb1).two
  have f0:=(hz.keep hb1).thawed 0
  have f1:=(hz.keep hb1).thawed 1
  exact MBl
 ·by_cases c2:a-(g:Int)<(b:Int)
  ·have hY:spotB t p s a=true:=by rw[hE,decide_eq_true_iff];omega
   obtain⟨g',hg',g1,_⟩:=qTn hb qo
   have g1:1024<=g:=qo
   have hP:spotP t p s a=a / (g:Int)-1:=by unfold spotP;rw[if_pos hY,hg]
   have hO:spotO t p s a=a%(g:Int):=by unfold spotO;rw[if_pos hY,hg]
   have hpp:=qSv hY
   rw[hP,hO] at hpp
   obtain⟨_,_,a1,a2,⟨d1,d2⟩,o1,o2⟩:=hpp
   have q1:a.tdiv (g:Int)=a / (g:Int):=Int.tdiv_eq_ediv_of_nonneg qo
   have q2:a.tmod (g:Int)=a%(g:Int):=Int.tmod_eq_emod_of_nonneg qo
   obtain⟨d,hd⟩:∃ d,a / (g:Int)=d:=⟨_,rfl⟩
   obtain⟨m,hm⟩:∃ m,a%(g:Int)=m:=⟨_,rfl⟩
   rw[hd] at hP d1 d2 q1
   rw[hm] at hO o1 o2 q2
   have HY:=qh hY
   have HP:=qh hP
   have HO:=qh hO
   have g3:¬ g=0:=qo
   have g4:((g:Int)==0)=false:=qs
   clear hg hb hE hY hP hO hg' hd hm
   go_enter Tryz.func151,Tryz.ntmps151
   go_wp2_with fail
   refine(qXb t p s _).mono ?_
   rintro e w1 ⟨rfl,hb1⟩
   rw[HG.o]
   have hc1:=hc.keep hb1
   obtain⟨x0,x1,x2⟩:=hc1.three
   go_wp2_with fail
   refine(qDF t p s _).mono ?_
   rintro e w2 ⟨rfl,hb2⟩
   rw[HB.o]
   obtain⟨z0,z1⟩:=((hz.keep hb1).keep hb2).two
   have f0:=((hz.keep hb1).keep hb2).thawed 0
   have f1:=((hz.keep hb1).keep hb2).thawed 1
   go_wp2
   go_region
   go_wp2
   refine bodyPost_ret (v := .tuple #[.agg #[.int .i64 (d-1),.int .i64 m],.bool true]) (by simp[results,Tryz.results151,go_sem,z0,z1]) rfl ⟨?_,?_⟩
   ·rw[HY.o,HP.o,HO.o]
   all_goals exact blz
  ·have hN:spotB t p s a=false:=by rw[hE,decide_eq_false_iff_not];omega
   have HN:=qh hN
   have HZ:=qh (qXE hN)
   clear hg hb hE hN
   go_enter Tryz.func151,Tryz.ntmps151
   go_wp2_with fail
   refine(qXb t p s _).mono ?_
   rintro e w1 ⟨rfl,hb1⟩
   rw[HG.o]
   have hc1:=hc.keep hb1
   obtain⟨x0,x1,x2⟩:=hc1.three
   go_wp2_with fail
   refine(qDF t p s _).mono ?_
   rintro e w2 ⟨rfl,hb2⟩
   rw[HB.o]
   obtain⟨z0,z1⟩:=((hz.keep hb1).keep hb2).two
   have f0:=((hz.keep hb1).keep hb2).thawed 0
   have f1:=((hz.keep hb1).keep hb2).thawed 1
   exact MBl

theorem qHr (i o:Int)(g:Nat) : -9223372036854775808<=addrW i o g/\addrW i o g<=9223372036854775807:=by
 unfold addrW
 generalize IntKind.i64.wrap (IntKind.i64.wrap (i+1)*(g:Int))+o=x
 exact MNi

theorem qD3 (t p s i o:Int)(h:addrB t p s i o=true)(w:World) :
  Calls Tryz.prog 117 #[.agg #[.int .i64 t,.int .i64 p,.int .i64 s],.int .i64 i,.int .i64 o] w fun e w'=>e = .returned (.tuple #[.int .i64 (addrI t p s i o),.bool (addrB t p s i o)])/\Below w.heap.size w w':=by
 obtain⟨a,ha⟩:∃ a,addrI t p s i o=a:=⟨_,rfl⟩
 have hy:=qNk h
 rw[ha] at hy
 have HY:=qh hy
 have HA:=qh ha
 have HB:=qh h
 obtain⟨_,_,_,_,a1,a2⟩:=hy
 clear ha h
 have hc:=(Held.new w 23 #[.int .i64 t,.int .i64 p,.int .i64 s]).alloc (.cells #[.int .i64 i,.int .i64 o] 177)
 have hz:=Held.new2 w (.cells #[.int .i64 t,.int .i64 p,.int .i64 s] 23) 177 #[.int .i64 i,.int .i64 o]
 go_enter Tryz.func117,Tryz.ntmps117
 go_wp2_with fail
 have c3:=hc.three
 have c2:=hz.two
 go_region_held3 (fun w'=>w'.cell? ⟨w.heap.size,0,none⟩=some (.int .i64 t)/\w'.cell? ⟨w.heap.size,1,none⟩=some (.int .i64 p)/\w'.cell? ⟨w.heap.size,2,none⟩=some (.int .i64 s)/\w'.cell? ⟨w.heap.size+1,0,none⟩=some (.int .i64 i)/\w'.cell? ⟨w.heap.size+1,1,none⟩=some (.int .i64 o))
  (first|exact⟨c3.1,c3.2.1,c3.2.2,c2.1,c2.2⟩|go_keep|exact⟨hst _ _ (by assumption),hst _ _ (by assumption),hst _ _ (by assumption),hst _ _ (by assumption),hst _ _ (by assumption)⟩)
  (first
   | (refine RHu ?_;intro w' hbl hst)
   | (go_at_call 162;refine(qJV i o (pageN t p s) _).mono ?_;rintro e w'' ⟨rfl,hbl2⟩;rw[HY.o.1];have hst:=qE1 hbl2))
 have hc2:=((Held.drewN hc 1).keep hbl).keep hbl2
 have hz2:=((Held.drewN hz 1).keep hbl).keep hbl2
 clear c3 c2
 have c3:=hc2.three
 go_wp2_with fail
 refine(qQx t p s a qo qo _).mono ?_
 rintro e w3 ⟨rfl,hb3⟩
 rw[HY.o.2.1,HY.o.2.2.1,HY.o.2.2.2.1]
 have hz3:=hz2.keep hb3
 obtain⟨y0,y1⟩:=(hz3.alloc (.cells #[.int .i64 i,.int .i64 o] 177)).two
 go_wp2
 go_ret2
 refine⟨by rw[HA.o,HB.o];rfl,?_⟩
 change Below w.heap.size w _
 have hbl:Below ((w.alloc (.cells #[.int .i64 t,.int .i64 p,.int .i64 s] 23)).alloc (.cells #[.int .i64 i,.int .i64 o] 177)).heap.size ((w.alloc (.cells #[.int .i64 t,.int .i64 p,.int .i64 s] 23)).alloc (.cells #[.int .i64 i,.int .i64 o] 177)) w':=qWG (n:=1) hbl
 all_goals exact blz

theorem qJg (t p s i o:Int)(h:addrB t p s i o=false)(w:World) :
  Calls Tryz.prog 117 #[.agg #[.int .i64 t,.int .i64 p,.int .i64 s],.int .i64 i,.int .i64 o] w fun e w'=>e = .returned (.tuple #[.int .i64 (addrI t p s i o),.bool (addrB t p s i o)])/\Below w.heap.size w w':=by
 obtain⟨a,ha⟩:∃ a,addrW i o (pageN t p s)=a:=⟨_,rfl⟩
 have hr:=qHr i o (pageN t p s)
 rw[ha] at hr
 obtain⟨a1,a2⟩:=hr
 have HW:=qh ha
 have HA:=qh (qZ3 h)
 have HB:=qh h
 have hc:=(Held.new w 23 #[.int .i64 t,.int .i64 p,.int .i64 s]).alloc (.cells #[.int .i64 i,.int .i64 o] 177)
 have hz:=Held.new2 w (.cells #[.int .i64 t,.int .i64 p,.int .i64 s] 23) 177 #[.int .i64 i,.int .i64 o]
 cases hs:spotB t p s a
 ·obtain⟨z1,z2⟩:=qXE hs
  have HS:=qh hs
  have HP:=qh z1
  have HO:=qh z2
  clear ha h hs z1 z2
  go_enter Tryz.func117,Tryz.ntmps117
  go_wp2_with fail
  have c3:=hc.three
  have c2:=hz.two
  go_region_held3 (fun w'=>w'.cell? ⟨w.heap.size,0,none⟩=some (.int .i64 t)/\w'.cell? ⟨w.heap.size,1,none⟩=some (.int .i64 p)/\w'.cell? ⟨w.heap.size,2,none⟩=some (.int .i64 s)/\w'.cell? ⟨w.heap.size+1,0,none⟩=some (.int .i64 i)/\w'.cell? ⟨w.heap.size+1,1,none⟩=some (.int .i64 o))
   (first|exact⟨c3.1,c3.2.1,c3.2.2,c2.1,c2.2⟩|go_keep|exact⟨hst _ _ (by assumption),hst _ _ (by assumption),hst _ _ (by assumption),hst _ _ (by assumption),hst _ _ (by assumption)⟩)
   (first
    | (refine RHu ?_;intro w' hbl hst)
    | (go_at_call 162;refine(qJV i o (pageN t p s) _).mono ?_;rintro e w'' ⟨rfl,hbl2⟩;rw[HW.o];have hst:=qE1 hbl2))
  refine RTo ?_;clear c3 c2;intro hc2 hz2 c3
  go_wp2_with fail
  refine R6m ?_;intro w3 hb3 hz3
  obtain⟨y0,y1⟩:=(hz3.alloc (.cells #[.int .i64 0,.int .i64 0] 177)).two
  exact MR9
 ·have hne:=qLe h hs
  obtain⟨d,hd⟩:∃ d,spotP t p s a=d:=⟨_,rfl⟩
  obtain⟨m,hm⟩:∃ m,spotO t p s a=m:=⟨_,rfl⟩
  rw[hd,hm] at hne
  have HS:=qh hs
  have HP:=qh hd
  have HO:=qh hm
  clear ha h hs hd hm
  by_cases hdi:d=i
  ·subst hdi
   have hmo:¬ m=o:=fun h=>hne ⟨rfl,h⟩
   have hmo2:(m==o)=false:=by simpa using hmo
   clear hne
   go_enter Tryz.func117,Tryz.ntmps117
   go_wp2_with fail
   have c3:=hc.three
   have c2:=hz.two
   go_region_held3 (fun w'=>w'.cell? ⟨w.heap.size,0,none⟩=some (.int .i64 t)/\w'.cell? ⟨w.heap.size,1,none⟩=some (.int .i64 p)/\w'.cell? ⟨w.heap.size,2,none⟩=some (.int .i64 s)/\w'.cell? ⟨w.heap.size+1,0,none⟩=some (.int .i64 d)/\w'.cell? ⟨w.heap.size+1,1,none⟩=some (.int .i64 o))
    (first|exact⟨c3.1,c3.2.1,c3.2.2,c2.1,c2.2⟩|go_keep|exact⟨hst _ _ (by assumption),hst _ _ (by assumption),hst _ _ (by assumption),hst _ _ (by assumption),hst _ _ (by assumption)⟩)
    (first
     | (refine RHu ?_;intro w' hbl hst)
     | (go_at_call 162;refine(qJV d o (pageN t p s) _).mono ?_;rintro e w'' ⟨rfl,hbl2⟩;rw[HW.o];have hst:=qE1 hbl2))
   refine RTo ?_;clear c3 c2;intro hc2 hz2 c3
   go_wp2_with fail
   refine R6m ?_;intro w3 hb3 hz3
   obtain⟨y0,y1⟩:=(hz3.alloc (.cells #[.int .i64 d,.int .i64 m] 177)).two
   go_wp2
   go_ret2
   refine⟨by rw[HA.o,HB.o];rfl,?_⟩
   change Below w.heap.size w _
   have hbl:Below ((w.alloc (.cells #[.int .i64 t,.int .i64 p,.int .i64 s] 23)).alloc (.cells #[.int .i64 d,.int .i64 o] 177)).heap.size ((w.alloc (.cells #[.int .i64 t,.int .i64 p,.int .i64 s] 23)).alloc (.cells #[.int .i64 d,.int .i64 o] 177)) w':=qWG (n:=1) hbl
   all_goals exact blz
  ·have hdi2:(d==i)=false:=by simpa using hdi
   clear hne
   go_enter Tryz.func117,Tryz.ntmps117
   go_wp2_with fail
   have c3:=hc.three
   have c2:=hz.two
   go_region_held3 (fun w'=>w'.cell? ⟨w.heap.size,0,none⟩=some (.int .i64 t)/\w'.cell? ⟨w.heap.size,1,none⟩=some (.int .i64 p)/\w'.cell? ⟨w.heap.size,2,none⟩=some (.int .i64 s)/\w'.cell? ⟨w.heap.size+1,0,none⟩=some (.int .i64 i)/\w'.cell? ⟨w.heap.size+1,1,none⟩=some (.int .i64 o))
    (first|exact⟨c3.1,c3.2.1,c3.2.2,c2.1,c2.2⟩|go_keep|exact⟨hst _ _ (by assumption),hst _ _ (by assumption),hst _ _ (by assumption),hst _ _ (by assumption),hst _ _ (by assumption)⟩)
    (first
     | (refine RHu ?_;intro w' hbl hst)
     | (go_at_call 162;refine(qJV i o (pageN t p s) _).mono ?_;rintro e w'' ⟨rfl,hbl2⟩;rw[HW.o];have hst:=qE1 hbl2))
   refine RTo ?_;clear c3 c2;intro hc2 hz2 c3
   go_wp2_with fail
   refine R6m ?_;intro w3 hb3 hz3
   obtain⟨y0,y1⟩:=(hz3.alloc (.cells #[.int .i64 d,.int .i64 m] 177)).two
   exact MR9

theorem qRR (t p s i o:Int)(w:World) :
  Calls Tryz.prog 117 #[.agg #[.int .i64 t,.int .i64 p,.int .i64 s],.int .i64 i,.int .i64 o] w fun e w'=>e = .returned (.tuple #[.int .i64 (addrI t p s i o),.bool (addrB t p s i o)])/\Below w.heap.size w w':=by
 cases h:addrB t p s i o
 ·exact h ▸ qJg t p s i o h w
 ·exact h ▸ qD3 t p s i o h w
end
section
theorem qRN (t p s a:Int)(h0 : -9223372036854775808<=a)(h1:a<=9223372036854775807)(w:World) :
  Calls Tryz.prog 111 #[.agg #[.int .i64 t,.int .i64 p,.int .i64 s],.int .i64 a] w fun e w'=>e = .returned (.tuple #[.int .i64 (spotP t p s a),.int .i64 (spotO t p s a),.bool (spotB t p s a)])/\Below w.heap.size w w':=by
 go_enter Tryz.func111,Tryz.ntmps111
 go_wp2_with fail
 refine(qQx t p s a h0 h1 _).mono ?_
 rintro e w1 ⟨rfl,hb1⟩
 go_wp2
 go_region
 all_goals
  go_wp2
  refine bodyPost_ret (v := .tuple #[.int .i64 (spotP t p s a),.int .i64 (spotO t p s a),.bool (spotB t p s a)]) (by simp[results,Tryz.results111,go_sem]) rfl ⟨rfl,?_⟩
  all_goals exact blz

theorem qPv (t p s k o:Int)(hk0 : -9223372036854775808<=k)(hk1:k<=9223372036854775807)(ho0 : -9223372036854775808<=o)(ho1:o<=9223372036854775807)(w:World)(hT:SlotsLaid w) :
  Calls Tryz.prog 112 #[.agg #[.int .i64 t,.int .i64 p,.int .i64 s],.int .i64 k,.int .i64 o] w fun e w'=>e = .returned (.tuple #[.int .i64 (slotR t p s k o),.bool (slotB t p s k o)])/\Below w.heap.size w w':=by
 have HT:=qh hT
 have hc:=Held.new w 23 #[.int .i64 t,.int .i64 p,.int .i64 s]
 clear hT
 obtain⟨z,hz⟩:∃ z,sizeN s k=z:=⟨_,rfl⟩
 obtain⟨n,hn⟩:∃ n,slotI k=n:=⟨_,rfl⟩
 have hz2:=hz ▸ qHU s k
 have hn2:=hn ▸ qWU k
 have hE:slotB t p s k o=(rightB t p s&&decide (0<z/\0<=o/\o%(z:Int)=0/\o / (z:Int)<(n:Int))):=by unfold slotB;rw[hz,hn]
 have HZ:=qh hz
 have HN:=qh hn
 cases hr:rightB t p s
 ·have HK:=qh (qFe hr)
  have hB:slotB t p s k o=false:=by rw[hE,hr];rfl
  have HR:=qh (qMc hB)
  have HB:=qh hB
  clear hz hn hE hr hB
  exact MDl
 ·have HK:=qh (qU9 hr)
  rw[hr,Bool.true_and] at hE
  clear hr
  by_cases c1:z=0
  ·have hB:slotB t p s k o=false:=by rw[hE,decide_eq_false_iff_not];omega
   have HR:=qh (qMc hB)
   have HB:=qh hB
   subst c1
   exact MQh
  ·have z1:((z:Int)==0)=false:=by simpa using c1
   by_cases c2:o<0
   ·have hB:slotB t p s k o=false:=by rw[hE,decide_eq_false_iff_not];omega
    have HR:=qh (qMc hB)
    have HB:=qh hB
    exact MQh
   ·have q1:o.tdiv (z:Int)=o / (z:Int):=Int.tdiv_eq_ediv_of_nonneg qo
    have q2:o.tmod (z:Int)=o%(z:Int):=Int.tmod_eq_emod_of_nonneg qo
    have m0:=Int.emod_nonneg o (show (z:Int)≠0 by omega)
    have m1:=Int.emod_lt_of_pos o (show (0:Int)<z by omega)
    have d0:=Int.ediv_nonneg (a:=o) (b:=(z:Int)) qo qo
    have d1:o / (z:Int)<=o:=Int.ediv_le_self _ qo
    have hRR:slotB t p s k o=true->slotR t p s k o=o / (z:Int):=fun h=>by unfold slotR;rw[if_pos h,hz]
    obtain⟨d,hd⟩:∃ d,o / (z:Int)=d:=⟨_,rfl⟩
    obtain⟨m,hm⟩:∃ m,o%(z:Int)=m:=⟨_,rfl⟩
    rw[hd] at q1 d0 d1 hE hRR
    rw[hm] at q2 m0 m1 hE
    by_cases c3:m=0
    ·have m3:(m != 0)=false:=by simpa using c3
     by_cases c4:d<(n:Int)
     ·have hB:slotB t p s k o=true:=by rw[hE,decide_eq_true_iff];omega
      have HR:=qh (hRR hB)
      exact MGd
     ·have hB:slotB t p s k o=false:=by rw[hE,decide_eq_false_iff_not];omega
      have HR:=qh (qMc hB)
      exact MGd
    ·have m3:(m != 0)=true:=by simpa using c3
     have hB:slotB t p s k o=false:=by rw[hE,decide_eq_false_iff_not];omega
     have HR:=qh (qMc hB)
     have HB:=qh hB
     clear hz hn hE hB hRR hd hm
     exact MDl

theorem qSa (t p s k i j:Int)(hk0 : -9223372036854775808<=k)(hk1:k<=9223372036854775807)(w:World)(hT:SlotsLaid w) :
  Calls Tryz.prog 80 #[.agg #[.int .i64 t,.int .i64 p,.int .i64 s],.int .i64 k,.int .i64 i,.int .i64 j] w fun e w'=>e = .returned (.tuple #[.int .i64 (atI t p s k i j),.bool (atB t p s k i j)])/\Below w.heap.size w w':=by
 have HT:=qh hT
 have hc:=Held.new w 23 #[.int .i64 t,.int .i64 p,.int .i64 s]
 clear hT
 obtain⟨n,hn⟩:∃ n,slotI k=n:=⟨_,rfl⟩
 have hn2:=hn ▸ qWU k
 have HN:=qh hn
 by_cases c1:j<0
 ·refine RQf ?_;intro HB
  clear hn
  go_enter Tryz.func80,Tryz.ntmps80
  exact M8V
 ·by_cases c2:j<(n:Int)
  ·refine RLK ?_;intro z hz hz2 h3 h4 hA y hy
   rw[hy] at h3 h4 hA
   have HA:=qh hA
   have HY:=qh hy
   have HZ:=qh hz
   have HWR:=qh (qIv (x:=y) qo qo)
   clear hz hy hA hn
   go_enter Tryz.func80,Tryz.ntmps80
   go_wp2_with fail
   refine(qCz k hk0 hk1 _ (HT.o.alloc _)).mono ?_
   rintro e w1 ⟨rfl,rfl⟩
   rw[HN.o]
   have HT1:=qh (HT.o.alloc (.cells #[.int .i64 t,.int .i64 p,.int .i64 s] 23))
   have c3:=hc.three
   go_wp2_with fail
   go_region_held3 (fun w'=>w'.cell? ⟨w.heap.size,0,none⟩=some (.int .i64 t)/\w'.cell? ⟨w.heap.size,1,none⟩=some (.int .i64 p)/\w'.cell? ⟨w.heap.size,2,none⟩=some (.int .i64 s))
    (first|exact⟨c3.1,c3.2.1,c3.2.2⟩|go_keep|exact⟨hst _ _ (by assumption),hst _ _ (by assumption),hst _ _ (by assumption)⟩)
    (first
     | (go_at_call 118;refine(qYr s k hk0 hk1 _ (HT1.o.drewN _)).mono ?_;rintro e w' ⟨rfl,hbl⟩;rw[HZ.o];have hst:=qE1 hbl)
     | (go_at_call 117;rw[HY.o,HWR.o];refine(qRR t p s i y _).mono ?_;rintro e w'' ⟨rfl,hbl2⟩;have hst:=qE1 hbl2))
   go_wp2
   go_ret2
   refine⟨by rw[HA.o.1,HA.o.2];rfl,?_⟩
   all_goals exact blz
  ·refine RQf ?_;intro HB
   clear hn
   go_enter Tryz.func80,Tryz.ntmps80
   go_wp2_with fail
   refine(qCz k hk0 hk1 _ (HT.o.alloc _)).mono ?_
   exact MxG
end
section
theorem Held.drew {w:World}{g:Nat}{t:TypeId}{cs:Array Value}(h:Held w g t cs):Held w.drew g t cs:=h
structure HeapV (H:AuH) (n c:Nat):Prop where
 right:rightB H.t H.p H.s=true
 len:n=30+4*H.t+6*H.p
 cap:n<=c
 max:c<=maxLen
 lt:∀ i,i<n->H.V i<2^32
def IsVals (w:World) (ad:Addr) (n:Nat) (V:Nat->Nat):Prop:=ad.block<w.heap.size/\∀ i,i<n->w.cell? (ad.add i)=some (.int .u32 (V i:Nat))
theorem IsVals.below {w w':World}{ad:Addr}{n:Nat}{V:Nat->Nat}(h:IsVals w ad n V)(hb:Below w.heap.size w w'):IsVals w' ad n V :=
 ⟨Nat.lt_of_lt_of_le h.1 hb.size,fun i hi=>by
  have e:(ad.add i).block<w.heap.size:=by rw[qXL];exact h.1
  exact(hb.cell e).trans (h.2 i hi)⟩
theorem IsVals.drew {w:World}{ad:Addr}{n:Nat}{V:Nat->Nat}(h:IsVals w ad n V):IsVals w.drew ad n V:=h
theorem HeapV.nums {H:AuH}{n c:Nat}(h:HeapV H n c):1<=H.t/\H.t<=16/\4<=H.p/\H.p<=1024/\10<=H.s/\H.s<=20/\n<=6238/\n<=c/\c<=maxLen:=by
 have h1:=(qQB _ _ _).1 h.right
 have h2:=h.len
 have h3:=h.cap
 have h4:=h.max
 omega
theorem HeapV.cel_lt {H:AuH}{n c:Nat}(h:HeapV H n c){q b:Nat}(hq:q<H.p)(hb:b<6):H.cel q b<2^32:=h.lt _ (by have:=h.len;omega)
theorem HeapV.page {H:AuH}{n c:Nat}(h:HeapV H n c){q b:Nat}(hq:q<H.p)(hb:b<6):pageI H.t H.p H.s q b=((30+4*H.t+6*q+b:Nat):Int):=by
 rw[qKF h.right qo qo qo qo]
 push_cast
 omega
def hpV (H:AuH) (ad:Addr) (n c:Nat):Value := .agg #[.int .i64 (H.t:Int),.int .i64 (H.p:Int),.int .i64 (H.s:Int),.slice (some ad) n c]
end
open Go.Maps
section
abbrev inR (l:Nat):Fence:=Fence.wide.inRound l
section
variable {P : Program} {ops : Array Oper} {Q : Exit -> Act -> World -> Prop} {md : Region.Mode} {l n : Nat}
theorem qLB {f:FuncId}{args:Array Value}{w:World}{R:Ending->World->Prop}(h:Calls P f args w R):CallsIn (inR l) n P f args w R:=CallsIn.inRound l (callsIn_wide.2 h)
end

structure Mild (D:Nat) (w w':World):Prop where
 os:w'.os=w.os
 tape:w'.tape=w.tape
 output:w'.output=w.output
 size:w.heap.size<=w'.heap.size
 low:∀ k,k<D->w'.heap[k]?=w.heap[k]?
 cells:∀ (k:Nat) (o:Obj),w.heap[k]?=some o->o.isCells=true->w'.heap[k]?=some o
section
variable {D : Nat} {w w' w'' : World}
theorem Mild.of_below (hD:D<=w.heap.size)(h:Below w.heap.size w w'):Mild D w w' :=
 ⟨h.os,h.tape,h.output,h.size,fun k hk=>h.block k qo,fun k o hk _=>(h.block k (Array.getElem?_eq_some_iff.1 hk).1).trans hk⟩
theorem Mild.put {l:Nat}{o:Obj}(o':Obj)(hl:D<=l)(h:w.heap[l]?=some o)(ho:o.isCells=false):Mild D w (w.putObj l o') :=
 ⟨rfl,rfl,rfl,by simp,fun k hk=>World.putObj_heap_other qo,fun k o2 hk ho2=>by
  by_cases e:k=l
  ·subst e;rw[h] at hk;cases hk;rw[ho] at ho2;cases ho2
  ·exact(World.putObj_heap_other e).trans hk⟩
theorem Mild.held {g:Nat}{t:TypeId}{cs:Array Value}(h:Mild D w w')(hg:Held w g t cs):Held w' g t cs:=h.cells g _ hg rfl
end

def SeqAt (P:Program) (gf:Nat) (bound:Array Value) (enc:Nat->Array Value) (can:Nat->Bool) (next:Nat->Nat) (w0:World):Prop :=
 ∀ (l:Nat) (J:Nat->(Nat->Prop)->World->Prop) (Jx:World->Prop) (W:World) (F0:Nat->Prop),Below w0.heap.size w0 W ->
  (∀ pos F A B,J pos F A->Below A.heap.size A B->J pos F B)->(∀ A B,Jx A->Below A.heap.size A B->Jx B) ->
  (∀ pos F A,J pos F A->Below w0.heap.size w0 A)->(∀ pos F A,J pos F A->∀ i,F i->i<A.heap.size) ->
  (∀ pos F A,J pos F A->W.heap.size<=A.heap.size->can pos=true->YieldAt Fence.wide 0 P l (enc pos) A fun e B =>
   (e = .returned (.bool true)/\∃ F',J (next pos) F' B/\A.heap.size<=B.heap.size/\(∀ k,W.heap.size<=k->k<A.heap.size->¬ F k->B.heap[k]?=A.heap[k]?)/\∀ i,F' i->F i\/A.heap.size<=i) \/
   (e = .returned (.bool false)/\Jx B)) ->
  J 0 F0 W ->
  CallsIn Fence.wide 0 P gf (bound ++ #[.func (.yield l) #[] #[]]) W fun e B=>(∃ v,e = .returned v)/\((∃ pos F,J pos F B/\can pos=false)\/Jx B)

def seqPost (I:Nat->(Nat->Prop)->World->Prop) (Ix:Code->World->Prop) (pos:Nat) (F:Nat->Prop) (N:Nat) (A:World):Exit->Act->World->Prop
 | .normal,_,B=>Turns F A B/\∃ F',I pos F' B/\∀ i,F' i->F i\/N<=i
 | .ret,_,B=>Turns F A B/\Ix .ret B
 | .exit id,_,B=>Turns F A B/\Ix (.exit id) B
 | .goto t,_,B=>Turns F A B/\Ix (.goto t) B
 | .panic _,_,_=>False
 | .outgrown,_,_=>False

def RoundGo (D:Nat) (P:Program) (l:Nat) (body:Code) (Q:World->Exit->Act->World->Prop) (A:World) (a₁:Act) (A₁:World):Prop :=
 Below A.heap.size A A₁/\∀ A₂,Mild D A₁ A₂->A₂.heap.size=A₁.heap.size->body.wpIn (inR l) 0 P (Q A₂) a₁ A₂

def mark (D:Nat):Deferred := { target := .collected D,args:=#[] }

theorem qNg {P:Program}{g:Operand}{ps:Array Tmp}{assign body:Code}{Q:Exit->Act->World->Prop}{a:Act}{w:World}{gf:Nat}{bound:Array Value}
  (hg:a.eval g = .func (.func gf) bound #[]) (eg:∀ args w,(callFunc gf args).run P w = .ok (.enter gf args) w)
  {enc:Nat->Array Value} {can:Nat->Bool} {next:Nat->Nat} {w0:World} (hseq:SeqAt P gf bound enc can next w0) (hb0:Below w0.heap.size w0 w) (hps:∀ pos,(enc pos).size=ps.size)
  (I:Nat->(Nat->Prop)->World->Prop) (Ix:Code->World->Prop)
  (hI:∀ pos F A B,I pos F A->Mild w.heap.size A B->I pos F B) (hIx:∀ c A B,Ix c A->Mild w.heap.size A B->Ix c B)
  (hIB:∀ pos F A,I pos F A->Below w0.heap.size w0 A) (hIF:∀ pos F A,I pos F A->∀ i,F i->∃ o,A.heap[i]?=some o/\o.isCells=true)
  {F0:Nat->Prop} (h0:I 0 F0 w)
  (hround:∀ (l pos:Nat) (F:Nat->Prop) (A:World),can pos=true->I pos F A->w.heap.size<=A.heap.size ->
   assign.wpIn (inR l) 0 P (Exit.then (RoundGo w.heap.size P l body (seqPost I Ix (next pos) F A.heap.size) A) (fun _ _ _=>False))
    { tmps:=(ps.zip (enc pos)).foldl (fun t (p,v)=>t.setIfInBounds p v) a.tmps,defers := [] } A)
  (hdone:∀ (D pos:Nat) (F:Nat->Prop) (A:World),w.heap.size<=D->can pos=false->I pos F A->A.heap[D]?=some (.deferred (some []))->Q .normal { a with defers:=mark D :: a.defers } A)
  (hstop:∀ (D:Nat) (c:Code) (A:World),w.heap.size<=D->Ix c A->A.heap[D]?=some (.deferred (some []))->c.wp P Q { a with defers:=mark D :: a.defers } A) :
  (Code.rangeFunc g ps assign body).wp P Q a w:=by
 refine(wpIn_wide (n:=1)).1 (wpIn_rangeFunc ?_)
 intro fn hfn
 obtain⟨rec,hrec⟩:∃ rec:LoopState->Option Code->Loop,rec=fun st pe => { state:=st,pending:=pe,fn,tmps:=a.tmps,params:=ps,assign,body,defers:=w.heap.size }:=⟨_,rfl⟩
 obtain⟨W1,hW1⟩:∃ W1,(w.alloc (.deferred (some []))).alloc (.loop (rec .ready none))=W1:=⟨_,rfl⟩
 have hbw:Below w.heap.size w W1:=by rw[<- hW1];exact Bnew (Bnew (B0 w) _) _
 have hs1:W1.heap.size=w.heap.size+2:=by rw[<- hW1];simp
 have hL1:W1.heap[w.heap.size+1]?=some (.loop (rec .ready none)):=by
  exact M40
 have hK1:W1.heap[w.heap.size]?=some (.deferred (some [])):=by
  rw[<- hW1];exact(Below.heap_alloc _ _ _ (by simp)).trans (heap_alloc_new w _)
 refine⟨w.heap.size+1,[mark w.heap.size],W1,{ target := .fn (.func gf) #[],args:=bound ++ #[.func (.yield (w.heap.size+1)) #[] #[]] },W1,gf,bound ++ #[.func (.yield (w.heap.size+1)) #[] #[]],W1,?_,?_,?_,?_,fun _=>Nat.le_refl _,?_⟩
 ·rw[<- hW1,hrec];exact run_enterLoop_outer _ _ _ _ _
 ·simp only[resolve,hg]
  simp[go_sem]
 ·intro f' hf';exact trivial
 ·simp[invoke,go_sem,eg]
 ·have keepRow:∀ {A B:World} {k:Nat} {o:Obj},Below A.heap.size A B->A.heap[k]?=some o->B.heap[k]?=some o:=fun hb hk=>(hb.block _ (Array.getElem?_eq_some_iff.1 hk).1).trans hk
  refine(hseq (w.heap.size+1)
   (fun pos F A=>I pos F A/\w.heap.size<=A.heap.size/\A.heap[w.heap.size+1]?=some (.loop (rec .ready none))/\A.heap[w.heap.size]?=some (.deferred (some [])))
   (fun A=>∃ c,Ix c A/\w.heap.size<=A.heap.size/\A.heap[w.heap.size+1]?=some (.loop (rec .done (some c)))/\A.heap[w.heap.size]?=some (.deferred (some [])))
   W1 F0 (hb0.trans (hbw.mono hb0.size))
   (fun pos F A B h hb=>⟨hI pos F A B h.1 (Mild.of_below h.2.1 hb),Nat.le_trans h.2.1 hb.size,keepRow hb h.2.2.1,keepRow hb h.2.2.2⟩)
   (fun A B h hb=>by obtain⟨c,h1,h2,h3,h4⟩:=h;exact⟨c,hIx c A B h1 (Mild.of_below h2 hb),Nat.le_trans h2 hb.size,keepRow hb h3,keepRow hb h4⟩)
   (fun pos F A h=>hIB pos F A h.1)
   (fun pos F A h i hi=>by obtain⟨o,ho,_⟩:=hIF pos F A h.1 i hi;exact(Array.getElem?_eq_some_iff.1 ho).1)
   ?_ ⟨hI 0 F0 w W1 h0 (Mild.of_below (Nat.le_refl _) hbw),hbw.size,hL1,hK1⟩).mono ?_
  ·exact MD6
  ·exact MXu

def noPanic (Q:Exit->Act->World->Prop):Exit->Act->World->Prop
 | .panic _,_,_=>False
 | .outgrown,_,_=>False
 | .normal,a,w=>Q .normal a w
 | .ret,a,w=>Q .ret a w
 | .exit id,a,w=>Q (.exit id) a w
 | .goto t,a,w=>Q (.goto t) a w
theorem qRD {P:Program}{f:FuncId}{fn:Func}{c:Code}{args:Array Value}{w:World}{R:Ending->World->Prop}(hf:P.funcs[f]?=some fn)(hb:fn.body=some c)
  (h:c.wp P (noPanic (bodyPostM Fence.wide 0 P fn R)) { tmps:=args++Array.replicate (fn.ntmps-args.size) undef,defers := [] } w):Calls P f args w R :=
 callsIn_wide.1 (callsIn_of_wp_marks hf hb trivial (wpIn_wide.2 (wp_mono h (fun e a w hq=>by cases e <;> first|exact hq|exact hq.elim))) rfl)
theorem qDw {P:Program}{fn:Func}{R:Ending->World->Prop}{a:Act}{w:World}{D:Nat}(hd:a.defers = [mark D])(hk:w.heap[D]?=some (.deferred (some [])))
  (h:bodyPost P fn R .ret { a with defers := [] } (w.putObj D (.deferred none))):bodyPostM Fence.wide 0 P fn R .ret a w:=by
 show LeavesInM Fence.wide 0 P fn a.tmps R a.defers .returning w
 rw[hd]
 refine⟨by simp,.inl ⟨_,_,rfl,run_takeDeferred hk,?_⟩⟩
 exact h.2
theorem qLw {P:Program}{fn:Func}{R:Ending->World->Prop}{a:Act}{w:World}(hd:a.defers = [])(h:bodyPost P fn R .ret a w):bodyPostM Fence.wide 0 P fn R .ret a w:=by
 show LeavesInM Fence.wide 0 P fn a.tmps R a.defers .returning w
 rw[hd]
 exact h.2
end
open Go.Shelf
section
theorem Held.one {w:World}{g:Nat}{t:TypeId}{c0:Value}(h:Held w g t #[c0]):w.cell? ⟨g,0,none⟩=some c0/\w.frozen? ⟨g,0,none⟩=false:=⟨h.cell 0,h.thawed 0⟩
theorem qE5 {b:Bool}{p:Prop}(hb:b=true↔p)(h:¬ p):b=false:=by cases b;rfl;exact absurd (hb.1 rfl) h
theorem qPA {b:Bool}{p:Prop}(hb:b=true↔p)(h:p):b=true:=hb.2 h

section
attribute [local go_sem] Oper.semAt_some
end
end
section
def slotKd (taken live s:Nat):Nat:=if live.testBit s then 2 else if taken.testBit s then 4 else 3
end
section
namespace AuH
def Foot (H:AuH) (q:Nat):Prop:=(∀ r,q<=r->r+1<q+H.ln q->H.cel r 1=0)/\H.cel (q+H.ln q-1) 1=q+1
def R3 (H:AuH):Prop:=∀ q,q<H.p->H.K q≠0->H.Foot q
end AuH
section
attribute [local go_sem] Oper.semAt_some

end
end
section
namespace AuH
def R4 (H:AuH):Prop:=∀ q,H.At q->q<H.p->H.K q=1->H.nx q<H.p->H.K (H.nx q)≠1
variable {H : AuH}
end AuH
section
attribute [local go_sem] Oper.semAt_some

end
end
section
def SubB (a b:Nat):Prop:=∀ i,i<32->a.testBit i=true->b.testBit i=true
theorem qWX (a n:Nat)(ha:a<2^32)(hn:n<=32):SubB a (2^n-1)↔a<2^n:=by
 constructor
 ·intro h
  apply Nat.lt_pow_two_of_testBit
  intro i hi
  rcases Nat.lt_or_ge i 32 with h2|h2
  ·cases hai:a.testBit i
   ·rfl
   ·have:=h i h2 hai
    rw[Nat.testBit_two_pow_sub_one] at this
    have:=of_decide_eq_true this
    omega
  ·exact Nat.testBit_lt_two_pow (Nat.lt_of_lt_of_le ha (Nat.pow_le_pow_right qo h2))
 ·intro h i hi hai
  rw[Nat.testBit_two_pow_sub_one]
  rcases Nat.lt_or_ge i n with h2|h2
  ·exact decide_eq_true h2
  ·rw[Nat.testBit_lt_two_pow (Nat.lt_of_lt_of_le h (Nat.pow_le_pow_right qo h2))] at hai;cases hai
theorem sub_zero (a:Nat)(ha:a<2^32):SubB a 0↔a=0:=by
 have:=qWX a 0 ha qo
 simpa using this
namespace AuH
def Slot5 (H:AuH) (q:Nat):Prop:=(H.K q=3->H.cel q 5≠0/\H.cel q 5<2^slotI (H.Cl q)/\SubB (H.cel q 4) (H.cel q 5))/\(H.K q≠3->H.cel q 5=0/\H.cel q 4=0)
def R5 (H:AuH):Prop:=∀ q,q<H.p->H.Slot5 q
variable {H : AuH}
end AuH
section
attribute [local go_sem] Oper.semAt_some

end
end
section
namespace AuH
variable (H : AuH)
def freeF (q:Nat):Nat:=if H.K q=1 then H.ln q else 0
def liveF (q:Nat):Nat:=if H.K q=2 then 1 else if H.K q=3 then HM.onesTo (H.cel q 4) 32 else 0
def R9:Prop:=H.V 0=sumTo H.freeF H.p%4294967296/\H.V 1=sumTo H.liveF H.p%4294967296
variable {H}
theorem freeF_no {q:Nat}(h:H.K q=0):H.freeF q=0:=by unfold freeF;rw[if_neg qo]
theorem liveF_no {q:Nat}(h:H.K q=0):H.liveF q=0:=by unfold liveF;rw[if_neg qo,if_neg qo]
theorem qOA (q:Nat):H.freeF q<=1024:=by
 unfold freeF
 split
 ·exact(H.ln_pos q qo).2
 ·omega
theorem qJK (q:Nat):H.liveF q<=32:=by
 unfold liveF
 split
 ·omega
 ·split
  ·exact HM.onesTo_le _ _
  ·omega
theorem sums_le (x:Nat)(hx:x<=1024):sumTo H.freeF x<=1048576/\sumTo H.liveF x<=32768:=by
 have h1:=qHA H.freeF 1024 x (fun q _=>qOA q)
 have h2:=qHA H.liveF 32 x (fun q _=>qJK q)
 have h3:x*1024<=1024*1024:=Nat.mul_le_mul_right _ hx
 have h4:x*32<=1024*32:=Nat.mul_le_mul_right _ hx
 omega
end AuH
section
attribute [local go_sem] Oper.semAt_some

end
end
section
namespace AuH
def tgt (H:AuH) (q:Nat):Int:=if H.K q=1 then 2+HM.logI (H.ln q:Int) else if H.K q=3/\H.cel q 5≠2^slotI (H.Cl q)-1 then 13+H.Cl q else -1
variable {H : AuH}
theorem tgt_free {q:Nat}(h:H.K q=1):H.tgt q=2+HM.logI (H.ln q:Int):=by unfold tgt;rw[if_pos h]
theorem tgt_slab {q:Nat}(h:H.K q=3)(h2:H.cel q 5≠2^slotI (H.Cl q)-1):H.tgt q=13+H.Cl q:=by unfold tgt;rw[if_neg qo,if_pos ⟨h,h2⟩]
theorem tgt_full {q:Nat}(h:H.K q=3)(h2:H.cel q 5=2^slotI (H.Cl q)-1):H.tgt q = -1:=by unfold tgt;rw[if_neg qo,if_neg (fun h3=>h3.2 h2)]
theorem tgt_used {q:Nat}(h:H.K q=2):H.tgt q = -1:=by unfold tgt;rw[if_neg qo,if_neg qo]
theorem tgt_none {q:Nat}(h:H.K q=0):H.tgt q = -1:=by unfold tgt;rw[if_neg qo,if_neg qo]
theorem log_few {n:Nat}(h1:1<=n)(h2:n<=1024):0<=HM.logI (n:Int)/\HM.logI (n:Int)<=10:=by
 have h:∃ k:Nat,k<=10/\2^k<=n/\n<2^(k+1):=by
  exact Mnr
 obtain⟨k,hk,ha,hb⟩:=h
 rw[HM.logI_at (n:Int) k (by
  have e:((n:Int) / 2^k)=((n / 2^k:Nat):Int):=by push_cast;rfl
  rw[e]
  have:=Nat.div_le_div_right (c:=2^k) ha
  rw[Nat.div_self (Nat.two_pow_pos k)] at this
  omega) (by
  have e:((n:Int) / 2^(k+1))=((n / 2^(k+1):Nat):Int):=by push_cast;rfl
  rw[e,Nat.div_eq_of_lt hb]
  omega)]
 omega
end AuH
section
attribute [local go_sem] Oper.semAt_some

end
end
section
namespace AuH
variable (H : AuH)
def chain (head:Int):Nat->Nat->Nat->Prop
 | 0,at_,_=>at_=0
 | m+1,at_,ahead=>(1<=at_/\at_<=H.p/\H.tgt (at_-1)=head/\H.cel (at_-1) 3=ahead)/\chain head m (H.cel (at_-1) 2) at_
def isF (head:Int) (q:Nat):Nat:=if H.tgt q=head then 1 else 0
def cnt (head:Int) (x:Nat):Nat:=sumTo (H.isF head) x
def ListOk (head:Nat):Prop:=H.chain head (H.cnt head H.p) (H.V head) 0
variable {H}
end AuH
end
section
namespace AuH
def R8 (H:AuH):Prop:=∀ q,q<H.p->H.tgt q = -1->H.cel q 2=0/\H.cel q 3=0
end AuH
end
section
namespace AuH
variable (H : AuH)
def LiveAt (a:Int):Prop:=spotB H.t H.p H.s a=true /\
  ((H.K (spotP H.t H.p H.s a).toNat=2/\spotO H.t H.p H.s a=0) \/
   (H.K (spotP H.t H.p H.s a).toNat=3/\slotB H.t H.p H.s (H.Cl (spotP H.t H.p H.s a).toNat) (spotO H.t H.p H.s a)=true /\
     (H.cel (spotP H.t H.p H.s a).toNat 4).testBit (slotR H.t H.p H.s (H.Cl (spotP H.t H.p H.s a).toNat) (spotO H.t H.p H.s a)).toNat=true))
def R10:Prop:=∀ i,i<8->H.V (22+i)≠0->H.LiveAt (H.V (22+i):Int)
end AuH

def rootsV (H:AuH):Value := .agg #[.int .i64 (H.V 22:Nat),.int .i64 (H.V 23:Nat),.int .i64 (H.V 24:Nat),.int .i64 (H.V 25:Nat),.int .i64 (H.V 26:Nat),.int .i64 (H.V 27:Nat),.int .i64 (H.V 28:Nat),.int .i64 (H.V 29:Nat)]
end
section
def AuH.rule (H:AuH):Nat->Prop
 | 1=>H.Tiled
 | 2=>H.R3
 | 3=>H.R4
 | 4=>H.R5
 | 5=>∀ k,k<11->H.ListOk (2+k)
 | 6=>∀ k,k<9->H.ListOk (13+k)
 | 7=>H.R8
 | 8=>H.R9
 | 9=>H.R10
 | _=>True
def AuH.Told (H:AuH) (m:Nat) (b:Bool):Prop:=(b=true/\m=0/\∀ i,i<10->H.rule i)\/(b=false/\∃ k,m=k+1/\1<=k/\k<10/\(∀ i,i<k->H.rule i)/\¬ H.rule k)
theorem qHa (R:Nat->Prop):∀ n,(∀ i,i<n->R i)\/∃ k,k<n/\(∀ i,i<k->R i)/\¬ R k
 | 0 => .inl fun i h=>absurd h qo
 | n+1=>by
  rcases qHa R n with h|⟨k,h1,h2,h3⟩
  ·by_cases hn:R n
   ·exact .inl fun i hi=>by
     rcases Nat.lt_or_ge i n with h4|h4
     ·exact h i h4
     ·have:i=n:=qo
      subst this;exact hn
   ·exact .inr ⟨n,qo,h,hn⟩
  ·exact .inr ⟨k,qo,h2,h3⟩
theorem AuH.told_is (H:AuH):∃ m b,H.Told m b:=by
 rcases qHa H.rule 10 with h|⟨k,h1,h2,h3⟩
 ·exact⟨0,true,.inl ⟨rfl,rfl,h⟩⟩
 ·refine⟨k+1,false,.inr ⟨rfl,k,rfl,?_,h1,h2,h3⟩⟩
  rcases Nat.eq_zero_or_pos k with h6|h6
  ·subst h6;exact absurd trivial h3
  ·exact h6
end
section
namespace AuH
inductive Starts (H:AuH):List Nat->Nat->Prop where
 | nil:Starts H [] 0
 | snoc {l:List Nat} {q:Nat}:Starts H l q->H.can q=true->Starts H (l ++ [q]) (H.nx q)
variable {H : AuH} {l : List Nat} {x : Nat}
theorem Starts.at_ (h:H.Starts l x):H.At x:=by
 induction h with
 | nil=>exact .zero
 | snoc h hc ih=>exact .step ih hc
theorem Starts.len (h:H.Starts l x):l.length<=x:=by
 induction h with
 | nil=>simp
 | snoc h hc ih =>
  have:=(H.nx_gt hc).1
  rw[List.length_append]
  simp
  omega
theorem Starts.next (h:H.Starts l x):∀ {i a:Nat},l[i]?=some a->(H.At a/\H.can a=true/\a<x)/\(l[i+1]?=some (H.nx a)\/(i+1=l.length/\H.nx a=x)):=by
 induction h with
 | nil=>intro i a h;simp at h
 | snoc h hc ih =>
  rename_i l q
  intro i a hi
  have hgt:=(H.nx_gt hc).1
  rcases Nat.lt_or_ge i l.length with hl|hl
  ·rw[List.getElem?_append_left hl] at hi
   obtain⟨⟨h1,h2,h3⟩,h4⟩:=ih hi
   refine⟨⟨h1,h2,qo⟩,.inl ?_⟩
   rcases h4 with h4|⟨h4,h5⟩
   ·have:i+1<l.length:=by
     exact Mfw
    rw[List.getElem?_append_left this]
    exact h4
   ·rw[List.getElem?_append_right qo,h4,Nat.sub_self,h5]
    rfl
  ·have hil:i=l.length:=by
    rcases Nat.lt_or_ge l.length i with h|h
    ·rw[List.getElem?_append_right hl,List.getElem?_eq_none qs] at hi;cases hi
    ·omega
   subst hil
   rw[List.getElem?_append_right (Nat.le_refl _),Nat.sub_self] at hi
   have hqa:q=a:=by simpa using hi
   subst hqa
   exact⟨⟨h.at_,hc,hgt⟩,.inr ⟨by simp,rfl⟩⟩
theorem Starts.head (h:H.Starts l x):(l = []/\x=0)\/l[0]?=some 0:=by
 induction h with
 | nil=>exact .inl ⟨rfl,rfl⟩
 | snoc h hc ih =>
  right
  rcases ih with ⟨rfl,rfl⟩|ih
  ·rfl
  ·rename_i l q
   have:0<l.length:=by
    rcases Nat.lt_or_ge 0 l.length with h|h
    ·exact h
    ·rw[List.getElem?_eq_none h] at ih;cases ih
   rw[List.getElem?_append_left this]
   exact ih
theorem Starts.find (h:H.Starts l x):∀ {q:Nat},H.At q->q<x->∃ i:Nat,l[i]?=some q:=by
 induction h with
 | nil=>intro q _ h;omega
 | snoc h hc ih =>
  rename_i l q0
  intro q hq hl
  rcases Nat.lt_trichotomy q q0 with h1|h1|h1
  ·obtain⟨i,hi⟩:=ih hq h1
   refine⟨i,?_⟩
   have:i<l.length:=by
    rcases Nat.lt_or_ge i l.length with h|h
    ·exact h
    ·rw[List.getElem?_eq_none h] at hi;cases hi
   rw[List.getElem?_append_left this]
   exact hi
  ·subst h1
   exact⟨l.length,by rw[List.getElem?_append_right (Nat.le_refl _),Nat.sub_self];rfl⟩
  ·have:=(At.next h.at_ hq h1).2
   omega

def Front (H:AuH) (l:List Nat) (n p:Nat):Prop:=∃ f,(l[n]?=some f\/(n=l.length/\f=H.p))/\p<=f/\∀ q,H.At q->p<=q->f<=q
theorem Front.zero (h:H.Starts l H.p):H.Front l 0 0:=by
 rcases h.head with ⟨rfl,h1⟩|h1
 ·exact⟨H.p,.inr ⟨rfl,rfl⟩,Nat.zero_le _,fun q _ _=>by omega⟩
 ·exact⟨0,.inl h1,Nat.le_refl _,fun q _ _=>Nat.zero_le _⟩
theorem Front.yes {n p:Nat}(h:H.Starts l H.p)(hf:H.Front l n p)(hn:l[n]?=some p):H.At p/\H.Front l (n+1) (p+1):=by
 obtain⟨⟨h1,h2,h3⟩,h4⟩:=h.next hn
 have hg:=(H.nx_gt h2).1
 refine⟨h1,H.nx p,?_,hg,fun q hq hp=>(At.next h1 hq qo).2⟩
 rcases h4 with h4|⟨h4,h5⟩
 ·exact .inl h4
 ·exact .inr ⟨h4,h5⟩
theorem Front.no {n p:Nat}(h:H.Starts l H.p)(hf:H.Front l n p)(hp:p<H.p)(hn:l[n]? ≠ some p):¬ H.At p/\H.Front l n (p+1):=by
 obtain⟨f,h1,h2,h3⟩:=hf
 have hne:f≠p:=by
  rintro rfl
  rcases h1 with h1|⟨_,h1⟩
  ·exact hn h1
  ·omega
 exact⟨fun ha=>by have:=h3 p ha (Nat.le_refl _);omega,f,h1,qo,fun q hq hl=>h3 q hq qo⟩

theorem tiled_iff (ha:H.At H.p):H.Tiled ↔ ∀ q,q<H.p->¬ H.At q->H.cel q 0=0:=by
 constructor
 ·rintro ⟨_,hb⟩ q hq hn
  obtain⟨a,h1,h2,h3,h4⟩:=ha.cover q hq
  exact hb a h1 h2 qo q (by rcases Nat.eq_or_lt_of_le h3 with h|h;(subst h;exact absurd h1 hn);exact h) h4
 ·intro h
  refine⟨ha,fun a h1 h2 h3 q h4 h5=>h q (by have:=(H.nx_gt h2).2;omega) (fun hq=>?_)⟩
  have:=(At.next h1 hq h4).2
  omega
theorem tiled_not {q:Nat}(h:H.Tiled)(hq:q<H.p)(hn:¬ H.At q):H.cel q 0=0:=(tiled_iff h.1).1 h q hq hn

def FootAt (H:AuH) (a q:Nat):Prop:=H.cel q 1=if q+1=H.nx a then a+1 else 0
theorem r3_iff (ht:H.Tiled):H.R3 ↔ ∀ q,q<H.p->∀ a,H.At a->a<=q->q<H.nx a->H.FootAt a q:=by
 constructor
 ·intro h q hq a ha h1 h2
  have hc:=ht.at_can ha (show a<H.p by omega)
  have hk:=ht.at_K ha (show a<H.p by omega)
  obtain⟨h3,h4⟩:=h a qo hk
  unfold FootAt
  have hnx:H.nx a=a+H.ln a:=rfl
  by_cases he:q+1=H.nx a
  ·rw[if_pos he,show q=a+H.ln a-1 by omega]
   exact h4
  ·rw[if_neg he]
   exact h3 q h1 qo
 ·intro h q hq hk
  obtain⟨ha,hc⟩:=ht.start hq hk
  have hg:=H.nx_gt hc
  have hl:=H.ln_pos q hk
  have hnx:H.nx q=q+H.ln q:=rfl
  refine⟨fun r h1 h2=>?_,?_⟩
  ·have:=h r qo q ha h1 qo
   unfold FootAt at this
   rw[if_neg qo] at this
   exact this
  ·have:=h (q+H.ln q-1) qo q ha qo qo
   unfold FootAt at this
   rw[if_pos qo] at this
   exact this

def ApartTo (H:AuH) (l:List Nat) (n:Nat):Prop:=∀ (i a b:Nat),i+1<n->l[i]?=some a->l[i+1]?=some b->¬ (H.K b=1/\H.K a=1)
theorem apart_all (h:H.Starts l H.p){n:Nat}(hn:l.length<=n)(ha:H.ApartTo l n):H.R4:=by
 intro q hq hp hk hx h2
 obtain⟨i,hi⟩:=h.find hq hp
 rcases(h.next hi).2 with h4|⟨h4,h5⟩
 ·have:i+1<l.length:=by
   exact Mfw
  exact ha i q _ qo hi h4 ⟨h2,hk⟩
 ·omega
theorem apart_not (h:H.Starts l H.p){i a b:Nat}(h1:l[i]?=some a)(h2:l[i+1]?=some b)(hb:H.K b=1)(ha:H.K a=1):¬ H.R4:=by
 intro hr
 obtain⟨⟨g1,g2,g3⟩,g4⟩:=h.next h1
 rcases g4 with g4|⟨g4,g5⟩
 ·rw[g4] at h2
  have e:H.nx a=b:=by simpa using h2
  subst e
  exact hr a g1 g3 ha (h.next g4).1.2.2 hb
 ·rw[List.getElem?_eq_none qo] at h2;cases h2
theorem ApartTo.step {n a b:Nat}(h:H.ApartTo l (n+1))(h1:l[n]?=some a)(h2:l[n+1]?=some b)(hn:¬ (H.K b=1/\H.K a=1)):H.ApartTo l (n+1+1):=by
 intro i a' b' hi g1 g2
 rcases Nat.lt_or_ge (i+1) (n+1) with h3|h3
 ·exact h i a' b' h3 g1 g2
 ·have:i=n:=qo
  subst this
  rw[h1] at g1
  rw[h2] at g2
  simp only[Option.some.injEq] at g1 g2
  subst g1
  subst g2
  exact hn

def SlotBad (H:AuH) (q b:Nat):Prop:=((H.cel q 4).testBit b=true/\(H.cel q 5).testBit b=false)\/((H.cel q 5).testBit b=true/\(H.K q≠3\/slotI (H.Cl q)<=b))
theorem slot5_iff (q:Nat)(h4:H.cel q 4<2^32)(h5:H.cel q 5<2^32):H.Slot5 q↔(∀ b,b<32->¬ H.SlotBad q b)/\¬ (H.K q=3/\H.cel q 5=0):=by
 have hs:=qWU (H.Cl q)
 constructor
 ·rintro ⟨hy,hn⟩
  by_cases hk:H.K q=3
  ·obtain⟨h1,h2,h3⟩:=hy hk
   refine⟨fun b hb hbad=>?_,fun h=>h1 h.2⟩
   rcases hbad with ⟨g1,g2⟩|⟨g1,g2⟩
   ·rw[h3 b hb g1] at g2;cases g2
   ·rcases g2 with g2|g2
    ·exact g2 hk
    ·rw[Nat.testBit_lt_two_pow (Nat.lt_of_lt_of_le h2 (Nat.pow_le_pow_right qo g2))] at g1;cases g1
  ·obtain⟨h1,h2⟩:=hn hk
   refine⟨fun b hb hbad=>?_,fun h=>hk h.1⟩
   rcases hbad with ⟨g1,_⟩|⟨g1,_⟩
   ·rw[h2] at g1;simp at g1
   ·rw[h1] at g1;simp at g1
 ·rintro ⟨hb,hz⟩
  have hsub:SubB (H.cel q 4) (H.cel q 5):=fun i hi h=>by
   cases hc:(H.cel q 5).testBit i
   ·exact absurd (show H.SlotBad q i from .inl ⟨h,hc⟩) (hb i hi)
   ·rfl
  refine⟨fun hk=>⟨fun h=>hz ⟨hk,h⟩,(qWX _ _ h5 hs).1 (fun i hi h=>?_),hsub⟩,fun hk=>?_⟩
  ·have:i<slotI (H.Cl q):=by
    rcases Nat.lt_or_ge i (slotI (H.Cl q)) with g|g
    ·exact g
    ·exact absurd (show H.SlotBad q i from .inr ⟨h,.inr g⟩) (hb i hi)
   rw[Nat.testBit_two_pow_sub_one]
   simpa using this
  ·have h0:H.cel q 5=0:=(sub_zero _ h5).1 (fun i hi h=>absurd (show H.SlotBad q i from .inr ⟨h,.inl hk⟩) (hb i hi))
   refine⟨h0,(sub_zero _ h4).1 (fun i hi h=>?_)⟩
   have:=hsub i hi h
   rw[h0] at this
   simp at this

inductive Path (H:AuH) (head:Nat):List Nat->Nat->Nat->Prop where
 | nil:Path H head [] (H.V head) 0
 | snoc {l:List Nat} {q a:Nat}:Path H head l q a->1<=q->q<=H.p->H.cel (q-1) 3=a->Path H head (l ++ [q-1]) (H.cel (q-1) 2) q
def cntIn (l:List Nat) (q:Nat):Nat:=(l.filter fun y=>decide (y=q)).length
theorem cntIn_snoc (l:List Nat)(y q:Nat):cntIn (l ++ [y]) q=cntIn l q+if y=q then 1 else 0:=by
 unfold cntIn
 rw[List.filter_append,List.length_append]
 congr 1
 by_cases h:y=q <;> simp[h]
theorem cntIn_pos {l:List Nat}{q:Nat}(h:q∈l):1<=cntIn l q:=by
 unfold cntIn
 exact List.length_pos_of_mem (List.mem_filter.2 ⟨h,by simp⟩)
theorem qVs {l:List Nat}{q:Nat}(h:¬ q∈l):cntIn l q=0:=by
 unfold cntIn
 rw[List.length_eq_zero_iff,List.filter_eq_nil_iff]
 intro y hy
 simp
 rintro rfl
 exact h hy
variable {head q a : Nat}
theorem Path.lt (h:H.Path head l q a):∀ y∈l,y<H.p:=by
 induction h with
 | nil=>simp
 | snoc h h1 h2 h3 ih =>
  rename_i l q a
  intro y hy
  rcases List.mem_append.1 hy with hy|hy
  ·exact ih y hy
  ·have:y=q-1:=by simpa using hy
   omega
theorem Path.once (h:H.Path head l q a):(∀ y∈l,H.cel y 3≠a)/\(∀ y∈l,H.cel y 3=0\/∃ z∈l,H.cel y 3=z+1)/\(a=0\/∃ z∈l,a=z+1)/\∀ y,cntIn l y<=1:=by
 induction h with
 | nil=>exact⟨by simp,by simp,.inl rfl,fun y=>by simp[cntIn]⟩
 | snoc h h1 h2 h3 ih =>
  rename_i l q a
  obtain⟨i1,i2,i3,i4⟩:=ih
  have hnot:¬ (q-1)∈l:=fun hm=>i1 _ hm h3
  have hmem:∀ y∈l ++ [q-1],H.cel y 3=0\/∃ z∈l,H.cel y 3=z+1:=by
   intro y hy
   rcases List.mem_append.1 hy with hy|hy
   ·exact i2 y hy
   ·have:y=q-1:=by simpa using hy
    subst this
    rw[h3]
    exact i3
  refine⟨fun y hy he=>?_,fun y hy=>?_,.inr ⟨q-1,by simp,qo⟩,fun y=>?_⟩
  ·rcases hmem y hy with h|⟨z,hz,h⟩
   ·omega
   ·have:z=q-1:=qo
    subst this
    exact hnot hz
  ·rcases hmem y hy with h|⟨z,hz,h⟩
   ·exact .inl h
   ·exact .inr ⟨z,List.mem_append_left _ hz,h⟩
  ·rw[cntIn_snoc]
   by_cases he:q-1=y
   ·subst he
    rw[if_pos rfl,qVs hnot]
    omega
   ·rw[if_neg he]
    exact i4 y
theorem chain_path {m:Nat}(hc:H.chain head m (H.V head) 0)(h:H.Path head l q a):l.length<=m/\H.chain head (m-l.length) q a/\∀ y∈l,H.tgt y=head:=by
 induction h with
 | nil=>exact⟨by simp,hc,by simp⟩
 | snoc h h1 h2 h3 ih =>
  rename_i l q a
  obtain⟨i1,i2,i3⟩:=ih
  rcases hr:m-l.length with _|r
  ·rw[hr] at i2
   have:q=0:=i2
   omega
  ·rw[hr] at i2
   obtain⟨⟨_,_,g3,_⟩,g5⟩:=i2
   have e:m-(l ++ [q-1]).length=r:=by rw[List.length_append];simp;omega
   refine⟨by rw[List.length_append];simp;omega,by rw[e];exact g5,fun y hy=>?_⟩
   rcases List.mem_append.1 hy with hy|hy
   ·exact i3 y hy
   ·have:y=q-1:=by simpa using hy
    rw[this]
    exact g3
theorem path_chain (h:H.Path head l q a):∀ {m:Nat},(∀ y∈l,H.tgt y=head)->H.chain head m q a->H.chain head (l.length+m) (H.V head) 0:=by
 induction h with
 | nil=>intro m _ hc;simpa using hc
 | snoc h h1 h2 h3 ih =>
  rename_i l q a
  intro m hy hc
  have:=ih (m:=m+1) (fun y hm=>hy y (List.mem_append_left _ hm)) ⟨⟨h1,h2,hy _ (by simp),h3⟩,hc⟩
  rw[List.length_append]
  rw[show l.length + [q-1].length+m=l.length+(m+1) by simp;omega]
  exact this
theorem qDv (f g:Nat->Nat):∀ n,sumTo (fun q=>f q+g q) n=sumTo f n+sumTo g n
 | 0=>rfl
 | n+1=>by
  show sumTo (fun q=>f q+g q) n+(f n+g n)=(sumTo f n+f n)+(sumTo g n+g n)
  rw[qDv f g n]
  omega
theorem sumTo_zero:∀ n,sumTo (fun _=>0) n=0
 | 0=>rfl
 | n+1=>by show sumTo (fun _=>0) n+0=0;rw[sumTo_zero n]
theorem qHL (y:Nat):∀ n,sumTo (fun q=>if y=q then 1 else 0) n=if y<n then 1 else 0
 | 0=>by simp[sumTo]
 | n+1=>by
  show sumTo _ n+(if y=n then 1 else 0)=_
  rw[qHL y n]
  by_cases h1:y<n
  ·rw[if_pos h1,if_neg qo,if_pos qo]
  ·rw[if_neg h1]
   by_cases h2:y=n
   ·rw[if_pos h2,if_pos qo]
   ·rw[if_neg h2,if_neg qo]
theorem sumTo_congr {f g:Nat->Nat}:∀ n,(∀ q,q<n->f q=g q)->sumTo f n=sumTo g n
 | 0,_=>rfl
 | n+1,h=>by
  show sumTo f n+f n=sumTo g n+g n
  rw[sumTo_congr n (fun q hq=>h q qo),h n qo]
theorem qFB {f g:Nat->Nat}:∀ n,(∀ q,q<n->f q<=g q)->sumTo f n<=sumTo g n
 | 0,_=>Nat.le_refl _
 | n+1,h=>by
  have h1:=qFB n (fun q hq=>h q qo)
  have h2:=h n qo
  show sumTo f n+f n<=sumTo g n+g n
  omega
theorem qYu {f g:Nat->Nat}:∀ n,(∀ q,q<n->f q<=g q)->sumTo f n=sumTo g n->∀ q,q<n->f q=g q
 | 0,_,_,q,hq=>by omega
 | n+1,h,he,q,hq=>by
  have h1:=qFB n (fun q hq=>h q qo)
  have h2:=h n qo
  have he':sumTo f n+f n=sumTo g n+g n:=he
  rcases Nat.lt_or_ge q n with h3|h3
  ·exact qYu n (fun q hq=>h q qo) qo q h3
  ·have:q=n:=qo
   subst this
   omega
theorem qJ3 (n:Nat):∀ l:List Nat,(∀ y∈l,y<n)->sumTo (cntIn l) n=l.length
 | [],_=>sumTo_zero n
 | y :: l,h=>by
  have e:∀ q,q<n->cntIn (y :: l) q=(if y=q then 1 else 0)+cntIn l q:=fun q _=>by
   unfold cntIn
   rw[List.filter_cons]
   by_cases h:y=q
   ·simp[h];omega
   ·simp[h]
  rw[sumTo_congr n e,qDv,qHL,if_pos (h y (by simp)),qJ3 n l (fun z hz=>h z (by simp[hz]))]
  simp
  omega
theorem qF6 (head:Int)(n:Nat):H.cnt head n<=n:=by
 have:=qHA (H.isF head) 1 n (fun q _=>by unfold isF;split <;> omega)
 unfold cnt
 omega
theorem listOk_iff (h:H.Path head l 0 a):H.ListOk head ↔ ∀ q,q<H.p->cntIn l q=H.isF head q:=by
 constructor
 ·intro hk
  obtain⟨h1,h2,h3⟩:=chain_path hk h
  have hlen:l.length=H.cnt head H.p:=by
   rcases hr:H.cnt head H.p-l.length with _|r
   ·omega
   ·rw[hr] at h2
    have:=h2.1.1
    omega
  refine qYu H.p (fun q hq=>?_) (by rw[qJ3 _ _ h.lt,hlen];rfl)
  by_cases hm:q∈l
  ·have:=h.once.2.2.2 q
   unfold isF
   rw[if_pos (h3 q hm)]
   exact this
  ·rw[qVs hm]
   exact Nat.zero_le _
 ·intro hq
  have hm:∀ y∈l,H.tgt y=head:=fun y hy=>by
   have h1:=cntIn_pos hy
   rw[hq y (h.lt y hy)] at h1
   unfold isF at h1
   by_cases he:H.tgt y=head
   ·exact he
   ·rw[if_neg he] at h1;omega
  have hlen:l.length=H.cnt head H.p:=by
   rw[<- qJ3 _ _ h.lt]
   exact sumTo_congr _ hq
  have:=path_chain h (m:=0) hm rfl
  rw[Nat.add_zero,hlen] at this
  exact this
theorem listOk_goes (hk:H.ListOk head)(h:H.Path head l q a)(hq:q≠0):1<=q/\q<=H.p/\H.cel (q-1) 3=a/\l.length<H.p:=by
 obtain⟨h1,h2,h3⟩:=chain_path hk h
 have hc:=qF6 (H:=H) head H.p
 rcases hr:H.cnt head H.p-l.length with _|r
 ·rw[hr] at h2
  exact absurd h2 hq
 ·rw[hr] at h2
  obtain⟨⟨g1,g2,_,g4⟩,_⟩:=h2
  exact⟨g1,g2,g4,qo⟩

theorem ones_full {v n:Nat}(hv:v<2^n)(hn:n<=32):HM.onesTo v 32=n↔v=2^n-1:=by
 have h32:∀ k,HM.onesTo v (n+k)=HM.onesTo v n:=by
  intro k
  induction k with
  | zero=>rfl
  | succ k ih =>
   rw[<- Nat.add_assoc,HM.onesTo_succ,ih,Nat.testBit_lt_two_pow (Nat.lt_of_lt_of_le hv (Nat.pow_le_pow_right qo qo))]
   simp
 have e:HM.onesTo v 32=HM.onesTo v n:=by
  have:=h32 (32-n)
  rwa [show n+(32-n)=32 by omega] at this
 rw[e]
 have hf:=HM.ones_free v n
 constructor
 ·intro h
  have h0:HM.freeTo v n = []:=List.length_eq_zero_iff.1 qo
  apply Nat.eq_of_testBit_eq
  intro i
  rw[Nat.testBit_two_pow_sub_one]
  by_cases hi:i<n
  ·unfold HM.freeTo at h0
   rw[List.filter_eq_nil_iff] at h0
   have:=h0 i (List.mem_range.2 hi)
   simp at this
   rw[this,decide_eq_true hi]
  ·rw[Nat.testBit_lt_two_pow (Nat.lt_of_lt_of_le hv (Nat.pow_le_pow_right qo qo)),decide_eq_false hi]
 ·intro h
  have h0:HM.freeTo v n = []:=by
   unfold HM.freeTo
   rw[List.filter_eq_nil_iff]
   intro i hi
   rw[h,Nat.testBit_two_pow_sub_one]
   simpa using List.mem_range.1 hi
  rw[h0] at hf
  simpa using hf
end AuH
end
end Go.Proofs.YtjjfcaliippgpaaGreatDoor
