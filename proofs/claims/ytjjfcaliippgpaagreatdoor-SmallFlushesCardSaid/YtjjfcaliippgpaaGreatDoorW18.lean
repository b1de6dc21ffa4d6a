/-
  A range over a function whose value is a closure (slices.Backward's): one law for its caller, as lib/XRound's for a method value; slices.Backward at []int.
-/
import Derived.Test.YtjjfcaliippgpaaGreatDoorW05
import Derived.Test.YtjjfcaliippgpaaGreatDoorW06
import Derived.Test.YtjjfcaliippgpaaGreatDoorW01
import Derived.Test.YtjjfcaliippgpaaGreatDoorW16
import Derived.Test.YtjjfcaliippgpaaGreatDoorW07
import Derived.Test.YtjjfcaliippgpaaGreatDoorW17
import Derived.Test.YtjjfcaliippgpaaGreatDoorW03
import Derived.Test.YtjjfcaliippgpaaGreatDoorW08
import Derived.Deep.CutRange
import Derived.Deep.RegionWith
namespace Go.Proofs.YtjjfcaliippgpaaGreatDoor
theorem RNh {P Q:Prop}(kq:Q)(h:HQ Q->P:=by
 intro kq
 refine tkz 10 ?_
 refine tkz 11 ?_
 refine tkz 12 ?_
 refine tkz 13 ?_
 exact kq.o):P:=h ⟨kq⟩
theorem R3f {P Q:Prop}(kq:Q)(h:HQ Q->P:=by
 intro kq
 replace HB0:=qh (HB0.o.far (p:=⟨NP,0,none⟩) (by show w.heap.size≠NP;have:=HNP.o;omega) (.int .i64 (-1)))
 replace HB1:=qh (HB1.o.far (p:=⟨NP,0,none⟩) (by show (w.heap.size+1)≠NP;have:=HNP.o;omega) (.int .i64 (-1)))
 replace HP:=qh (HP.o.put 0 (.int .i64 (-1)))
 revert HB0 HB1 HP
 exact kq.o):P:=h ⟨kq⟩
theorem Rvf {P Q:Prop}(kq:Q)(h:HQ Q->P:=by
 intro kq
 go_simp
 refine(qWC hn hq hk0 hk1 HTL.o HNA.o 4 HN.o.at_).mono ?_
 rintro e w6 ⟨u,rfl,u2,he2,ho,h1,h2⟩
 revert w6 u u2 he2 ho h1 h2
 exact kq.o):P:=h ⟨kq⟩
theorem Ru8 {P Q:Prop}(kq:Q)(h:HQ Q->P:=by
 intro kq
 have HROW:=qh (HN.o.row h1 h2 (fun i hi=>(ho.lt i hi).1))
 replace HB0:=qh (h2.held (.inl (.inl (.inl (.inr (.inl rfl))))) HB0.o)
 replace HB1:=qh (h2.held (.inl (.inl (.inl (.inr (.inr rfl))))) HB1.o)
 replace HP:=qh (h2.held (.inl (.inl (.inr rfl))) HP.o)
 revert HROW HB0 HB1 HP
 exact kq.o):P:=h ⟨kq⟩
theorem Rp1 {P Q:Prop}(kq:Q)(h:HQ Q->P:=by
 intro kq
 refine rdz 15 fun K hK=>?_
 have z0:=HP.o.cell 0
 have f0:=HP.o.thawed 0
 go_simp
 revert K hK z0 f0
 exact kq.o):P:=h ⟨kq⟩
theorem M4u {P:Prop}(h:P:=by
 clear z0 f0 hws
 refine qk ?_ (fun hHeld=>?_)
 ·exact Mz2
 clear hK K
 refine tkz 16 ?_
 refine tkz 17 ?_
 refine dnz ?_
 go_wp2_with fail
 refine qLw rfl ?_
 go_ret2
 exact⟨rfl,HN.o.less fun i x => .inl (.inl (.inl x))⟩):P:=h
theorem MiY {P:Prop}(h:P:=by
 refine RLS ?_
 refine RYy ?_
 refine dnz ?_
 go_wp2_with fail
 go_ret
 exact⟨by rw[HBF.o];rfl,Bdraw HBW.o (d+1)⟩):P:=h
theorem MfI {P:Prop}(h:P:=by
 go_enter Tryz.func30,Tryz.ntmps30
 go_wp2_with fail
 go_ret
 exact⟨by rw[HBF.o];rfl,HBW.o⟩):P:=h
theorem MDu {P:Prop}(h:P:=by
 (try dsimp only)
 exact Mz2):P:=h
theorem Mz2 {P:Prop}(h:P:=by first|exact⟨⟨HB0.o.cell 0,HB1.o.cell 0⟩,HN.o.held.hd4⟩|exact hHeld):P:=h
theorem MLK {P:Prop}(h:P:=by
 (try dsimp only)
 first|exact⟨p0,p1,q0,q1,x0,y0⟩|exact hHeld):P:=h
end Go.Proofs.YtjjfcaliippgpaaGreatDoor
set_option linter.unusedVariables false
set_option linter.unusedSimpArgs false
set_option maxRecDepth 100000
set_option maxHeartbeats 25600000
namespace Go.Proofs.YtjjfcaliippgpaaGreatDoor
open Go.ChangeShapes Go.WideShapes Go.ChangeAt Go.RowKit Go.Maps
section
def SeqCap (P:Program) (gf:Nat) (cap:Array Value) (enc:Nat->Array Value) (can:Nat->Bool) (next:Nat->Nat) (R:World->Prop):Prop :=
 ∀ (l:Nat) (J:Nat->(Nat->Prop)->World->Prop) (Jx:World->Prop) (W:World) (F0:Nat->Prop),R W ->
  (∀ pos F A B,J pos F A->Below A.heap.size A B->J pos F B)->(∀ A B,Jx A->Below A.heap.size A B->Jx B) ->
  (∀ pos F A,J pos F A->R A)->(∀ pos F A,J pos F A->∀ i,F i->i<A.heap.size) ->
  (∀ pos F A,J pos F A->W.heap.size<=A.heap.size->can pos=true->YieldAt Fence.wide 0 P l (enc pos) A fun e B =>
   (e = .returned (.bool true)/\∃ F',J (next pos) F' B/\A.heap.size<=B.heap.size/\(∀ k,W.heap.size<=k->k<A.heap.size->¬ F k->B.heap[k]?=A.heap[k]?)/\∀ i,F' i->F i\/A.heap.size<=i) \/
   (e = .returned (.bool false)/\Jx B)) ->
  J 0 F0 W ->
  CallsIn Fence.wide 0 P gf (#[.func (.yield l) #[] #[]]++cap) W fun e B=>(∃ v,e = .returned v)/\((∃ pos F,J pos F B/\can pos=false)\/Jx B)

theorem qT5 {P:Program}{g:Operand}{ps:Array Tmp}{assign body:Code}{Q:Exit->Act->World->Prop}{a:Act}{w:World}{gf:Nat}{cap:Array Value}
  (hg:a.eval g = .func (.func gf) #[] cap) (eg:∀ args w,(callFunc gf args).run P w = .ok (.enter gf args) w)
  {enc:Nat->Array Value} {can:Nat->Bool} {next:Nat->Nat} {R:World->Prop} (hseq:SeqCap P gf cap enc can next R) (hb0:R w) (hRB:∀ A B,R A->Below A.heap.size A B->R B) (hps:∀ pos,(enc pos).size=ps.size)
  (I:Nat->(Nat->Prop)->World->Prop) (Ix:Code->World->Prop)
  (hI:∀ pos F A B,I pos F A->Mild w.heap.size A B->I pos F B) (hIx:∀ c A B,Ix c A->Mild w.heap.size A B->Ix c B)
  (hIB:∀ pos F A,I pos F A->R A) (hIF:∀ pos F A,I pos F A->∀ i,F i->∃ o,A.heap[i]?=some o/\o.isCells=true)
  {F0:Nat->Prop} (h0:I 0 F0 w)
  (hround:∀ (l pos:Nat) (F:Nat->Prop) (A:World),can pos=true->I pos F A->w.heap.size<=A.heap.size ->
   assign.wpIn (inR l) 0 P (Exit.then (RoundGo w.heap.size P l body (seqPost I Ix (next pos) F A.heap.size) A) (fun _ _ _=>False))
    { tmps:=(ps.zip (enc pos)).foldl (fun t (p,v)=>t.setIfInBounds p v) a.tmps,defers := [] } A)
  (hdone:∀ (D pos:Nat) (F:Nat->Prop) (A:World),w.heap.size<=D->can pos=false->I pos F A->A.heap[D]?=some (.deferred (some []))->Q .normal { a with defers:=mark D :: a.defers } A)
  (hstop:∀ (D:Nat) (c:Code) (A:World),w.heap.size<=D->Ix c A->A.heap[D]?=some (.deferred (some []))->c.wp P Q { a with defers:=mark D :: a.defers } A) :
  (Code.rangeFunc g ps assign body).wp P Q a w:=by
 refine(wpIn_wide (n:=1)).1 (wpIn_rangeFunc ?_)
 intro fn hfn
 obtain⟨rec,hrec⟩:∃ rec:LoopState->Option Code->Loop,rec=fun st pe => { state:=st,pending:=pe,fn,tmps:=a.tmps,params:=ps,assign,body,defers:=w.heap.size }:=⟨_,rfl⟩
 obtain⟨W1,hW1⟩:∃ W1,(w.alloc (.deferred (some []))).alloc (.loop (rec .ready none))=W1:=⟨_,rfl⟩
 have hbw:Below w.heap.size w W1:=by rw[<- hW1];exact Bnew (Bnew (B0 w) _) _
 have hs1:W1.heap.size=w.heap.size+2:=by rw[<- hW1];simp
 have hL1:W1.heap[w.heap.size+1]?=some (.loop (rec .ready none)):=by
  exact M40
 have hK1:W1.heap[w.heap.size]?=some (.deferred (some [])):=by
  rw[<- hW1];exact(Below.heap_alloc _ _ _ (by simp)).trans (heap_alloc_new w _)
 refine⟨w.heap.size+1,[mark w.heap.size],W1,{ target := .fn (.func gf) cap,args:=#[.func (.yield (w.heap.size+1)) #[] #[]] },W1,gf,#[.func (.yield (w.heap.size+1)) #[] #[]]++cap,W1,?_,?_,?_,?_,fun _=>Nat.le_refl _,?_⟩
 ·rw[<- hW1,hrec];exact run_enterLoop_outer _ _ _ _ _
 ·simp only[resolve,hg]
  simp[go_sem]
 ·intro f' hf';exact trivial
 ·simp[invoke,go_sem,eg]
 ·have keepRow:∀ {A B:World} {k:Nat} {o:Obj},Below A.heap.size A B->A.heap[k]?=some o->B.heap[k]?=some o:=fun hb hk=>(hb.block _ (Array.getElem?_eq_some_iff.1 hk).1).trans hk
  refine(hseq (w.heap.size+1)
   (fun pos F A=>I pos F A/\w.heap.size<=A.heap.size/\A.heap[w.heap.size+1]?=some (.loop (rec .ready none))/\A.heap[w.heap.size]?=some (.deferred (some [])))
   (fun A=>∃ c,Ix c A/\w.heap.size<=A.heap.size/\A.heap[w.heap.size+1]?=some (.loop (rec .done (some c)))/\A.heap[w.heap.size]?=some (.deferred (some [])))
   W1 F0 (hRB _ _ hb0 hbw)
   (fun pos F A B h hb=>⟨hI pos F A B h.1 (Mild.of_below h.2.1 hb),Nat.le_trans h.2.1 hb.size,keepRow hb h.2.2.1,keepRow hb h.2.2.2⟩)
   (fun A B h hb=>by obtain⟨c,h1,h2,h3,h4⟩:=h;exact⟨c,hIx c A B h1 (Mild.of_below h2 hb),Nat.le_trans h2 hb.size,keepRow hb h3,keepRow hb h4⟩)
   (fun pos F A h=>hIB pos F A h.1)
   (fun pos F A h i hi=>by obtain⟨o,ho,_⟩:=hIF pos F A h.1 i hi;exact(Array.getElem?_eq_some_iff.1 ho).1)
   ?_ ⟨hI 0 F0 w W1 h0 (Mild.of_below (Nat.le_refl _) hbw),hbw.size,hL1,hK1⟩).mono ?_
  ·exact MD6
  ·exact MXu

def encB (m:Nat) (f:Nat->Int) (pos:Nat):Array Value:=#[.int .i64 ((m-1-pos:Nat):Int),.int .i64 (f (m-1-pos))]
def canB (m pos:Nat):Bool:=decide (pos<m)
def BackAt (A:Option Addr) (m c:Nat) (f:Nat->Int) (bx:Nat) (w:World):Prop:=w.cell? ⟨bx,0,none⟩=some (.slice A m c)/\∀ i,i<m->∃ ad,A=some ad/\w.cell? (ad.add i)=some (.int .i64 (f i))
section
attribute [local go_sem] Oper.semAt_some
theorem qD1 (A:Option Addr)(m c:Nat)(hmc:m<=c)(hcm:c<=maxLen)(f:Nat->Int)(bx:Nat) :
  SeqCap Tryz.prog 116 #[.pointer (some ⟨bx,0,none⟩)] (encB m f) (canB m) (· + 1) (BackAt A m c f bx):=by
 intro l J Jx W F0 hW hJ hJx hJB hJF hY h0
 refine callsIn_of_wp Tryz.func116 rfl trivial ?_ rfl
 simp only[Tryz.ntmps116,List.size_toArray,List.length_cons,List.length_nil,Nat.reduceAdd,Nat.reduceSub,Array.replicate_succ,Array.replicate_zero,List.push_toArray,List.append_toArray,List.nil_append,List.cons_append]
 have HJ0:=qh h0
 have HJ:=qh hJ
 have HJX:=qh hJx
 have HJB:=qh hJB
 have HJF:=qh hJF
 have HY:=qh hY
 have HW:=qh hW
 have hc2:c<=9223372036854775807:=by unfold maxLen at hcm;omega
 have b0:=HW.o.1
 clear hJ hJx hJB hJF hY h0 hW
 gi_wp2_with fail
 gi_loopw [3] (fun u wr=>∃ (pos:Nat) (F:Nat->Prop),u = .int .i64 ((m:Int)-1-(pos:Int))/\pos<=m/\qH (J pos F wr)/\qH (W.heap.size<=wr.heap.size)) (fun u _=>(intOf u+1).toNat)
 case atStart=>exact⟨0,F0,by simp,qo,HJ0,qh (Nat.le_refl _)⟩
 case round =>
  clear HJ0 b0
  obtain⟨pos,F,rfl,hpos,HJS,HSZ⟩:=hrel
  have HBW:=qh (HJB.o _ _ _ HJS.o)
  have b0:=HBW.o.1
  by_cases hlt:pos<m
  ·obtain⟨k,hk⟩:∃ k,m-1-pos=k:=⟨_,rfl⟩
   have hk2:(m:Int)-1-(pos:Int)=(k:Int):=qo
   obtain⟨ad,hA,c0⟩:=HBW.o.2 k qo
   subst hA
   have HEN:qH (encB m f pos=#[.int .i64 (k:Int),.int .i64 (f k)]):=qh (by unfold encB;rw[hk])
   obtain⟨fn,tmps,assign,body,hy,hR⟩:=HY.o pos F _ HJS.o HSZ.o (decide_eq_true hlt)
   rw[HEN.o] at hy
   have HRR:=qh hR
   have HK:=qh hk
   rw[hk2]
   have hkm:k<m:=qo
   clear hR hk
   gi_wp2_with fail
   refine⟨rfl,HRR.o.mono ?_⟩
   rintro e W3 (⟨rfl,F',hJ3,hsz3,hk3,hF3⟩|⟨rfl,hx⟩)
   ·have HJ3:=qh hJ3
    have HS3:qH (W.heap.size<=W3.heap.size):=qh (Nat.le_trans HSZ.o hsz3)
    clear hJ3 hk3 hF3 hsz3 HRR HY HJ HJX HJB hy c0 b0
    gi_wp2
    go_roundw
    case rel=>exact⟨pos+1,F',by have:=HK.o;go_num,qo,HJ3,HS3⟩
    case measure=>simp[intOf] <;> omega
   ·have HX:=qh hx
    clear hx HY HJ HJX HJB HRR hy c0 b0
    gi_wp2
    refine bodyPost_ret (results_none rfl _ _ _) rfl ?_
    exact⟨⟨_,rfl⟩,.inr HX.o⟩
  ·obtain rfl:pos=m:=qo
   gi_wp2
   go_end0
   exact⟨⟨_,rfl⟩,.inl ⟨pos,F,HJS.o,qf⟩⟩
end
theorem qSA (A:Option Addr)(m c:Nat)(w:World):Calls Tryz.prog 79 #[.slice A m c] w fun e w'=>e = .returned (.func (.func 116) #[] #[.pointer (some ⟨w.heap.size,0,none⟩)])/\w'=w.alloc (.cells #[.slice A m c] 42):=by
 go_enter Tryz.func79,Tryz.ntmps79
 go_wp2
 go_ret
 exact⟨rfl,rfl⟩
end
open Go.Shelf
section
def set9 (w:World) (g:Nat) (a0 a1 a2 a3 a4 a5 a6 a7 a8:Value):World:=((((((((w.setCell ⟨g,0,none⟩ a0).setCell ⟨g,1,none⟩ a1).setCell ⟨g,2,none⟩ a2).setCell ⟨g,3,none⟩ a3).setCell ⟨g,4,none⟩ a4).setCell ⟨g,5,none⟩ a5).setCell ⟨g,6,none⟩ a6).setCell ⟨g,7,none⟩ a7).setCell ⟨g,8,none⟩ a8
section
variable {w : World} {g : Nat} {t : TypeId} {c0 c1 c2 c3 c4 c5 c6 c7 c8 : Value}
theorem Held.nine (h:Held w g t #[c0,c1,c2,c3,c4,c5,c6,c7,c8]):w.cell? ⟨g,0,none⟩=some c0/\w.cell? ⟨g,1,none⟩=some c1/\w.cell? ⟨g,2,none⟩=some c2/\w.cell? ⟨g,3,none⟩=some c3/\w.cell? ⟨g,4,none⟩=some c4/\w.cell? ⟨g,5,none⟩=some c5/\w.cell? ⟨g,6,none⟩=some c6/\w.cell? ⟨g,7,none⟩=some c7/\w.cell? ⟨g,8,none⟩=some c8:=⟨h.cell 0,h.cell 1,h.cell 2,h.cell 3,h.cell 4,h.cell 5,h.cell 6,h.cell 7,h.cell 8⟩
theorem Held.thawed9 {cs:Array Value}(h:Held w g t cs):w.frozen? ⟨g,0,none⟩=false/\w.frozen? ⟨g,1,none⟩=false/\w.frozen? ⟨g,2,none⟩=false/\w.frozen? ⟨g,3,none⟩=false/\w.frozen? ⟨g,4,none⟩=false/\w.frozen? ⟨g,5,none⟩=false/\w.frozen? ⟨g,6,none⟩=false/\w.frozen? ⟨g,7,none⟩=false/\w.frozen? ⟨g,8,none⟩=false:=⟨h.thawed 0,h.thawed 1,h.thawed 2,h.thawed 3,h.thawed 4,h.thawed 5,h.thawed 6,h.thawed 7,h.thawed 8⟩
theorem Held.set9 (h:Held w g t #[c0,c1,c2,c3,c4,c5,c6,c7,c8])(a0 a1 a2 a3 a4 a5 a6 a7 a8:Value):Held (set9 w g a0 a1 a2 a3 a4 a5 a6 a7 a8) g t #[a0,a1,a2,a3,a4,a5,a6,a7,a8]:=by
 have h0:Held _ g t #[a0,c1,c2,c3,c4,c5,c6,c7,c8]:=h.put 0 a0
 have h1:Held _ g t #[a0,a1,c2,c3,c4,c5,c6,c7,c8]:=h0.put 1 a1
 have h2:Held _ g t #[a0,a1,a2,c3,c4,c5,c6,c7,c8]:=h1.put 2 a2
 have h3:Held _ g t #[a0,a1,a2,a3,c4,c5,c6,c7,c8]:=h2.put 3 a3
 have h4:Held _ g t #[a0,a1,a2,a3,a4,c5,c6,c7,c8]:=h3.put 4 a4
 have h5:Held _ g t #[a0,a1,a2,a3,a4,a5,c6,c7,c8]:=h4.put 5 a5
 have h6:Held _ g t #[a0,a1,a2,a3,a4,a5,a6,c7,c8]:=h5.put 6 a6
 have h7:Held _ g t #[a0,a1,a2,a3,a4,a5,a6,a7,c8]:=h6.put 7 a7
 have h8:Held _ g t #[a0,a1,a2,a3,a4,a5,a6,a7,a8]:=h7.put 8 a8
 exact h8
theorem qLN {W:World}(h:Below W.heap.size W w)(hg:W.heap.size<=g)(a0 a1 a2 a3 a4 a5 a6 a7 a8:Value):Below W.heap.size W (set9 w g a0 a1 a2 a3 a4 a5 a6 a7 a8) :=
 Bput (Bput (Bput (Bput (Bput (Bput (Bput (Bput (Bput h (p:=⟨g,0,none⟩) hg a0) (p:=⟨g,1,none⟩) hg a1) (p:=⟨g,2,none⟩) hg a2) (p:=⟨g,3,none⟩) hg a3) (p:=⟨g,4,none⟩) hg a4) (p:=⟨g,5,none⟩) hg a5) (p:=⟨g,6,none⟩) hg a6) (p:=⟨g,7,none⟩) hg a7) (p:=⟨g,8,none⟩) hg a8
theorem qMB {j:Nat}(hj:j≠g)(a0 a1 a2 a3 a4 a5 a6 a7 a8:Value):(set9 w g a0 a1 a2 a3 a4 a5 a6 a7 a8).heap[j]?=w.heap[j]?:=by
 unfold _root_.Go.Proofs.YtjjfcaliippgpaaGreatDoor.set9
 repeat rw[Below.heap_setCell _ _ _ _ hj]
theorem qL8 {base:Nat}{e:TypeId}{size:Nat}{v:Value}{n:Nat}{xs:List Value}(h:w.ownsRow base e size v n xs)(hg:∀ j,v.ownBlock=some j->j≠g)(a0 a1 a2 a3 a4 a5 a6 a7 a8:Value):(set9 w g a0 a1 a2 a3 a4 a5 a6 a7 a8).ownsRow base e size v n xs :=
 qWQ h (fun j hj=>qMB (hg j hj) _ _ _ _ _ _ _ _ _)
end
theorem qYK (H:AuH):∃ (r0 r1 r2 r3 r4 r5 r6 r7:Nat),rootsV H = .agg #[.int .i64 (r0:Int),.int .i64 (r1:Int),.int .i64 (r2:Int),.int .i64 (r3:Int),.int .i64 (r4:Int),.int .i64 (r5:Int),.int .i64 (r6:Int),.int .i64 (r7:Int)]/\H.V 22=r0/\H.V 23=r1/\H.V 24=r2/\H.V 25=r3/\H.V 26=r4/\H.V 27=r5/\H.V 28=r6/\H.V 29=r7:=⟨_,_,_,_,_,_,_,_,rfl,rfl,rfl,rfl,rfl,rfl,rfl,rfl,rfl⟩
end
section
def stF (H:AuH) (u:Value) (k:Nat) (i:Nat):Value:=if i=0 then u else if i<=k then .int .i64 (H.V (21+i):Nat) else .int .i64 0
theorem qJ4 {H:AuH}{n c:Nat}(HV:HeapV H n c)(ad:Addr)(m:Nat)(w:World)(hv:IsVals w ad n H.V)(hC:XCheckIs w H.t H.p H.s (some ad) n c m true) :
  Calls Tryz.prog 23 #[.agg #[.int .i64 (H.t:Int),.int .i64 (H.p:Int),.int .i64 (H.s:Int)],.slice (some ad) n c] w fun e w'=>∃ u,e = .returned (.tuple #[.agg #[u,.int .i64 (H.V 22:Nat),.int .i64 (H.V 23:Nat),.int .i64 (H.V 24:Nat),.int .i64 (H.V 25:Nat),.int .i64 (H.V 26:Nat),.int .i64 (H.V 27:Nat),.int .i64 (H.V 28:Nat),.int .i64 (H.V 29:Nat)],.bool true])/\w'.ownsRow w.heap.size 64 2 u (blocksOf H.parts).length (bkVs (blocksOf H.parts))/\Below w.heap.size w w':=by
 have HVL:=qh hv
 have HXK0:=hC
 have HX:=qh ((Held.new w 23 #[.int .i64 (H.t:Int),.int .i64 (H.p:Int),.int .i64 (H.s:Int)]).alloc (.cells #[.slice none 0 0,.int .i64 0,.int .i64 0,.int .i64 0,.int .i64 0,.int .i64 0,.int .i64 0,.int .i64 0,.int .i64 0] 56))
 obtain⟨c0,c1,c2⟩:=HX.o.three
 have HS:=qh (Held.new2 w (.cells #[.int .i64 (H.t:Int),.int .i64 (H.p:Int),.int .i64 (H.s:Int)] 23) 56 #[.slice none 0 0,.int .i64 0,.int .i64 0,.int .i64 0,.int .i64 0,.int .i64 0,.int .i64 0,.int .i64 0,.int .i64 0])
 have HBW:=qh (Bnew (Bnew (B0 w) (.cells #[.int .i64 (H.t:Int),.int .i64 (H.p:Int),.int .i64 (H.s:Int)] 23)) (.cells #[.slice none 0 0,.int .i64 0,.int .i64 0,.int .i64 0,.int .i64 0,.int .i64 0,.int .i64 0,.int .i64 0,.int .i64 0] 56))
 have HSO:=qh (qHm (H.t:Int) (H.p:Int) (H.s:Int) (some ad) n c m true _ (hC.grown HBW.o))
 have HXK:=qh hC
 have hn:=HV.nums
 have hcx:c<=9223372036854775807:=hn.2.2.2.2.2.2.2.2
 have hni:n<=6238:=hn.2.2.2.2.2.2.1
 have hnc:=HV.cap
 have hn30:30<=n:=by have:=HV.len;omega
 have hbl:ad.block<w.heap.size:=hv.1
 obtain⟨l,hl⟩:∃ l,blocksOf H.parts=l:=⟨_,rfl⟩
 have HLB:=qh hl
 obtain⟨nb,hnb⟩:∃ nb,l.length=nb:=⟨_,rfl⟩
 have HNB:=qh hnb
 clear hC hv hl hnb HXK0 hn
 go_enter Tryz.func23,Tryz.ntmps23
 go_wp2_with (first
  | (go_at_call 65;refine HSO.o.mono ?_;rintro e w2 ⟨rfl,hb2⟩;have HB2:=qh (Bgo HBW.o hb2);have HS2:=qh (HS.o.keep hb2);have HX2:=qh (HX.o.keep hb2);clear hb2 c0 c1 c2;obtain⟨c0,c1,c2⟩:=HX2.o.three)
  | (go_at_call 66;refine(qIn HV ad m _ (HVL.o.below HB2.o) (HXK.o.grown HB2.o)).mono ?_;rintro e w3 ⟨u,rfl,hown3,hb3⟩;rw[HLB.o,HNB.o] at hown3;obtain⟨Ab,cb,rfl⟩:=qKK hown3;have HG6:qH (w.heap.size+1<w3.heap.size):=qh (by have h1:=hb3.size;have h2:=HS2.o.lt;omega);have HO3:=qh (hown3.alloc (.cells #[.slice Ab nb cb,.int .i64 0,.int .i64 0,.int .i64 0,.int .i64 0,.int .i64 0,.int .i64 0,.int .i64 0,.int .i64 0] 56));have HB3:=qh (Bnew (Bgo HB2.o hb3) (.cells #[.slice Ab nb cb,.int .i64 0,.int .i64 0,.int .i64 0,.int .i64 0,.int .i64 0,.int .i64 0,.int .i64 0,.int .i64 0] 56));have HS3:=qh ((HS2.o.keep hb3).alloc (.cells #[.slice Ab nb cb,.int .i64 0,.int .i64 0,.int .i64 0,.int .i64 0,.int .i64 0,.int .i64 0,.int .i64 0,.int .i64 0] 56));have HN3:=qh (Held.new w3 56 #[.slice Ab nb cb,.int .i64 0,.int .i64 0,.int .i64 0,.int .i64 0,.int .i64 0,.int .i64 0,.int .i64 0,.int .i64 0]);have HOL:qH (∀ j,(Value.slice Ab nb cb).ownBlock=some j->w2.heap.size<=j/\j<w3.heap.size):=qh (fun j hj=>hown3.lt j hj);clear hown3 hb3 c0 c1 c2)
  | fail)
 generalize hg6:w3.heap.size=g6 at *
 generalize hw4:w3.alloc (.cells #[.slice Ab nb cb,.int .i64 0,.int .i64 0,.int .i64 0,.int .i64 0,.int .i64 0,.int .i64 0,.int .i64 0,.int .i64 0] 56)=W4 at *
 have HR0:qH (RowF W4 g6 56 9 9 (stF H (.slice Ab nb cb) 0)):=qh ⟨_,HN3.o,by simp,qo,by unfold maxLen;omega,fun i hi=>by
  rcases(by omega:i=0\/i=1\/i=2\/i=3\/i=4\/i=5\/i=6\/i=7\/i=8) with rfl|rfl|rfl|rfl|rfl|rfl|rfl|rfl|rfl <;> rfl⟩
 have hgw:=HG6.o
 clear hg6 hw4
 go_loopw [7] (fun u7 wr=>∃ k:Nat,k<=8/\u7 = .int .i64 (k:Int)/\qH (Turns (fun i=>i=g6) W4 wr)/\qH (RowF wr g6 56 9 9 (stF H (.slice Ab nb cb) k))) (fun u7 _=>8-(intOf u7).toNat)
 case atStart=>exact⟨0,qo,rfl,qh (T0 _ _),HR0⟩
 case round =>
  clear HR0
  obtain⟨k,hk,rfl,HT0,HR⟩:=hrel
  have HB:=qh (HT0.o.below HB3.o qo)
  by_cases hlt:k<8
  ·have t0:decide ((k:Int)<8)=true:=qt
   have t8:(k:Int)<8:=qo
   have HRT:qH (nthI 22 8 1 (k:Int)=((22+k:Nat):Int)):=qh (by rw[qLq qo qo qo];push_cast;omega)
   have hin:22+k<n:=qo
   have hvk:=(HVL.o.below HB.o).2 (22+k) hin
   have hv32:=HV.lt (22+k) hin
   have hrc:=HR.o.cell (show 1+k<9 by omega)
   have hrf:=HR.o.thawed (1+k)
   have HUP:qH (∀ i,i<9->updF (stF H (.slice Ab nb cb) k) (1+k) (.int .i64 (H.V (22+k):Nat)) i=stF H (.slice Ab nb cb) (k+1) i):=qh (fun i hi=>by
    unfold updF stF
    by_cases e:i=1+k
    ·subst e;rw[if_pos rfl,if_neg qo,if_pos qo,show 21+(1+k)=22+k by omega]
    ·rw[if_neg e]
     by_cases e0:i=0
     ·rw[if_pos e0,if_pos e0]
     ·rw[if_neg e0,if_neg e0]
      by_cases e2:i<=k
      ·rw[if_pos e2,if_pos qo]
      ·rw[if_neg e2,if_neg qo])
   have hr0:stF H (.slice Ab nb cb) k (1+k) = .int .i64 0:=by unfold stF;rw[if_neg qo,if_neg qo]
   rw[hr0] at hrc
   obtain⟨v,hvv⟩:∃ v,H.V (22+k)=v:=⟨_,rfl⟩
   obtain⟨ix,hHIX⟩:∃ ix,22+k=ix:=⟨_,rfl⟩
   rw[hHIX] at hin hvk HRT
   rw[<- hHIX,hvv,hHIX] at hvk
   rw[hvv] at hv32 HUP
   have hin2:(ix:Int)<n:=qo
   have wv:IntKind.i64.wrap (v:Int)=(v:Int):=qIv qo qo
   have HT9:qH (Turns (fun i=>i=g6) wr (wr.setCell ⟨g6,1+k,none⟩ (.int .i64 (v:Int)))):=qh ((T0 (fun i=>i=g6) wr).put (p:=⟨g6,1+k,none⟩) rfl _)
   clear hvv hHIX
   go_wp2_with (first
    | (go_at_call 67;refine(qSB _ _).mono ?_;rintro e w9 ⟨rfl,rfl⟩;rw[HRT.o])
    | fail)
   go_roundw
   case rel=>exact⟨k+1,qo,by go_num,qh (HT0.o.trans HT9.o),qh ((HR.o.put (show 1+k<9 by omega) (.int .i64 (v:Int))).congr HUP.o)⟩
   case measure=>simp[intOf];omega
  ·have t0:decide ((k:Int)<8)=false:=qf
   have hk8:k=8:=qo
   subst hk8
   obtain⟨r0,r1,r2,r3,r4,r5,r6,r7,hrv,e0,e1,e2,e3,e4,e5,e6,e7⟩:=qYK H
   have hf0:stF H (.slice Ab nb cb) 8 0 = .slice Ab nb cb:=rfl
   have hf1:stF H (.slice Ab nb cb) 8 1 = .int .i64 (r0:Int):=by rw[<- e0];rfl
   have hf2:stF H (.slice Ab nb cb) 8 2 = .int .i64 (r1:Int):=by rw[<- e1];rfl
   have hf3:stF H (.slice Ab nb cb) 8 3 = .int .i64 (r2:Int):=by rw[<- e2];rfl
   have hf4:stF H (.slice Ab nb cb) 8 4 = .int .i64 (r3:Int):=by rw[<- e3];rfl
   have hf5:stF H (.slice Ab nb cb) 8 5 = .int .i64 (r4:Int):=by rw[<- e4];rfl
   have hf6:stF H (.slice Ab nb cb) 8 6 = .int .i64 (r5:Int):=by rw[<- e5];rfl
   have hf7:stF H (.slice Ab nb cb) 8 7 = .int .i64 (r6:Int):=by rw[<- e6];rfl
   have hf8:stF H (.slice Ab nb cb) 8 8 = .int .i64 (r7:Int):=by rw[<- e7];rfl
   have q0:=(HR.o.cell (show 0<9 by omega)).trans (congrArg some hf0)
   have q1:=(HR.o.cell (show 1<9 by omega)).trans (congrArg some hf1)
   have q2:=(HR.o.cell (show 2<9 by omega)).trans (congrArg some hf2)
   have q3:=(HR.o.cell (show 3<9 by omega)).trans (congrArg some hf3)
   have q4:=(HR.o.cell (show 4<9 by omega)).trans (congrArg some hf4)
   have q5:=(HR.o.cell (show 5<9 by omega)).trans (congrArg some hf5)
   have q6:=(HR.o.cell (show 6<9 by omega)).trans (congrArg some hf6)
   have q7:=(HR.o.cell (show 7<9 by omega)).trans (congrArg some hf7)
   have q8:=(HR.o.cell (show 8<9 by omega)).trans (congrArg some hf8)
   have HS4:=qh (HT0.o.held HS3.o qo)
   obtain⟨z0,z1,z2,z3,z4,z5,z6,z7,z8⟩:=HS4.o.nine
   obtain⟨f0,f1,f2,f3,f4,f5,f6,f7,f8⟩:=HS4.o.thawed9
   have HO4:=qh (qWQ HO3.o (fun j hj=>HT0.o.block j (HO3.o.lt j hj).2 (by have:=(HOL.o j hj).2;omega)))
   have HRE:=qh (And.intro e0 (And.intro e1 (And.intro e2 (And.intro e3 (And.intro e4 (And.intro e5 (And.intro e6 e7)))))))
   clear hrv e0 e1 e2 e3 e4 e5 e6 e7 hf0 hf1 hf2 hf3 hf4 hf5 hf6 hf7 hf8
   go_wp2_with fail
   obtain⟨WF,hWF⟩:∃ WF,set9 (wr) (w.heap.size+1) (.slice Ab nb cb) (.int .i64 (r0:Int)) (.int .i64 (r1:Int)) (.int .i64 (r2:Int)) (.int .i64 (r3:Int)) (.int .i64 (r4:Int)) (.int .i64 (r5:Int)) (.int .i64 (r6:Int)) (.int .i64 (r7:Int))=WF:=⟨_,rfl⟩
   have zz:=HS4.o.set9 (.slice Ab nb cb) (.int .i64 (r0:Int)) (.int .i64 (r1:Int)) (.int .i64 (r2:Int)) (.int .i64 (r3:Int)) (.int .i64 (r4:Int)) (.int .i64 (r5:Int)) (.int .i64 (r6:Int)) (.int .i64 (r7:Int))
   have hBF:=qLN (g:=(w.heap.size+1)) HB.o qo (.slice Ab nb cb) (.int .i64 (r0:Int)) (.int .i64 (r1:Int)) (.int .i64 (r2:Int)) (.int .i64 (r3:Int)) (.int .i64 (r4:Int)) (.int .i64 (r5:Int)) (.int .i64 (r6:Int)) (.int .i64 (r7:Int))
   have hOF:=qL8 (g:=(w.heap.size+1)) (qIX HO4.o HB2.o.size) (fun j hj=>by have h1:=(HOL.o j hj).1;have h2:=HS2.o.lt;omega) (.slice Ab nb cb) (.int .i64 (r0:Int)) (.int .i64 (r1:Int)) (.int .i64 (r2:Int)) (.int .i64 (r3:Int)) (.int .i64 (r4:Int)) (.int .i64 (r5:Int)) (.int .i64 (r6:Int)) (.int .i64 (r7:Int))
   rw[hWF] at zz hBF hOF
   unfold set9 at hWF
   rw[hWF]
   obtain⟨y0,y1,y2,y3,y4,y5,y6,y7,y8⟩:=zz.nine
   refine bodyPost_ret (v := .tuple #[.agg #[.slice Ab nb cb,.int .i64 (r0:Int),.int .i64 (r1:Int),.int .i64 (r2:Int),.int .i64 (r3:Int),.int .i64 (r4:Int),.int .i64 (r5:Int),.int .i64 (r6:Int),.int .i64 (r7:Int)],.bool true]) (by simp[results,Tryz.results23,go_sem,y0,y1,y2,y3,y4,y5,y6,y7,y8]) rfl ⟨.slice Ab nb cb,by obtain⟨e0,e1,e2,e3,e4,e5,e6,e7⟩:=HRE.o;simp only[e0,e1,e2,e3,e4,e5,e6,e7],?_,hBF⟩
   rw[HLB.o,HNB.o]
   exact hOF
end
section
theorem eqStep (d:Nat)(xs ys:Array Value)(i:Nat)(a b:Int)(is:List Nat)(w:World)(hx:xs[i]?=some (.int .i64 a))(hy:ys[i]?=some (.int .i64 b)) :
  (Op.eqItems (d+1) 2 1 xs ys (i :: is)).run Tryz.prog w=if (a==b)=true then (Op.eqItems (d+1) 2 1 xs ys is).run Tryz.prog w else .ok false w:=by
 have p1:=run_part_plain (P := Tryz.prog) w (e := 2) qr (off:=i*1) (by rw[Nat.mul_one];exact hx)
 have p2:=run_part_plain (P := Tryz.prog) w (e := 2) qr (off:=i*1) (by rw[Nat.mul_one];exact hy)
 have p3:=run_equalIn_int (P := Tryz.prog) w d 2 .i64 .i64 a b Tryz.underlying2
 simp only[Op.eqItems,Sem.run_bind,p1,p2,p3,Result.andThen_ok]
 cases a==b <;> simp
theorem qAD (r0 r1 r2 r3 r4 r5 r6 r7 p0 p1 p2 p3 p4 p5 p6 p7:Int)(w:World) :
  (Op.equalIn 10000 54 (.agg #[.int .i64 r0,.int .i64 r1,.int .i64 r2,.int .i64 r3,.int .i64 r4,.int .i64 r5,.int .i64 r6,.int .i64 r7]) (.agg #[.int .i64 p0,.int .i64 p1,.int .i64 p2,.int .i64 p3,.int .i64 p4,.int .i64 p5,.int .i64 p6,.int .i64 p7])).run Tryz.prog w = .ok (r0==p0&&(r1==p1&&(r2==p2&&(r3==p3&&(r4==p4&&(r5==p5&&(r6==p6&&(r7==p7)))))))) w:=by
 obtain⟨i,hi⟩:∃ i,Tryz.prog.info? 2 = some i:=Option.isSome_iff_exists.1 qr
 have hc : Tryz.prog.cellsOf 2 = 1:=by kernel_rfl
 show (Op.equalIn (9999+1) _ _ _).run _ _=_
 rw[run_equalIn_array w 9999 _ _ Tryz.underlying54 hi,hc]
 show (Op.eqItems (9998+1) 2 1 _ _ [0,1,2,3,4,5,6,7]).run _ _=_
 rw[eqStep 9998 _ _ 0 r0 p0 _ w rfl rfl]
 rw[eqStep 9998 _ _ 1 r1 p1 _ w rfl rfl]
 rw[eqStep 9998 _ _ 2 r2 p2 _ w rfl rfl]
 rw[eqStep 9998 _ _ 3 r3 p3 _ w rfl rfl]
 rw[eqStep 9998 _ _ 4 r4 p4 _ w rfl rfl]
 rw[eqStep 9998 _ _ 5 r5 p5 _ w rfl rfl]
 rw[eqStep 9998 _ _ 6 r6 p6 _ w rfl rfl]
 rw[eqStep 9998 _ _ 7 r7 p7 _ w rfl rfl]
 have hn:∀ xs ys:Array Value,(Op.eqItems (9998+1) 2 1 xs ys []).run Tryz.prog w = .ok true w:=fun xs ys=>by simp[Op.eqItems]
 rw[hn]
 generalize (r0==p0)=e0
 generalize (r1==p1)=e1
 generalize (r2==p2)=e2
 generalize (r3==p3)=e3
 generalize (r4==p4)=e4
 generalize (r5==p5)=e5
 generalize (r6==p6)=e6
 generalize (r7==p7)=e7
 cases e0
 ·rfl
 cases e1
 ·rfl
 cases e2
 ·rfl
 cases e3
 ·rfl
 cases e4
 ·rfl
 cases e5
 ·rfl
 cases e6
 ·rfl
 cases e7
 ·rfl
 ·rfl

theorem qO2 (r0 r1 r2 r3 r4 r5 r6 r7 p0 p1 p2 p3 p4 p5 p6 p7:Int):(r0==p0&&(r1==p1&&(r2==p2&&(r3==p3&&(r4==p4&&(r5==p5&&(r6==p6&&(r7==p7))))))))=true ↔ [r0,r1,r2,r3,r4,r5,r6,r7] = [p0,p1,p2,p3,p4,p5,p6,p7]:=by simp
end
section
theorem qRt (l1 l2:List (Int × Int))(A1 A2:Option Addr)(nl c1 c2 b1 b2:Nat)(r0 r1 r2 r3 r4 r5 r6 r7 p0 p1 p2 p3 p4 p5 p6 p7:Int)(w:World)(h1:l1.length=nl)(h2:l2.length=nl)(hnl:nl<=100000)(hnl:nl<=100000)
  (hO1:w.ownsRow b1 64 2 (.slice A1 nl c1) nl (bkVs l1)) (hO2:w.ownsRow b2 64 2 (.slice A2 nl c2) nl (bkVs l2)) (b:Bool) (hb:b=true ↔ [r0,r1,r2,r3,r4,r5,r6,r7] = [p0,p1,p2,p3,p4,p5,p6,p7]/\l1=l2) :
  Calls Tryz.prog 30 #[.agg #[.slice A1 nl c1,.int .i64 r0,.int .i64 r1,.int .i64 r2,.int .i64 r3,.int .i64 r4,.int .i64 r5,.int .i64 r6,.int .i64 r7],.agg #[.slice A2 nl c2,.int .i64 p0,.int .i64 p1,.int .i64 p2,.int .i64 p3,.int .i64 p4,.int .i64 p5,.int .i64 p6,.int .i64 p7]] w fun e w'=>e = .returned (.bool b)/\Below w.heap.size w w':=by
 have HX1:=qh ((Held.new w 56 #[.slice A1 nl c1,.int .i64 r0,.int .i64 r1,.int .i64 r2,.int .i64 r3,.int .i64 r4,.int .i64 r5,.int .i64 r6,.int .i64 r7]).alloc (.cells #[.slice A2 nl c2,.int .i64 p0,.int .i64 p1,.int .i64 p2,.int .i64 p3,.int .i64 p4,.int .i64 p5,.int .i64 p6,.int .i64 p7] 56))
 have HX2:=qh (Held.new2 w (.cells #[.slice A1 nl c1,.int .i64 r0,.int .i64 r1,.int .i64 r2,.int .i64 r3,.int .i64 r4,.int .i64 r5,.int .i64 r6,.int .i64 r7] 56) 56 #[.slice A2 nl c2,.int .i64 p0,.int .i64 p1,.int .i64 p2,.int .i64 p3,.int .i64 p4,.int .i64 p5,.int .i64 p6,.int .i64 p7])
 obtain⟨x0,x1,x2,x3,x4,x5,x6,x7,x8⟩:=HX1.o.nine
 obtain⟨y0,y1,y2,y3,y4,y5,y6,y7,y8⟩:=HX2.o.nine
 have HBW:=qh (Bnew (Bnew (B0 w) (.cells #[.slice A1 nl c1,.int .i64 r0,.int .i64 r1,.int .i64 r2,.int .i64 r3,.int .i64 r4,.int .i64 r5,.int .i64 r6,.int .i64 r7] 56)) (.cells #[.slice A2 nl c2,.int .i64 p0,.int .i64 p1,.int .i64 p2,.int .i64 p3,.int .i64 p4,.int .i64 p5,.int .i64 p6,.int .i64 p7] 56))
 have HO1:=qh ((hO1.alloc (.cells #[.slice A1 nl c1,.int .i64 r0,.int .i64 r1,.int .i64 r2,.int .i64 r3,.int .i64 r4,.int .i64 r5,.int .i64 r6,.int .i64 r7] 56)).alloc (.cells #[.slice A2 nl c2,.int .i64 p0,.int .i64 p1,.int .i64 p2,.int .i64 p3,.int .i64 p4,.int .i64 p5,.int .i64 p6,.int .i64 p7] 56))
 have HO2:=qh ((hO2.alloc (.cells #[.slice A1 nl c1,.int .i64 r0,.int .i64 r1,.int .i64 r2,.int .i64 r3,.int .i64 r4,.int .i64 r5,.int .i64 r6,.int .i64 r7] 56)).alloc (.cells #[.slice A2 nl c2,.int .i64 p0,.int .i64 p1,.int .i64 p2,.int .i64 p3,.int .i64 p4,.int .i64 p5,.int .i64 p6,.int .i64 p7] 56))
 have HL1:=qh h1
 have HL2:=qh h2
 obtain⟨h11,h12⟩:=qJH hO1
 obtain⟨h21,h22⟩:=qJH hO2
 have h12:c1<=9223372036854775807:=h12
 have h22:c2<=9223372036854775807:=h22
 have hei:=qO2 r0 r1 r2 r3 r4 r5 r6 r7 p0 p1 p2 p3 p4 p5 p6 p7
 have he:=fun W=>qAD r0 r1 r2 r3 r4 r5 r6 r7 p0 p1 p2 p3 p4 p5 p6 p7 W
 obtain⟨eb,heb⟩:∃ eb,(r0==p0&&(r1==p1&&(r2==p2&&(r3==p3&&(r4==p4&&(r5==p5&&(r6==p6&&(r7==p7))))))))=eb:=⟨_,rfl⟩
 rw[heb] at hei
 simp only[heb] at he
 have q0:((nl:Int) != (nl:Int))=false:=by simp
 cases eb
 ·have HBF:qH (b=false):=qh (qE5 hb (fun h=>by have:=hei.2 h.1;cases this))
  clear hei heb hb h1 h2 hO1 hO2
  exact MfI
 ·have HBC:qH (b=true↔l1=l2):=qh (hb.trans ⟨fun h=>h.2,fun h=>⟨hei.1 rfl,h⟩⟩)
  clear hei heb hb h1 h2 hO1 hO2
  go_enter Tryz.func30,Tryz.ntmps30
  go_wp2_with fail
  generalize (w.alloc (.cells #[.slice A1 nl c1,.int .i64 r0,.int .i64 r1,.int .i64 r2,.int .i64 r3,.int .i64 r4,.int .i64 r5,.int .i64 r6,.int .i64 r7] 56)).alloc (.cells #[.slice A2 nl c2,.int .i64 p0,.int .i64 p1,.int .i64 p2,.int .i64 p3,.int .i64 p4,.int .i64 p5,.int .i64 p6,.int .i64 p7] 56)=WL at *
  clear he x1 x2 x3 x4 x5 x6 x7 x8 y1 y2 y3 y4 y5 y6 y7 y8 q0
  go_loopw [5] (fun u5 wr=>∃ (i d:Nat),i<=nl/\u5 = .int .i64 (i:Int)/\qH (l1.take i=l2.take i)/\wr=WL.drewN d) (fun u5 _=>nl-(intOf u5).toNat)
  case atStart=>exact⟨0,0,qo,rfl,qh rfl,rfl⟩
  case round =>
   obtain⟨i,d,hi,rfl,HTE,rfl⟩:=hrel
   by_cases hlt:i<nl
   ·obtain⟨x,hx⟩:∃ x,l1[i]?=some x:=⟨_,List.getElem?_eq_getElem (by have:=HL1.o;omega)⟩
    obtain⟨y,hy⟩:∃ y,l2[i]?=some y:=⟨_,List.getElem?_eq_getElem (by have:=HL2.o;omega)⟩
    obtain⟨g1,cv1,hv1,_,_⟩:=HO1.o.form qo
    injection hv1 with hv1 _ hc1
    subst hv1
    subst hc1
    obtain⟨g2,cv2,hv2,_,_⟩:=HO2.o.form qo
    injection hv2 with hv2 _ hc2
    subst hv2
    subst hc2
    obtain⟨p0,p1⟩:=qGH HO1.o HL1.o hx
    obtain⟨q0,q1⟩:=qGH HO2.o HL2.o hy
    have HNE:qH (x≠y->¬ l1=l2):=qh (fun h e=>h (by rw[e,hy] at hx;exact(Option.some.inj hx).symm))
    have HSU:qH (x=y->l1.take (i+1)=l2.take (i+1)):=qh (fun h=>by rw[List.take_add_one,List.take_add_one,HTE.o,hx,hy,h])
    obtain⟨a1,z1⟩:=x
    obtain⟨a2,z2⟩:=y
    have t0:decide ((i:Int)<nl)=true:=qt
    have t0n:decide (i<nl)=true:=decide_eq_true hlt
    simp only at p0 p1 q0 q1
    clear hx hy
    by_cases ha:a1=a2
    ·subst ha
     by_cases hz:z1=z2
     ·subst hz
      have HT1:=qh (HSU.o rfl)
      go_wp2_with fail
      refine wp_region_held_drew (S:=(fun w'=>w'.cell? ⟨g1,i*2,none⟩=some (.int .i64 a1)/\w'.cell? ⟨g1,i*2+1,none⟩=some (.int .i64 z1)/\w'.cell? ⟨g2,i*2,none⟩=some (.int .i64 a1)/\w'.cell? ⟨g2,i*2+1,none⟩=some (.int .i64 z1)/\w'.cell? ⟨w.heap.size,0,none⟩=some (.slice (some ⟨g1,0,none⟩) nl c1)/\w'.cell? ⟨w.heap.size+1,0,none⟩=some (.slice (some ⟨g2,0,none⟩) nl c2))) qr ?_ (fun hHeld=>?_)
      ·exact MLK
      refine RLS ?_
      refine RYy ?_
      refine dnz ?_
      go_wp2_with fail
      go_roundw
      case rel=>exact⟨i+1,d+1,qo,by go_num,HT1,rfl⟩
      case measure=>simp[intOf];omega
     ·have qz:(z1==z2)=false:=by simpa using hz
      have HBF:qH (b=false):=qh (qE5 HBC.o (HNE.o (fun e=>hz (Prod.mk.inj e).2)))
      go_wp2_with fail
      refine wp_region_held_drew (S:=(fun w'=>w'.cell? ⟨g1,i*2,none⟩=some (.int .i64 a1)/\w'.cell? ⟨g1,i*2+1,none⟩=some (.int .i64 z1)/\w'.cell? ⟨g2,i*2,none⟩=some (.int .i64 a1)/\w'.cell? ⟨g2,i*2+1,none⟩=some (.int .i64 z2)/\w'.cell? ⟨w.heap.size,0,none⟩=some (.slice (some ⟨g1,0,none⟩) nl c1)/\w'.cell? ⟨w.heap.size+1,0,none⟩=some (.slice (some ⟨g2,0,none⟩) nl c2))) qr ?_ (fun hHeld=>?_)
      ·exact MLK
      exact MiY
    ·have qa:(a1==a2)=false:=by simpa using ha
     have HBF:qH (b=false):=qh (qE5 HBC.o (HNE.o (fun e=>ha (Prod.mk.inj e).1)))
     go_wp2_with fail
     refine wp_region_held_drew (S:=(fun w'=>w'.cell? ⟨g1,i*2,none⟩=some (.int .i64 a1)/\w'.cell? ⟨g1,i*2+1,none⟩=some (.int .i64 z1)/\w'.cell? ⟨g2,i*2,none⟩=some (.int .i64 a2)/\w'.cell? ⟨g2,i*2+1,none⟩=some (.int .i64 z2)/\w'.cell? ⟨w.heap.size,0,none⟩=some (.slice (some ⟨g1,0,none⟩) nl c1)/\w'.cell? ⟨w.heap.size+1,0,none⟩=some (.slice (some ⟨g2,0,none⟩) nl c2))) qr ?_ (fun hHeld=>?_)
     ·exact MLK
     exact MiY
   ·have t0:decide ((i:Int)<nl)=false:=qf
    have t0n:decide (i<nl)=false:=decide_eq_false hlt
    have HBT:qH (b=true):=qh (HBC.o.2 (by
     have h:=HTE.o
     rwa [List.take_of_length_le (by have:=HL1.o;omega),List.take_of_length_le (by have:=HL2.o;omega)] at h))
    go_wp2_with fail
    go_ret
    exact⟨by rw[HBT.o];rfl,Bdraw HBW.o d⟩
theorem qVO (l1 l2:List (Int × Int))(A1 A2:Option Addr)(n1 n2 c1 c2 b1 b2:Nat)(r0 r1 r2 r3 r4 r5 r6 r7 p0 p1 p2 p3 p4 p5 p6 p7:Int)(w:World)(h1:l1.length=n1)(h2:l2.length=n2)(hn1:n1<=100000)(hn2:n2<=100000)
  (hO1:w.ownsRow b1 64 2 (.slice A1 n1 c1) n1 (bkVs l1)) (hO2:w.ownsRow b2 64 2 (.slice A2 n2 c2) n2 (bkVs l2)) (b:Bool) (hb:b=true ↔ [r0,r1,r2,r3,r4,r5,r6,r7] = [p0,p1,p2,p3,p4,p5,p6,p7]/\l1=l2) :
  Calls Tryz.prog 30 #[.agg #[.slice A1 n1 c1,.int .i64 r0,.int .i64 r1,.int .i64 r2,.int .i64 r3,.int .i64 r4,.int .i64 r5,.int .i64 r6,.int .i64 r7],.agg #[.slice A2 n2 c2,.int .i64 p0,.int .i64 p1,.int .i64 p2,.int .i64 p3,.int .i64 p4,.int .i64 p5,.int .i64 p6,.int .i64 p7]] w fun e w'=>e = .returned (.bool b)/\Below w.heap.size w w':=by
 by_cases hne:n1=n2
 ·subst hne
  exact qRt l1 l2 A1 A2 n1 c1 c2 b1 b2 r0 r1 r2 r3 r4 r5 r6 r7 p0 p1 p2 p3 p4 p5 p6 p7 w h1 h2 hn1 hn2 hO1 hO2 b hb
 ·have q0:((n1:Int) != (n2:Int))=true:=qs
  have q0n:(n1 != n2)=true:=by simpa using hne
  have HBF:qH (b=false):=qh (qE5 hb (fun e=>hne (by rw[<- h1,<- h2,e.2])))
  have HX1:=qh ((Held.new w 56 #[.slice A1 n1 c1,.int .i64 r0,.int .i64 r1,.int .i64 r2,.int .i64 r3,.int .i64 r4,.int .i64 r5,.int .i64 r6,.int .i64 r7]).alloc (.cells #[.slice A2 n2 c2,.int .i64 p0,.int .i64 p1,.int .i64 p2,.int .i64 p3,.int .i64 p4,.int .i64 p5,.int .i64 p6,.int .i64 p7] 56))
  have HX2:=qh (Held.new2 w (.cells #[.slice A1 n1 c1,.int .i64 r0,.int .i64 r1,.int .i64 r2,.int .i64 r3,.int .i64 r4,.int .i64 r5,.int .i64 r6,.int .i64 r7] 56) 56 #[.slice A2 n2 c2,.int .i64 p0,.int .i64 p1,.int .i64 p2,.int .i64 p3,.int .i64 p4,.int .i64 p5,.int .i64 p6,.int .i64 p7])
  obtain⟨x0,x1,x2,x3,x4,x5,x6,x7,x8⟩:=HX1.o.nine
  obtain⟨y0,y1,y2,y3,y4,y5,y6,y7,y8⟩:=HX2.o.nine
  have HBW:=qh (Bnew (Bnew (B0 w) (.cells #[.slice A1 n1 c1,.int .i64 r0,.int .i64 r1,.int .i64 r2,.int .i64 r3,.int .i64 r4,.int .i64 r5,.int .i64 r6,.int .i64 r7] 56)) (.cells #[.slice A2 n2 c2,.int .i64 p0,.int .i64 p1,.int .i64 p2,.int .i64 p3,.int .i64 p4,.int .i64 p5,.int .i64 p6,.int .i64 p7] 56))
  have HO1:=qh ((hO1.alloc (.cells #[.slice A1 n1 c1,.int .i64 r0,.int .i64 r1,.int .i64 r2,.int .i64 r3,.int .i64 r4,.int .i64 r5,.int .i64 r6,.int .i64 r7] 56)).alloc (.cells #[.slice A2 n2 c2,.int .i64 p0,.int .i64 p1,.int .i64 p2,.int .i64 p3,.int .i64 p4,.int .i64 p5,.int .i64 p6,.int .i64 p7] 56))
  have HO2:=qh ((hO2.alloc (.cells #[.slice A1 n1 c1,.int .i64 r0,.int .i64 r1,.int .i64 r2,.int .i64 r3,.int .i64 r4,.int .i64 r5,.int .i64 r6,.int .i64 r7] 56)).alloc (.cells #[.slice A2 n2 c2,.int .i64 p0,.int .i64 p1,.int .i64 p2,.int .i64 p3,.int .i64 p4,.int .i64 p5,.int .i64 p6,.int .i64 p7] 56))
  have HL1:=qh h1
  have HL2:=qh h2
  obtain⟨h11,h12⟩:=qJH hO1
  obtain⟨h21,h22⟩:=qJH hO2
  have h12:c1<=9223372036854775807:=h12
  have h22:c2<=9223372036854775807:=h22
  have hei:=qO2 r0 r1 r2 r3 r4 r5 r6 r7 p0 p1 p2 p3 p4 p5 p6 p7
  have he:=fun W=>qAD r0 r1 r2 r3 r4 r5 r6 r7 p0 p1 p2 p3 p4 p5 p6 p7 W
  obtain⟨eb,heb⟩:∃ eb,(r0==p0&&(r1==p1&&(r2==p2&&(r3==p3&&(r4==p4&&(r5==p5&&(r6==p6&&(r7==p7))))))))=eb:=⟨_,rfl⟩
  rw[heb] at hei
  simp only[heb] at he
  clear hei heb hb h1 h2 hO1 hO2 hne he
  exact MfI
end
section
section
variable {W w : World} {O1 O2 : Ob} {A B G : Nat -> Prop} {s1 s2 : Vst}
theorem Duo.poke (h:Duo W O1 O2 A B G s1 s2 w){p:Addr}(ha:¬ A p.block)(hb:¬ B p.block)(hW:W.heap.size<=p.block)(u:Value):Duo W O1 O2 A B G s1 s2 (w.setCell p u) :=
 ⟨O1.turns h.i1 ((T0 (fun i=>i=p.block) w).put (p:=p) rfl u) (fun i hi e=>ha (by rw[<- e];exact hi)),O2.turns h.i2 ((T0 (fun i=>i=p.block) w).put (p:=p) rfl u) (fun i hi e=>hb (by rw[<- e];exact hi)),h.ab,
  fun g hg=>⟨by simp;exact(h.aG g hg).1,(h.aG g hg).2⟩,h.lo,Bput h.bel hW u⟩
theorem Duo.set9 {g:Nat}(h:Duo W O1 O2 A B G s1 s2 w)(ha:¬ A g)(hb:¬ B g)(hW:W.heap.size<=g)(a0 a1 a2 a3 a4 a5 a6 a7 a8:Value):Duo W O1 O2 A B G s1 s2 (set9 w g a0 a1 a2 a3 a4 a5 a6 a7 a8) :=
 ((((((((h.poke (p:=⟨g,0,none⟩) ha hb hW a0).poke (p:=⟨g,1,none⟩) ha hb hW a1).poke (p:=⟨g,2,none⟩) ha hb hW a2).poke (p:=⟨g,3,none⟩) ha hb hW a3).poke (p:=⟨g,4,none⟩) ha hb hW a4).poke (p:=⟨g,5,none⟩) ha hb hW a5).poke (p:=⟨g,6,none⟩) ha hb hW a6).poke (p:=⟨g,7,none⟩) ha hb hW a7).poke (p:=⟨g,8,none⟩) ha hb hW a8
end
def wr9 (w:World) (g:Nat) (u:Value) (r0 r1 r2 r3 r4 r5 r6 r7:Nat):World:=set9 w g u (.int .i64 (r0:Int)) (.int .i64 (r1:Int)) (.int .i64 (r2:Int)) (.int .i64 (r3:Int)) (.int .i64 (r4:Int)) (.int .i64 (r5:Int)) (.int .i64 (r6:Int)) (.int .i64 (r7:Int))
section
variable {W w WF : World} {O1 O2 : Ob} {A B G : Nat -> Prop} {s1 s2 : Vst} {g g2 r0 r1 r2 r3 r4 r5 r6 r7 : Nat} {t : TypeId} {cs : Array Value} {u : Value}
theorem qXJ (hw:wr9 w g u r0 r1 r2 r3 r4 r5 r6 r7=WF){c0 c1 c2 c3 c4 c5 c6 c7 c8:Value}(h:Held w g t #[c0,c1,c2,c3,c4,c5,c6,c7,c8]):Held WF g t #[u,.int .i64 (r0:Int),.int .i64 (r1:Int),.int .i64 (r2:Int),.int .i64 (r3:Int),.int .i64 (r4:Int),.int .i64 (r5:Int),.int .i64 (r6:Int),.int .i64 (r7:Int)]:=by
 subst hw
 exact h.set9 _ _ _ _ _ _ _ _ _
theorem far9 (hw:wr9 w g u r0 r1 r2 r3 r4 r5 r6 r7=WF)(hne:g2≠g)(h:Held w g2 t cs):Held WF g2 t cs:=by
 subst hw
 exact(qMB hne _ _ _ _ _ _ _ _ _).trans h
theorem own9 (hw:wr9 w g u r0 r1 r2 r3 r4 r5 r6 r7=WF){base size n:Nat}{v:Value}{xs:List Value}(hne:v.ownBlock≠some g)(h:w.ownsRow base t size v n xs):WF.ownsRow base t size v n xs:=by
 subst hw
 exact qL8 h (fun j hj e=>hne (by rw[hj,e])) _ _ _ _ _ _ _ _ _
theorem duo9 (hw:wr9 w g u r0 r1 r2 r3 r4 r5 r6 r7=WF)(ha:¬ A g)(hb:¬ B g)(hW:W.heap.size<=g)(h:Duo W O1 O2 A B G s1 s2 w):Duo W O1 O2 A B G s1 s2 WF:=by
 subst hw
 exact h.set9 ha hb hW _ _ _ _ _ _ _ _ _
end
theorem qXC {H:AuH}{n c:Nat}(HV:HeapV H n c):(blocksOf H.parts).length<=60000:=by
 have h1:=qY6 H.parts
 have h2:H.parts.length<=H.p*33:=AuH.parts_len H.p
 have:=HV.nums.2.2.2.1
 omega
theorem qNU {H:AuH}{n c:Nat}{K:Nat->Option Nat}(HV:HeapV H n c){st:Vst}(hok:VOk n st)(h32:∀ i x,K i=some x->x<2^32)(hvw:VW n K st)(hr:∀ i,i<10->(nowH H n K st).rule i)(ho:∀ i,i<8->(nowH H n K st).V (22+i)=H.V (22+i))
  (L:List (Int × Int)) (hL:blocksOf (nowH H n K st).parts=L) (r0 r1 r2 r3 r4 r5 r6 r7:Nat) (h0:H.V 22=r0) (h1:H.V 23=r1) (h2:H.V 24=r2) (h3:H.V 25=r3) (h4:H.V 26=r4) (h5:H.V 27=r5) (h6:H.V 28=r6) (h7:H.V 29=r7) (w:World) (g cp:Nat) (hrow:RowF w g 76 n cp (valF (nowV K st.wr))) :
  Calls Tryz.prog 23 #[.agg #[.int .i64 (H.t:Int),.int .i64 (H.p:Int),.int .i64 (H.s:Int)],.slice (some ⟨g,0,none⟩) n cp] w fun e w'=>∃ u,e = .returned (.tuple #[.agg #[u,.int .i64 (r0:Int),.int .i64 (r1:Int),.int .i64 (r2:Int),.int .i64 (r3:Int),.int .i64 (r4:Int),.int .i64 (r5:Int),.int .i64 (r6:Int),.int .i64 (r7:Int)],.bool true])/\w'.ownsRow w.heap.size 64 2 u L.length (bkVs L)/\Below w.heap.size w w':=by
 have HV':=qN5 HV hok h32 (cp:=cp) hrow.le hrow.max
 have hv':IsVals w ⟨g,0,none⟩ n (nowH H n K st).V:=⟨hrow.lt,fun i hi=>by
  have e:(⟨g,0,none⟩:Addr).add i=⟨g,i,none⟩:=by
   unfold Addr.add
   by_cases hz:i=0
   ·rw[if_pos hz,hz]
   ·rw[if_neg hz];simp
  have e2:nowV K st.wr i=(nowH H n K st).V i:=by
   show _=curV n (getV n K st) H.V i
   rw[qG7 hi,hvw.at_ hi]
   rfl
  rw[e,hrow.cell hi]
  unfold valF
  rw[e2]⟩
 have hC:=qZU HV' ⟨g,0,none⟩ w hv' (m:=0) (b:=true) (.inl ⟨rfl,rfl,hr⟩)
 have:=qJ4 HV' ⟨g,0,none⟩ 0 w hv' hC
 rw[hL,show (nowH H n K st).V 22=r0 from (ho 0 qo).trans h0,show (nowH H n K st).V 23=r1 from (ho 1 qo).trans h1,show (nowH H n K st).V 24=r2 from (ho 2 qo).trans h2,show (nowH H n K st).V 25=r3 from (ho 3 qo).trans h3,show (nowH H n K st).V 26=r4 from (ho 4 qo).trans h4,show (nowH H n K st).V 27=r5 from (ho 5 qo).trans h5,show (nowH H n K st).V 28=r6 from (ho 6 qo).trans h6,show (nowH H n K st).V 29=r7 from (ho 7 qo).trans h7] at this
 exact this
end
section
def qMP (vals:List Nat):Nat->Option Nat:=fun i=>vals[i]?
section
variable {W w WF : World} {O1 O2 : Ob} {A B G : Nat -> Prop} {s1 s2 : Vst} {g g2 : Nat} {t : TypeId} {cs : Array Value} {a0 a1 a2 a3 c0 c1 c2 c3 : Value}
end
theorem qUj {w:World}{base g n c:Nat}{l:List Nat}(h:w.ownsRow base 3 1 (.slice (some ⟨g,0,none⟩) n c) n (ntVs l))(hl:l.length=n) :
  ∃ cs,Held w g 3 cs/\n<=c/\c<=9223372036854775807/\∀ (w:World),Held w g 3 cs->∀ i,i<n->w.cell? ⟨g,i,none⟩=some (.int .i64 ((l.getD i 0:Nat):Int)):=by
 rcases h.2 with ⟨h1,_⟩|⟨g',cap,cur,h1,hb,hg,hnc,hcm,hcs,ht⟩
 ·cases h1
 ·injection h1 with h1 h2 h3
  injection h1 with h1
  injection h1 with h1 _
  subst h1 h3
  refine⟨cur,hg,hnc,by unfold maxLen at hcm;omega,fun w' hh i hi=>?_⟩
  have e:cur[i]?=some (Value.int .i64 ((l.getD i 0:Nat):Int)):=by
   have h4:(cur.toList.take (n*1))[i]?=(ntVs l)[i]?:=by rw[ht]
   rw[List.getElem?_take,if_pos qo] at h4
   rw[<- Array.getElem?_toList,h4]
   unfold ntVs
   simp[List.getD,List.getElem?_eq_getElem (show i<l.length by omega)]
  rw[hh.cell i,e]
section
variable {H : AuH} {n c : Nat} {K : Nat -> Option Nat} {st : Vst}
theorem qXT (HV:HeapV H n c)(hok:VOk n st)(h32:∀ i x,K i=some x->x<2^32)(hvw:VW n K st){w:World}{g cp:Nat}(hrow:RowF w g 76 n cp (valF (nowV K st.wr))) :
  HeapV (nowH H n K st) n cp/\IsVals w ⟨g,0,none⟩ n (nowH H n K st).V:=by
 refine⟨qN5 HV hok h32 (cp:=cp) hrow.le hrow.max,hrow.lt,fun i hi=>?_⟩
 have e:(⟨g,0,none⟩:Addr).add i=⟨g,i,none⟩:=by
  unfold Addr.add
  by_cases hz:i=0
  ·rw[if_pos hz,hz]
  ·rw[if_neg hz];simp
 have e2:nowV K st.wr i=(nowH H n K st).V i:=by
  show _=curV n (getV n K st) H.V i
  rw[qG7 hi,hvw.at_ hi]
  rfl
 rw[e,hrow.cell hi]
 unfold valF
 rw[e2]
end
end
section
section
variable {O : Ob} {w0 ws wS w w' : World} {A Q G : Nat -> Prop} {g b D : Nat} {t q s : Int} {U V : Nat -> Sl} {Z Y : Nat -> List Int} {st s' : Vst}
theorem Mild.cell (h:Mild D w w'){p:Addr}{v:Value}(hc:w.cell? p=some v):w'.cell? p=some v:=by
 unfold World.cell? at hc ⊢
 cases ho:w.heap[p.block]? with
 | none=>rw[ho] at hc;cases hc
 | some o =>
  rw[ho] at hc
  have:w'.heap[p.block]?=some o:=by
   refine h.cells _ _ ho ?_
   cases o <;> first|rfl|(simp at hc)
  rw[this]
  exact hc
theorem LongsAt.mild {u:Value}{l:List Int}(h:LongsAt w u l)(hm:Mild D w w'):LongsAt w' u l:=by
 obtain⟨A,c,h1,h2,h3,h4,h5,h6⟩:=h
 exact⟨A,c,h1,h2,h3,h4,h5,fun ad e=>⟨fun hl=>Nat.lt_of_lt_of_le ((h6 ad e).1 hl) hm.size,fun i z hi=>hm.cell ((h6 ad e).2 i z hi)⟩⟩
theorem Mild.turns {F:Nat->Prop}(hm:Mild D w w')(h:Turns F wS w)(hD:wS.heap.size<=D):Turns F wS w' :=
 ⟨hm.os.trans h.os,hm.tape.trans h.tape,hm.output.trans h.output,Nat.le_trans h.size hm.size,fun i hi hf=>(hm.low i qo).trans (h.block i hi hf)⟩
theorem Hnd.mild (h:Hnd noOb w0 A Q G ws g b t q s U Z st w)(hm:Mild D w w')(h0:w0.heap.size<=D)(hs:ws.heap.size<=D):Hnd noOb w0 A Q G ws g b t q s U Z st w':=by
 obtain⟨A',h1,h2,h3,h4⟩:=h.p.at_
 refine⟨⟨⟨A',h1,h2,hm.turns h3 h0,fun i x=>⟨(h4 i x).1,Nat.lt_of_lt_of_le (h4 i x).2.1 hm.size,(h4 i x).2.2⟩⟩,fun k hk=>(h.p.pk k hk).mild hm,h.p.old⟩,hm.held h.held,⟨Nat.le_trans h.stay.1 hm.size,fun i x hl=>(hm.low i qo).trans (h.stay.2 i x hl)⟩,h.ng,h.npb⟩
theorem Hnd.regain (h:Hnd O w0 A Q G ws g b t q s U Z st wS)(k:Hnd noOb w0 A Q G wS g b t q s V Y s' w)(ht:Turns (fun i=>i=g) wS w)(hn:∀ i,PB V Y i->PB U Z i\/wS.heap.size<=i):Hnd O w0 A Q G ws g b t q s V Y st w:=by
 obtain⟨A',h1,h2,h3,h4⟩:=h.p.at_
 obtain⟨_,_,_,k3,k4⟩:=k.p.at_
 have hg:=(h4 g (.inl (.inr rfl))).2.2
 refine⟨⟨⟨A',O.turns h1 ht (fun i hi e=>hg (by rw[<- e];exact hi)),h2,k3,fun i x=>?_⟩,k.p.pk,k.p.old⟩,k.held,h.stay.trans k.stay,k.ng,k.npb⟩
 refine⟨(k4 i x).1,(k4 i x).2.1,fun y=>?_⟩
 rcases x with x|⟨x,x0⟩
 ·exact(h4 i (.inl x)).2.2 y
 ·rcases hn i x with h5|h5
  ·exact(h4 i (.inr ⟨h5,x0⟩)).2.2 y
  ·have:=O.lt h1 i y;omega
def ylB (fa:Nat->Int) (l:List Nat) (pos:Nat):List Int:=(List.range pos).map fun j=>fa (l.getD (l.length-1-j) 0)
theorem qEO (fa:Nat->Int)(l:List Nat):ylB fa l 0 = []:=rfl
theorem qDd (fa:Nat->Int)(l:List Nat)(pos:Nat):ylB fa l (pos+1)=ylB fa l pos ++ [fa (l.getD (l.length-1-pos) 0)]:=by
 unfold ylB
 rw[List.range_succ,List.map_append]
 rfl
theorem qH8 (fa:Nat->Int)(l:List Nat)(pos:Nat):(ylB fa l pos).length=pos:=by unfold ylB;simp
theorem qPC (fa:Nat->Int)(l:List Nat):ylB fa l (l.length-1)=(l.drop 1).reverse.map fa:=by
 apply List.ext_getElem
 ·simp[ylB]
 ·intro i h1 h2
  have h3:i<l.length-1:=by simpa [ylB] using h1
  simp only[ylB,List.getElem_map,List.getElem_range,List.getElem_reverse,List.getElem_drop,List.length_drop]
  congr 1
  rw[show l.getD (l.length-1-i) 0=l[l.length-1-i]'qo by simp[List.getD,List.getElem?_eq_getElem (show l.length-1-i<l.length by omega)]]
  congr 1
  omega
end
theorem qBS {w:World}{p:Addr}{v:Value}(h:w.cell? p=some v):p.block<w.heap.size:=by
 rcases Nat.lt_or_ge p.block w.heap.size with h1|h1
 ·exact h1
 ·have h2:w.heap[p.block]?=none:=Array.getElem?_eq_none h1
  unfold World.cell? at h
  rw[h2] at h
  cases h
theorem BackAt.below {B:Option Addr}{m c bx:Nat}{f:Nat->Int}{w w':World}(h:BackAt B m c f bx w)(hb:Below w.heap.size w w'):BackAt B m c f bx w' :=
 ⟨(hb.cell (qBS h.1)).trans h.1,fun i hi=>by
  obtain⟨ad,e,hc⟩:=h.2 i hi
  exact⟨ad,e,(hb.cell (qBS hc)).trans hc⟩⟩
def ad1 (g c:Nat):Addr:=if c=1 then ⟨g,0,none⟩ else ⟨g,1,none⟩
theorem qZa {g L c j:Nat}(hL:L<=c)(hj:j<L-1):(ad1 g c).add j=⟨g,1+j,none⟩:=by
 unfold ad1
 rw[if_neg qo]
 unfold Addr.add
 by_cases hz:j=0
 ·rw[if_pos hz,hz]
 ·rw[if_neg hz]
theorem cut1 (g L c:Nat)(h:1<=L)(hL:L<=c)(w:World):(Instr.slice 42 (.slice (some ⟨g,0,none⟩) L c) (some (.int .i64 1)) none none).run Tryz.prog w = .ok (.slice (some (ad1 g c)) (L-1) (c-1)) w:=by
 refine REu ?_;intro hu hs
 rw[run_slice_l (P := Tryz.prog) (w:=w) 42 (some ⟨g,0,none⟩) L c hu .i64 1 qo qo,hs]
 have e:(1:Int).toNat=1:=rfl
 simp only[Result.andThen,sliced,e,Nat.mul_one]
 congr 2
 unfold ad1
 by_cases h1:c=1
 ·subst h1;simp
 ·rw[if_neg h1,if_neg qo];simp[Addr.add]
def GP (G:Nat->Prop) (N0 N1 NP:Nat) (g2:Nat):Nat->Prop:=fun i=>G i\/i=N0\/i=N1\/i=NP\/i=g2

section
variable {base b n : Nat} {wh : Bool} {K : Nat -> Option Nat} {st : Vst} {w w0 : World} {A Q G : Nat -> Prop} {g : Nat} {t q s : Int} {U : Nat -> Sl} {Z : Nat -> List Int}

theorem qMq (hn:n<2^40)(hq:q<=1024)(k:Int)(hk0 : -9223372036854775808<=k)(hk1:k<=9223372036854775807)(s2:Vst)(hx:pickZ n K t q s k 4 st=(none,s2))(hT:SlotsLaid w0)(hA:¬ A 0)(h:Hnd (vOb base b n wh K) w0 A Q G w g b t q s U Z st w) :
  Calls Tryz.prog 38 #[.pointer (some ⟨g,0,none⟩),.int .i64 k] w fun e w'=>e = .returned (.tuple #[.int .i64 0,.bool false])/\Hnd (vOb base b n wh K) w0 A Q G w g b t q s U Z s2 w':=by
 have HN:=qh (Hnd.more (G':=fun i=>G i\/i=w.heap.size\/i=(w.heap.size+1)) h (Bnew (Bnew (B0 w) (.cells #[.pointer (some ⟨g,0,none⟩)] 81)) (.cells #[.int .i64 k] 3)) (fun i x=>by
  rcases x with x|x|x
  ·exact .inl x
  ·exact .inr ⟨qo,by simp;omega⟩
  ·exact .inr ⟨qo,by simp;omega⟩))
 have HB0:=qh ((Held.new w 81 #[.pointer (some ⟨g,0,none⟩)]).alloc (.cells #[.int .i64 k] 3))
 have HB1:=qh (Held.new2 w (.cells #[.pointer (some ⟨g,0,none⟩)] 81) 3 #[.int .i64 k])
 have HPL:qH (∀ i,PB U Z i->i<w.heap.size):=qh (fun i hi=>hi.lt h.p.pk)
 have HGL:=qh h.held.lt
 have HTL:=qh hT
 have HNA:=qh hA
 have HX:=qh hx
 clear h hT hA hx
 refine qRD Tryz.func38 rfl ?_
 simp only[Tryz.ntmps38,List.size_toArray,List.length_cons,List.length_nil,Nat.reduceAdd,Nat.reduceSub,Array.replicate_succ,Array.replicate_zero,List.push_toArray,List.append_toArray,List.nil_append,List.cons_append]
 go_wp2_with fail
 replace HN:=qh HN.o.drew
 replace HB0:=qh (HB0.o.keep (Bdrew (B0 _)))
 replace HB1:=qh (HB1.o.keep (Bdrew (B0 _)))
 refine wp_region_held_drew (S:=(fun w'=>(w'.cell? ⟨w.heap.size,0,none⟩=some (.pointer (some ⟨g,0,none⟩))/\w'.cell? ⟨(w.heap.size+1),0,none⟩=some (.int .i64 k))/\w'.cell? ⟨g,0,none⟩=some (.pointer (some ⟨b,0,none⟩))/\w'.cell? ⟨g,1,none⟩=some (.int .i64 t)/\w'.cell? ⟨g,2,none⟩=some (.int .i64 q)/\w'.cell? ⟨g,3,none⟩=some (.int .i64 s))) qr ?_ (fun hHeld=>?_)
 ·exact MDu
 generalize hwd:World.drew ((w.alloc (.cells #[.pointer (some ⟨g,0,none⟩)] 81)).alloc (.cells #[.int .i64 k] 3))=w5 at *
 clear hwd
 refine tkz 0 ?_
 refine tkz 1 ?_
 refine tkz 2 ?_
 refine tkz 3 ?_
 refine tkz 4 ?_
 refine tkz 5 ?_
 refine tkz 6 ?_
 refine tkz 7 ?_
 refine tkz 8 ?_
 refine wpAnyH_ready (rs := [9,14]) qr (by simp) ?_
 refine AllReadyH.cons (o:=_) rfl (fun K hK=>?_) (AllReadyH.cons (o:=_) rfl (fun K hK=>?_) AllReadyH.nil)
 ·skip
  refine Rvf ?_;intro w6 u u2 he2 ho h1 h2
  injection he2 with he2
  subst he2
  rw[HX.o] at ho h1 ⊢
  dsimp only[pickP,pickL,Option.isSome] at ho h1 ⊢
  have HROW:=qh (HN.o.row h1 h2 (fun i hi=>(ho.lt i hi).1))
  replace HB0:=qh (h2.held (.inl (.inl (.inr (.inl rfl)))) HB0.o)
  replace HB1:=qh (h2.held (.inl (.inl (.inr (.inr rfl)))) HB1.o)
  rw[List.length_nil] at ho
  obtain⟨A2,c2,hu2⟩:=qKK ho
  subst hu2
  replace HN:=HROW
  clear h1 h2 ho HROW
  refine qk ?_ (fun hHeld=>?_)
  ·exact Mz2
  clear hK K
  refine RNh ?_
  refine rdz 14 fun K hK=>?_
  go_simp
  have hb:=Bnew (B0 w6) (.cells #[.int .i64 0] 3)
  have HP:=qh (Held.new w6 3 #[.int .i64 0])
  replace HN:=qh (Hnd.more (G':=fun i=>GU (fun i=>G i\/i=w.heap.size\/i=(w.heap.size+1)) (.slice A2 0 c2) i\/i=w6.heap.size) HN.o hb (fun i x=>by
   rcases x with x|x
   ·exact .inl x
   ·right;subst x;simp))
  have HNP:qH (w.heap.size+1<w6.heap.size):=qh HB1.o.lt
  replace HB0:=qh (HB0.o.keep hb)
  replace HB1:=qh (HB1.o.keep hb)
  generalize hnp:w6.heap.size=NP at *
  generalize hwn:w6.alloc (.cells #[.int .i64 0] 3)=w7 at *
  clear hb hnp hwn
  refine qk ?_ (fun hHeld=>?_)
  ·exact Mz2
  clear hK K
  refine Rp1 ?_;intro K hK z0 f0
  replace HN:=qh (HN.o.put (i:=NP) (.inr rfl) (fun x=>by have:=HPL.o NP x;have:=HNP.o;omega) (by have:=HNP.o;omega) 0 (.int .i64 (-1)))
  refine R3f ?_;clear HB0 HB1 HP;intro HB0 HB1 HP
  generalize hws:w7.setCell ⟨NP,0,none⟩ (.int .i64 (-1))=w8 at *
  exact M4u
 ·skip
  go_simp
  have hb:=Bnew (B0 w5) (.cells #[.int .i64 0] 3)
  have HP:=qh (Held.new w5 3 #[.int .i64 0])
  replace HN:=qh (Hnd.more (G':=fun i=>(G i\/i=w.heap.size\/i=(w.heap.size+1))\/i=w5.heap.size) HN.o hb (fun i x=>by
   rcases x with x|x
   ·exact .inl x
   ·right;subst x;simp))
  have HNP:qH (w.heap.size+1<w5.heap.size):=qh HB1.o.lt
  replace HB0:=qh (HB0.o.keep hb)
  replace HB1:=qh (HB1.o.keep hb)
  generalize hnp:w5.heap.size=NP at *
  generalize hwn:w5.alloc (.cells #[.int .i64 0] 3)=w7 at *
  have HLN:qH (NP<w7.heap.size):=qh HP.o.lt
  clear hb hnp hwn
  refine qk ?_ (fun hHeld=>?_)
  ·exact Mz2
  clear hK K
  refine rdz 9 fun K hK=>?_
  refine Rvf ?_;intro w6 u u2 he2 ho h1 h2
  injection he2 with he2
  subst he2
  rw[HX.o] at ho h1 ⊢
  dsimp only[pickP,pickL,Option.isSome] at ho h1 ⊢
  refine Ru8 ?_;clear HB0 HB1 HP;intro HROW HB0 HB1 HP
  rw[List.length_nil] at ho
  obtain⟨A2,c2,hu2⟩:=qKK ho
  subst hu2
  replace HN:=HROW
  clear h1 h2 ho HROW
  refine qk ?_ (fun hHeld=>?_)
  ·exact Mz2
  clear hK K
  refine RNh ?_
  refine Rp1 ?_;intro K hK z0 f0
  replace HN:=qh (HN.o.put (i:=NP) (.inl (.inr rfl)) (fun x=>by have:=HPL.o NP x;have:=HNP.o;omega) (by have:=HNP.o;omega) 0 (.int .i64 (-1)))
  refine R3f ?_;clear HB0 HB1 HP;intro HB0 HB1 HP
  generalize hws:w6.setCell ⟨NP,0,none⟩ (.int .i64 (-1))=w8 at *
  exact M4u

end
end
end Go.Proofs.YtjjfcaliippgpaaGreatDoor
