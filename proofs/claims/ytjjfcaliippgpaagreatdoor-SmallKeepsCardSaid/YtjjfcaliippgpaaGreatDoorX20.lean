/-
  What State tells of the values that a View has now; a walk's struct of nine cells beside an object.
-/
import Derived.Test.YtjjfcaliippgpaaGreatDoorX17
import Derived.Test.YtjjfcaliippgpaaGreatDoorX03
import Derived.Test.YtjjfcaliippgpaaGreatDoorX19
import Derived.Test.YtjjfcaliippgpaaGreatDoorX08
import Derived.Deep.CutRange
import Derived.Deep.RegionWith
import Derived.Test.YtjjfcaliippgpaaGreatDoorX18
import Derived.Test.YtjjfcaliippgpaaGreatDoorX06
import Derived.Test.YtjjfcaliippgpaaGreatDoorX04
namespace Go.Proofs.YtjjfcaliippgpaaGreatDoor
theorem RoK {P Q:Prop}(kq:Q)(h:HQ Q->P:=by
 intro kq
 replace HB0:=qh (HB0.o.far (p:=⟨NP,0,none⟩) (by show w.heap.size≠NP;have:=HNP.o;omega) (.int .i64 (p:Int)))
 replace HB1:=qh (HB1.o.far (p:=⟨NP,0,none⟩) (by show (w.heap.size+1)≠NP;have:=HNP.o;omega) (.int .i64 (p:Int)))
 replace HR:=qh (HR.o.far (p:=⟨NP,0,none⟩) (HEN.o) (.int .i64 (p:Int)))
 replace HP:=qh (HP.o.put 0 (.int .i64 (p:Int)))
 revert HB0 HB1 HR HP
 exact kq.o):P:=h ⟨kq⟩
theorem RNh {P Q:Prop}(kq:Q)(h:HQ Q->P:=by
 intro kq
 refine tkz 10 ?_
 refine tkz 11 ?_
 refine tkz 12 ?_
 refine tkz 13 ?_
 exact kq.o):P:=h ⟨kq⟩
theorem R3f {P Q:Prop}(kq:Q)(h:HQ Q->P:=by
 intro kq
 replace HB0:=qh (HB0.o.far (p:=⟨NP,0,none⟩) (by show w.heap.size≠NP;have:=HNP.o;omega) (.int .i64 (-1)))
 replace HB1:=qh (HB1.o.far (p:=⟨NP,0,none⟩) (by show (w.heap.size+1)≠NP;have:=HNP.o;omega) (.int .i64 (-1)))
 replace HP:=qh (HP.o.put 0 (.int .i64 (-1)))
 revert HB0 HB1 HP
 exact kq.o):P:=h ⟨kq⟩
theorem Rvf {P Q:Prop}(kq:Q)(h:HQ Q->P:=by
 intro kq
 go_simp
 refine(qWC hn hq hk0 hk1 HTL.o HNA.o 4 HN.o.at_).mono ?_
 rintro e w6 ⟨u,rfl,u2,he2,ho,h1,h2⟩
 revert w6 u u2 he2 ho h1 h2
 exact kq.o):P:=h ⟨kq⟩
theorem Ru8 {P Q:Prop}(kq:Q)(h:HQ Q->P:=by
 intro kq
 have HROW:=qh (HN.o.row h1 h2 (fun i hi=>(ho.lt i hi).1))
 replace HB0:=qh (h2.held (.inl (.inl (.inl (.inr (.inl rfl))))) HB0.o)
 replace HB1:=qh (h2.held (.inl (.inl (.inl (.inr (.inr rfl))))) HB1.o)
 replace HP:=qh (h2.held (.inl (.inl (.inr rfl))) HP.o)
 revert HROW HB0 HB1 HP
 exact kq.o):P:=h ⟨kq⟩
theorem Rp1 {P Q:Prop}(kq:Q)(h:HQ Q->P:=by
 intro kq
 refine rdz 15 fun K hK=>?_
 have z0:=HP.o.cell 0
 have f0:=HP.o.thawed 0
 go_simp
 revert K hK z0 f0
 exact kq.o):P:=h ⟨kq⟩
theorem M4u {P:Prop}(h:P:=by
 clear z0 f0 hws
 refine qk ?_ (fun hHeld=>?_)
 ·exact Mz2
 clear hK K
 refine tkz 16 ?_
 refine tkz 17 ?_
 refine dnz ?_
 go_wp2_with fail
 refine qLw rfl ?_
 go_ret2
 exact⟨rfl,HN.o.less fun i x => .inl (.inl (.inl x))⟩):P:=h
theorem MSa {P:Prop}(h:P:=by
 go_wp2_with fail
 go_meet
 case rel=>exact⟨NP,g2,c2,cr,rfl,rfl,rfl,HNF.o,HB0.o,HB1.o,HP.o,HR.o,HSC.o,hcc1,hcc2⟩):P:=h
theorem M1n {P:Prop}(h:P:=by first|exact⟨⟨HB0.o.cell 0,HB1.o.cell 0,HP.o.cell 0,HS0.o _ HR.o⟩,HND.o.held.hd4⟩|exact hHeld):P:=h
theorem MDu {P:Prop}(h:P:=by
 (try dsimp only)
 exact Mz2):P:=h
theorem Mz2 {P:Prop}(h:P:=by first|exact⟨⟨HB0.o.cell 0,HB1.o.cell 0⟩,HN.o.held.hd4⟩|exact hHeld):P:=h
end Go.Proofs.YtjjfcaliippgpaaGreatDoor
set_option linter.unusedVariables false
set_option linter.unusedSimpArgs false
set_option maxRecDepth 100000
set_option maxHeartbeats 25600000
namespace Go.Proofs.YtjjfcaliippgpaaGreatDoor
open Go.ChangeShapes Go.WideShapes Go.ChangeAt Go.RowKit Go.Maps
section
section
variable {W w : World} {O1 O2 : Ob} {A B G : Nat -> Prop} {s1 s2 : Vst}
theorem Duo.poke (h:Duo W O1 O2 A B G s1 s2 w){p:Addr}(ha:¬ A p.block)(hb:¬ B p.block)(hW:W.heap.size<=p.block)(u:Value):Duo W O1 O2 A B G s1 s2 (w.setCell p u) :=
 ⟨O1.turns h.i1 ((T0 (fun i=>i=p.block) w).put (p:=p) rfl u) (fun i hi e=>ha (by rw[<- e];exact hi)),O2.turns h.i2 ((T0 (fun i=>i=p.block) w).put (p:=p) rfl u) (fun i hi e=>hb (by rw[<- e];exact hi)),h.ab,
  fun g hg=>⟨by simp;exact(h.aG g hg).1,(h.aG g hg).2⟩,h.lo,Bput h.bel hW u⟩
theorem Duo.set9 {g:Nat}(h:Duo W O1 O2 A B G s1 s2 w)(ha:¬ A g)(hb:¬ B g)(hW:W.heap.size<=g)(a0 a1 a2 a3 a4 a5 a6 a7 a8:Value):Duo W O1 O2 A B G s1 s2 (set9 w g a0 a1 a2 a3 a4 a5 a6 a7 a8) :=
 ((((((((h.poke (p:=⟨g,0,none⟩) ha hb hW a0).poke (p:=⟨g,1,none⟩) ha hb hW a1).poke (p:=⟨g,2,none⟩) ha hb hW a2).poke (p:=⟨g,3,none⟩) ha hb hW a3).poke (p:=⟨g,4,none⟩) ha hb hW a4).poke (p:=⟨g,5,none⟩) ha hb hW a5).poke (p:=⟨g,6,none⟩) ha hb hW a6).poke (p:=⟨g,7,none⟩) ha hb hW a7).poke (p:=⟨g,8,none⟩) ha hb hW a8
end
def wr9 (w:World) (g:Nat) (u:Value) (r0 r1 r2 r3 r4 r5 r6 r7:Nat):World:=set9 w g u (.int .i64 (r0:Int)) (.int .i64 (r1:Int)) (.int .i64 (r2:Int)) (.int .i64 (r3:Int)) (.int .i64 (r4:Int)) (.int .i64 (r5:Int)) (.int .i64 (r6:Int)) (.int .i64 (r7:Int))
section
variable {W w WF : World} {O1 O2 : Ob} {A B G : Nat -> Prop} {s1 s2 : Vst} {g g2 r0 r1 r2 r3 r4 r5 r6 r7 : Nat} {t : TypeId} {cs : Array Value} {u : Value}
theorem qDu (hw:wr9 w g u r0 r1 r2 r3 r4 r5 r6 r7=WF){c0 c1 c2 c3 c4 c5 c6 c7 c8:Value}(h:Held w g t #[c0,c1,c2,c3,c4,c5,c6,c7,c8]):Held WF g t #[u,.int .i64 (r0:Int),.int .i64 (r1:Int),.int .i64 (r2:Int),.int .i64 (r3:Int),.int .i64 (r4:Int),.int .i64 (r5:Int),.int .i64 (r6:Int),.int .i64 (r7:Int)]:=by
 subst hw
 exact h.set9 _ _ _ _ _ _ _ _ _
theorem far9 (hw:wr9 w g u r0 r1 r2 r3 r4 r5 r6 r7=WF)(hne:g2≠g)(h:Held w g2 t cs):Held WF g2 t cs:=by
 subst hw
 exact(qMB hne _ _ _ _ _ _ _ _ _).trans h
theorem own9 (hw:wr9 w g u r0 r1 r2 r3 r4 r5 r6 r7=WF){base size n:Nat}{v:Value}{xs:List Value}(hne:v.ownBlock≠some g)(h:w.ownsRow base t size v n xs):WF.ownsRow base t size v n xs:=by
 subst hw
 exact qL8 h (fun j hj e=>hne (by rw[hj,e])) _ _ _ _ _ _ _ _ _
theorem duo9 (hw:wr9 w g u r0 r1 r2 r3 r4 r5 r6 r7=WF)(ha:¬ A g)(hb:¬ B g)(hW:W.heap.size<=g)(h:Duo W O1 O2 A B G s1 s2 w):Duo W O1 O2 A B G s1 s2 WF:=by
 subst hw
 exact h.set9 ha hb hW _ _ _ _ _ _ _ _ _
end
theorem qXC {H:AuH}{n c:Nat}(HV:HeapV H n c):(blocksOf H.parts).length<=60000:=by
 have h1:=qY6 H.parts
 have h2:H.parts.length<=H.p*33:=AuH.parts_len H.p
 have:=HV.nums.2.2.2.1
 omega
theorem qNU {H:AuH}{n c:Nat}{K:Nat->Option Nat}(HV:HeapV H n c){st:Vst}(hok:VOk n st)(h32:∀ i x,K i=some x->x<2^32)(hvw:VW n K st)(hr:∀ i,i<10->(nowH H n K st).rule i)(ho:∀ i,i<8->(nowH H n K st).V (22+i)=H.V (22+i))
  (L:List (Int × Int)) (hL:blocksOf (nowH H n K st).parts=L) (r0 r1 r2 r3 r4 r5 r6 r7:Nat) (h0:H.V 22=r0) (h1:H.V 23=r1) (h2:H.V 24=r2) (h3:H.V 25=r3) (h4:H.V 26=r4) (h5:H.V 27=r5) (h6:H.V 28=r6) (h7:H.V 29=r7) (w:World) (g cp:Nat) (hrow:RowF w g 76 n cp (valF (nowV K st.wr))) :
  Calls Tryz.prog 23 #[.agg #[.int .i64 (H.t:Int),.int .i64 (H.p:Int),.int .i64 (H.s:Int)],.slice (some ⟨g,0,none⟩) n cp] w fun e w'=>∃ u,e = .returned (.tuple #[.agg #[u,.int .i64 (r0:Int),.int .i64 (r1:Int),.int .i64 (r2:Int),.int .i64 (r3:Int),.int .i64 (r4:Int),.int .i64 (r5:Int),.int .i64 (r6:Int),.int .i64 (r7:Int)],.bool true])/\w'.ownsRow w.heap.size 64 2 u L.length (bkVs L)/\Below w.heap.size w w':=by
 have HV':=qN5 HV hok h32 (cp:=cp) hrow.le hrow.max
 have hv':IsVals w ⟨g,0,none⟩ n (nowH H n K st).V:=⟨hrow.lt,fun i hi=>by
  have e:(⟨g,0,none⟩:Addr).add i=⟨g,i,none⟩:=by
   unfold Addr.add
   by_cases hz:i=0
   ·rw[if_pos hz,hz]
   ·rw[if_neg hz];simp
  have e2:nowV K st.wr i=(nowH H n K st).V i:=by
   show _=curV n (getV n K st) H.V i
   rw[qG7 hi,hvw.at_ hi]
   rfl
  rw[e,hrow.cell hi]
  unfold valF
  rw[e2]⟩
 have hC:=qZU HV' ⟨g,0,none⟩ w hv' (m:=0) (b:=true) (.inl ⟨rfl,rfl,hr⟩)
 have:=qJ4 HV' ⟨g,0,none⟩ 0 w hv' hC
 rw[hL,show (nowH H n K st).V 22=r0 from (ho 0 qo).trans h0,show (nowH H n K st).V 23=r1 from (ho 1 qo).trans h1,show (nowH H n K st).V 24=r2 from (ho 2 qo).trans h2,show (nowH H n K st).V 25=r3 from (ho 3 qo).trans h3,show (nowH H n K st).V 26=r4 from (ho 4 qo).trans h4,show (nowH H n K st).V 27=r5 from (ho 5 qo).trans h5,show (nowH H n K st).V 28=r6 from (ho 6 qo).trans h6,show (nowH H n K st).V 29=r7 from (ho 7 qo).trans h7] at this
 exact this
end
section
def qMP (vals:List Nat):Nat->Option Nat:=fun i=>vals[i]?
section
variable {W w WF : World} {O1 O2 : Ob} {A B G : Nat -> Prop} {s1 s2 : Vst} {g g2 : Nat} {t : TypeId} {cs : Array Value} {a0 a1 a2 a3 c0 c1 c2 c3 : Value}
end
theorem qUj {w:World}{base g n c:Nat}{l:List Nat}(h:w.ownsRow base 3 1 (.slice (some ⟨g,0,none⟩) n c) n (ntVs l))(hl:l.length=n) :
  ∃ cs,Held w g 3 cs/\n<=c/\c<=9223372036854775807/\∀ (w:World),Held w g 3 cs->∀ i,i<n->w.cell? ⟨g,i,none⟩=some (.int .i64 ((l.getD i 0:Nat):Int)):=by
 rcases h.2 with ⟨h1,_⟩|⟨g',cap,cur,h1,hb,hg,hnc,hcm,hcs,ht⟩
 ·cases h1
 ·injection h1 with h1 h2 h3
  injection h1 with h1
  injection h1 with h1 _
  subst h1 h3
  refine⟨cur,hg,hnc,by unfold maxLen at hcm;omega,fun w' hh i hi=>?_⟩
  have e:cur[i]?=some (Value.int .i64 ((l.getD i 0:Nat):Int)):=by
   have h4:(cur.toList.take (n*1))[i]?=(ntVs l)[i]?:=by rw[ht]
   rw[List.getElem?_take,if_pos qo] at h4
   rw[<- Array.getElem?_toList,h4]
   unfold ntVs
   simp[List.getD,List.getElem?_eq_getElem (show i<l.length by omega)]
  rw[hh.cell i,e]
section
variable {H : AuH} {n c : Nat} {K : Nat -> Option Nat} {st : Vst}
theorem qGu (HV:HeapV H n c)(hok:VOk n st)(h32:∀ i x,K i=some x->x<2^32)(hvw:VW n K st){w:World}{g cp:Nat}(hrow:RowF w g 76 n cp (valF (nowV K st.wr))) :
  HeapV (nowH H n K st) n cp/\IsVals w ⟨g,0,none⟩ n (nowH H n K st).V:=by
 refine⟨qN5 HV hok h32 (cp:=cp) hrow.le hrow.max,hrow.lt,fun i hi=>?_⟩
 have e:(⟨g,0,none⟩:Addr).add i=⟨g,i,none⟩:=by
  unfold Addr.add
  by_cases hz:i=0
  ·rw[if_pos hz,hz]
  ·rw[if_neg hz];simp
 have e2:nowV K st.wr i=(nowH H n K st).V i:=by
  show _=curV n (getV n K st) H.V i
  rw[qG7 hi,hvw.at_ hi]
  rfl
 rw[e,hrow.cell hi]
 unfold valF
 rw[e2]
end
end
section
section
variable {O : Ob} {w0 ws wS w w' : World} {A Q G : Nat -> Prop} {g b D : Nat} {t q s : Int} {U V : Nat -> Sl} {Z Y : Nat -> List Int} {st s' : Vst}
theorem Mild.cell (h:Mild D w w'){p:Addr}{v:Value}(hc:w.cell? p=some v):w'.cell? p=some v:=by
 unfold World.cell? at hc ⊢
 cases ho:w.heap[p.block]? with
 | none=>rw[ho] at hc;cases hc
 | some o =>
  rw[ho] at hc
  have:w'.heap[p.block]?=some o:=by
   refine h.cells _ _ ho ?_
   cases o <;> first|rfl|(simp at hc)
  rw[this]
  exact hc
theorem LongsAt.mild {u:Value}{l:List Int}(h:LongsAt w u l)(hm:Mild D w w'):LongsAt w' u l:=by
 obtain⟨A,c,h1,h2,h3,h4,h5,h6⟩:=h
 exact⟨A,c,h1,h2,h3,h4,h5,fun ad e=>⟨fun hl=>Nat.lt_of_lt_of_le ((h6 ad e).1 hl) hm.size,fun i z hi=>hm.cell ((h6 ad e).2 i z hi)⟩⟩
theorem Mild.turns {F:Nat->Prop}(hm:Mild D w w')(h:Turns F wS w)(hD:wS.heap.size<=D):Turns F wS w' :=
 ⟨hm.os.trans h.os,hm.tape.trans h.tape,hm.output.trans h.output,Nat.le_trans h.size hm.size,fun i hi hf=>(hm.low i qo).trans (h.block i hi hf)⟩
theorem Hnd.mild (h:Hnd noOb w0 A Q G ws g b t q s U Z st w)(hm:Mild D w w')(h0:w0.heap.size<=D)(hs:ws.heap.size<=D):Hnd noOb w0 A Q G ws g b t q s U Z st w':=by
 obtain⟨A',h1,h2,h3,h4⟩:=h.p.at_
 refine⟨⟨⟨A',h1,h2,hm.turns h3 h0,fun i x=>⟨(h4 i x).1,Nat.lt_of_lt_of_le (h4 i x).2.1 hm.size,(h4 i x).2.2⟩⟩,fun k hk=>(h.p.pk k hk).mild hm,h.p.old⟩,hm.held h.held,⟨Nat.le_trans h.stay.1 hm.size,fun i x hl=>(hm.low i qo).trans (h.stay.2 i x hl)⟩,h.ng,h.npb⟩
theorem Hnd.regain (h:Hnd O w0 A Q G ws g b t q s U Z st wS)(k:Hnd noOb w0 A Q G wS g b t q s V Y s' w)(ht:Turns (fun i=>i=g) wS w)(hn:∀ i,PB V Y i->PB U Z i\/wS.heap.size<=i):Hnd O w0 A Q G ws g b t q s V Y st w:=by
 obtain⟨A',h1,h2,h3,h4⟩:=h.p.at_
 obtain⟨_,_,_,k3,k4⟩:=k.p.at_
 have hg:=(h4 g (.inl (.inr rfl))).2.2
 refine⟨⟨⟨A',O.turns h1 ht (fun i hi e=>hg (by rw[<- e];exact hi)),h2,k3,fun i x=>?_⟩,k.p.pk,k.p.old⟩,k.held,h.stay.trans k.stay,k.ng,k.npb⟩
 refine⟨(k4 i x).1,(k4 i x).2.1,fun y=>?_⟩
 rcases x with x|⟨x,x0⟩
 ·exact(h4 i (.inl x)).2.2 y
 ·rcases hn i x with h5|h5
  ·exact(h4 i (.inr ⟨h5,x0⟩)).2.2 y
  ·have:=O.lt h1 i y;omega
def ylB (fa:Nat->Int) (l:List Nat) (pos:Nat):List Int:=(List.range pos).map fun j=>fa (l.getD (l.length-1-j) 0)
theorem qUl (fa:Nat->Int)(l:List Nat):ylB fa l 0 = []:=rfl
theorem qDd (fa:Nat->Int)(l:List Nat)(pos:Nat):ylB fa l (pos+1)=ylB fa l pos ++ [fa (l.getD (l.length-1-pos) 0)]:=by
 unfold ylB
 rw[List.range_succ,List.map_append]
 rfl
theorem qH8 (fa:Nat->Int)(l:List Nat)(pos:Nat):(ylB fa l pos).length=pos:=by unfold ylB;simp
theorem qPC (fa:Nat->Int)(l:List Nat):ylB fa l (l.length-1)=(l.drop 1).reverse.map fa:=by
 apply List.ext_getElem
 ·simp[ylB]
 ·intro i h1 h2
  have h3:i<l.length-1:=by simpa [ylB] using h1
  simp only[ylB,List.getElem_map,List.getElem_range,List.getElem_reverse,List.getElem_drop,List.length_drop]
  congr 1
  rw[show l.getD (l.length-1-i) 0=l[l.length-1-i]'qo by simp[List.getD,List.getElem?_eq_getElem (show l.length-1-i<l.length by omega)]]
  congr 1
  omega
end
theorem qBS {w:World}{p:Addr}{v:Value}(h:w.cell? p=some v):p.block<w.heap.size:=by
 rcases Nat.lt_or_ge p.block w.heap.size with h1|h1
 ·exact h1
 ·have h2:w.heap[p.block]?=none:=Array.getElem?_eq_none h1
  unfold World.cell? at h
  rw[h2] at h
  cases h
theorem BackAt.below {B:Option Addr}{m c bx:Nat}{f:Nat->Int}{w w':World}(h:BackAt B m c f bx w)(hb:Below w.heap.size w w'):BackAt B m c f bx w' :=
 ⟨(hb.cell (qBS h.1)).trans h.1,fun i hi=>by
  obtain⟨ad,e,hc⟩:=h.2 i hi
  exact⟨ad,e,(hb.cell (qBS hc)).trans hc⟩⟩
def ad1 (g c:Nat):Addr:=if c=1 then ⟨g,0,none⟩ else ⟨g,1,none⟩
theorem qZa {g L c j:Nat}(hL:L<=c)(hj:j<L-1):(ad1 g c).add j=⟨g,1+j,none⟩:=by
 unfold ad1
 rw[if_neg qo]
 unfold Addr.add
 by_cases hz:j=0
 ·rw[if_pos hz,hz]
 ·rw[if_neg hz]
theorem cut1 (g L c:Nat)(h:1<=L)(hL:L<=c)(w:World):(Instr.slice 42 (.slice (some ⟨g,0,none⟩) L c) (some (.int .i64 1)) none none).run Tryz.prog w = .ok (.slice (some (ad1 g c)) (L-1) (c-1)) w:=by
 refine REu ?_;intro hu hs
 rw[run_slice_l (P := Tryz.prog) (w:=w) 42 (some ⟨g,0,none⟩) L c hu .i64 1 qo qo,hs]
 have e:(1:Int).toNat=1:=rfl
 simp only[Result.andThen,sliced,e,Nat.mul_one]
 congr 2
 unfold ad1
 by_cases h1:c=1
 ·subst h1;simp
 ·rw[if_neg h1,if_neg qo];simp[Addr.add]
def GP (G:Nat->Prop) (N0 N1 NP:Nat) (g2:Nat):Nat->Prop:=fun i=>G i\/i=N0\/i=N1\/i=NP\/i=g2

section
variable {base b n : Nat} {wh : Bool} {K : Nat -> Option Nat} {st : Vst} {w w0 : World} {A Q G : Nat -> Prop} {g : Nat} {t q s : Int} {U : Nat -> Sl} {Z : Nat -> List Int}

theorem qMq (hn:n<2^40)(hq:q<=1024)(k:Int)(hk0 : -9223372036854775808<=k)(hk1:k<=9223372036854775807)(s2:Vst)(hx:pickZ n K t q s k 4 st=(none,s2))(hT:SlotsLaid w0)(hA:¬ A 0)(h:Hnd (vOb base b n wh K) w0 A Q G w g b t q s U Z st w) :
  Calls Tryz.prog 38 #[.pointer (some ⟨g,0,none⟩),.int .i64 k] w fun e w'=>e = .returned (.tuple #[.int .i64 0,.bool false])/\Hnd (vOb base b n wh K) w0 A Q G w g b t q s U Z s2 w':=by
 have HN:=qh (Hnd.more (G':=fun i=>G i\/i=w.heap.size\/i=(w.heap.size+1)) h (Bnew (Bnew (B0 w) (.cells #[.pointer (some ⟨g,0,none⟩)] 81)) (.cells #[.int .i64 k] 3)) (fun i x=>by
  rcases x with x|x|x
  ·exact .inl x
  ·exact .inr ⟨qo,by simp;omega⟩
  ·exact .inr ⟨qo,by simp;omega⟩))
 have HB0:=qh ((Held.new w 81 #[.pointer (some ⟨g,0,none⟩)]).alloc (.cells #[.int .i64 k] 3))
 have HB1:=qh (Held.new2 w (.cells #[.pointer (some ⟨g,0,none⟩)] 81) 3 #[.int .i64 k])
 have HPL:qH (∀ i,PB U Z i->i<w.heap.size):=qh (fun i hi=>hi.lt h.p.pk)
 have HGL:=qh h.held.lt
 have HTL:=qh hT
 have HNA:=qh hA
 have HX:=qh hx
 clear h hT hA hx
 refine qRD Tryz.func38 rfl ?_
 simp only[Tryz.ntmps38,List.size_toArray,List.length_cons,List.length_nil,Nat.reduceAdd,Nat.reduceSub,Array.replicate_succ,Array.replicate_zero,List.push_toArray,List.append_toArray,List.nil_append,List.cons_append]
 go_wp2_with fail
 replace HN:=qh HN.o.drew
 replace HB0:=qh (HB0.o.keep (Bdrew (B0 _)))
 replace HB1:=qh (HB1.o.keep (Bdrew (B0 _)))
 refine wp_region_held_drew (S:=(fun w'=>(w'.cell? ⟨w.heap.size,0,none⟩=some (.pointer (some ⟨g,0,none⟩))/\w'.cell? ⟨(w.heap.size+1),0,none⟩=some (.int .i64 k))/\w'.cell? ⟨g,0,none⟩=some (.pointer (some ⟨b,0,none⟩))/\w'.cell? ⟨g,1,none⟩=some (.int .i64 t)/\w'.cell? ⟨g,2,none⟩=some (.int .i64 q)/\w'.cell? ⟨g,3,none⟩=some (.int .i64 s))) qr ?_ (fun hHeld=>?_)
 ·exact MDu
 generalize hwd:World.drew ((w.alloc (.cells #[.pointer (some ⟨g,0,none⟩)] 81)).alloc (.cells #[.int .i64 k] 3))=w5 at *
 clear hwd
 refine tkz 0 ?_
 refine tkz 1 ?_
 refine tkz 2 ?_
 refine tkz 3 ?_
 refine tkz 4 ?_
 refine tkz 5 ?_
 refine tkz 6 ?_
 refine tkz 7 ?_
 refine tkz 8 ?_
 refine wpAnyH_ready (rs := [9,14]) qr (by simp) ?_
 refine AllReadyH.cons (o:=_) rfl (fun K hK=>?_) (AllReadyH.cons (o:=_) rfl (fun K hK=>?_) AllReadyH.nil)
 ·skip
  refine Rvf ?_;intro w6 u u2 he2 ho h1 h2
  injection he2 with he2
  subst he2
  rw[HX.o] at ho h1 ⊢
  dsimp only[pickP,pickL,Option.isSome] at ho h1 ⊢
  have HROW:=qh (HN.o.row h1 h2 (fun i hi=>(ho.lt i hi).1))
  replace HB0:=qh (h2.held (.inl (.inl (.inr (.inl rfl)))) HB0.o)
  replace HB1:=qh (h2.held (.inl (.inl (.inr (.inr rfl)))) HB1.o)
  rw[List.length_nil] at ho
  obtain⟨A2,c2,hu2⟩:=qKK ho
  subst hu2
  replace HN:=HROW
  clear h1 h2 ho HROW
  refine qk ?_ (fun hHeld=>?_)
  ·exact Mz2
  clear hK K
  refine RNh ?_
  refine rdz 14 fun K hK=>?_
  go_simp
  have hb:=Bnew (B0 w6) (.cells #[.int .i64 0] 3)
  have HP:=qh (Held.new w6 3 #[.int .i64 0])
  replace HN:=qh (Hnd.more (G':=fun i=>GU (fun i=>G i\/i=w.heap.size\/i=(w.heap.size+1)) (.slice A2 0 c2) i\/i=w6.heap.size) HN.o hb (fun i x=>by
   rcases x with x|x
   ·exact .inl x
   ·right;subst x;simp))
  have HNP:qH (w.heap.size+1<w6.heap.size):=qh HB1.o.lt
  replace HB0:=qh (HB0.o.keep hb)
  replace HB1:=qh (HB1.o.keep hb)
  generalize hnp:w6.heap.size=NP at *
  generalize hwn:w6.alloc (.cells #[.int .i64 0] 3)=w7 at *
  clear hb hnp hwn
  refine qk ?_ (fun hHeld=>?_)
  ·exact Mz2
  clear hK K
  refine Rp1 ?_;intro K hK z0 f0
  replace HN:=qh (HN.o.put (i:=NP) (.inr rfl) (fun x=>by have:=HPL.o NP x;have:=HNP.o;omega) (by have:=HNP.o;omega) 0 (.int .i64 (-1)))
  refine R3f ?_;clear HB0 HB1 HP;intro HB0 HB1 HP
  generalize hws:w7.setCell ⟨NP,0,none⟩ (.int .i64 (-1))=w8 at *
  exact M4u
 ·skip
  go_simp
  have hb:=Bnew (B0 w5) (.cells #[.int .i64 0] 3)
  have HP:=qh (Held.new w5 3 #[.int .i64 0])
  replace HN:=qh (Hnd.more (G':=fun i=>(G i\/i=w.heap.size\/i=(w.heap.size+1))\/i=w5.heap.size) HN.o hb (fun i x=>by
   rcases x with x|x
   ·exact .inl x
   ·right;subst x;simp))
  have HNP:qH (w.heap.size+1<w5.heap.size):=qh HB1.o.lt
  replace HB0:=qh (HB0.o.keep hb)
  replace HB1:=qh (HB1.o.keep hb)
  generalize hnp:w5.heap.size=NP at *
  generalize hwn:w5.alloc (.cells #[.int .i64 0] 3)=w7 at *
  have HLN:qH (NP<w7.heap.size):=qh HP.o.lt
  clear hb hnp hwn
  refine qk ?_ (fun hHeld=>?_)
  ·exact Mz2
  clear hK K
  refine rdz 9 fun K hK=>?_
  refine Rvf ?_;intro w6 u u2 he2 ho h1 h2
  injection he2 with he2
  subst he2
  rw[HX.o] at ho h1 ⊢
  dsimp only[pickP,pickL,Option.isSome] at ho h1 ⊢
  refine Ru8 ?_;clear HB0 HB1 HP;intro HROW HB0 HB1 HP
  rw[List.length_nil] at ho
  obtain⟨A2,c2,hu2⟩:=qKK ho
  subst hu2
  replace HN:=HROW
  clear h1 h2 ho HROW
  refine qk ?_ (fun hHeld=>?_)
  ·exact Mz2
  clear hK K
  refine RNh ?_
  refine Rp1 ?_;intro K hK z0 f0
  replace HN:=qh (HN.o.put (i:=NP) (.inl (.inr rfl)) (fun x=>by have:=HPL.o NP x;have:=HNP.o;omega) (by have:=HNP.o;omega) 0 (.int .i64 (-1)))
  refine R3f ?_;clear HB0 HB1 HP;intro HB0 HB1 HP
  generalize hws:w6.setCell ⟨NP,0,none⟩ (.int .i64 (-1))=w8 at *
  exact M4u

end
end
section
section
variable {base b n : Nat} {wh : Bool} {K : Nat -> Option Nat} {st : Vst} {w w0 : World} {A Q G : Nat -> Prop} {g : Nat} {t q s : Int} {U : Nat -> Sl} {Z : Nat -> List Int}
attribute [local go_sem] Oper.semAt_some

theorem qLT (hn:n<2^40)(hq:q<=1024)(k:Nat)(hk:k<9)(s2:Vst)(p:Nat)(l:List Nat)(hx:pickZ n K t q s (k:Int) 4 st=(some (p,l),s2))(nl:Nat)(hl:l.length=nl)(hl1:1<=nl)(hl4:nl<=4)(hl32:∀ i,i<nl->l.getD i 0<32)(hZ:Z k = [])
  (fa:Nat->Int) (hfa:∀ i,i<nl->atI t q s (k:Int) (p:Int) ((l.getD i 0:Nat):Int)=fa (l.getD i 0)) (hfb:∀ i,i<nl -> -9223372036854775808<=fa (l.getD i 0)/\fa (l.getD i 0)<=9223372036854775807) (hT:SlotsLaid w0) (hA:¬ A 0) (h:Hnd (vOb base b n wh K) w0 A Q G w g b t q s U Z st w) :
  Calls Tryz.prog 38 #[.pointer (some ⟨g,0,none⟩),.int .i64 (k:Int)] w fun e w'=>e = .returned (.tuple #[.int .i64 (fa (l.getD 0 0)),.bool true])/\VOk n s2/\∃ V,(∀ i,PB V (updF Z k ((l.drop 1).reverse.map fa)) i->PB U Z i\/w.heap.size<=i)/\Hnd (vOb base b n wh K) w0 A Q G w g b t q s V (updF Z k ((l.drop 1).reverse.map fa)) (putS n (getS n K s2 (pageI t q s (p:Int) 4)) (pageI t q s (p:Int) 4) (getV n K s2 (pageI t q s (p:Int) 4) ||| 2^l.getD 0 0)) w':=by
 have hk0 : -9223372036854775808<=(k:Int):=qo
 have hk1:(k:Int)<=9223372036854775807:=qo
 have HN:=qh (Hnd.more (G':=fun i=>G i\/i=w.heap.size\/i=(w.heap.size+1)) h (Bnew (Bnew (B0 w) (.cells #[.pointer (some ⟨g,0,none⟩)] 81)) (.cells #[.int .i64 (k:Int)] 3)) (fun i x=>by
  rcases x with x|x|x
  ·exact .inl x
  ·exact .inr ⟨qo,by simp;omega⟩
  ·exact .inr ⟨qo,by simp;omega⟩))
 have HB0:=qh ((Held.new w 81 #[.pointer (some ⟨g,0,none⟩)]).alloc (.cells #[.int .i64 (k:Int)] 3))
 have HB1:=qh (Held.new2 w (.cells #[.pointer (some ⟨g,0,none⟩)] 81) 3 #[.int .i64 (k:Int)])
 have HPL:qH (∀ i,PB U Z i->i<w.heap.size):=qh (fun i hi=>hi.lt h.p.pk)
 have HGL:=qh h.held.lt
 have HTL:=qh hT
 have HNA:=qh hA
 have HX:=qh hx
 have HNL:=qh hl
 have HL32:=qh hl32
 have hl0:0<nl:=hl1
 obtain⟨i0,hi0⟩:∃ i0,l.getD 0 0=i0:=⟨_,rfl⟩
 have HI0:=qh hi0
 have HL0:qH (i0<32):=qh (by rw[<- hi0];exact hl32 0 qo)
 rw[hi0]
 have HFA:=qh hfa
 have HFB:=qh hfb
 have HZ:=qh hZ
 clear h hT hA hx hl hl32 hfa hfb hZ hi0
 refine qRD Tryz.func38 rfl ?_
 simp only[Tryz.ntmps38,List.size_toArray,List.length_cons,List.length_nil,Nat.reduceAdd,Nat.reduceSub,Array.replicate_succ,Array.replicate_zero,List.push_toArray,List.append_toArray,List.nil_append,List.cons_append]
 go_wp2_with fail
 go_cut [6,7,8] from 13 to 26 (fun u6 u7 u8 wx=>∃ (NP g2 c2:Nat) (cr:Array Value),u6 = .pointer (some ⟨NP,0,none⟩)/\u7 = .slice (some ⟨g2,0,none⟩) nl c2/\u8 = .bool true/\Hnd (vOb base b n wh K) w0 A Q (GP G w.heap.size (w.heap.size+1) NP g2) w g b t q s U Z s2 wx/\Held wx w.heap.size 81 #[.pointer (some ⟨g,0,none⟩)]/\Held wx (w.heap.size+1) 3 #[.int .i64 (k:Int)]/\Held wx NP 3 #[.int .i64 (p:Int)]/\Held wx g2 3 cr/\(∀ (w:World),Held w g2 3 cr->∀ i,i<nl->w.cell? ⟨g2,i,none⟩=some (.int .i64 ((l.getD i 0:Nat):Int)))/\nl<=c2/\c2<=9223372036854775807)
 case first =>
  replace HN:=qh HN.o.drew
  replace HB0:=qh (HB0.o.keep (Bdrew (B0 _)))
  replace HB1:=qh (HB1.o.keep (Bdrew (B0 _)))
  refine wp_region_held_drew (S:=(fun w'=>(w'.cell? ⟨w.heap.size,0,none⟩=some (.pointer (some ⟨g,0,none⟩))/\w'.cell? ⟨(w.heap.size+1),0,none⟩=some (.int .i64 (k:Int)))/\w'.cell? ⟨g,0,none⟩=some (.pointer (some ⟨b,0,none⟩))/\w'.cell? ⟨g,1,none⟩=some (.int .i64 t)/\w'.cell? ⟨g,2,none⟩=some (.int .i64 q)/\w'.cell? ⟨g,3,none⟩=some (.int .i64 s))) qr ?_ (fun hHeld=>?_)
  ·exact MDu
  generalize hwd:World.drew ((w.alloc (.cells #[.pointer (some ⟨g,0,none⟩)] 81)).alloc (.cells #[.int .i64 (k:Int)] 3))=w5 at *
  clear hwd
  have HLW:qH (w.heap.size+1<w5.heap.size):=qh HB1.o.lt
  refine Rbo ?_
  refine RPe ?_
  refine wpAnyH_ready (rs := [9,14]) qr (by simp) ?_
  refine AllReadyH.cons (o:=_) rfl (fun K hK=>?_) (AllReadyH.cons (o:=_) rfl (fun K hK=>?_) AllReadyH.nil)
  ·skip
   refine Rvf ?_;intro w6 u u2 he2 ho h1 h2
   injection he2 with he2
   subst he2
   rw[HX.o] at ho h1 ⊢
   dsimp only[pickP,pickL,Option.isSome] at ho h1 ⊢
   have HROW:=qh (HN.o.row h1 h2 (fun i hi=>(ho.lt i hi).1))
   replace HB0:=qh (h2.held (.inl (.inl (.inr (.inl rfl)))) HB0.o)
   replace HB1:=qh (h2.held (.inl (.inl (.inr (.inr rfl)))) HB1.o)
   rw[HNL.o] at ho
   obtain⟨g2,c2,hu2,_⟩:=ho.form qo
   subst hu2
   obtain⟨cr,hcr,hcc1,hcc2,hcells⟩:=qUj ho HNL.o
   have HR:=qh hcr
   have HSC:=qh hcells
   clear hcr hcells
   replace HN:=HROW
   clear h1 h2 ho HROW
   refine qk ?_ (fun hHeld=>?_)
   ·exact Mz2
   clear hK K
   refine RNh ?_
   refine rdz 14 fun K hK=>?_
   go_simp
   have hb:=Bnew (B0 w6) (.cells #[.int .i64 0] 3)
   have HP:=qh (Held.new w6 3 #[.int .i64 0])
   replace HN:=qh (Hnd.more (G':=fun i=>GU (fun i=>G i\/i=w.heap.size\/i=(w.heap.size+1)) (.slice (some ⟨g2,0,none⟩) nl c2) i\/i=w6.heap.size) HN.o hb (fun i x=>by
    rcases x with x|x
    ·exact .inl x
    ·right;subst x;simp))
   have HNP:qH (w.heap.size+1<w6.heap.size):=qh HB1.o.lt
   have HEN:qH (g2≠w6.heap.size):=qh (by have:=HR.o.lt;omega)
   replace HB0:=qh (HB0.o.keep hb)
   replace HB1:=qh (HB1.o.keep hb)
   replace HR:=qh (HR.o.keep hb)
   generalize hnp:w6.heap.size=NP at *
   generalize hwn:w6.alloc (.cells #[.int .i64 0] 3)=w7 at *
   clear hb hnp hwn
   refine qk ?_ (fun hHeld=>?_)
   ·exact Mz2
   clear hK K
   refine Rp1 ?_;intro K hK z0 f0
   replace HN:=qh (HN.o.put (i:=NP) (.inr rfl) (fun x=>by have:=HPL.o NP x;have:=HNP.o;omega) (by have:=HNP.o;omega) 0 (.int .i64 (p:Int)))
   refine RoK ?_;clear HB0 HB1 HR HP;intro HB0 HB1 HR HP
   generalize hws:w7.setCell ⟨NP,0,none⟩ (.int .i64 (p:Int))=w8 at *
   clear z0 f0 hws
   refine qk ?_ (fun hHeld=>?_)
   ·exact Mz2
   clear hK K
   refine tkz 16 ?_
   refine tkz 17 ?_
   refine dnz ?_
   have HNF:=qh (HN.o.less (G':=GP G w.heap.size (w.heap.size+1) NP g2) (fun i x=>by
    rcases x with x|x|x|x|x
    ·exact .inl (.inl (.inl x))
    ·exact .inl (.inl (.inr (.inl x)))
    ·exact .inl (.inl (.inr (.inr x)))
    ·exact .inr x
    ·exact .inl (.inr (by rw[x];rfl))))
   exact MSa
  ·skip
   go_simp
   have hb:=Bnew (B0 w5) (.cells #[.int .i64 0] 3)
   have HP:=qh (Held.new w5 3 #[.int .i64 0])
   replace HN:=qh (Hnd.more (G':=fun i=>(G i\/i=w.heap.size\/i=(w.heap.size+1))\/i=w5.heap.size) HN.o hb (fun i x=>by
    rcases x with x|x
    ·exact .inl x
    ·right;subst x;simp))
   have HNP:qH (w.heap.size+1<w5.heap.size):=qh HB1.o.lt
   replace HB0:=qh (HB0.o.keep hb)
   replace HB1:=qh (HB1.o.keep hb)
   generalize hnp:w5.heap.size=NP at *
   generalize hwn:w5.alloc (.cells #[.int .i64 0] 3)=w7 at *
   have HLN:qH (NP<w7.heap.size):=qh HP.o.lt
   clear hb hnp hwn
   refine qk ?_ (fun hHeld=>?_)
   ·exact Mz2
   clear hK K
   refine rdz 9 fun K hK=>?_
   refine Rvf ?_;intro w6 u u2 he2 ho h1 h2
   injection he2 with he2
   subst he2
   rw[HX.o] at ho h1 ⊢
   dsimp only[pickP,pickL,Option.isSome] at ho h1 ⊢
   refine Ru8 ?_;clear HB0 HB1 HP;intro HROW HB0 HB1 HP
   rw[HNL.o] at ho
   obtain⟨g2,c2,hu2,_⟩:=ho.form qo
   subst hu2
   obtain⟨cr,hcr,hcc1,hcc2,hcells⟩:=qUj ho HNL.o
   have HR:=qh hcr
   have HSC:=qh hcells
   clear hcr hcells
   replace HN:=HROW
   have HEN:qH (g2≠NP):=qh (by have h3:=(ho.lt g2 rfl).1;have h4:=HLN.o;omega)
   clear h1 h2 ho HROW
   refine qk ?_ (fun hHeld=>?_)
   ·exact Mz2
   clear hK K
   refine RNh ?_
   refine Rp1 ?_;intro K hK z0 f0
   replace HN:=qh (HN.o.put (i:=NP) (.inl (.inr rfl)) (fun x=>by have:=HPL.o NP x;have:=HNP.o;omega) (by have:=HNP.o;omega) 0 (.int .i64 (p:Int)))
   refine RoK ?_;clear HB0 HB1 HR HP;intro HB0 HB1 HR HP
   generalize hws:w6.setCell ⟨NP,0,none⟩ (.int .i64 (p:Int))=w8 at *
   clear z0 f0 hws
   refine qk ?_ (fun hHeld=>?_)
   ·exact Mz2
   clear hK K
   refine tkz 16 ?_
   refine tkz 17 ?_
   refine dnz ?_
   have HNF:=qh (HN.o.less (G':=GP G w.heap.size (w.heap.size+1) NP g2) (fun i x=>by
    rcases x with x|x|x|x|x
    ·exact .inl (.inl (.inl x))
    ·exact .inl (.inl (.inr (.inl x)))
    ·exact .inl (.inl (.inr (.inr x)))
    ·exact .inl (.inr x)
    ·exact .inr (by rw[x];rfl)))
   exact MSa
 case rest =>
  clear HN HB0 HB1
  obtain⟨NP,g2,c2,cr,rfl,rfl,rfl,hN,hB0,hB1,hP,hR,hSC,hc1,hc2⟩:=hcut
  have HN:=qh hN
  have HB0:=qh hB0
  have HB1:=qh hB1
  have HP:=qh hP
  have HR:=qh hR
  have HSC:=qh hSC
  have HOK:qH (VOk n s2):=qh (by obtain⟨A',⟨o,hI,_⟩,_⟩:=hN.at_;exact hI.ok)
  have HS0:qH (∀ (w:World),Held w g2 3 cr->w.cell? ⟨g2,0,none⟩=some (.int .i64 (i0:Int))):=qh (fun w hw=>by rw[<- HI0.o];exact hSC w hw 0 qo)
  clear hN hB0 hB1 hP hR hSC
  go_wp2_with fail
  replace HN:=qh HN.o.drew
  replace HB0:=qh (HB0.o.keep (Bdrew (B0 _)))
  replace HB1:=qh (HB1.o.keep (Bdrew (B0 _)))
  replace HP:=qh (HP.o.keep (Bdrew (B0 _)))
  replace HR:=qh (HR.o.keep (Bdrew (B0 _)))
  refine wp_region_held_drew (S:=(fun w'=>w'.cell? ⟨w.heap.size,0,none⟩=some (.pointer (some ⟨g,0,none⟩))/\w'.cell? ⟨NP,0,none⟩=some (.int .i64 (p:Int))/\w'.cell? ⟨g2,0,none⟩=some (.int .i64 (i0:Int)))) qr ?_ (fun hHeld=>?_)
  ·(try dsimp only)
   first|exact⟨HB0.o.cell 0,HP.o.cell 0,HS0.o _ HR.o⟩|exact hHeld
  refine Rbo ?_
  refine rdz 5 fun K hK=>?_
  go_simp
  refine(qUs hn (p:Int) i0 HL0.o HG.hand HN.o.held HN.o.at_).mono ?_
  rintro e w2 ⟨rfl,h1,h2⟩
  replace HB0:=qh (h2.held (.inl (.inl (.inr (.inl rfl)))) HB0.o)
  replace HB1:=qh (h2.held (.inl (.inl (.inr (.inr (.inl rfl))))) HB1.o)
  replace HP:=qh (h2.held (.inl (.inl (.inr (.inr (.inr (.inl rfl)))))) HP.o)
  replace HR:=qh (h2.held (.inl (.inl (.inr (.inr (.inr (.inr rfl)))))) HR.o)
  replace HN:=qh (HN.o.call h1 h2)
  clear h1 h2
  refine qk ?_ (fun hHeld=>?_)
  ·first|exact⟨HB0.o.cell 0,HP.o.cell 0,HS0.o _ HR.o⟩|exact hHeld
  clear hK K
  refine dnz ?_
  have y0:=HB0.o.cell 0
  have y1:=HB1.o.cell 0
  have y2:=HP.o.cell 0
  have y3:=HS0.o _ HR.o
  obtain⟨x0,x1,x2,x3⟩:=HN.o.held.hd4
  have hcut1:=cut1 g2 nl c2 hl1 hc1
  have had1:=fun j=>qZa (g:=g2) (j:=j) hc1
  generalize ad1 g2 c2=ad1 at *
  have HAD:=qh had1
  clear had1
  obtain⟨m,hm⟩:∃ m,nl-1=m:=⟨_,rfl⟩
  obtain⟨c3,hc3⟩:∃ c3,c2-1=c3:=⟨_,rfl⟩
  rw[hm,hc3] at hcut1
  have HM:=qh hm
  have HC3:=qh hc3
  clear hm hc3
  go_wp2_with fail
  refine(qSA (some ad1) m c3 _).mono ?_
  rintro e w3 ⟨rfl,hw3⟩
  replace HN:=qh (Hnd.more (G':=fun i=>GP G w.heap.size (w.heap.size+1) NP g2 i\/i=w2.heap.size) HN.o (Bnew (B0 w2) (.cells #[.slice (some ad1) m c3] 42)) (fun i x=>by
   rcases x with x|x
   ·exact .inl x
   ·right;subst x;simp))
  have HBX:=qh (Held.new w2 42 #[.slice (some ad1) m c3])
  replace HB0:=qh (HB0.o.keep (Bnew (B0 w2) (.cells #[.slice (some ad1) m c3] 42)))
  replace HB1:=qh (HB1.o.keep (Bnew (B0 w2) (.cells #[.slice (some ad1) m c3] 42)))
  replace HP:=qh (HP.o.keep (Bnew (B0 w2) (.cells #[.slice (some ad1) m c3] 42)))
  replace HR:=qh (HR.o.keep (Bnew (B0 w2) (.cells #[.slice (some ad1) m c3] 42)))
  rw[<- hw3] at HN HBX HB0 HB1 HP HR
  generalize hnb:w2.heap.size=NB at *
  clear hw3 hnb y0 y1 y2 y3 x0 x1 x2 x3 hcut1
  have HR0:qH (BackAt (some ad1) m c3 (fun i=>((l.getD (i+1) 0:Nat):Int)) NB w3):=qh ⟨HBX.o.cell 0,fun i hi=>⟨ad1,rfl,by
   have h1:=HM.o
   rw[HAD.o i qo,HSC.o _ HR.o (1+i) qo,Nat.add_comm 1 i]⟩⟩
  have HW0:qH (w0.heap.size<=w3.heap.size):=qh HN.o.at_.size
  have HWW:qH (w.heap.size<=w3.heap.size):=qh HN.o.stay.1
  have HNF:=qh HN.o.forget.begin_
  have hfu:updF Z k (ylB fa l 0)=Z:=by
   funext j
   by_cases e:j=k
   ·subst e;rw[qJN,qUl,HZ.o]
   ·rw[qR2 _ _ e]
  go_wp2_with fail
  refine qT5 (gf := 116) (cap:=#[.pointer (some ⟨NB,0,none⟩)]) (enc:=encB m (fun i=>((l.getD (i+1) 0:Nat):Int))) (can:=canB m) (next:=(· + 1)) (R:=BackAt (some ad1) m c3 (fun i=>((l.getD (i+1) 0:Nat):Int)) NB) rfl (enters_of Tryz.func116 qr rfl) (qD1 (some ad1) m c3 (by have:=HM.o;have:=HC3.o;omega) (by have:=HC3.o;unfold maxLen;omega) _ NB) HR0.o (fun A B h hb=>h.below hb) (fun _=>rfl)
   (fun pos F B=>F=(fun i=>i=g)/\pos<=m/\Turns (fun i=>i=g) w3 B/\∃ V,Hnd noOb w0 A Q (fun i=>GP G w.heap.size (w.heap.size+1) NP g2 i\/i=NB) w3 g b t q s V (updF Z k (ylB fa l pos)) freshS B/\∀ i,PB V (updF Z k (ylB fa l pos)) i->PB U Z i\/w3.heap.size<=i)
   (fun _ _=>False) ?hI ?hIx ?hIR ?hIF (F0:=fun i=>i=g) ⟨rfl,Nat.zero_le _,T0 _ _,U,by rw[hfu];exact HNF.o,fun i hi=>by rw[hfu] at hi;exact .inl hi⟩ ?round ?done ?stop
  case hI=>rintro pos F B B' ⟨h1,h2,h3,V,h4,h5⟩ hm;exact⟨h1,h2,hm.turns h3 (Nat.le_refl _),V,h4.mild hm HW0.o (Nat.le_refl _),h5⟩
  case hIx=>rintro c B B' h hm;exact h
  case hIR =>
   rintro pos F B ⟨h1,h2,h3,V,h4,h5⟩
   refine⟨(h4.stay.held (.inr rfl) HBX.o).cell 0,fun i hi=>⟨ad1,rfl,?_⟩⟩
   have h6:=HM.o
   rw[HAD.o i qo,HSC.o _ (h4.stay.held (.inl (.inr (.inr (.inr (.inr rfl))))) HR.o) (1+i) qo,Nat.add_comm 1 i]
  case hIF=>rintro pos F B ⟨rfl,h2,h3,V,h4,h5⟩ i hi;rw[hi];exact⟨_,h4.held,rfl⟩
  case stop=>rintro D c B hD h hk;exact h.elim
  case round =>
   rintro l' pos F B hc ⟨rfl,hpos,hT,V,hN,hV⟩ hsz
   have hlt:pos<m:=of_decide_eq_true hc
   obtain⟨j,hj⟩:∃ j,l.getD (l.length-1-pos) 0=j:=⟨_,rfl⟩
   have he:(fun i=>((l.getD (i+1) 0:Nat):Int)) (m-1-pos)=(j:Int):=by
    rw[<- hj]
    have h1:=HM.o
    have h2:=HNL.o
    show ((l.getD (m-1-pos+1) 0:Nat):Int)=_
    rw[show m-1-pos+1=l.length-1-pos by omega]
   have hfj:=HFA.o (l.length-1-pos) (by have:=HNL.o;omega)
   have hbj:=HFB.o (l.length-1-pos) (by have:=HNL.o;omega)
   rw[hj] at hfj hbj
   unfold encB
   rw[he]
   gi_wp2_with fail
   refine⟨B0 _,fun A2 hM hs=>?_⟩
   have HNr:=qh (hN.mild hM HW0.o (Nat.le_refl _))
   have HTr:=qh (hM.turns hT (Nat.le_refl _))
   have HVr:=qh hV
   have HYS:=qh (qDd fa l pos)
   rw[hj] at HYS
   have b0:=(HNr.o.stay.held (.inl (.inr (.inl rfl))) HB0.o).cell 0
   have b1:=(HNr.o.stay.held (.inl (.inr (.inr (.inl rfl)))) HB1.o).cell 0
   have b2:=(HNr.o.stay.held (.inl (.inr (.inr (.inr (.inl rfl))))) HP.o).cell 0
   have h3:((updF Z k (ylB fa l pos)) k).length<=3:=by rw[qJN,qH8];have:=HM.o;omega
   have hu:updF (updF Z k (ylB fa l pos)) k ((updF Z k (ylB fa l pos)) k ++ [fa j])=updF Z k (ylB fa l (pos+1)):=by
    rw[HYS.o,qJN]
    funext x
    by_cases e:x=k
    ·subst e;rw[qJN,qJN]
    ·rw[qR2 _ _ e,qR2 _ _ e,qR2 _ _ e]
   have HU:=qh hu
   have HSZ:=qh (hM.turns hT (Nat.le_refl _)).size
   clear hN hT hV hM hs hsz hc hj he HN HNF hfu hu
   gi_wp2_with (first
    | (refine⟨trivial,rfl,?_⟩;gi_at_call 62;refine(qLB (qIu k hk (p:Int) (j:Int) (fa j) hfj hbj h3 (HTL.o.at_ HNA.o HNr.o.at_) HNr.o.begin_)).mono ?_;rintro e w4 ⟨rfl,x,hx,ht,hn4⟩;have HX4:=qh hx;have HT4:=qh ht;have HN4:=qh (HNr.o.then_ hn4);clear hx ht hn4)
    | fail)
   refine⟨HT4.o,_,⟨rfl,qo,HTr.o.trans HT4.o,updF V k x,by rw[<- HU.o];exact HN4.o,fun i hi=>?_⟩,fun i hi => .inl hi⟩
   rw[<- HU.o] at hi
   rcases hi.turn_new (w:=A2) HX4.o with h1|h1
   ·exact HVr.o i h1
   ·exact .inr (Nat.le_trans HSZ.o h1)
  case done =>
   rintro D pos F B hD hc ⟨rfl,hpos,hT,V,hN,hV⟩ hkD
   have hpm:pos=m:=by have:=of_decide_eq_false hc;omega
   subst hpm
   have HY:qH (updF Z k (ylB fa l pos)=updF Z k ((l.drop 1).reverse.map fa)):=qh (by
    have h1:=HM.o
    have h2:=HNL.o
    rw[<- qPC,show l.length-1=pos by omega])
   rw[HY.o] at hN hV
   replace HB0:=qh (hN.stay.held (.inl (.inr (.inl rfl))) HB0.o)
   replace HB1:=qh (hN.stay.held (.inl (.inr (.inr (.inl rfl)))) HB1.o)
   replace HP:=qh (hN.stay.held (.inl (.inr (.inr (.inr (.inl rfl))))) HP.o)
   replace HR:=qh (hN.stay.held (.inl (.inr (.inr (.inr (.inr rfl))))) HR.o)
   have HND:=qh hN
   have HTD:=qh hT
   have HVD:=qh hV
   have HKD:=qh hkD
   have HDD:=qh hD
   have HFI:qH (atI t q s (k:Int) (p:Int) (i0:Int)=fa i0):=qh (by rw[<- HI0.o];exact HFA.o 0 qo)
   clear hN hT hV hkD hc hD hpos HNF hfu HY HR0 HBX
   go_wp2_with fail
   replace HND:=qh HND.o.drew
   replace HTD:=qh HTD.o.drew
   replace HB0:=qh (HB0.o.keep (Bdrew (B0 _)))
   replace HB1:=qh (HB1.o.keep (Bdrew (B0 _)))
   replace HP:=qh (HP.o.keep (Bdrew (B0 _)))
   replace HR:=qh (HR.o.keep (Bdrew (B0 _)))
   replace HKD:qH (B.drew.heap[D]?=some (.deferred (some []))):=qh HKD.o
   refine wp_region_held_drew (S:=(fun w'=>(w'.cell? ⟨w.heap.size,0,none⟩=some (.pointer (some ⟨g,0,none⟩))/\w'.cell? ⟨(w.heap.size+1),0,none⟩=some (.int .i64 (k:Int))/\w'.cell? ⟨NP,0,none⟩=some (.int .i64 (p:Int))/\w'.cell? ⟨g2,0,none⟩=some (.int .i64 (i0:Int)))/\w'.cell? ⟨g,0,none⟩=some (.pointer (some ⟨b,0,none⟩))/\w'.cell? ⟨g,1,none⟩=some (.int .i64 t)/\w'.cell? ⟨g,2,none⟩=some (.int .i64 q)/\w'.cell? ⟨g,3,none⟩=some (.int .i64 s))) qr ?_ (fun hHeld=>?_)
   ·(try dsimp only)
    exact M1n
   refine Rbo ?_
   refine RPe ?_
   refine rdz 9 fun K hK=>?_
   go_simp
   refine(qSa t q s (k:Int) (p:Int) (i0:Int) hk0 hk1 _ (HTL.o.at_ HNA.o HND.o.at_)).mono ?_
   rintro e w5 ⟨rfl,hb⟩
   rw[HFI.o]
   replace HND:=qh (HND.o.keep hb)
   replace HTD:=qh (HTD.o.trans (Turns.of_below hb _))
   replace HB0:=qh (HB0.o.keep hb)
   replace HB1:=qh (HB1.o.keep hb)
   replace HP:=qh (HP.o.keep hb)
   replace HR:=qh (HR.o.keep hb)
   replace HKD:=qh ((hb.block D (Array.getElem?_eq_some_iff.1 HKD.o).1).trans HKD.o)
   clear hb
   refine qk ?_ (fun hHeld=>?_)
   ·exact M1n
   clear hK K
   refine RNh ?_
   refine tkz 14 ?_
   refine dnz ?_
   go_wp2_with fail
   refine qDw rfl HKD.o ?_
   have hM:=Mild.put (D:=w3.heap.size) (.deferred none) HDD.o HKD.o rfl
   refine bodyPost_ret (v := .tuple #[.int .i64 (fa i0),.bool true]) (by simp[results,Tryz.results38,go_sem]) rfl ⟨rfl,HOK.o,V,fun i hi=>?_,?_⟩
   ·rcases HVD.o i hi with h1|h1
    ·exact .inl h1
    ·exact .inr (Nat.le_trans HWW.o h1)
   ·exact(HN.o.regain (HND.o.mild hM HW0.o (Nat.le_refl _)) (hM.turns HTD.o (Nat.le_refl _)) HVD.o).less fun i x => .inl (.inl x)

end
end
section
def szH (H:AuH) (k:Nat):Int:=(sizeN (H.s:Int) (k:Int):Int)
section
variable {H H' : AuH} {n c c' : Nat} {L L' : Nat -> List Nat} {T t0 k p i : Nat} {Z : Nat -> Nat -> List Int} {a : Int} {l : List Int}
theorem qYi {a:Int}{t:Nat}(ha:a∈Z t k):∀ {T:Nat},t<T->a∈haveT Z k T
 | 0,h=>absurd h (Nat.not_lt_zero _)
 | T+1,h=>by
  unfold haveT
  rw[List.mem_append]
  by_cases e:t=T
  ·subst e;exact .inr ha
  ·exact .inl (qYi ha qo)
theorem qQm (HV:HeapV H n c)(F:FitsP H.parts (szH H) T Z)(ht:t0<T)(hk:k<9)(ha:a∈Z t0 k):∃ q i,H.hand q i/\H.Cl q=(k:Int)/\H.slotA q i=a:=by
 have h1:=(F.perm k hk).mem_iff.1 (qYi ha ht)
 obtain⟨q,i,hh,hz,e⟩:=mem_pkA.1 h1
 refine⟨q,i,hh,?_,e⟩
 have h8:0<=H.Cl q/\H.Cl q<=8:=by have:=H.K_cases q;have:=hh.2.1;omega
 have hs:=HV.nums
 refine qAj (s:=(H.s:Int)) qo h8 qo ?_
 have:((H.zs q:Nat):Int)=((sizeN (H.s:Int) (k:Int):Nat):Int):=hz
 unfold AuH.zs at this
 omega
theorem qQz (HV:HeapV H n c)(hs:H'.s=H.s)(hk3:H'.K p=3)(hc:H'.Cl p=(k:Int))(hk:k<9){j:Nat}(hj:j<9)(hne:j≠k):(H'.zs p:Int)≠szH H j:=fun e=>by
 have h1:=HV.nums
 unfold AuH.zs szH at e
 rw[hs,hc] at e
 have:=qAj (s:=(H.s:Int)) (k:=(k:Int)) (j:=(j:Int)) qo qo qo qo
 omega
theorem qXT (hs:H'.s=H.s)(hc:H'.Cl p=(k:Int)):(H'.zs p:Int)=szH H k:=by
 unfold AuH.zs szH
 rw[hs,hc]
theorem qHl (HV:HeapV H n c)(h:H.Ok L)(HV':HeapV H' n c')(h':H'.Ok L')(hs:H'.s=H.s){m:List Nat}(hm:m.Nodup)
  (h1:∀ q i,H'.hand q i↔H.hand q i\/(q=p/\i∈m)) (h2:∀ i∈m,¬ H.hand p i) (h3:∀ q i,H.hand q i->H'.Cl q=H.Cl q) (hk3:H'.K p=3) (hc:H'.Cl p=(k:Int)) (hk:k<9)
  (F:FitsP H.parts (szH H) T Z) (ht:t0<T) (hl:l.length<=4) (hp:l.Perm (Z t0 k++m.map (H'.slotA p))):FitsP H'.parts (szH H) T (putZ Z t0 k l):=by
 refine F.turn ht hk hl (fun j hj hne=>?_) (X := []) (Y:=m.map (H'.slotA p)) ?_ ?_
 ·have:=qZh HV h HV' h' hs p hm h1 h2 h3 (szH H j)
  rw[if_neg (qQz HV hs hk3 hc hk hj hne),List.append_nil] at this
  exact this
 ·have:=qZh HV h HV' h' hs p hm h1 h2 h3 (szH H k)
  rw[if_pos (qXT hs hc)] at this
  rw[List.append_nil]
  exact this
 ·rw[List.append_nil];exact hp
theorem qFJ (HV:HeapV H n c)(h:H.Ok L)(HV':HeapV H' n c')(h':H'.Ok L')(hs:H'.s=H.s){m:List Nat}(hm:m.Nodup)
  (h1:∀ q i,H.hand q i↔H'.hand q i\/(q=p/\i∈m)) (h2:∀ i∈m,¬ H'.hand p i) (h3:∀ q i,H'.hand q i->H'.Cl q=H.Cl q) (hk3:H.K p=3) (hc:H.Cl p=(k:Int)) (hk:k<9)
  (F:FitsP H.parts (szH H) T Z) (ht:t0<T) (hl:l.length<=4) (hp:(l++m.map (H.slotA p)).Perm (Z t0 k)):FitsP H'.parts (szH H) T (putZ Z t0 k l):=by
 have e0:szH H'=szH H:=by funext j;unfold szH;rw[hs]
 have h3':∀ q i,H'.hand q i->H.Cl q=H'.Cl q:=fun q i hq=>(h3 q i hq).symm
 refine F.turn ht hk hl (fun j hj hne=>?_) (X:=m.map (H.slotA p)) (Y := []) ?_ ?_
 ·have:=qZh HV' h' HV h hs.symm p hm h1 h2 h3' (szH H j)
  rw[if_neg (qQz (H:=H) HV rfl hk3 hc hk hj hne),List.append_nil] at this
  exact this.symm
 ·have:=qZh HV' h' HV h hs.symm p hm h1 h2 h3' (szH H k)
  rw[if_pos (qXT rfl hc)] at this
  rw[List.append_nil]
  exact this.symm
 ·rw[List.append_nil];exact hp
theorem LiveOn.fits (O:LiveOn H H' L' p i)(HV:HeapV H n c)(h:H.Ok L)(HV':HeapV H' n c')(hs:H'.s=H.s)(hpp:H'.p=H.p)(hh:H.hand p i)(hc:H.Cl p=(k:Int))(hk:k<9)
  (F:FitsP H.parts (szH H) T Z) (ht:t0<T) (hp:(l ++ [H.slotA p i]).Perm (Z t0 k)):FitsP H'.parts (szH H) T (putZ Z t0 k l):=by
 refine qFJ (m := [i]) HV h HV' O.ok hs (by simp) O.hand (fun j hj hx=>?_) (fun q j hq=>?_) hh.2.1 hc hk F ht ?_ hp
 ·rw[List.mem_singleton] at hj
  subst hj
  have:=hx.2.2.2.2
  rw[O.bit] at this
  cases this
 ·have hq2:q<H.p:=by rw[<- hpp];exact hq.1
  exact(O.page q hq2).2.1
 ·have h1:=hp.length_eq
  have h2:=F.few k hk t0 ht
  rw[List.length_append] at h1
  omega
theorem LiveOff.fits (O:LiveOff H H' L' p i)(HV:HeapV H n c)(h:H.Ok L)(HV':HeapV H' n c')(hs:H'.s=H.s)(hp3:p<H.p)(hk3:H.K p=3)(h4:(H.cel p 4).testBit i=true)(hc:H.Cl p=(k:Int))(hk:k<9)
  (F:FitsP H.parts (szH H) T Z) (ht:t0<T) (hl:l.length<=4) (hp:l.Perm (Z t0 k ++ [H.slotA p i])):FitsP H'.parts (szH H) T (putZ Z t0 k l):=by
 obtain⟨g1,g2,_,_⟩:=O.page p hp3
 have es:H'.slotA p i=H.slotA p i:=by unfold AuH.slotA AuH.first AuH.pg AuH.zs;rw[hs,g2]
 refine qHl (m := [i]) HV h HV' O.ok hs (by simp) O.hand (fun j hj hx=>?_) (fun q j hq=>(O.page q hq.1).2.1) (by rw[g1];exact hk3) (by rw[g2];exact hc) hk F ht hl (by
  show l.Perm (Z t0 k ++ [H'.slotA p i])
  rw[es]
  exact hp)
 rw[List.mem_singleton] at hj
 subst hj
 have:=hx.2.2.2.2
 rw[h4] at this
 cases this
end
section
variable {H : AuH} {n c c' : Nat} {K : Nat -> Option Nat} {st : Vst} {L L' : Nat -> List Nat} {T t0 k p i : Nat} {Z : Nat -> Nat -> List Int} {l : List Int}
theorem Picked.fits {m:List Nat}(P:Picked H n K st L' (k:Int) p m)(HV:HeapV H n c)(h:H.Ok L)(HV':HeapV (nowH H n K st) n c')(hk:k<9)
  (F:FitsP H.parts (szH H) T Z) (ht:t0<T) (hl:l.length<=4) (hp:l.Perm (Z t0 k++m.map ((nowH H n K st).slotA p))):FitsP (nowH H n K st).parts (szH H) T (putZ Z t0 k l):=by
 refine qHl HV h HV' P.ok rfl (P.up.imp fun h=>Nat.ne_of_lt h) P.hand (fun j hj hx=>?_) (fun q j hq=>(P.cls_ q hq.1 hq.2.1 ?_).1) P.kind P.cls hk F ht hl hp
 ·have h1:=(P.bits j hj).2.2.2 hx.2.1
  rw[hx.2.2.2.1] at h1
  cases h1
 ·exact((P.hand q j).2 (.inl hq)).2.1
end
end
section
section
variable {H : AuH} {n c : Nat} {q i : Nat}
structure SlotAt (H:AuH) (q i:Nat):Prop where
 spot:spotB H.t H.p H.s (H.slotA q i)=true
 page:spotP H.t H.p H.s (H.slotA q i)=q
 off:spotO H.t H.p H.s (H.slotA q i)=((i*H.zs q:Nat):Int)
 isB:slotB H.t H.p H.s (H.Cl q) (spotO H.t H.p H.s (H.slotA q i))=true
 slot:slotR H.t H.p H.s (H.Cl q) (spotO H.t H.p H.s (H.slotA q i))=i
 atB_:atB H.t H.p H.s (H.Cl q) q i=true
 atI_:atI H.t H.p H.s (H.Cl q) q i=H.slotA q i
 low:1024<=H.slotA q i
theorem qQD (HV:HeapV H n c)(hq:q<H.p)(hk:H.K q=3)(hi:i<slotI (H.Cl q)):SlotAt H q i:=by
 obtain⟨z1,z2⟩:=qSR HV hk hi
 have ho:i*H.zs q<H.pg:=qo
 have e:H.slotA q i=H.first q+((i*H.zs q:Nat):Int):=by unfold AuH.slotA;push_cast;rfl
 obtain⟨g1,g2,g3⟩:=AuH.spot_at HV hq ho
 obtain⟨a1,a2⟩:=AuH.addr_at HV hq ho
 have hcast:((i*H.zs q:Nat):Int)=(i:Int)*(sizeN (H.s:Int) (H.Cl q):Int):=by push_cast;rfl
 have hsl:=qF9 (t:=H.t) (p:=H.p) (s:=H.s) (k:=H.Cl q) HV.right i hi (o:=((i*H.zs q:Nat):Int)) hcast
 have hat:=qUV (t:=H.t) (p:=H.p) (s:=H.s) (k:=H.Cl q) (i:=(q:Int)) (j:=(i:Int)) ⟨qo,qo⟩
 rw[<- hcast,a1,a2] at hat
 rw[<- e] at g1 g2 g3 hat
 have hf:=qFR HV hq
 exact⟨g1,g2,g3,by rw[g3];exact hsl.1,by rw[g3];exact hsl.2,hat.1,hat.2,by rw[e];omega⟩
theorem qQ7 (HV:HeapV H n c)(hh:H.hand q i):SlotAt H q i:=qQD HV hh.1 hh.2.1 hh.2.2.1
end
end
section
section
variable (n : Nat) (K : Nat -> Option Nat) (t q s : Int)
def allocI (k:Int) (l:List Int) (st:Vst):Option (Int × List Int) × Vst :=
 if k<0\/8<k then (none,st)
 else match l.getLast? with
  | some a=>(some (a,l.dropLast),onS n K t q s (spotP t q s a).toNat (slotR t q s k (spotO t q s a)).toNat st)
  | none=>match (pickI n K t q s k 4 st).1 with
   | some (p,m)=>(some (atI t q s k (p:Int) ((m.getD 0 0:Nat):Int),(m.drop 1).reverse.map fun (i:Nat)=>atI t q s k (p:Int) (i:Int)),onS n K t q s p (m.getD 0 0) (pickI n K t q s k 4 st).2)
   | none=>(none,(pickI n K t q s k 4 st).2)
end
structure Alloced (H H':AuH) (L:Nat->List Nat) (T:Nat) (Z:Nat->Nat->List Int) (t0 k:Nat) (a:Int) (l:List Int) (p i:Nat):Prop where
 ok:H'.Ok L
 roots:∀ i,i<8->H'.V (22+i)=H.V (22+i)
 free:k<9
 blocks:∃ X Y,blocksOf H.parts=X++Y/\blocksOf H'.parts=X ++ [(a,szH H k)]++Y/\(∀ x∈X,x.1<a)/\(∀ y∈Y,a<y.1)
 fits:FitsP H'.parts (szH H) T (putZ Z t0 k l)
 few:l.length<=3
 at_:p<H.p
 kind:H'.K p=3
 cls:H'.Cl p=(k:Int)
 slot:i<slotI (k:Int)
 bit:(H'.cel p 4).testBit i=true
 addr:H'.slotA p i=a
 bare:∀ r,r<8->H'.V (22+r)≠0->(spotP H'.t H'.p H'.s (H'.V (22+r):Int)).toNat=p->(slotR H'.t H'.p H'.s (H'.Cl p) (spotO H'.t H'.p H'.s (H'.V (22+r):Int))).toNat≠i
section
variable {H : AuH} {n c : Nat} {K : Nat -> Option Nat} {st st1 : Vst} {L L' : Nat -> List Nat} {T t0 k p i : Nat} {Z : Nat -> Nat -> List Int} {a : Int} {l : List Int}
theorem qVJ (H:AuH)(n:Nat)(K:Nat->Option Nat)(st st1:Vst):nowH (nowH H n K st) n K st1=nowH H n K st1:=by
 unfold nowH AuH.re
 congr 1
 funext i
 unfold curV
 split
 ·rfl
 ·rename_i h
  show (if i<n then getV n K st (i:Int) else H.V i)=H.V i
  rw[if_neg h]
theorem qUr (h:H.Ok L)(hh:H.hand p i):∀ r,r<8->H.V (22+r)≠0->(spotP H.t H.p H.s (H.V (22+r):Int)).toNat=p->(slotR H.t H.p H.s (H.Cl p) (spotO H.t H.p H.s (H.V (22+r):Int))).toNat≠i:=fun r hr hv he e=>by
 obtain⟨_,b2⟩:=h.roots r hr hv
 rw[he] at b2
 obtain⟨_,hk,_,_,h4⟩:=hh
 rcases b2 with b2|⟨_,_,b2⟩
 ·omega
 ·rw[e,h4] at b2;cases b2
theorem qW1 (HV:HeapV H n c)(h:H.Ok L)(W:Work H.t H.p H.s n K st L H.V)(HV':HeapV (nowH H n K (onS n K H.t H.p H.s p i st)) n c)(hh:H.hand p i)(hc:H.Cl p=(k:Int))(hk:k<9)(F:FitsP H.parts (szH H) T Z)(ht:t0<T)
  (hp:(l ++ [H.slotA p i]).Perm (Z t0 k)):Alloced H (nowH H n K (onS n K H.t H.p H.s p i st)) L T Z t0 k (H.slotA p i) l p i:=by
 obtain⟨_,_,O⟩:=qKO HV h W hh
 obtain⟨g1,g2,_,_⟩:=O.page p hh.1
 obtain⟨X,Y,b1,b2,b3,b4⟩:=O.blocks
 have ez:(H.zs p:Int)=szH H k:=qXT rfl hc
 rw[ez] at b2
 refine⟨O.ok,O.roots,hk,⟨X,Y,b1,b2,b3,b4⟩,O.fits HV h HV' rfl rfl hh hc hk F ht hp,?_,hh.1,by rw[g1];exact hh.2.1,by rw[g2];exact hc,by rw[<- hc];exact hh.2.2.1,O.bit,?_,fun r hr=>?_⟩
 ·have h1:=hp.length_eq
  have h2:=F.few k hk t0 ht
  rw[List.length_append] at h1
  simp only[List.length_cons,List.length_nil] at h1
  omega
 ·unfold AuH.slotA AuH.zs
  rw[g2]
  rfl
 ·have:=qUr h hh r hr
  rw[O.roots r hr,g2]
  exact this
theorem qBf (HV:HeapV H n c)(h:H.Ok L)(W:Work H.t H.p H.s n K st L H.V)(h32:∀ i x,K i=some x->x<2^32)(hk:k<9)(F:FitsP H.parts (szH H) T Z)(ht:t0<T)(hl:Z t0 k=l)
  (hv1:l = []->VOk n (pickI n K H.t H.p H.s (k:Int) 4 st).2) (hv2:VOk n (allocI n K H.t H.p H.s (k:Int) l st).2) :
  ((allocI n K H.t H.p H.s (k:Int) l st).1=none/\(allocI n K H.t H.p H.s (k:Int) l st).2.wr=st.wr/\l = []) \/
   ∃ a l' p i L',(allocI n K H.t H.p H.s (k:Int) l st).1=some (a,l')/\VW n K (allocI n K H.t H.p H.s (k:Int) l st).2/\(∃ g,Work H.t H.p H.s n K (allocI n K H.t H.p H.s (k:Int) l st).2 L' g) /\
    Alloced H (nowH H n K (allocI n K H.t H.p H.s (k:Int) l st).2) L' T Z t0 k a l' p i:=by
 have hkk:¬ ((k:Int)<0\/8<(k:Int)):=qo
 cases hg:l.getLast? with
 | some a =>
  have e:allocI n K H.t H.p H.s (k:Int) l st=(some (a,l.dropLast),onS n K H.t H.p H.s (spotP H.t H.p H.s a).toNat (slotR H.t H.p H.s (k:Int) (spotO H.t H.p H.s a)).toNat st):=by
   unfold allocI
   rw[if_neg hkk,hg]
  rw[e] at hv2 ⊢
  have hsp:l.dropLast ++ [a]=l:=by
   obtain⟨ys,hy⟩:=List.getLast?_eq_some_iff.1 hg
   rw[hy,List.dropLast_concat]
  obtain⟨p,i,hh,hc,ha⟩:=qQm HV F ht hk (a:=a) (by rw[hl,<- hsp];simp)
  have A:=qQ7 HV hh
  have e1:(spotP H.t H.p H.s a).toNat=p:=by rw[<- ha,A.page,Int.toNat_natCast]
  have e2:(slotR H.t H.p H.s (k:Int) (spotO H.t H.p H.s a)).toNat=i:=by
   have:=A.slot
   rw[hc,ha] at this
   rw[this,Int.toNat_natCast]
  rw[e1,e2] at hv2 ⊢
  obtain⟨w1,w2,_⟩:=qKO HV h W hh
  have HV':=qN5 HV hv2 h32 HV.cap HV.max
  refine .inr ⟨a,l.dropLast,p,i,L,rfl,w1,w2,?_⟩
  have:=qW1 (l:=l.dropLast) HV h W HV' hh hc hk F ht (by rw[hl,ha,hsp])
  rw[ha] at this
  exact this
 | none =>
  have hnil:l = []:=List.getLast?_eq_none_iff.1 hg
  have e:allocI n K H.t H.p H.s (k:Int) l st=(match (pickI n K H.t H.p H.s (k:Int) 4 st).1 with
   | some (p,m)=>(some (atI H.t H.p H.s (k:Int) (p:Int) ((m.getD 0 0:Nat):Int),(m.drop 1).reverse.map fun (i:Nat)=>atI H.t H.p H.s (k:Int) (p:Int) (i:Int)),onS n K H.t H.p H.s p (m.getD 0 0) (pickI n K H.t H.p H.s (k:Int) 4 st).2)
   | none=>(none,(pickI n K H.t H.p H.s (k:Int) 4 st).2)):=by
   unfold allocI
   rw[if_neg hkk,hg]
  rcases qB9 HV h W (k:=(k:Int)) qo qo (w:=4) qo with ⟨h1,h2⟩|⟨p,m,L1,h1,_,h3,h4,h5,P,g1,W1⟩
  ·rw[h1] at e
   rw[e]
   exact .inl ⟨rfl,h2,hnil⟩
  ·rw[h1] at e
   have e:allocI n K H.t H.p H.s (k:Int) l st=(some (atI H.t H.p H.s (k:Int) (p:Int) ((m.getD 0 0:Nat):Int),(m.drop 1).reverse.map fun (i:Nat)=>atI H.t H.p H.s (k:Int) (p:Int) (i:Int)),onS n K H.t H.p H.s p (m.getD 0 0) (pickI n K H.t H.p H.s (k:Int) 4 st).2):=e
   rw[e] at hv2 ⊢
   have hv1:=hv1 hnil
   generalize (pickI n K H.t H.p H.s (k:Int) 4 st).2=st1 at *
   have HV1:HeapV (nowH H n K st1) n c:=qN5 HV hv1 h32 HV.cap HV.max
   have W1:Work (nowH H n K st1).t (nowH H n K st1).p (nowH H n K st1).s n K st1 L1 (nowH H n K st1).V:=W1.again
   cases m with
   | nil=>simp at h3
   | cons i r =>
    have h0:(i :: r).getD 0 0=i:=rfl
    have hd:(i :: r).drop 1=r:=rfl
    rw[h0] at hv2 ⊢
    rw[hd]
    have hhand:∀ j∈i :: r,(nowH H n K st1).hand p j:=fun j hj=>(P.hand p j).2 (.inr ⟨rfl,hj⟩)
    have hat:∀ j∈i :: r,atI H.t H.p H.s (k:Int) (p:Int) (j:Int)=(nowH H n K st1).slotA p j:=fun j hj=>by
     have:=(qQ7 HV1 (hhand j hj)).atI_
     rw[P.cls] at this
     exact this
    have hm:r.reverse.map (fun (i:Nat)=>atI H.t H.p H.s (k:Int) (p:Int) (i:Int))=r.reverse.map ((nowH H n K st1).slotA p):=List.map_congr_left fun j hj=>hat j (List.mem_cons_of_mem _ (List.mem_reverse.1 hj))
    rw[hm,hat i (List.mem_cons_self ..)]
    -- all of them are put into the pocket, and the first one is made live out of it
    have F1:=P.fits (t0:=t0) (Z:=Z) (T:=T) (l:=(r.reverse.map ((nowH H n K st1).slotA p)) ++ [(nowH H n K st1).slotA p i]) HV h HV1 hk F ht (by
     rw[List.length_append,List.length_map,List.length_reverse]
     simp only[List.length_cons,List.length_nil] at h4 ⊢
     omega) (by
     rw[hl,hnil,List.nil_append,List.map_cons]
     refine(List.perm_append_comm).trans ?_
     exact List.Perm.cons _ ((List.reverse_perm r).map _))
    have eh:nowH (nowH H n K st1) n K (onS n K H.t H.p H.s p i st1)=nowH H n K (onS n K H.t H.p H.s p i st1):=qVJ H n K st1 _
    have HV2:HeapV (nowH (nowH H n K st1) n K (onS n K H.t H.p H.s p i st1)) n c:=by rw[eh];exact qN5 HV hv2 h32 HV.cap HV.max
    obtain⟨w1,w2,_⟩:=qKO HV1 P.ok W1 (hhand i (List.mem_cons_self ..))
    have A:=qW1 (H:=nowH H n K st1) (l:=r.reverse.map ((nowH H n K st1).slotA p)) (Z:=putZ Z t0 k ((r.reverse.map ((nowH H n K st1).slotA p)) ++ [(nowH H n K st1).slotA p i])) HV1 P.ok W1 HV2 (hhand i (List.mem_cons_self ..)) P.cls hk F1 ht (by rw[qYc])
    have A:Alloced (nowH H n K st1) (nowH (nowH H n K st1) n K (onS n K H.t H.p H.s p i st1)) L1 T _ t0 k _ _ p i:=A
    rw[eh] at A
    refine .inr ⟨_,_,p,i,L1,rfl,w1,w2,?_⟩
    obtain⟨a1,a2,a3,a4,a5,a6,a7,a8,a9,a10,a11,a12,a13⟩:=A
    refine⟨a1,fun i hi=>(a2 i hi).trans (P.roots i hi),a3,?_,?_,a6,P.at_,a8,a9,a10,a11,a12,a13⟩
    ·rw[P.blocks] at a4
     exact a4
    ·have e2:putZ (putZ Z t0 k ((r.reverse.map ((nowH H n K st1).slotA p)) ++ [(nowH H n K st1).slotA p i])) t0 k (r.reverse.map ((nowH H n K st1).slotA p))=putZ Z t0 k (r.reverse.map ((nowH H n K st1).slotA p)):=by
      funext t j
      unfold putZ
      split
      ·rfl
      ·rfl
     rw[<- e2]
     exact a5
end
end
section
section
variable {H H' : AuH} {n c : Nat} {K : Nat -> Option Nat} {st st1 : Vst} {L L' : Nat -> List Nat} {T t0 k p i : Nat} {Z : Nat -> Nat -> List Int} {a : Int} {l : List Int}
theorem qXS {A B C:List (Int × Int)}{a z z':Int}(h1:∃ X Y,A=X++Y/\B=X ++ [(a,z)]++Y/\(∀ x∈X,x.1<a)/\(∀ y∈Y,a<y.1))(h2:∃ X Y,B=X ++ [(a,z')]++Y/\C=X++Y/\(∀ x∈X,x.1<a)/\(∀ y∈Y,a<y.1)):C=A:=by
 obtain⟨X,Y,e1,e2,e3,e4⟩:=h1
 obtain⟨X',Y',f1,f2,f3,f4⟩:=h2
 have g1:=qGw (b:=(a,z)) e3 e4
 have g2:=qGw (b:=(a,z')) f3 f4
 rw[<- e2] at g1
 rw[<- f1] at g2
 rw[f2,<- g2,e1,<- g1]
theorem qOr (HV:HeapV H n c)(h:H.Ok L)(W:Work H.t H.p H.s n K st L H.V)(h32:∀ i x,K i=some x->x<2^32)(hp3:p<H.p)(hk3:H.K p=3)(hc:H.Cl p=(k:Int))(hk:k<9)(hlt:i<slotI (k:Int))(h4:(H.cel p 4).testBit i=true)
  (hb:∀ r,r<8->H.V (22+r)≠0->(spotP H.t H.p H.s (H.V (22+r):Int)).toNat=p->(slotR H.t H.p H.s (H.Cl p) (spotO H.t H.p H.s (H.V (22+r):Int))).toNat≠i)
  (hv:VOk n (offS n K H.t H.p H.s p i (getS n K st (pageI H.t H.p H.s p 0)))) :
  (infoOf n K H.t H.p H.s p st).2.2.1=(k:Int)/\VW n K (offS n K H.t H.p H.s p i (getS n K st (pageI H.t H.p H.s p 0)))/\(∃ g,Work H.t H.p H.s n K (offS n K H.t H.p H.s p i (getS n K st (pageI H.t H.p H.s p 0))) L g) /\
   LiveOff H (nowH H n K (offS n K H.t H.p H.s p i (getS n K st (pageI H.t H.p H.s p 0)))) L p i/\atI H.t H.p H.s (k:Int) (p:Int) (i:Int)=H.slotA p i /\
   ∀ {T t0:Nat} {Z:Nat->Nat->List Int},FitsP H.parts (szH H) T Z->t0<T->(Z t0 k).length<=3 ->
    FitsP (nowH H n K (offS n K H.t H.p H.s p i (getS n K st (pageI H.t H.p H.s p 0)))).parts (szH H) T (putZ Z t0 k (Z t0 k ++ [H.slotA p i])):=by
 have hlen:=HV.len
 have W1:=W.get (pageI H.t H.p H.s p 0)
 have ei:infoOf n K H.t H.p H.s p st=infoG (H.cel p 0):=by
  unfold infoOf
  rw[HV.fit.inf hp3]
  show infoG (getV n K st ((pc H.t p 0:Nat):Int))=_
  rw[W.near (pc H.t p 0) (by unfold pc;omega) (qXR (t:=H.t) (q:=p) (b:=0) qo qo qo)]
  rfl
 obtain⟨w1,w2,O⟩:=qDA HV h W1 hp3 hk3 (by rw[hc];exact hlt) h4 hb
 have A:=qQD HV hp3 hk3 (i:=i) (by rw[hc];exact hlt)
 refine⟨by rw[ei];exact hc,w1,w2,O,by rw[<- hc];exact A.atI_,fun F ht hl=>?_⟩
 exact O.fits HV h (qN5 HV hv h32 HV.cap HV.max) rfl hp3 hk3 h4 hc hk F ht (by rw[List.length_append,List.length_singleton];omega) (List.Perm.refl _)
end
section
variable {H : AuH} {n c : Nat} {K : Nat -> Option Nat} {st : Vst} {L : Nat -> List Nat} {T t0 k : Nat} {Z : Nat -> Nat -> List Int} {a : Int} {l : List Int}
end
end
end Go.Proofs.YtjjfcaliippgpaaGreatDoor
