/-
  The document's answer for Views: Put, Writes, Vals, Same. Written by view/gen_ref5.py.
-/
import Derived.Test.YtgifnhcknodekaaGreatA02
import Derived.Deep.RegionHeld3
import Derived.Below
import Derived.Test.YtgifnhcknodekaaGreatAKit
import Derived.WalkKit
import Derived.ProofKit
import Derived.BigQuiet
import Derived.Outline
import Derived.Deep.QuietTactic
import Derived.IntWalk
import Derived.KernelRfl
namespace Go.Proofs.YtgifnhcknodekaaGreat
theorem Rjo {P Q:Prop}(kq:Q)(h:HQ Q->P:=by
 intro kq
 refine(qTb 0 t 1 16 _).mono ?_
 rintro e w1 ⟨rfl,hb0⟩
 rw[HX0.o]
 have hc1:=hc.keep hb0
 obtain⟨d0,d1,d2,d3,d4,d5,d6,d7,d8,d9,d10,d11⟩:=qID hc1
 revert w1 hb0 hc1 d0 d1 d2 d3 d4 d5 d6 d7 d8 d9 d10 d11
 exact kq.o):P:=h ⟨kq⟩
theorem MVv {P:Prop}(h:P:=by
 have HR:=qh hr
 clear hr
 go_enter Tryz.func152,Tryz.ntmps152
 go_wp2_with fail
 refine(qOU t p s _).mono ?_
 rintro e w1 ⟨rfl,hb1⟩
 go_wp2_with fail
 refine(qDe t p s _ _ (Held.new w1 _ _)).mono ?_
 rintro e w2 ⟨rfl,hb2⟩
 rw[HR.o]
 go_wp2
 go_ret
 exact⟨by rw[HK.o];rfl,Bgo (Bnew (Bgo (Bnew (B0 _) _) hb1) _) hb2⟩):P:=h
theorem M4N {P:Prop}(h:P:=by
 go_enter Tryz.func158,Tryz.ntmps158
 go_wp2_with fail
 refine(qXH t p s g _ hc).mono ?_
 rintro e w1 ⟨rfl,hb⟩
 rw[HK.o]
 go_wp2
 go_ret
 exact⟨by first|rfl|trivial,hb⟩):P:=h
theorem MMm {P:Prop}(h:P:=by
 go_enter Tryz.func36,Tryz.ntmps36
 go_wp2
 (try simp only[Exit.inBlock,Exit.then])
 refine bodyPost_ret (results_none rfl _ _ _) rfl ?_
 exact⟨rfl,rfl⟩):P:=h
theorem Mpd {P:Prop}(h:P:=by
 have H:=qh (qS8 (t:=t) (p:=p) (s:=s) qo)
 exact MoO):P:=h
theorem MV6 {P:Prop}(h:P:=by
 have H:=qh (qDV (a:=a) (k:=k) qo)
 exact M0u):P:=h
theorem MoO {P:Prop}(h:P:=by
 go_enter Tryz.func55,Tryz.ntmps55
 go_wp2
 go_ret
 exact⟨by rw[H.o];rfl,Bnew (B0 _) _⟩):P:=h
theorem MFq {P:Prop}(h:P:=by
 have h:¬ infoP k l c:=of_decide_eq_false hb
 unfold infoP at h
 simp only[and_true,reduceCtorEq,and_false,or_false,false_or]
 omega):P:=h
theorem Ms9 {P:Prop}(h:P:=by
 go_enter Tryz.func157,Tryz.ntmps157
 go_wp2
 go_ret
 exact⟨by rw[H.o];rfl,Bnew (B0 _) _⟩):P:=h
theorem Mx3 {P:Prop}(h:P:=by
 have h:infoP k l c:=qLf hb
 unfold infoP at h
 simp only[and_true,reduceCtorEq,and_false,or_false,false_or]
 omega):P:=h
theorem MRH {P:Prop}(h:P:=by
 unfold rightB at h
 unfold idxI
 cases h0:outB t 1 16 <;> cases h1:outB p 4 1024 <;> cases h2:outB s 10 20 <;> simp_all):P:=h
theorem M0u {P:Prop}(h:P:=by
 go_enter Tryz.func143,Tryz.ntmps143
 go_wp2
 go_ret
 exact⟨by rw[H.o];rfl,rfl⟩):P:=h
end Go.Proofs.YtgifnhcknodekaaGreat
set_option linter.unusedVariables false
set_option linter.unusedSimpArgs false
set_option maxRecDepth 100000
set_option maxHeartbeats 25600000
namespace Go.Proofs.YtgifnhcknodekaaGreat
open Go.ChangeShapes Go.WideShapes Go.ChangeAt Go.RowKit Go.Maps
section
theorem qFS {base b n:Nat}{all:Bool}{v:Nat->Value}{K:Nat->Option Nat}{s:Vst}(a x:Int)(ho:opn n s a=false)(w:World)(h:IsRefV w base b n all v K s) :
  Calls Tryz.prog 36 #[.pointer (some ⟨b,0,none⟩),.int .i64 a,.int .u32 x] w fun e w'=>e = .returned (.tuple #[])/\w'=w:=by
 obtain⟨c0,_,_,_,_,_,_,c7,_⟩:=h.cells
 clear h
 rcases Int.lt_or_le a 0 with h1|h1
 ·have t0:decide (a<0)=true:=decide_eq_true h1
  exact MMm
 ·have t0:decide (a<0)=false:=qf
  rcases Int.lt_or_le a n with h2|h2
  ·have t1:decide ((n:Int)<=a)=false:=qf
   have hl:s.lost=true:=by
    exact MuU
   have hm:missI s=(s.miss:Int):=by unfold missI;rw[hl];rfl
   rw[hm] at c7
   have t2:decide ((0:Int)<=(s.miss:Int))=true:=qt
   clear hm hl ho
   exact MMm
  ·have t1:decide ((n:Int)<=a)=true:=qt
   exact MMm

theorem qHe {l:List (Nat × Nat)}{k i v:Nat}(h:k<l.length):atW (l.set k (i,v)) k=v:=by unfold atW;simp[List.getD,h]
theorem qU8 {l:List (Nat × Nat)}{k m:Nat}{p:Nat × Nat}(h:m≠k):atW (l.set k p) m=atW l m:=by unfold atW;simp[List.getD,List.getElem?_set_ne (Ne.symm h)]
theorem qV5 (l:List (Nat × Nat))(i v j:Nat):toV (putW l i v) j=updF (toV l) i v j:=by
 unfold toV updF
 rw[qT3]
 cases hp:pos l i with
 | some k =>
  rw[qRW hp]
  simp only
  have hkl:=(qG9 hp).1
  by_cases e:j=i
  ·subst e
   rw[if_pos rfl,hp]
   exact qHe hkl
  ·rw[if_neg e]
   cases hj:pos l j with
   | none=>rfl
   | some m =>
    have hne:m≠k:=by
     rintro rfl
     exact e ((qG9 hj).2.symm.trans (qG9 hp).2)
    exact qU8 hne
 | none =>
  rw[qWB hp]
  simp only
  by_cases e:j=i
  ·subst e
   rw[if_pos rfl,if_pos rfl]
   simp[atW,List.getD]
  ·rw[if_neg e,if_neg e]
   cases hj:pos l j with
   | none=>rfl
   | some m =>
    have:=(qG9 hj).1
    simp[atW,List.getD,List.getElem?_append_left this]
theorem qPi (l:List (Nat × Nat))(i v j:Nat):(pos (putW l i v) j).isSome=updF (fun j=>(pos l j).isSome) i true j:=by
 rw[qT3]
 unfold updF
 cases hp:pos l i with
 | some k =>
  simp only
  by_cases e:j=i
  ·subst e;simp[hp]
  ·simp[e]
 | none =>
  simp only
  by_cases e:j=i <;> simp[e]
theorem qG5 (n:Nat)(K:Nat->Option Nat)(s:Vst)(i v:Nat):(rX n K s 2).set i (.bool true)=rX n K { s with wr:=putW s.wr i v } 2:=by
 show (rowL n (bitF fun j=>(pos s.wr j).isSome)).set i (.bool true)=rowL n (bitF fun j=>(pos (putW s.wr i v) j).isSome)
 rw[qHB]
 refine qWZ (fun j _=>?_)
 show updF (fun i=>Value.bool (pos s.wr i).isSome) i (.bool true) j=Value.bool (pos (putW s.wr i v) j).isSome
 rw[qPi]
 unfold updF
 by_cases e:j=i <;> simp[e]
theorem qRC (n:Nat)(K:Nat->Option Nat)(s:Vst)(i v:Nat):(rX n K s 3).set i (.int .u32 (v:Int))=rX n K { s with wr:=putW s.wr i v } 3:=by
 show (rowL n (valF (toV s.wr))).set i (.int .u32 (v:Int))=rowL n (valF (toV (putW s.wr i v)))
 rw[qHB]
 refine qWZ (fun j _=>?_)
 show updF (fun i=>Value.int .u32 ((toV s.wr i:Nat):Int)) i (.int .u32 (v:Int)) j=Value.int .u32 ((toV (putW s.wr i v) j:Nat):Int)
 rw[qV5]
 unfold updF
 by_cases e:j=i <;> simp[e]
theorem qX1 {l:List (Nat × Nat)}{i v k:Nat}(h:pos l i=some k):(putW l i v).map (·.1)=l.map (·.1)/\(putW l i v).length=l.length:=by
 rw[qRW h]
 refine⟨?_,by simp⟩
 rw[List.map_set]
 have hk:=qG9 h
 apply List.ext_getElem?
 intro j
 rw[List.getElem?_set]
 split
 ·rename_i e
  subst e
  have h2:=hk.2
  unfold cellW at h2
  rw[if_pos (by simpa using hk.1),List.getElem?_map,List.getElem?_eq_getElem hk.1]
  rw[List.getD,List.getElem?_eq_getElem hk.1] at h2
  exact congrArg some h2.symm
 ·rfl

theorem qGW {base b n:Nat}{all:Bool}{v:Nat->Value}{K:Nat->Option Nat}{s:Vst}(i k x:Nat)(hl:s.lost=false)(hk:pos s.wr i=some k)(hi:i<n)(hx:x<2^32)(w:World)(h:IsRefV w base b n all v K s) :
  Calls Tryz.prog 36 #[.pointer (some ⟨b,0,none⟩),.int .i64 (i:Int),.int .u32 (x:Int)] w fun e w'=>e = .returned (.tuple #[])/\LeftR w base b n all v K { s with wr:=putW s.wr i x } w':=by
 have hn:=h.nmax
 obtain⟨c0,_,_,c3,c4,_,_,c7,_⟩:=h.cells
 obtain⟨g2,p2,hv2,hp2,hm2,hg2,hl2,hr2⟩:=h.row (i:=2) qo qo
 obtain⟨g3,p3,hv3,hp3,hm3,hg3,hl3,hr3⟩:=h.row (i:=3) qo qo
 have hg23:g3≠g2:=fun e=>by
  have:=h.parts.own.apart 2 3 g2 qo qo (by rw[hv2];rfl) (by rw[hv3,e];rfl)
  omega
 have d2:=(hr2 i hi).1.trans (rX_2 n K s hi)
 have d3:=(hr3 i hi).1.trans (rX_3 n K s hi)
 have f2:=(hr2 i hi).2
 have f3:=(hr3 i hi).2
 rw[hk] at d2
 rw[hv2] at c3
 rw[hv3] at c4
 rw[qH8 hl] at c7
 have HH:=qh h
 have HOK:qH (VOk n { s with wr:=putW s.wr i x }):=qh (by
  have:=h.ok.put (a:=(i:Int)) hx
  rwa [qPT (qB1 hi hl)] at this)
 have HV2:=qh hv2
 have HV3:=qh hv3
 have HPC:=qh (qX1 (v:=x) hk)
 have t0:decide ((i:Int)<0)=false:=qf
 have t1:decide ((n:Int)<=i)=false:=qf
 have t2:decide (n<=i)=false:=qf
 clear h hr2 hr3 hv2 hv3 hk hl
 generalize toV s.wr i=old at *
 go_enter Tryz.func36,Tryz.ntmps36
 go_wp2
 go_end0
 obtain⟨hp5,ht5⟩:=HH.o.parts.store (i:=2) (g:=g2) (cap:=p2) qo HV2.o i (.bool true)
 obtain⟨hp6,ht6⟩:=hp5.store (i:=3) (g:=g3) (cap:=p3) qo HV3.o i (.int .u32 (x:Int))
 refine⟨rfl,v,{ parts:=hp6.congr rfl (six rfl rfl rfl rfl rfl HPC.o.2.symm) (six rfl rfl (qG5 n K s i x) (qRC n K s i x) rfl ?_),ok:=HOK.o,nmax:=hn,k32:=HH.o.k32 },fun g hg => .inl hg,ht5.trans ht6⟩
 show ntVs (s.wr.map (·.1))=ntVs ((putW s.wr i x).map (·.1))
 rw[HPC.o.1]

theorem qIn {base b n:Nat}{all:Bool}{v:Nat->Value}{K:Nat->Option Nat}{s:Vst}(i x:Nat)(hl:s.lost=false)(hk:pos s.wr i=none)(hi:i<n)(hx:x<2^32)(hlim:s.wr.length<2^40)(w:World)(h:IsRefV w base b n all v K s) :
    Calls Tryz.prog 36 #[.pointer (some ⟨b,0,none⟩),.int .i64 (i:Int),.int .u32 (x:Int)] w fun e w'=>e = .returned (.tuple #[])/\LeftR w base b n all v K { s with wr:=putW s.wr i x } w':=by
  have hn:=h.nmax
  obtain⟨c0,_,_,c3,c4,_,c6,c7,_⟩:=h.cells
  obtain⟨g2,p2,hv2,hp2,hm2,hg2,hl2,hr2⟩:=h.row (i:=2) qo qo
  obtain⟨g3,p3,hv3,hp3,hm3,hg3,hl3,hr3⟩:=h.row (i:=3) qo qo
  have hg23:g3≠g2:=fun e=>by
    have:=h.parts.own.apart 2 3 g2 qo qo (by rw[hv2];rfl) (by rw[hv3,e];rfl)
    omega
  have d2:=(hr2 i hi).1.trans (rX_2 n K s hi)
  rw[hk] at d2
  rw[hv2] at c3
  rw[hv3] at c4
  rw[qH8 hl] at c7
  have HO:qH (w.ownsRow base 3 1 (v 5) s.wr.length (ntVs (s.wr.map (·.1)))):=qh (h.parts.own.rowAt qo rfl rfl rfl rfl)
  obtain⟨A,cr,hv5⟩:=qKK HO.o
  rw[hv5] at c6
  obtain⟨q,hq⟩:∃ q,s.wr.length=q:=⟨_,rfl⟩
  have HQ:=qh hq
  have HV5:=qh hv5
  have HH:=qh h
  have HV2:=qh hv2
  have HV3:=qh hv3
  have hbl:=h.parts.head.lt
  have HOK:qH (VOk n { s with wr:=putW s.wr i x }):=qh (by
    have:=h.ok.put (a:=(i:Int)) hx
    rwa [qPT (qB1 hi hl)] at this)
  have HPW:=qh (qWB (v:=x) hk)
  have t0:decide ((i:Int)<0)=false:=qf
  have t1:decide ((n:Int)<=i)=false:=qf
  have t2:decide (n<=i)=false:=qf
  obtain⟨i0,hin,hz0,hz1,hz2⟩:=info_parts intInfo
  rw[hq] at c6 hlim
  clear h hr2 hr3 hv2 hv3 hk hl hv5 hq
  go_enter Tryz.func36,Tryz.ntmps36
  go_wp2_with (first
    | (at_builtin
       refine wpList_append_lies _ rfl _ _ 37 rfl base 3 i0 (.int .i64 0) 1 8 Tryz.underlying37 hin hz0 hz1 hz2 rfl (by decide) (.slice A q cr) q (ntVs (s.wr.map (·.1))) rfl ?c0 ⟨_,0,none⟩ 1 1 [.int .i64 (i:Int)] rfl rfl ?c1 ?c2 qo ?c3 ?c4 ?c5 _ rfl ?_
       case c0 =>
         have h9:=HO.o.alloc (.cells #[.int .i64 (i:Int)] 3)
         rw[HV5.o,HQ.o] at h9
         rw[<- HQ.o] at h9 ⊢
         exact h9
       case c1=>intro j y hy;rcases j with _|j;(· simp at hy;subst hy;simp[Addr.add]);(· simp at hy)
       case c2=>simp[Value.oneCell']
       case c3=>unfold maxLen;omega
       case c4=>omega
       case c5=>have:=HH.o.parts.bb;have:=HH.o.parts.head.lt;simp;omega
       intro g cap w4 hown4 hgrow4 hat4 hlt4
       obtain⟨hp4,hA4,hT4⟩:=(HH.o.parts.keep (Bnew (B0 w) (.cells #[.int .i64 (i:Int)] 3))).grow (i:=5) qo hown4 (by rw[HV5.o,HQ.o];exact hgrow4) (fun q' hq'=>by
         have hq':g=q':=by simpa [Value.ownBlock] using hq'
         subst hq'
         rcases hat4 with h1|h1
         · left;rw[HV5.o,HQ.o];exact h1
         · right;rw[h1];exact Nat.le_refl _)
       have e3:w4.cell? ⟨b,3,none⟩=some (.slice (some ⟨g2,0,none⟩) n p2):=(hp4.head.cell 3).trans (by rw[<- HV2.o];rfl)
       have e4:w4.cell? ⟨b,4,none⟩=some (.slice (some ⟨g3,0,none⟩) n p3):=(hp4.head.cell 4).trans (by rw[<- HV3.o];rfl)
       have e6:w4.cell? ⟨b,6,none⟩=some (.slice A q cr):=(hp4.head.cell 6).trans (by rw[<- HQ.o,<- HV5.o];rfl)
       have f6:=hp4.head.thawed 6
       obtain⟨d5,f5⟩:=hp4.at_ (i:=2) (g:=g2) (cap:=p2) qo HV2.o (show i<n from hi)
       obtain⟨d7,f7⟩:=hp4.at_ (i:=3) (g:=g3) (cap:=p3) qo HV3.o (show i<n from hi)
       have d5':w4.cell? ⟨g2,i,none⟩=some (.bool (pos s.wr i).isSome):=d5.trans (rX_2 n K s hi)
       have d7':w4.cell? ⟨g3,i,none⟩=some (.int .u32 ((toV s.wr i:Nat):Int)):=d7.trans (rX_3 n K s hi)
       have HP4:=qh hp4
       have HA4:=qh hA4
       have HT4:=qh (((T0 (OwnF b 6 v) w).alloc (.cells #[.int .i64 (i:Int)] 3)).trans hT4)
       clear hp4 hA4 hT4 hown4 hgrow4 hat4 d5 d7)
    | go_in)
  go_end0
  obtain⟨hp5,_⟩:=HP4.o.setHead 6 (.slice (some ⟨g,0,none⟩) (q+1) cap)
  obtain⟨hp6,_⟩:=hp5.store (i:=2) (g:=g2) (cap:=p2) qo HV2.o i (.bool true)
  obtain⟨hp7,_⟩:=hp6.store (i:=3) (g:=g3) (cap:=p3) qo HV3.o i (.int .u32 (x:Int))
  refine⟨rfl,updF v 5 (.slice (some ⟨g,0,none⟩) (q+1) cap),{ parts:=hp7.congr rfl (six rfl rfl rfl rfl rfl ?_) (six rfl rfl (qG5 n K s i x) (qRC n K s i x) rfl ?_),ok:=HOK.o,nmax:=hn,k32:=HH.o.k32 },fun z hz=>?_,
    ((HT4.o.put (p:=⟨b,6,none⟩) (.inl rfl) _).put (p:=⟨g2,i,none⟩) (.inr ⟨2,qo,by rw[HV2.o];rfl⟩) _).put (p:=⟨g3,i,none⟩) (.inr ⟨3,qo,by rw[HV3.o];rfl⟩) _⟩
  · show q+1=(putW s.wr i x).length
    rw[HPW.o,<- HQ.o]
    simp
  · show ntVs (s.wr.map (·.1)) ++ [.int .i64 (i:Int)]=ntVs ((putW s.wr i x).map (·.1))
    rw[HPW.o]
    simp[ntVs]
  · rcases HA4.o z hz with h1|h1
    · exact .inl h1
    · simp at h1
      exact .inr qo

theorem qIQ {base b n:Nat}{all:Bool}{v:Nat->Value}{K:Nat->Option Nat}{s:Vst}(a:Int)(x:Nat)(hx:x<2^32)(h1:s.wr.length<2^40)(w:World)(h:IsRefV w base b n all v K s) :
  Calls Tryz.prog 36 #[.pointer (some ⟨b,0,none⟩),.int .i64 a,.int .u32 (x:Int)] w fun e w'=>e = .returned (.tuple #[])/\LeftR w base b n all v K (putS n s a x) w':=by
 by_cases ho:opn n s a=true
 ·obtain⟨i,rfl,hi,hl⟩:=qAh ho
  rw[qPT ho]
  cases hp:pos s.wr i with
  | some k=>exact qGW i k x hl hp hi hx w h
  | none=>exact qIn i x hl hp hi hx h1 w h
 ·have ho:opn n s a=false:=by simpa using ho
  rw[qRG ho]
  refine(qFS a _ ho w h).mono ?_
  rintro e w1 ⟨rfl,rfl⟩
  exact⟨rfl,LeftR.same h⟩
end
section
structure Ob where
 I:World->Vst->(Nat->Prop)->Prop
 lt:∀ {w:World} {s:Vst} {A:Nat->Prop},I w s A->∀ i,A i->i<w.heap.size
 turns:∀ {w w':World} {s:Vst} {A G:Nat->Prop},I w s A->Turns G w w'->(∀ i,A i->¬ G i)->I w' s A

def vOb (base b n:Nat) (wh:Bool) (K:Nat->Option Nat):Ob where
 I w s A:=∃ o,IsView w base b n wh o K s/\A=o.A b
 lt:=by
  rintro w s A ⟨o,h,rfl⟩
  exact h.lt
 turns:=by
  rintro w w' s A G ⟨o,h,rfl⟩ ht hf
  exact⟨o,h.turns ht hf,rfl⟩
def rOb (base b n:Nat) (all:Bool) (K:Nat->Option Nat):Ob where
 I w s A:=∃ v,IsRefV w base b n all v K s/\A=OwnF b 6 v
 lt:=by
  rintro w s A ⟨v,h,rfl⟩
  exact h.parts.lt
 turns:=by
  rintro w w' s A G ⟨v,h,rfl⟩ ht hf
  exact⟨v,h.turns ht hf,rfl⟩

def Ob.Left (O:Ob) (w:World) (A:Nat->Prop) (s:Vst) (w':World):Prop:=∃ A',O.I w' s A'/\(∀ g,A' g->A g\/w.heap.size<=g)/\Turns A w w'
def Ob.At (O:Ob) (w0:World) (A G:Nat->Prop) (s:Vst) (w:World):Prop :=
 ∃ A',O.I w s A'/\(∀ g,A' g->A g\/w0.heap.size<=g)/\Turns A w0 w/\∀ g,G g->w0.heap.size<=g/\g<w.heap.size/\¬ A' g
def Stay (G:Nat->Prop) (w w':World):Prop:=w.heap.size<=w'.heap.size/\∀ g,G g->g<w.heap.size->w'.heap[g]?=w.heap[g]?
def And1 (G:Nat->Prop) (N:Nat):Nat->Prop:=fun g=>G g\/g=N
section
variable {O : Ob} {w w' w0 : World} {A G : Nat -> Prop} {s s' : Vst} {N : Nat}
theorem Ob.keep {A:Nat->Prop}(h:O.I w s A)(hb:Below w.heap.size w w'):O.I w' s A:=O.turns h (Turns.of_below hb (fun _=>False)) (fun _ _ x=>x)
theorem Ob.At.start (h:O.I w s A):O.At w A (fun _=>False) s w:=⟨A,h,fun g hg => .inl hg,T0 _ _,fun g hg=>hg.elim⟩
theorem Ob.At.left (h:O.At w0 A G s w):O.Left w0 A s w:=by
 obtain⟨A',h1,h2,h3,_⟩:=h
 exact⟨A',h1,h2,h3⟩
theorem Ob.At.keep (h:O.At w0 A G s w)(hb:Below w.heap.size w w'):O.At w0 A G s w':=by
 obtain⟨A',h1,h2,h3,h4⟩:=h
 exact⟨A',Ob.keep h1 hb,h2,h3.trans (Turns.of_below hb A),fun g hg=>⟨(h4 g hg).1,Nat.lt_of_lt_of_le (h4 g hg).2.1 hb.size,(h4 g hg).2.2⟩⟩
theorem Ob.At.alloc (h:O.At w0 A G s w)(o:Obj):O.At w0 A G s (w.alloc o):=h.keep (Bnew (B0 w) o)
theorem Ob.At.drew (h:O.At w0 A G s w):O.At w0 A G s w.drew:=h.keep (Bdrew (B0 w))
theorem Ob.At.box (h:O.At w0 A G s w)(o:Obj):O.At w0 A (And1 G w.heap.size) s (w.alloc o):=by
 obtain⟨A',h1,h2,h3,h4⟩:=h
 have hs:=h3.size
 refine⟨A',Ob.keep h1 (Bnew (B0 w) o),h2,h3.alloc o,?_⟩
 rintro g (hg|rfl)
 ·exact⟨(h4 g hg).1,Nat.lt_of_lt_of_le (h4 g hg).2.1 (Bnew (B0 w) o).size,(h4 g hg).2.2⟩
 ·exact⟨hs,by simp,fun x=>by have:=O.lt h1 _ x;omega⟩
theorem Ob.At.put (h:O.At w0 A G s w){p:Addr}(hp:G p.block)(u:Value):O.At w0 A G s (w.setCell p u):=by
 obtain⟨A',h1,h2,h3,h4⟩:=h
 have hq:=h4 _ hp
 refine⟨A',O.turns h1 ((T0 (fun i=>i=p.block) w).put (p:=p) rfl u) (fun i hi e=>hq.2.2 (by rw[<- e];exact hi)),h2,h3.put_new hq.1 u,fun g hg=>⟨(h4 g hg).1,by simp;exact(h4 g hg).2.1,(h4 g hg).2.2⟩⟩
theorem Ob.At.less {G':Nat->Prop}(h:O.At w0 A G s w)(hg:∀ g,G' g->G g):O.At w0 A G' s w:=by
 obtain⟨A',h1,h2,h3,h4⟩:=h
 exact⟨A',h1,h2,h3,fun g x=>h4 g (hg g x)⟩
theorem Ob.At.call (h:O.At w0 A G s w){P:Program}{f:FuncId}{args:Array Value}{R:Ending->Prop}(hc:∀ B,O.I w s B->Calls P f args w fun e w'=>R e/\O.Left w B s' w') :
  Calls P f args w fun e w'=>R e/\O.At w0 A G s' w'/\Stay G w w':=by
 obtain⟨A',h1,h2,h3,h4⟩:=h
 refine(hc A' h1).mono ?_
 rintro e w' ⟨hr,B,k1,k2,k3⟩
 have hs:=h3.size
 refine⟨hr,⟨B,k1,fun g hg=>?_,k3.more_new hs h3 h2,fun g hg=>?_⟩,k3.size,fun g hg hl=>k3.block g hl (h4 g hg).2.2⟩
 ·rcases k2 g hg with h5|h5
  ·exact h2 g h5
  ·exact .inr qo
 ·refine⟨(h4 g hg).1,Nat.lt_of_lt_of_le (h4 g hg).2.1 k3.size,fun x=>?_⟩
  rcases k2 g x with h5|h5
  ·exact(h4 g hg).2.2 h5
  ·have:=(h4 g hg).2.1;omega
theorem Stay.of_below (hb:Below w.heap.size w w')(G:Nat->Prop):Stay G w w':=⟨hb.size,fun g _ hl=>hb.block g hl⟩
theorem Stay.trans {w'':World}(h:Stay G w w')(k:Stay G w' w''):Stay G w w'':=⟨Nat.le_trans h.1 k.1,fun g hg hl=>(k.2 g hg (Nat.lt_of_lt_of_le hl h.1)).trans (h.2 g hg hl)⟩
theorem Stay.less {G':Nat->Prop}(h:Stay G w w')(hg:∀ g,G' g->G g):Stay G' w w':=⟨h.1,fun g x hl=>h.2 g (hg g x) hl⟩
theorem Stay.held {g:Nat}{t:TypeId}{cs:Array Value}(h:Stay G w w')(hg:G g)(hh:Held w g t cs):Held w' g t cs:=(h.2 g hg hh.lt).trans hh
end

theorem qNd:∀ (n:Nat) (l:List Nat),(∀ i∈l,i<n)->l.Nodup->l.length<=n
 | 0,l,h,_=>by
  cases l with
  | nil=>simp
  | cons a r=>have:=h a (List.mem_cons_self ..);omega
 | n+1,l,h,hd=>by
  by_cases hn:n∈l
  ·have h1:=qNd n (l.erase n) (fun i hi=>by
    have h2:=(hd.mem_erase_iff).1 hi
    have h3:=h i h2.2
    have h4:=h2.1
    omega) (hd.erase n)
   rw[List.length_erase_of_mem hn] at h1
   omega
  ·have h1:=qNd n l (fun i hi=>by
    have h3:=h i hi
    have h4:i≠n:=fun e=>hn (e ▸ hi)
    omega) hd
   omega
theorem VOk.few {n:Nat}{s:Vst}(h:VOk n s):s.rd.length<=n/\s.wr.length<=n:=by
 refine⟨qNd _ _ h.rdLt h.rdNd,?_⟩
 have:(s.wr.map (·.1)).length<=n:=by
  refine qNd _ _ (fun i hi=>?_) ?_
  ·obtain⟨p,hp,rfl⟩:=List.mem_map.1 hi
   exact(h.wrLt p hp).1
  ·unfold List.Nodup
   rw[List.pairwise_iff_getElem]
   intro i j hi hj hij e
   have hj':j<s.wr.length:=by simpa using hj
   have h1:=h.wrNd i qo
   have h2:=h.wrNd j hj'
   have e1:cellW s.wr i=cellW s.wr j:=by
    unfold cellW
    simp[List.getD,List.getElem?_eq_getElem (show i<s.wr.length by omega),List.getElem?_eq_getElem hj'] at e ⊢
    exact e
   rw[e1,h2] at h1
   injection h1 with h1
   omega
 simpa using this

section
variable {base b n : Nat} {wh all : Bool} {K : Nat -> Option Nat} {s : Vst} {w w0 : World} {A G : Nat -> Prop}
theorem vGetA (hn:n<2^40)(a:Int)(h:(vOb base b n wh K).At w0 A G s w) :
  Calls Tryz.prog 28 #[.pointer (some ⟨b,0,none⟩),.int .i64 a] w fun e w'=>e = .returned (.int .u32 ((getV n K s a:Nat):Int))/\(vOb base b n wh K).At w0 A G (getS n K s a) w'/\Stay G w w':=by
 refine h.call ?_
 rintro B ⟨o,hI,rfl⟩
 refine(qLn a (by have:=hI.ok.few;omega) (by have:=hI.ok.few;omega) w hI).mono ?_
 rintro e w' ⟨rfl,o',h1,h2,h3⟩
 exact⟨rfl,_,⟨o',h1,rfl⟩,h2,h3.more (fun i hi => .inl hi)⟩
theorem vPutA (hn:n<2^40)(a:Int)(v:Nat)(hv:v<2^32)(h:(vOb base b n wh K).At w0 A G s w) :
  Calls Tryz.prog 74 #[.pointer (some ⟨b,0,none⟩),.int .i64 a,.int .u32 (v:Int)] w fun e w'=>e = .returned (.tuple #[])/\(vOb base b n wh K).At w0 A G (putS n s a v) w'/\Stay G w w':=by
 refine h.call ?_
 rintro B ⟨o,hI,rfl⟩
 refine(qYd a v hv (by have:=hI.ok.few;omega) w hI).mono ?_
 rintro e w' ⟨rfl,o',h1,h2,h3⟩
 exact⟨rfl,_,⟨o',h1,rfl⟩,h2,h3.more (fun i hi => .inl hi)⟩
theorem rGetA (hn:n<2^40)(a:Int)(h:(rOb base b n all K).At w0 A G s w) :
  Calls Tryz.prog 35 #[.pointer (some ⟨b,0,none⟩),.int .i64 a] w fun e w'=>e = .returned (.int .u32 ((getV n K s a:Nat):Int))/\(rOb base b n all K).At w0 A G (getS n K s a) w'/\Stay G w w':=by
 refine h.call ?_
 rintro B ⟨v,hI,rfl⟩
 refine(qBd a (by have:=hI.ok.few;omega) w hI).mono ?_
 rintro e w' ⟨rfl,v',h1,h2,h3⟩
 exact⟨rfl,_,⟨v',h1,rfl⟩,h2,h3⟩
theorem rPutA (hn:n<2^40)(a:Int)(x:Nat)(hx:x<2^32)(h:(rOb base b n all K).At w0 A G s w) :
  Calls Tryz.prog 36 #[.pointer (some ⟨b,0,none⟩),.int .i64 a,.int .u32 (x:Int)] w fun e w'=>e = .returned (.tuple #[])/\(rOb base b n all K).At w0 A G (putS n s a x) w'/\Stay G w w':=by
 refine h.call ?_
 rintro B ⟨v,hI,rfl⟩
 refine(qIQ a x hx (by have:=hI.ok.few;omega) w hI).mono ?_
 rintro e w' ⟨rfl,v',h1,h2,h3⟩
 exact⟨rfl,_,⟨v',h1,rfl⟩,h2,h3⟩
end
end
end Go.Proofs.YtgifnhcknodekaaGreat
namespace Go.Proofs.YtgifnhcknodekaaGreat.HM

theorem bit_eq (x k:Nat):x / 2^k%2=(x.testBit k).toNat:=by
 rw[Nat.testBit_eq_decide_div_mod_eq]
 rcases Nat.mod_two_eq_zero_or_one (x / 2^k) with h|h <;> simp[h]

def getN (w a k:Nat):Nat:=w / 2^a%2^k
def putN (w a k v:Nat):Nat:=(w &&& (2^64-1-(2^k-1)*2^a)) ||| v*2^a

theorem mask_lt (a k:Nat)(h:a+k<=64):(2^k-1)*2^a<2^64:=by
 have h1:(2^k-1)*2^a<2^k*2^a:=(Nat.mul_lt_mul_right (Nat.two_pow_pos a)).2 (by have:=Nat.two_pow_pos k;omega)
 rw[<- Nat.pow_add] at h1
 exact Nat.lt_of_lt_of_le h1 (Nat.pow_le_pow_right qo qo)

theorem bit_putN (w a k v i:Nat)(h:a+k<=64)(hv:v<2^k)(hi:i<64):(putN w a k v).testBit i=if a<=i/\i<a+k then v.testBit (i-a) else w.testBit i:=by
 unfold putN
 rw[Nat.testBit_or,Nat.testBit_and,Nat.sub_sub,Nat.add_comm 1,Nat.testBit_two_pow_sub_succ (mask_lt a k h),Nat.testBit_mul_two_pow,Nat.testBit_mul_two_pow,Nat.testBit_two_pow_sub_one]
 by_cases h1:a<=i
 ·by_cases h2:i<a+k
  ·have h3:i-a<k:=qo
   simp[h1,h2,h3,hi]
  ·have h3:¬ i-a<k:=qo
   have h4:v.testBit (i-a)=false:=Nat.testBit_lt_two_pow (Nat.lt_of_lt_of_le hv (Nat.pow_le_pow_right qo qo))
   simp[h1,h2,h3,h4,hi]
 ·simp[h1,hi]

theorem putN_lt (w a k v:Nat)(h:a+k<=64)(hv:v<2^k):putN w a k v<2^64:=by
 have h1:v*2^a<2^64:=by
  have h2:v*2^a<2^k*2^a:=(Nat.mul_lt_mul_right (Nat.two_pow_pos a)).2 hv
  rw[<- Nat.pow_add] at h2
  exact Nat.lt_of_lt_of_le h2 (Nat.pow_le_pow_right qo qo)
 unfold putN
 refine Nat.or_lt_two_pow (Nat.lt_of_le_of_lt Nat.and_le_right ?_) h1
 have:=Nat.two_pow_pos 64
 omega

theorem bit_high {x i:Nat}(h:x<2^64)(hi:64<=i):x.testBit i=false :=
 Nat.testBit_lt_two_pow (Nat.lt_of_lt_of_le h (Nat.pow_le_pow_right qo hi))

def onesTo (v k:Nat):Nat:=((List.range k).filter fun i=>v.testBit i).length
def freeTo (v k:Nat):List Nat:=(List.range k).filter fun i => !v.testBit i
theorem onesTo_succ (v k:Nat):onesTo v (k+1)=onesTo v k+if v.testBit k then 1 else 0:=by
 unfold onesTo
 rw[List.range_succ,List.filter_append,List.length_append]
 cases h:v.testBit k <;> simp[h]
theorem onesTo_le (v k:Nat):onesTo v k<=k:=by
 unfold onesTo
 exact Nat.le_trans (List.length_filter_le _ _) (by simp)
theorem qEJ (v k:Nat):freeTo v (k+1)=freeTo v k++if v.testBit k then [] else [k]:=by
 unfold freeTo
 rw[List.range_succ,List.filter_append]
 cases h:v.testBit k <;> simp[h]
theorem ones_free (v k:Nat):onesTo v k+(freeTo v k).length=k:=by
 induction k with
 | zero=>rfl
 | succ k ih =>
  rw[onesTo_succ,qEJ,List.length_append]
  cases h:v.testBit k <;> simp <;> omega

def logI (n:Int):Int:=if n<1 then -1 else (Nat.log2 n.toNat:Int)
theorem logI_at (n:Int)(k:Nat)(h1:1<=n / 2^k)(h2:n / 2^(k+1)<1):logI n=k:=by
 have hp:(0:Int)<2^k:=Int.pow_pos qo
 have hn:1<=n:=by
  have h3:=(Int.le_ediv_iff_mul_le hp).1 h1
  omega
 obtain⟨m,rfl⟩:=Int.eq_ofNat_of_zero_le (show 0<=n by omega)
 unfold logI
 rw[if_neg qo,Int.toNat_natCast]
 have h4:2^k<=m:=by
  have h3:=(Int.le_ediv_iff_mul_le hp).1 h1
  rw[Int.one_mul] at h3
  exact_mod_cast h3
 have h5:m<2^(k+1):=by
  have h3:=(Int.ediv_lt_iff_lt_mul (Int.pow_pos qo)).1 h2
  rw[Int.one_mul] at h3
  exact_mod_cast h3
 have:m≠0:=by have:=Nat.two_pow_pos k;omega
 have e:Nat.log2 m=k:=by
  rw[Nat.log2_eq_iff this]
  exact⟨h4,h5⟩
 rw[e]
theorem logI_no (n:Int)(h:n<1):logI n = -1:=by unfold logI;rw[if_pos h]

end Go.Proofs.YtgifnhcknodekaaGreat.HM

namespace Go.Proofs.YtgifnhcknodekaaGreat
open Go.ChangeShapes Go.WideShapes Go.ChangeAt Go.RowKit
section
def fieldB (a k:Int):Bool:=decide (0<=a/\1<=k/\a<=64-k)
theorem qVM {a k:Int}(h0:0<=a)(h1:1<=k)(h2:a<=64-k):fieldB a k=true:=by unfold fieldB;simp[h0,h1,h2]
theorem qDV {a k:Int}(h:¬ (0<=a/\1<=k/\a<=64-k)):fieldB a k=false:=by unfold fieldB;exact decide_eq_false h
theorem qIz (a k:Int)(ha : -9223372036854775808<=a)(ha':a<=9223372036854775807)(hk : -9223372036854775808<=k)(hk':k<=9223372036854775807)(w:World) :
  Calls Tryz.prog 143 #[.int .i64 a,.int .i64 k] w fun e w'=>e = .returned (.bool (fieldB a k))/\w=w':=by
 by_cases h0:0<=a
 ·by_cases h1:1<=k
  ·by_cases h2:a<=64-k
   ·have H:=qh (qVM (a:=a) (k:=k) qo qo qo)
    exact M0u
   ·exact MV6
  ·exact MV6
 ·exact MV6
theorem qC2:∀ k:Fin 65,1<=k.val->IntKind.u64.wrap (IntKind.u64.wrap (2^k.val)-1)=((2^k.val-1:Nat):Int):=by decide +kernel
theorem qKr (k:Int)(h0:1<=k)(h1:k<=64)(w:World) :
  Calls Tryz.prog 144 #[.int .i64 k] w fun e w'=>e = .returned (.int .u64 ((2^k.toNat-1:Nat):Int))/\w=w':=by
 have H:=qh (qC2 ⟨k.toNat,qo⟩ qs)
 go_enter Tryz.func144,Tryz.ntmps144
 go_wp2
 go_ret
 exact⟨qYg H.o,rfl⟩
theorem qH5 (v k:Nat):((((v / 2^k%2:Nat):Int))==1)=v.testBit k:=by
 rw[HM.bit_eq]
 cases v.testBit k <;> rfl
theorem qA0 (v:Nat)(i:Int)(b:Bool)(hv:v<2^32)(h0:0<=i)(h1:i<32)(hb:v.testBit i.toNat=b)(w:World) :
  Calls Tryz.prog 92 #[.int .u32 (v:Int),.int .i64 i] w fun e w'=>e = .returned (.bool b)/\w=w':=by
 have H:=qh hb
 clear hb
 go_enter Tryz.func92,Tryz.ntmps92
 go_wp2
 go_ret
 exact⟨qM8 (by rw[qKV,qEn,qH5,H.o]),rfl⟩
theorem qTN (v:Nat)(hv:v<2^32)(w:World) :
  Calls Tryz.prog 105 #[.int .u32 (v:Int)] w fun e w'=>e = .returned (.int .i64 ((HM.onesTo v 32:Nat):Int))/\w=w':=by
 go_enter Tryz.func105,Tryz.ntmps105
 go_wp2
 go_loop [3,4] (fun s i=>∃ k:Nat,k<=32/\i = .int .i64 k/\s = .int .i64 ((HM.onesTo v k:Nat):Int)) (fun _ i=>32-(intOf i).toNat)
 case atStart=>exact⟨0,qo,rfl,rfl⟩
 case round =>
  obtain⟨k,hk,rfl,rfl⟩:=hrel
  have hle:=HM.onesTo_le v k
  by_cases hlt:k<32
  ·have HS:=qh (HM.onesTo_succ v k)
   cases hb:v.testBit k
   all_goals
    have HT:=qh ((congrArg v.testBit (Int.toNat_natCast k)).trans hb)
    have HB:=qh hb
    clear hb
    go_wp2_with (go_at_call 92;refine(qA0 v k _ hv qo qo HT.o _).mono ?_;rintro e w' ⟨rfl,rfl⟩)
    go_round
    case rel=>exact⟨k+1,qo,by go_num,by rw[HS.o,HB.o];go_num⟩
    case measure=>simp[intOf];omega
  ·obtain rfl:k=32:=qo
   go_wp2
   go_ret
   exact⟨rfl,rfl⟩
theorem qLV (n:Int)(h0 : -9223372036854775808<=n)(h1:n<=9223372036854775807)(w:World) :
  Calls Tryz.prog 130 #[.int .i64 n] w fun e w'=>e = .returned (.int .i64 (HM.logI n))/\w=w':=by
 go_enter Tryz.func130,Tryz.ntmps130
 go_wp2
 go_loop [3,5] (fun l i=>∃ k:Nat,k<=63/\i = .int .i64 k/\l = .int .i64 ((k:Int)-1)/\qH (0<k->1<=n / 2^(k-1))) (fun _ i=>63-(intOf i).toNat)
 case atStart=>exact⟨0,qo,rfl,rfl,qh (fun h=>absurd h qo)⟩
 case round =>
  obtain⟨k,hk,rfl,rfl,HF⟩:=hrel
  by_cases hlt:n / 2^k<1
  ·have HL:qH (HM.logI n=(k:Int)-1):=by
    by_cases hk0:k=0
    ·subst hk0
     exact qh (HM.logI_no n (by simpa using hlt))
    ·have hs:k-1+1=k:=qo
     refine qh ((HM.logI_at n (k-1) (HF.o qo) (by rw[hs];exact hlt)).trans qo)
   go_wp2
   go_ret
   exact⟨qYg HL.o.symm,rfl⟩
  ·have hk2:k<63:=by
    rcases Nat.lt_or_ge k 63 with h|h
    ·exact h
    ·obtain rfl:k=63:=qo
     exact absurd (show n / 2^63<1 from by omega) hlt
   have HN:=qh hlt
   go_wp2
   go_round
   case rel=>exact⟨k+1,qo,by go_num,by go_num,qh (fun _=>by have:=HN.o;simp only[Nat.add_sub_cancel];omega)⟩
   case measure=>simp[intOf];omega
theorem qWT (n:Int)(h0 : -9223372036854775808<=n)(h1:n<=9223372036854775807)(w:World) :
  Calls Tryz.prog 129 #[.int .i64 n] w fun e w'=>e = .returned (.int .i64 (HM.logI n))/\w=w':=by
 go_enter Tryz.func129,Tryz.ntmps129
 go_wp2
 go_loop [0,3] (fun m l=>∃ (q:Int) (k:Nat),k<=63/\m = .int .i64 q /\ -9223372036854775808<=q/\q<=9223372036854775807/\qH (q=n / 2^k)/\l = .int .i64 ((k:Int)-1)/\qH (0<k->1<=n / 2^(k-1))) (fun m _=>(intOf m).toNat)
 case atStart=>exact⟨n,0,qo,rfl,h0,h1,qh (by simp),rfl,qh (fun h=>absurd h qo)⟩
 case round =>
  obtain⟨q,k,hk,rfl,hq0,hq1,HQ,rfl,HF⟩:=hrel
  by_cases hlt:q<1
  ·have HL:qH (HM.logI n=(k:Int)-1):=by
    have hq:=HQ.o
    by_cases hk0:k=0
    ·subst hk0
     exact qh (HM.logI_no n (by rw[hq] at hlt;simpa using hlt))
    ·have hs:k-1+1=k:=qo
     refine qh ((HM.logI_at n (k-1) (HF.o qo) (by rw[hs,<- hq];exact hlt)).trans qo)
   go_wp2
   go_ret
   exact⟨qYg HL.o.symm,rfl⟩
  ·have hk2:k<63:=by
    rcases Nat.lt_or_ge k 63 with h|h
    ·exact h
    ·obtain rfl:k=63:=qo
     have hq:=HQ.o
     omega
   have HS:qH (q / 2=n / 2^(k+1)):=qh (by rw[HQ.o,Int.pow_succ,Int.ediv_ediv_of_nonneg (Int.le_of_lt (Int.pow_pos qo))])
   have hp:1<=q:=qo
   clear hlt
   go_wp2
   go_round
   case rel=>exact⟨q / 2,k+1,qo,rfl,qo,qo,HS,by go_num,qh (fun _=>by have:=HQ.o;simp only[Nat.add_sub_cancel];omega)⟩
   case measure=>simp[intOf];omega
theorem qL0 (h l:Nat)(hh:h<2^32)(hl:l<2^32):bits .or .u64 ((h:Int)*4294967296) (l:Int)=((h*4294967296+l:Nat):Int):=by
 have e:(h:Int)*4294967296=((h*4294967296:Nat):Int):=qo
 rw[e,u64_or_nat _ _ qo qo,nat_join 32 _ _ qo hl]
theorem qPo (h l:Nat)(hh:h<2^32)(hl:l<2^32)(w:World) :
  Calls Tryz.prog 122 #[.int .u32 (h:Int),.int .u32 (l:Int)] w fun e w'=>e = .returned (.int .u64 ((h*4294967296+l:Nat):Int))/\w=w':=by
 go_enter Tryz.func122,Tryz.ntmps122
 go_wp2
 go_ret
 exact⟨qYg (qL0 h l hh hl),rfl⟩
theorem Lo_c (x:Nat)(hx:x<2^64)(w:World) :
  Calls Tryz.prog 141 #[.int .u64 (x:Int)] w fun e w'=>e = .returned (.int .u32 ((x%4294967296:Nat):Int))/\w=w':=by
 go_enter Tryz.func141,Tryz.ntmps141
 go_wp2
 go_ret
 exact⟨qYg (by first|omega|(rw[Int.tmod_eq_emod_of_nonneg qo];omega)|(rw[IntKind.wrap_u32];omega)),rfl⟩
theorem qYb {a k:Int}(h:fieldB a k=true):∃ a' k':Nat,a=a'/\k=k'/\1<=k'/\a'+k'<=64:=by
 unfold fieldB at h
 have:=of_decide_eq_true h
 exact⟨a.toNat,k.toNat,qo,qo,qo,qo⟩
def getI (x:Nat) (a k:Int):Nat:=if fieldB a k then HM.getN x a.toNat k.toNat else 0
theorem qCB (y k:Nat)(hy:y<2^64)(hk:k<=64):bits .and .u64 (y:Int) ((2^k-1:Nat):Int)=((y%2^k:Nat):Int):=by
 have h2:2^k<=2^64:=Nat.pow_le_pow_right qo hk
 rw[u64_and_nat y _ hy qo,Nat.and_two_pow_sub_one_eq_mod]
theorem qUM (x:Nat)(a k:Int)(hx:x<2^64)(ha : -9223372036854775808<=a)(ha':a<=9223372036854775807)(hk : -9223372036854775808<=k)(hk':k<=9223372036854775807)(w:World) :
  Calls Tryz.prog 124 #[.int .u64 (x:Int),.int .i64 a,.int .i64 k] w fun e w'=>e = .returned (.int .u64 ((getI x a k:Nat):Int))/\∃ n,w'=w.drewN n:=by
 cases hf:fieldB a k
 ·have H:=qh hf
  clear hf
  go_enter Tryz.func124,Tryz.ntmps124
  go_wp2_with (go_at_call 143;refine(qIz a k ha ha' hk hk' _).mono ?_;rintro e w' ⟨rfl,rfl⟩;rw[H.o])
  go_ret
  exact⟨qYg (by unfold getI;rw[H.o];rfl),0,rfl⟩
 ·have H:=qh hf
  obtain⟨a',k',rfl,rfl,h1,h2⟩:=qYb hf
  clear hf
  go_enter Tryz.func124,Tryz.ntmps124
  go_wp2_with (go_at_call 143;refine(qIz a' k' ha ha' hk hk' _).mono ?_;rintro e w' ⟨rfl,rfl⟩;rw[H.o])
  go_quiet ((go_at_call 144;exact qIx (qKr k' qo qo _)))
  go_wp2
  go_ret
  exact⟨qYg (by rw[qKV,qCB _ _ (Nat.lt_of_le_of_lt (Nat.div_le_self _ _) hx) qo];unfold getI;rw[H.o,if_pos rfl,Int.toNat_natCast,Int.toNat_natCast];rfl),nq,rfl⟩
def putOk (a k:Int) (v:Nat):Bool:=fieldB a k&&decide (v<2^k.toNat)
def putI (x:Nat) (a k:Int) (v:Nat):Nat:=if putOk a k v then HM.putN x a.toNat k.toNat v else 0
theorem qRB (n:Nat)(h:n<2^64):IntKind.u64.wrap (n:Int)=(n:Int):=by
 exact MMY
theorem qU1 (x a k v:Nat)(hx:x<2^64)(h:a+k<=64)(hv:v<2^k) :
  bits .or .u64 (bits .andNot .u64 (x:Int) (IntKind.u64.wrap (((2^k-1:Nat):Int)*2^a))) (IntKind.u64.wrap ((v:Int)*2^a))=((HM.putN x a k v:Nat):Int):=by
 have h1:=HM.mask_lt a k h
 have h2:v*2^a<2^64:=Nat.lt_of_le_of_lt (Nat.mul_le_mul_right _ qo) h1
 have e1:((2^k-1:Nat):Int)*2^a=(((2^k-1)*2^a:Nat):Int):=by rw[Int.natCast_mul,Int.natCast_pow];rfl
 have e2:(v:Int)*2^a=((v*2^a:Nat):Int):=by rw[Int.natCast_mul,Int.natCast_pow];rfl
 rw[e1,e2,qRB _ h1,qRB _ h2,u64_andNot_nat _ _ hx h1,u64_or_nat _ _ (Nat.lt_of_le_of_lt Nat.and_le_left hx) h2]
 rfl
theorem qNM (x v:Nat)(a k:Int)(hx:x<2^64)(hv:v<2^64)(ha : -9223372036854775808<=a)(ha':a<=9223372036854775807)(hk : -9223372036854775808<=k)(hk':k<=9223372036854775807)(w:World) :
  Calls Tryz.prog 140 #[.int .u64 (x:Int),.int .i64 a,.int .i64 k,.int .u64 (v:Int)] w fun e w'=>e = .returned (.tuple #[.int .u64 ((putI x a k v:Nat):Int),.bool (putOk a k v)])/\∃ n,w'=w.drewN n:=by
 cases hf:fieldB a k
 ·have H:=qh hf
  clear hf
  go_enter Tryz.func140,Tryz.ntmps140
  go_wp2_with (go_at_call 143;refine(qIz a k ha ha' hk hk' _).mono ?_;rintro e w' ⟨rfl,rfl⟩;rw[H.o])
  go_ret2
  exact⟨by unfold putI putOk;rw[H.o];rfl,0,rfl⟩
 ·have H:=qh hf
  obtain⟨a',k',rfl,rfl,h1,h2⟩:=qYb hf
  clear hf
  by_cases hlt:v<2^k'
  ·have HO:qH (putOk a' k' v=true):=qh (by unfold putOk;rw[H.o,Int.toNat_natCast];simp[hlt])
   have HP:qH (putI x a' k' v=HM.putN x a' k' v):=qh (by unfold putI;rw[HO.o,if_pos rfl,Int.toNat_natCast,Int.toNat_natCast])
   have HB:=qh (qU1 x a' k' v hx h2 hlt)
   have hng:¬ (((2^k'-1:Nat):Int)<(v:Int)):=qo
   go_enter Tryz.func140,Tryz.ntmps140
   go_wp2_with (first|(go_at_call 143;refine(qIz a' k' ha ha' hk hk' _).mono ?_;rintro e w' ⟨rfl,rfl⟩;rw[H.o])|(go_at_call 144;refine(qKr k' qo qo _).mono ?_;rintro e w' ⟨rfl,rfl⟩;rw[Int.toNat_natCast]))
   go_quiet ((go_at_call 144;exact qIx (qKr k' qo qo _)))
   go_wp2
   go_ret2
   exact⟨by rw[HO.o,HP.o,<- HB.o];rfl,nq,rfl⟩
  ·have HO:qH (putOk a' k' v=false):=qh (by unfold putOk;rw[H.o,Int.toNat_natCast];simp[hlt])
   have HP:qH (putI x a' k' v=0):=qh (by unfold putI;rw[HO.o];rfl)
   have hg:(((2^k'-1:Nat):Int)<(v:Int)):=by have:=Nat.two_pow_pos k';omega
   go_enter Tryz.func140,Tryz.ntmps140
   go_wp2_with (first|(go_at_call 143;refine(qIz a' k' ha ha' hk hk' _).mono ?_;rintro e w' ⟨rfl,rfl⟩;rw[H.o])|(go_at_call 144;refine(qKr k' qo qo _).mono ?_;rintro e w' ⟨rfl,rfl⟩;rw[Int.toNat_natCast]))
   go_ret2
   exact⟨by rw[HO.o,HP.o];rfl,0,rfl⟩
end
section
def outB (v l m:Int):Bool:=decide (v<l\/m<v)
theorem qFX {v l m:Int}(h:v<l):outB v l m=true:=by unfold outB;simp[h]
theorem qDL {v l m:Int}(h:m<v):outB v l m=true:=by unfold outB;simp[h]
theorem qMA {v l m:Int}(h:l<=v)(h':v<=m):outB v l m=false:=by unfold outB;exact qf
def rightB (t p s:Int):Bool := !(outB t 1 16)&&(!(outB p 4 1024) && !(outB s 10 20))
theorem qQB (t p s:Int):rightB t p s=true↔(1<=t/\t<=16)/\(4<=p/\p<=1024)/\10<=s/\s<=20:=by
 unfold rightB outB
 simp only[Bool.and_eq_true,Bool.not_eq_true',decide_eq_false_iff_not]
 omega

theorem qTb (a v l m:Int)(w:World) :
  Calls Tryz.prog 157 #[.agg #[.int .i64 a,.int .i64 v,.int .i64 l,.int .i64 m]] w fun e w'=>e = .returned (.bool (outB v l m))/\Below w.heap.size w w':=by
 by_cases h0:v<l
 ·have H:=qh (qFX (m:=m) h0)
  exact Ms9
 ·by_cases h1:m<v
  ·have H:=qh (qDL (l:=l) h1)
   exact Ms9
  ·have H:=qh (qMA (v:=v) (l:=l) (m:=m) qo qo)
   exact Ms9

def numV (t p s:Int):Array Value:=#[.int .i64 0,.int .i64 t,.int .i64 1,.int .i64 16,.int .i64 16,.int .i64 p,.int .i64 4,.int .i64 1024,.int .i64 32,.int .i64 s,.int .i64 10,.int .i64 20]
theorem qOU (t p s:Int)(w:World) :
  Calls Tryz.prog 156 #[.agg #[.int .i64 t,.int .i64 p,.int .i64 s]] w fun e w'=>e = .returned (.agg #[.int .i64 0,.int .i64 t,.int .i64 1,.int .i64 16,.int .i64 16,.int .i64 p,.int .i64 4,.int .i64 1024,.int .i64 32,.int .i64 s,.int .i64 10,.int .i64 20])/\Below w.heap.size w w':=by
 go_enter Tryz.func156,Tryz.ntmps156
 go_wp2
 exact bodyPost_ret (v := .agg #[.int .i64 0,.int .i64 t,.int .i64 1,.int .i64 16,.int .i64 16,.int .i64 p,.int .i64 4,.int .i64 1024,.int .i64 32,.int .i64 s,.int .i64 10,.int .i64 20]) (by simp[results,Tryz.results156,go_sem]) rfl ⟨rfl,Bnew (Bnew (B0 _) _) _⟩

theorem qID {t p s:Int}{g:Nat}{T:TypeId}{w:World}(h:Held w g T (numV t p s)):w.cell? ⟨g,0,none⟩=some (.int .i64 0)/\w.cell? ⟨g,1,none⟩=some (.int .i64 t)/\w.cell? ⟨g,2,none⟩=some (.int .i64 1)/\w.cell? ⟨g,3,none⟩=some (.int .i64 16)/\w.cell? ⟨g,4,none⟩=some (.int .i64 16)/\w.cell? ⟨g,5,none⟩=some (.int .i64 p)/\w.cell? ⟨g,6,none⟩=some (.int .i64 4)/\w.cell? ⟨g,7,none⟩=some (.int .i64 1024)/\w.cell? ⟨g,8,none⟩=some (.int .i64 32)/\w.cell? ⟨g,9,none⟩=some (.int .i64 s)/\w.cell? ⟨g,10,none⟩=some (.int .i64 10)/\w.cell? ⟨g,11,none⟩=some (.int .i64 20) :=
 ⟨h.cell 0,h.cell 1,h.cell 2,h.cell 3,h.cell 4,h.cell 5,h.cell 6,h.cell 7,h.cell 8,h.cell 9,h.cell 10,h.cell 11⟩
def idxI (t p s:Int):Int:=if outB t 1 16 then 0 else if outB p 4 1024 then 1 else if outB s 10 20 then 2 else -1
theorem qXH (t p s:Int)(g:Nat)(w:World)(hc:Held w g 169 (numV t p s)) :
  Calls Tryz.prog 159 #[.slice (some ⟨g,0,none⟩) 3 3,.func (.func 157) #[] #[]] w fun e w'=>e = .returned (.int .i64 (idxI t p s))/\Below w.heap.size w w':=by
 obtain⟨c0,c1,c2,c3,c4,c5,c6,c7,c8,c9,c10,c11⟩:=qID hc
 cases h0:outB t 1 16
 ·cases h1:outB p 4 1024
  ·cases h2:outB s 10 20
   ·have HX0:=qh h0
    have HX1:=qh h1
    have HX2:=qh h2
    have HI:qH (idxI t p s = -1):=qh (by unfold idxI;simp[h0,h1,h2])
    clear h0 h1 h2
    go_enter Tryz.func159,Tryz.ntmps159
    go_wp2
    refine wp_loop_rounds 4 ?_
    rw[rounds_succ]
    go_wp2_with fail
    refine Rjo ?_;clear c0 c1 c2 c3 c4 c5 c6 c7 c8 c9 c10 c11;intro w1 hb0 hc1 d0 d1 d2 d3 d4 d5 d6 d7 d8 d9 d10 d11
    go_wp2_with fail
    rw[rounds_succ]
    go_wp2_with fail
    refine(qTb 16 p 4 1024 _).mono ?_
    rintro e w2 ⟨rfl,hb1⟩
    rw[HX1.o]
    have hc2:=hc1.keep hb1
    clear d0 d1 d2 d3 d4 d5 d6 d7 d8 d9 d10 d11
    obtain⟨d0,d1,d2,d3,d4,d5,d6,d7,d8,d9,d10,d11⟩:=qID hc2
    go_wp2_with fail
    rw[rounds_succ]
    go_wp2_with fail
    refine(qTb 32 s 10 20 _).mono ?_
    rintro e w3 ⟨rfl,hb2⟩
    rw[HX2.o]
    have hc3:=hc2.keep hb2
    clear d0 d1 d2 d3 d4 d5 d6 d7 d8 d9 d10 d11
    obtain⟨d0,d1,d2,d3,d4,d5,d6,d7,d8,d9,d10,d11⟩:=qID hc3
    go_wp2_with fail
    rw[rounds_succ]
    go_wp2
    go_ret
    exact⟨by rw[HI.o];rfl,Bgo (Bgo (Bgo (B0 _) hb0) hb1) hb2⟩
   ·have HX0:=qh h0
    have HX1:=qh h1
    have HX2:=qh h2
    have HI:qH (idxI t p s=2):=qh (by unfold idxI;simp[h0,h1,h2])
    clear h0 h1 h2
    go_enter Tryz.func159,Tryz.ntmps159
    go_wp2
    refine wp_loop_rounds 3 ?_
    rw[rounds_succ]
    go_wp2_with fail
    refine Rjo ?_;clear c0 c1 c2 c3 c4 c5 c6 c7 c8 c9 c10 c11;intro w1 hb0 hc1 d0 d1 d2 d3 d4 d5 d6 d7 d8 d9 d10 d11
    go_wp2_with fail
    rw[rounds_succ]
    go_wp2_with fail
    refine(qTb 16 p 4 1024 _).mono ?_
    rintro e w2 ⟨rfl,hb1⟩
    rw[HX1.o]
    have hc2:=hc1.keep hb1
    clear d0 d1 d2 d3 d4 d5 d6 d7 d8 d9 d10 d11
    obtain⟨d0,d1,d2,d3,d4,d5,d6,d7,d8,d9,d10,d11⟩:=qID hc2
    go_wp2_with fail
    rw[rounds_succ]
    go_wp2_with fail
    refine(qTb 32 s 10 20 _).mono ?_
    rintro e w3 ⟨rfl,hb2⟩
    rw[HX2.o]
    have hc3:=hc2.keep hb2
    clear d0 d1 d2 d3 d4 d5 d6 d7 d8 d9 d10 d11
    obtain⟨d0,d1,d2,d3,d4,d5,d6,d7,d8,d9,d10,d11⟩:=qID hc3
    go_wp2
    go_ret
    exact⟨by rw[HI.o];rfl,Bgo (Bgo (Bgo (B0 _) hb0) hb1) hb2⟩
  ·have HX0:=qh h0
   have HX1:=qh h1
   have HI:qH (idxI t p s=1):=qh (by unfold idxI;simp[h0,h1])
   clear h0 h1
   go_enter Tryz.func159,Tryz.ntmps159
   go_wp2
   refine wp_loop_rounds 2 ?_
   rw[rounds_succ]
   go_wp2_with fail
   refine Rjo ?_;clear c0 c1 c2 c3 c4 c5 c6 c7 c8 c9 c10 c11;intro w1 hb0 hc1 d0 d1 d2 d3 d4 d5 d6 d7 d8 d9 d10 d11
   go_wp2_with fail
   rw[rounds_succ]
   go_wp2_with fail
   refine(qTb 16 p 4 1024 _).mono ?_
   rintro e w2 ⟨rfl,hb1⟩
   rw[HX1.o]
   have hc2:=hc1.keep hb1
   clear d0 d1 d2 d3 d4 d5 d6 d7 d8 d9 d10 d11
   obtain⟨d0,d1,d2,d3,d4,d5,d6,d7,d8,d9,d10,d11⟩:=qID hc2
   go_wp2
   go_ret
   exact⟨by rw[HI.o];rfl,Bgo (Bgo (B0 _) hb0) hb1⟩
 ·have HX0:=qh h0
  have HI:qH (idxI t p s=0):=qh (by unfold idxI;simp[h0])
  clear h0
  go_enter Tryz.func159,Tryz.ntmps159
  go_wp2
  refine wp_loop_rounds 1 ?_
  rw[rounds_succ]
  go_wp2_with fail
  refine Rjo ?_;clear c0 c1 c2 c3 c4 c5 c6 c7 c8 c9 c10 c11;intro w1 hb0 hc1 d0 d1 d2 d3 d4 d5 d6 d7 d8 d9 d10 d11
  go_wp2
  go_ret
  exact⟨by rw[HI.o];rfl,Bgo (B0 _) hb0⟩

theorem qP6 {t p s:Int}(h:rightB t p s=true):idxI t p s = -1:=by
 exact MRH
theorem qYr {t p s:Int}(h:rightB t p s=false):∃ k:Int,idxI t p s=k/\0<=k/\k<=2:=by
 exact MRH

theorem qDe (t p s:Int)(g:Nat)(w:World)(hc:Held w g 169 (numV t p s)) :
  Calls Tryz.prog 158 #[.slice (some ⟨g,0,none⟩) 3 3,.func (.func 157) #[] #[]] w fun e w'=>e = .returned (.bool (!rightB t p s))/\Below w.heap.size w w':=by
 cases hr:rightB t p s
 ·obtain⟨k,hk,h0,h2⟩:=qYr hr
  have HK:=qh hk
  clear hk
  exact M4N
 ·have HK:=qh (qP6 hr)
  exact M4N

def checkI (t p s:Int):Int:=if rightB t p s then 0 else 1
theorem qU9 {t p s:Int}(h:rightB t p s=true):checkI t p s=0:=by unfold checkI;rw[h];rfl
theorem qFe {t p s:Int}(h:rightB t p s=false):checkI t p s=1:=by unfold checkI;rw[h];rfl
theorem qI2 (t p s:Int)(w:World) :
  Calls Tryz.prog 152 #[.agg #[.int .i64 t,.int .i64 p,.int .i64 s]] w fun e w'=>e = .returned (.int .i64 (checkI t p s))/\Below w.heap.size w w':=by
 cases hr:rightB t p s
 ·have HK:=qh (qFe hr)
  exact MVv
 ·have HK:=qh (qU9 hr)
  exact MVv
end
section
theorem qV7 {t p s:Int}(h:(1<=t/\t<=16)/\(4<=p/\p<=1024)/\10<=s/\s<=20):rightB t p s=true:=(qQB t p s).2 h
theorem qS8 {t p s:Int}(h:¬ ((1<=t/\t<=16)/\(4<=p/\p<=1024)/\10<=s/\s<=20)):rightB t p s=false:=by
 cases hr:rightB t p s
 ·rfl
 ·exact absurd ((qQB t p s).1 hr) h

theorem qDP (t p s:Int)(w:World) :
  Calls Tryz.prog 55 #[.agg #[.int .i64 t,.int .i64 p,.int .i64 s]] w fun e w'=>e = .returned (.bool (rightB t p s))/\Below w.heap.size w w':=by
 by_cases a1:1<=t
 ·by_cases a2:t<=16
  ·by_cases a3:4<=p
   ·by_cases a4:p<=1024
    ·by_cases a5:10<=s
     ·by_cases a6:s<=20
      ·have H:=qh (qV7 (t:=t) (p:=p) (s:=s) qo)
       exact MoO
      ·exact Mpd
     ·exact Mpd
    ·exact Mpd
   ·exact Mpd
  ·exact Mpd
 ·exact Mpd

def pageN (t p s:Int):Nat:=if rightB t p s then 2^s.toNat else 0
def bytesN (t p s:Int):Nat:=if rightB t p s then p.toNat*2^s.toNat else 0
theorem qXq {t p s:Int}(h:rightB t p s=true):pageN t p s=2^s.toNat:=by unfold pageN;rw[if_pos h]
theorem qAf {t p s:Int}(h:rightB t p s=false):pageN t p s=0:=by unfold pageN;rw[h];rfl
theorem qDH {t p s:Int}(h:rightB t p s=true):bytesN t p s=p.toNat*2^s.toNat:=by unfold bytesN;rw[if_pos h]
theorem qXM {t p s:Int}(h:rightB t p s=false):bytesN t p s=0:=by unfold bytesN;rw[h];rfl
theorem qDn (k:Nat)(h:k<=20):1<=2^k/\2^k<=1048576:=⟨Nat.one_le_two_pow,by have:=Nat.pow_le_pow_right (show 0<2 by omega) h;omega⟩
theorem qSE (k:Nat):2^(k+1)=2^k*2:=Nat.pow_succ 2 k

theorem qYE (t p s:Int)(w:World) :
  Calls Tryz.prog 147 #[.agg #[.int .i64 t,.int .i64 p,.int .i64 s]] w fun e w'=>e = .returned (.int .i64 ((pageN t p s:Nat):Int))/\Below w.heap.size w w':=by
 cases hr:rightB t p s
 ·have HP:=qh (qAf hr)
  have HR:=qh hr
  clear hr
  go_enter Tryz.func147,Tryz.ntmps147
  go_wp2_with fail
  refine(qDP t p s _).mono ?_
  rintro e w1 ⟨rfl,hb1⟩
  rw[HR.o]
  go_wp2
  go_ret
  exact⟨by rw[HP.o];rfl,Bgo (Bnew (B0 _) _) hb1⟩
 ·have HP:=qh (qXq hr)
  have HR:=qh hr
  obtain⟨_,_,hs,hs'⟩:=(qQB t p s).1 hr
  clear hr
  go_enter Tryz.func147,Tryz.ntmps147
  go_wp2_with fail
  have hc:=Held.new w 23 #[.int .i64 t,.int .i64 p,.int .i64 s]
  refine(qDP t p s _).mono ?_
  rintro e w1 ⟨rfl,hb1⟩
  rw[HR.o]
  obtain⟨c0,c1,c2⟩:=(hc.keep hb1).three
  go_wp2
  go_loop [3,4] (fun n i=>∃ k:Nat,(k:Int)<=s/\i = .int .i64 k/\n = .int .i64 ((2^k:Nat):Int)) (fun _ i=>64-(intOf i).toNat)
  case atStart=>exact⟨0,qo,rfl,rfl⟩
  case round =>
   obtain⟨k,hk,rfl,rfl⟩:=hrel
   obtain⟨b1,b2⟩:=qDn k qo
   by_cases hlt:(k:Int)<s
   ·have HS:=qh (qSE k)
    obtain⟨m,hm⟩:∃ m,m=2^k:=⟨_,rfl⟩
    rw[<- hm] at b1 b2 HS
    rw[<- hm]
    have HM:=qh hm
    clear hm
    go_wp2
    go_round
    case rel=>exact⟨k+1,qo,by go_num,by rw[HS.o];go_num⟩
    case measure=>simp[intOf];omega
   ·obtain rfl:s=k:=qo
    go_wp2
    go_ret
    exact⟨by rw[HP.o];rfl,Bgo (Bnew (B0 _) _) hb1⟩
end
section
def lT (t p s:Int):Int:=if rightB t p s then t else 0
def lP (t p s:Int):Int:=if rightB t p s then p else 0
def lS (t p s:Int):Int:=if rightB t p s then s else 0
def lA (t p s:Int):Int:=if rightB t p s then 30+4*t else 0
def lC (t p s:Int):Int:=if rightB t p s then 30+4*t+6*p else 0
def lM (t p s:Int):Int:=if rightB t p s then (16+(30+4*t+6*p)+7) / 8*8 else 0
def lK (t p s:Int):Int:=if rightB t p s then t+1 else 0
structure qWg (t p s T P S A C M K:Int):Prop where
 hT:lT t p s=T
 hP:lP t p s=P
 hS:lS t p s=S
 hA:lA t p s=A
 hC:lC t p s=C
 hM:lM t p s=M
 hK:lK t p s=K
theorem qVu {t p s:Int}(h:rightB t p s=true):qWg t p s t p s (30+4*t) (30+4*t+6*p) ((16+(30+4*t+6*p)+7) / 8*8) (t+1):=by
 constructor <;> simp[lT,lP,lS,lA,lC,lM,lK,h]
theorem qJj {t p s:Int}(h:rightB t p s=false):qWg t p s 0 0 0 0 0 0 0:=by
 constructor <;> simp[lT,lP,lS,lA,lC,lM,lK,h]
theorem qXs (t p s:Int):(0<=lT t p s/\lT t p s<=16)/\(0<=lP t p s/\lP t p s<=1024)/\(0<=lA t p s/\lA t p s<=94)/\(0<=lC t p s/\lC t p s<=6238)/\(0<=lM t p s/\lM t p s<=6256)/\(0<=lK t p s/\lK t p s<=17)/\lM t p s%8=0:=by
 cases hr:rightB t p s
 ·obtain⟨h1,h2,h3,h4,h5,h6,h7⟩:=qJj hr
  omega
 ·obtain⟨h1,h2,h3,h4,h5,h6,h7⟩:=qVu hr
  have:=(qQB t p s).1 hr
  omega
def nthI (f n e i:Int):Int:=if f = -1\/i<0\/n<=i then -1 else f+i*e
theorem qJo {f n e i:Int}(h:f = -1\/i<0\/n<=i):nthI f n e i = -1:=by unfold nthI;rw[if_pos h]
theorem qLq {f n e i:Int}(h:¬ f = -1)(h0:0<=i)(h1:i<n):nthI f n e i=f+i*e:=by unfold nthI;rw[if_neg qo]
theorem qOD {f n e i B:Int}(hf : -1<=f)(hB:f<=B)(he:0<=e)(hn:0<=n) : -1<=nthI f n e i/\nthI f n e i<=B+n*e:=by
 have h2:=Int.mul_nonneg hn he
 by_cases h:f = -1\/i<0\/n<=i
 ·rw[qJo h];omega
 ·rw[qLq qo qo qo]
  have h1:=Int.mul_nonneg (show 0<=i by omega) he
  have h3:=Int.mul_le_mul_of_nonneg_right (show i<=n by omega) he
  omega

def pageI (t p s q b:Int):Int:=nthI (nthI (lA t p s) (lP t p s) 6 q) 6 1 b
def makerI (t p s m b:Int):Int:=nthI (nthI (lM t p s) (lK t p s) 120 m) 120 1 b
def logI (t p s m i:Int):Int:=nthI (makerI t p s m 24) 96 1 i

theorem qQL {t p s q b:Int}(h:¬ (rightB t p s=true/\0<=q/\q<p)):pageI t p s q b = -1:=by
 have h1:nthI (lA t p s) (lP t p s) 6 q = -1:=by
  apply qJo
  cases hr:rightB t p s
  ·have:=qJj hr;have:=this.hP;omega
  ·have:=(qVu hr).hP;rw[hr] at h;simp at h;omega
 unfold pageI
 exact qJo (.inl h1)
theorem qMg {t p s q b:Int}(hr:rightB t p s=true)(h0:0<=q)(h1:q<p)(h2:0<=b)(h3:b<6):pageI t p s q b=30+4*t+6*q+b:=by
 obtain⟨e1,e2,e3,e4,e5,e6,e7⟩:=qVu hr
 have:=(qQB t p s).1 hr
 unfold pageI
 rw[qLq (f:=lA t p s) qo h0 qo,qLq qo h2 h3,e4]
 omega
section
variable {t p s w : Int}
end
end
open Go.Maps
section
def pgB (P p:Int):Bool:=decide (0<=p)&&decide (p<P)
theorem qHC (P p:Int):pgB P p=true↔0<=p/\p<P:=by unfold pgB;simp
theorem qKG {P p:Int}(h:pgB P p=false):¬ (0<=p/\p<P):=by
 intro x
 rw[(qHC P p).2 x] at h
 cases h

section
variable (n : Nat) (K : Nat -> Option Nat) (t q s hd : Int)
def qBQ (k:Nat) (st:Vst):Vst:=putS n (putS n (getS n K st hd) (pageI t q s (k:Int) 2) (getV n K st hd)) (pageI t q s (k:Int) 3) 0
def qXk (k:Nat) (st:Vst):Vst:=if getV n K st hd=0 then qBQ n K t q s hd k st else putS n (qBQ n K t q s hd k st) (pageI t q s ((getV n K st hd:Nat)-1:Int) 3) (k+1)
def pushS (k:Nat) (st:Vst):Vst:=putS n (qXk n K t q s hd k st) hd (k+1)
def pushI (p:Int) (st:Vst):Vst:=if pgB q p then pushS n K t q s hd p.toNat st else st

def pullN (k:Nat) (st:Vst):Nat:=getV n K st (pageI t q s (k:Int) 2)
def pullB (k:Nat) (st:Vst):Nat:=getV n K (getS n K st (pageI t q s (k:Int) 2)) (pageI t q s (k:Int) 3)
def qQi (k:Nat) (st:Vst):Vst:=getS n K (getS n K st (pageI t q s (k:Int) 2)) (pageI t q s (k:Int) 3)
def qRp (k:Nat) (st:Vst):Vst:=if pullB n K t q s k st=0 then putS n (qQi n K t q s k st) hd (pullN n K t q s k st) else putS n (qQi n K t q s k st) (pageI t q s ((pullB n K t q s k st:Nat)-1:Int) 2) (pullN n K t q s k st)
def qEX (k:Nat) (st:Vst):Vst:=if pullN n K t q s k st=0 then qRp n K t q s hd k st else putS n (qRp n K t q s hd k st) (pageI t q s ((pullN n K t q s k st:Nat)-1:Int) 3) (pullB n K t q s k st)
def pullS (k:Nat) (st:Vst):Vst:=putS n (putS n (qEX n K t q s hd k st) (pageI t q s (k:Int) 2) 0) (pageI t q s (k:Int) 3) 0
def pullI (p:Int) (st:Vst):Vst:=if pgB q p then pullS n K t q s hd p.toNat st else st

end
section
variable {n : Nat} {K : Nat -> Option Nat} {t q s hd : Int} {m l0 l : Nat} {st0 st : Vst} {out : List Nat}
theorem qK2 {k:Nat}{st:Vst}(h:pgB q (k:Int)=true):pushI n K t q s hd (k:Int) st=pushS n K t q s hd k st/\pullI n K t q s hd (k:Int) st=pullS n K t q s hd k st:=by
 unfold pushI pullI
 rw[if_pos h,if_pos h]
 exact⟨rfl,rfl⟩
theorem qEh {p:Int}{st:Vst}(h:pgB q p=false):pushI n K t q s hd p st=st/\pullI n K t q s hd p st=st:=by
 unfold pushI pullI
 rw[if_neg (by simp[h]),if_neg (by simp[h])]
 exact⟨rfl,rfl⟩
theorem qBk {a:Int}(hk:VOk n st)(h32:∀ i x,K i=some x->x<2^32):getV n K st a<2^32:=by
 by_cases ho:opn n st a=true
 ·obtain⟨i,rfl,hi,hl⟩:=qAh ho
  cases hp:pos st.wr i with
  | some k =>
   rw[qWv ho hp]
   have h1:=(qG9 hp).1
   have h2:(st.wr[k]'h1)∈st.wr:=List.getElem_mem h1
   have h3:=(hk.wrLt _ h2).2
   unfold atW
   simp only[List.getD,List.getElem?_eq_getElem h1,Option.getD_some]
   exact h3
  | none =>
   cases hK:K i with
   | some v=>rw[qGE ho hp hK];exact h32 i v hK
   | none=>rw[qUa ho hp hK];omega
 ·rw[qDi (by simpa using ho)];omega
end

section
variable {base b n : Nat} {wh all : Bool} {K : Nat -> Option Nat} {st s' : Vst} {w ws w0 w' : World} {A G : Nat -> Prop} {N : Nat} {T : TypeId} {cs : Array Value} {O : Ob}
theorem qHJ (h:(vOb base b n wh K).At w0 A G st w)(a:Int):getV n K st a<2^32:=by
 obtain⟨B,⟨o,h1,_⟩,_⟩:=h
 exact qBk h1.ok h1.k32
theorem qBB (h:(rOb base b n all K).At w0 A G st w)(a:Int):getV n K st a<2^32:=by
 obtain⟨B,⟨o,h1,_⟩,_⟩:=h
 exact qBk h1.ok h1.k32
structure WK (O:Ob) (w0:World) (A G:Nat->Prop) (ws:World) (N:Nat) (T:TypeId) (cs:Array Value) (st:Vst) (w:World):Prop where
 at_:O.At w0 A (And1 G N) st w
 held:Held w N T cs
 stay:Stay G ws w
theorem WK.one (h:O.At w0 A G st ws)(T:TypeId)(cs:Array Value):WK O w0 A G ws ws.heap.size T cs st (ws.alloc (.cells cs T)):=⟨h.box _,Held.new _ _ _,Stay.of_below (Bnew (B0 _) _) G⟩
theorem WK.two (h:O.At w0 A G st ws)(o:Obj)(T:TypeId)(cs:Array Value):WK O w0 A G ws (ws.heap.size+1) T cs st ((ws.alloc o).alloc (.cells cs T)) :=
 ⟨by have:=(h.alloc o).box (.cells cs T);simpa using this,Held.new2 _ _ _ _,Stay.of_below (Bnew (Bnew (B0 _) _) _) G⟩
theorem WK.keep (h:WK O w0 A G ws N T cs st w)(hb:Below w.heap.size w w'):WK O w0 A G ws N T cs st w':=⟨h.at_.keep hb,h.held.keep hb,h.stay.trans (Stay.of_below hb G)⟩
theorem WK.drew (h:WK O w0 A G ws N T cs st w):WK O w0 A G ws N T cs st w.drew:=h.keep (Bdrew (B0 w))
theorem WK.call (h:WK O w0 A G ws N T cs st w)(h1:O.At w0 A (And1 G N) s' w')(h2:Stay (And1 G N) w w'):WK O w0 A G ws N T cs s' w' :=
 ⟨h1,h2.held (.inr rfl) h.held,h.stay.trans (h2.less fun g x => .inl x)⟩
theorem WK.fin (h:WK O w0 A G ws N T cs st w):O.At w0 A G st w/\Stay G ws w:=⟨h.at_.less fun g x => .inl x,h.stay⟩
end
end
section
structure Blk where
 n:Nat
 t:TypeId
 cs:Array Value
def GB (G:Nat->Prop) (L:List Blk):Nat->Prop:=fun g=>G g\/∃ x,x∈L/\x.n=g

structure WL (O:Ob) (w0:World) (A G:Nat->Prop) (ws:World) (L:List Blk) (st:Vst) (w:World):Prop where
 at_:O.At w0 A (GB G L) st w
 held:∀ x∈L,Held w x.n x.t x.cs
 stay:Stay G ws w
 lo:∀ x∈L,ws.heap.size<=x.n
 nd:(L.map (·.n)).Nodup

section
variable {O : Ob} {w0 ws w w' : World} {A G : Nat -> Prop} {L : List Blk} {x y z : Blk} {st s' : Vst}
theorem WL.start (h:O.At w0 A G st ws):WL O w0 A G ws [] st ws :=
 ⟨h.less (fun g hg=>by
  rcases hg with hg|⟨x,hx,_⟩
  ·exact hg
  ·exact absurd hx (List.not_mem_nil)),fun x hx=>absurd hx (List.not_mem_nil),Stay.of_below (B0 _) G,fun x hx=>absurd hx (List.not_mem_nil),List.nodup_nil⟩
theorem WL.keep (h:WL O w0 A G ws L st w)(hb:Below w.heap.size w w'):WL O w0 A G ws L st w' :=
 ⟨h.at_.keep hb,fun x hx=>(h.held x hx).keep hb,h.stay.trans (Stay.of_below hb G),h.lo,h.nd⟩
theorem WL.drew (h:WL O w0 A G ws L st w):WL O w0 A G ws L st w.drew:=h.keep (Bdrew (B0 w))
theorem WL.alloc (h:WL O w0 A G ws L st w)(o:Obj):WL O w0 A G ws L st (w.alloc o):=h.keep (Bnew (B0 w) o)
theorem WL.call (h:WL O w0 A G ws L st w)(h1:O.At w0 A (GB G L) s' w')(h2:Stay (GB G L) w w'):WL O w0 A G ws L s' w' :=
 ⟨h1,fun x hx=>h2.held (.inr ⟨x,hx,rfl⟩) (h.held x hx),h.stay.trans (h2.less fun g x => .inl x),h.lo,h.nd⟩
theorem WL.fin (h:WL O w0 A G ws L st w):O.At w0 A G st w/\Stay G ws w:=⟨h.at_.less fun g x => .inl x,h.stay⟩
theorem WL.new (h:WL O w0 A G ws L st w)(t:TypeId)(cs:Array Value):WL O w0 A G ws (⟨w.heap.size,t,cs⟩ :: L) st (w.alloc (.cells cs t)):=by
 have hk:=h.alloc (.cells cs t)
 refine⟨(h.at_.box (.cells cs t)).less (fun g hg=>?_),fun x hx=>?_,hk.stay,fun x hx=>?_,?_⟩
 ·rcases hg with hg|⟨x,hx,rfl⟩
  ·exact .inl (.inl hg)
  ·rcases List.mem_cons.1 hx with rfl|hx
   ·exact .inr rfl
   ·exact .inl (.inr ⟨x,hx,rfl⟩)
 ·rcases List.mem_cons.1 hx with rfl|hx
  ·exact Held.new w t cs
  ·exact hk.held x hx
 ·rcases List.mem_cons.1 hx with rfl|hx
  ·exact h.stay.1
  ·exact h.lo x hx
 ·rw[List.map_cons]
  refine List.nodup_cons.2 ⟨fun hm=>?_,h.nd⟩
  obtain⟨x,hx,e⟩:=List.mem_map.1 hm
  have h1:=(h.held x hx).lt
  have e:x.n=w.heap.size:=e
  omega
theorem WL.put (h:WL O w0 A G ws (x :: L) st w)(i:Nat)(v:Value):WL O w0 A G ws (⟨x.n,x.t,x.cs.setIfInBounds i v⟩ :: L) st (w.setCell ⟨x.n,i,none⟩ v):=by
 have hnd:=List.nodup_cons.1 h.nd
 have hlo:=h.lo x (List.mem_cons_self ..)
 refine⟨(h.at_.put (p:=⟨x.n,i,none⟩) (.inr ⟨x,List.mem_cons_self ..,rfl⟩) v).less (fun g hg=>?_),fun y hy=>?_,⟨by simp;exact h.stay.1,fun g hg hl=>(Below.heap_setCell w ⟨x.n,i,none⟩ v g (fun e=>by have e:g=x.n:=e;omega)).trans (h.stay.2 g hg hl)⟩,fun y hy=>?_,h.nd⟩
 ·rcases hg with hg|⟨y,hy,rfl⟩
  ·exact .inl hg
  ·rcases List.mem_cons.1 hy with rfl|hy
   ·exact .inr ⟨x,List.mem_cons_self ..,rfl⟩
   ·exact .inr ⟨y,List.mem_cons_of_mem _ hy,rfl⟩
 ·rcases List.mem_cons.1 hy with rfl|hy
  ·exact(h.held x (List.mem_cons_self ..)).put i v
  ·refine(h.held y (List.mem_cons_of_mem _ hy)).far (p:=⟨x.n,i,none⟩) (fun e=>hnd.1 ?_) v
   have e:y.n=x.n:=e
   exact List.mem_map.2 ⟨y,hy,e⟩
 ·rcases List.mem_cons.1 hy with rfl|hy
  ·exact hlo
  ·exact h.lo y (List.mem_cons_of_mem _ hy)
theorem WL.swap (h:WL O w0 A G ws (x :: y :: L) st w):WL O w0 A G ws (y :: x :: L) st w:=by
 refine⟨h.at_.less (fun g hg=>?_),fun z hz=>h.held z (by simp at hz ⊢;rcases hz with e|e|e <;> simp[e]),h.stay,fun z hz=>h.lo z (by simp at hz ⊢;rcases hz with e|e|e <;> simp[e]),?_⟩
 ·rcases hg with hg|⟨z,hz,e⟩
  ·exact .inl hg
  ·exact .inr ⟨z,by simp at hz ⊢;rcases hz with e|e|e <;> simp[e],e⟩
 ·have:=h.nd
  simp only[List.map_cons,List.nodup_cons,List.mem_cons,not_or] at this ⊢
  exact⟨⟨fun e=>this.1.1 e.symm,this.2.1⟩,this.1.2,this.2.2⟩
theorem WL.h0 (h:WL O w0 A G ws (x :: L) st w):Held w x.n x.t x.cs:=h.held x (List.mem_cons_self ..)
theorem WL.h1 (h:WL O w0 A G ws (x :: y :: L) st w):Held w y.n y.t y.cs:=h.held y (List.mem_cons_of_mem _ (List.mem_cons_self ..))
theorem WL.h2 (h:WL O w0 A G ws (x :: y :: z :: L) st w):Held w z.n z.t z.cs:=h.held z (List.mem_cons_of_mem _ (List.mem_cons_of_mem _ (List.mem_cons_self ..)))
theorem qJe {base b n:Nat}{wh:Bool}{K:Nat->Option Nat}(h:WL (vOb base b n wh K) w0 A G ws L st w)(a:Int):getV n K st a<2^32:=qHJ h.at_ a
theorem qXU {base b n:Nat}{all:Bool}{K:Nat->Option Nat}(h:WL (rOb base b n all K) w0 A G ws L st w)(a:Int):getV n K st a<2^32:=qBB h.at_ a
end
end
section
def infoP (k l c:Int):Prop:=(k=0/\l=0/\c=0)\/((k=1\/k=2)/\1<=l/\l<=1024/\c=0)\/(k=3/\l=1/\0<=c/\c<=8)
instance (k l c:Int):Decidable (infoP k l c):=by unfold infoP;infer_instance
def infoB (k l c:Int):Bool:=decide (infoP k l c)
theorem qLf {k l c:Int}(h:infoB k l c=true):infoP k l c:=of_decide_eq_true h
def infoV (k l c:Int):Nat:=if infoB k l c then k.toNat+16*l.toNat+65536*c.toNat else 0
theorem qXn {k l c:Int}(h:infoB k l c=true):infoV k l c=k.toNat+16*l.toNat+65536*c.toNat:=by unfold infoV;rw[if_pos h]
theorem qEg {k l c:Int}(h:infoB k l c=false):infoV k l c=0:=by unfold infoV;rw[h];rfl

theorem qWH (k l c:Int)(w:World) :
  Calls Tryz.prog 139 #[.agg #[.int .i64 k,.int .i64 l,.int .i64 c]] w fun e w'=>e = .returned (.bool (infoB k l c))/\Below w.heap.size w w':=by
 have hC:∃ b,infoB k l c=b:=⟨_,rfl⟩
 obtain⟨b,hb⟩:=hC
 rw[hb]
 have hcase:(k=3/\l≠1/\b=false)\/(k=3/\l=1/\c<0/\b=false)\/(k=3/\l=1/\0<=c/\9<=c/\b=false)\/(k=3/\l=1/\0<=c/\c<9/\b=true) \/
   ((k=1\/k=2)/\l<1/\b=false)\/((k=1\/k=2)/\1<=l/\1024<l/\b=false)\/((k=1\/k=2)/\1<=l/\l<=1024/\c≠0/\b=false)\/((k=1\/k=2)/\1<=l/\l<=1024/\c=0/\b=true) \/
   (k=0/\l≠0/\b=false)\/(k=0/\l=0/\c≠0/\b=false)\/(k=0/\l=0/\c=0/\b=true)\/(k≠0/\k≠1/\k≠2/\k≠3/\b=false):=by
  cases b
  ·exact MFq
  ·exact Mx3
 clear hb
 rcases hcase with ⟨rfl,h1,rfl⟩|⟨rfl,rfl,h1,rfl⟩|⟨rfl,rfl,h1,h2,rfl⟩|⟨rfl,rfl,h1,h2,rfl⟩|⟨rfl|rfl,h1,rfl⟩|⟨rfl|rfl,h1,h2,rfl⟩|⟨rfl|rfl,h1,h2,h3,rfl⟩|⟨rfl|rfl,h1,h2,rfl,rfl⟩|⟨rfl,h1,rfl⟩|⟨rfl,rfl,h1,rfl⟩|⟨rfl,rfl,rfl,rfl⟩|⟨h0,h1,h2,h3,rfl⟩
 all_goals
  go_enter Tryz.func139,Tryz.ntmps139
  go_wp2
  go_ret
  refine⟨by first|rfl|(refine qM8 ?_;simp;done)|(refine qM8 ?_;simp;omega),?_⟩
  repeat (first|exact B0 _|(with_reducible refine Bdrew ?_)|(with_reducible refine Bdraw ?_ _)|(with_reducible refine Bnew ?_ _)|(refine Bput ?_ (Nat.le_refl _) _))
theorem qOQ (k l c:Int)(w:World) :
  Calls Tryz.prog 121 #[.agg #[.int .i64 k,.int .i64 l,.int .i64 c]] w fun e w'=>e = .returned (.bool (infoB k l c))/\Below w.heap.size w w':=by
 have hC:∃ b,infoB k l c=b:=⟨_,rfl⟩
 obtain⟨b,hb⟩:=hC
 rw[hb]
 have hcase:(k=3/\l≠1/\b=false)\/(k=3/\l=1/\c<0/\b=false)\/(k=3/\l=1/\0<=c/\8<c/\b=false)\/(k=3/\l=1/\0<=c/\c<=8/\b=true) \/
   ((k=1\/k=2)/\l<1/\b=false)\/((k=1\/k=2)/\1<=l/\1024<l/\b=false)\/((k=1\/k=2)/\1<=l/\l<=1024/\c≠0/\b=false)\/((k=1\/k=2)/\1<=l/\l<=1024/\c=0/\b=true) \/
   (k=0/\l≠0/\b=false)\/(k=0/\l=0/\c≠0/\b=false)\/(k=0/\l=0/\c=0/\b=true)\/(k≠0/\k≠1/\k≠2/\k≠3/\b=false):=by
  cases b
  ·exact MFq
  ·exact Mx3
 clear hb
 rcases hcase with ⟨rfl,h1,rfl⟩|⟨rfl,rfl,h1,rfl⟩|⟨rfl,rfl,h1,h2,rfl⟩|⟨rfl,rfl,h1,h2,rfl⟩|⟨rfl|rfl,h1,rfl⟩|⟨rfl|rfl,h1,h2,rfl⟩|⟨rfl|rfl,h1,h2,h3,rfl⟩|⟨rfl|rfl,h1,h2,rfl,rfl⟩|⟨rfl,h1,rfl⟩|⟨rfl,rfl,h1,rfl⟩|⟨rfl,rfl,rfl,rfl⟩|⟨h0,h1,h2,h3,rfl⟩
 all_goals
  go_enter Tryz.func121,Tryz.ntmps121
  go_wp2
  go_ret
  refine⟨by first|rfl|(refine qM8 ?_;simp;done)|(refine qM8 ?_;simp;omega),?_⟩
  repeat (first|exact B0 _|(with_reducible refine Bdrew ?_)|(with_reducible refine Bdraw ?_ _)|(with_reducible refine Bnew ?_ _)|(refine Bput ?_ (Nat.le_refl _) _))
end
end Go.Proofs.YtgifnhcknodekaaGreat
