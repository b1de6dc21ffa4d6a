/-
  The document's answer for Views: blank, Whole, Known. Written by view/gen_ref2.py.
-/
import Derived.Test.YtjjfcaliippgpaaGreatDoorV02
import Derived.Deep.RegionHeld3
import Derived.Test.YtjjfcaliippgpaaGreatDoorV01
import Derived.Below
namespace Go.Proofs.YtjjfcaliippgpaaGreatDoor
theorem Rbo {P Q:Prop}(kq:Q)(h:HQ Q->P:=by
 intro kq
 refine tkz 0 ?_
 refine tkz 1 ?_
 refine tkz 2 ?_
 refine tkz 3 ?_
 refine tkz 4 ?_
 exact kq.o):P:=h ⟨kq⟩
theorem RPe {P Q:Prop}(kq:Q)(h:HQ Q->P:=by
 intro kq
 refine tkz 5 ?_
 refine tkz 6 ?_
 refine tkz 7 ?_
 refine tkz 8 ?_
 exact kq.o):P:=h ⟨kq⟩
theorem MMm {P:Prop}(h:P:=by
 go_enter Tryz.func43,Tryz.ntmps43
 go_wp2
 (try simp only[Exit.inBlock,Exit.then])
 refine bodyPost_ret (results_none rfl _ _ _) rfl ?_
 exact⟨rfl,rfl⟩):P:=h
theorem MuU {P:Prop}(h:P:=by
 unfold opn at ho
 cases hh:s.lost with
 | true=>rfl
 | false =>
  rw[hh,decide_eq_true (p:=0<=a/\a<n) ⟨h1,h2⟩] at ho
  cases ho):P:=h
theorem MuT {P:Prop}(h:P:=by
 go_enter Tryz.func41,Tryz.ntmps41
 go_wp2
 go_ret
 exact⟨rfl,rfl⟩):P:=h
end Go.Proofs.YtjjfcaliippgpaaGreatDoor
set_option linter.unusedVariables false
set_option linter.unusedSimpArgs false
set_option maxRecDepth 100000
set_option maxHeartbeats 25600000
namespace Go.Proofs.YtjjfcaliippgpaaGreatDoor
open Go.ChangeShapes Go.WideShapes Go.ChangeAt Go.RowKit Go.Maps
section
def bN (k i:Nat):Nat:=if i<4 then k else 0
def bX (k i:Nat):List Value:=if i=0 then rowL k (bitF fun _=>false) else if i=1 then rowL k (valF fun _=>0) else if i=2 then rowL k (bitF fun _=>false) else if i=3 then rowL k (valF fun _=>0) else []
theorem qZt (n:Nat):∀ i,i<6->bN n i=rN n freshS i:=six rfl rfl rfl rfl rfl rfl
theorem qVJ (n:Nat):∀ i,i<6->bX n i=rX n (fun _=>none) freshS i:=six rfl rfl rfl rfl rfl rfl
def bN1 (k i:Nat):Nat:=updF (updF (updF (updF (bN k) 0 (k+1)) 1 (k+1)) 2 (k+1)) 3 (k+1) i
def bX1 (k i:Nat):List Value:=updF (updF (updF (updF (bX k) 0 (bX k 0 ++ [.bool false])) 1 (bX k 1 ++ [.int .u32 0])) 2 (bX k 2 ++ [.bool false])) 3 (bX k 3 ++ [.int .u32 0]) i
theorem qD9 (k:Nat):∀ i,i<6->bN1 k i=bN (k+1) i:=six rfl rfl rfl rfl rfl rfl
theorem qNj (k:Nat):∀ i,i<6->bX1 k i=bX (k+1) i:=six (qMB _ _).symm (qMB _ _).symm (qMB _ _).symm (qMB _ _).symm rfl rfl
theorem qIK:(Tryz.prog.info? 4).map (fun i=>(i.zero,i.size,i.bytes))=some (some (.bool false),1,1):=by kernel_rfl

theorem qON (n:Nat)(hn:n<=2^40)(w:World) :
    Calls Tryz.prog 36 #[.int .i64 (n:Int)] w fun e w'=>∃ (b:Nat) (v:Nat->Value),e = .returned (.pointer (some ⟨b,0,none⟩))/\IsRefV w' w.heap.size b n false v (fun _=>none) freshS/\Below w.heap.size w w':=by
  obtain⟨i0,hi0,hi1,hi2,hi3⟩:=info_parts qIK
  obtain⟨j0,hj0,hj1,hj2,hj3⟩:=info_parts valInfo
  have HP0:qH (RParts (w.alloc (.cells #[.int .i64 (n:Int),.slice none 0 0,.slice none 0 0,.slice none 0 0,.slice none 0 0,.slice none 0 0,.slice none 0 0,.int .i64 (-1),.bool false] 80)) w.heap.size w.heap.size (fun _ => .slice none 0 0) (rHead n (fun _ => .slice none 0 0) freshS false) (bN 0) (bX 0)) :=
    qh ⟨Held.new _ _ _,(OwnAll.nil _ _ _ _ _ _).congr (six rfl rfl rfl rfl rfl rfl) (six rfl rfl rfl rfl rfl rfl),Nat.le_refl _⟩
  have HB0:qH (Below w.heap.size w (w.alloc (.cells #[.int .i64 (n:Int),.slice none 0 0,.slice none 0 0,.slice none 0 0,.slice none 0 0,.slice none 0 0,.slice none 0 0,.int .i64 (-1),.bool false] 80))):=qh (Bnew (B0 _) _)
  go_enter Tryz.func36,Tryz.ntmps36
  go_wp2_with fail
  go_loopw [4] (fun i wr=>∃ (k:Nat) (v:Nat->Value),k<=n/\i = .int .i64 k/\qH (RParts wr w.heap.size w.heap.size v (rHead n v freshS false) (bN k) (bX k))/\qH (Below w.heap.size w wr)) (fun i _=>n-(intOf i).toNat)
  case atStart=>exact⟨0,_,qo,rfl,HP0,HB0⟩
  case round =>
    clear HP0 HB0
    obtain⟨k,v,hk,rfl,HP,HB⟩:=hrel
    by_cases hlt:k<n
    · have hbl:=HP.o.head.lt
      have c1:wr.cell? ⟨w.heap.size,1,none⟩=some (v 0):=HP.o.head.cell 1
      have O0:qH (wr.ownsRow w.heap.size 4 1 (v 0) k (bX k 0)):=qh (HP.o.own.own 0 qo)
      go_wp2_with (first
        | (at_builtin
           refine wpList_append_lies _ rfl _ _ 78 rfl w.heap.size 4 i0 (.bool false) 1 1 Tryz.underlying78 hi0 hi1 hi2 hi3 rfl (by decide) (v 0) k (bX k 0) rfl (O0.o.alloc _) ⟨_,0,none⟩ 1 1 [.bool false] rfl rfl ?c1 ?c2 qo ?c3 ?c4 ?c5 _ rfl ?_
           case c1=>intro j y hy;have h9:=World.news_of_block (heap_alloc_new wr (.cells #[.bool false] 4)) j y (by simpa using hy);simpa using h9
           case c2=>simp[Value.oneCell']
           case c3=>unfold maxLen;omega
           case c4=>omega
           case c5=>have:=HB.o.size;simp at this ⊢;omega
           intro g1 cap1 w1 hown hgrow hat hlt'
           obtain⟨hp,_,hT⟩:=(HP.o.keep (Bnew (B0 _) (.cells #[.bool false] 4))).grow (i:=0) qo hown hgrow (fun q hq=>by
             have hq:g1=q:=by simpa [Value.ownBlock] using hq
             subst hq
             rcases hat with h1|h1
             · exact .inl h1
             · right;rw[h1];exact Nat.le_refl _)
           have d0:w1.cell? ⟨w.heap.size,1,none⟩=some (v 0):=hp.head.cell 1
           have e0:w1.cell? ⟨w.heap.size,2,none⟩=some (v 1):=hp.head.cell 2
           have f0:=hp.head.thawed 1
           have hl0:=hp.head.lt
           have P1:=qh (hp.setHead 1 (.slice (some ⟨g1,0,none⟩) (k+1) cap1)).1
           have B1:=qh (Bput (hT.below (Bgo HB.o (Bnew (B0 _) (.cells #[.bool false] 4))) (fun q hq=>HP.o.ge q hq)) (p:=⟨w.heap.size,1,none⟩) (Nat.le_refl _) (.slice (some ⟨g1,0,none⟩) (k+1) cap1))
           have O1:qH ((w1.setCell ⟨w.heap.size,1,none⟩ (.slice (some ⟨g1,0,none⟩) (k+1) cap1)).ownsRow w.heap.size 76 1 (v 1) k (bX k 1)):=qh (P1.o.own.own 1 qo)
           clear hp hT hown hgrow hat hlt')
        | (at_builtin
           refine wpList_append_lies _ rfl _ _ 24 rfl w.heap.size 76 j0 (.int .u32 0) 1 4 Tryz.underlying24 hj0 hj1 hj2 hj3 rfl (by decide) (v 1) k (bX k 1) rfl (O1.o.alloc _) ⟨_,0,none⟩ 1 1 [.int .u32 0] rfl rfl ?c1 ?c2 qo ?c3 ?c4 ?c5 _ rfl ?_
           case c1=>intro j y hy;have h9:=World.news_of_block (heap_alloc_new (w1.setCell ⟨w.heap.size,1,none⟩ (.slice (some ⟨g1,0,none⟩) (k+1) cap1)) (.cells #[.int .u32 0] 76)) j y (by simpa using hy);simpa using h9
           case c2=>simp[Value.oneCell']
           case c3=>unfold maxLen;omega
           case c4=>omega
           case c5=>have:=B1.o.size;simp at this ⊢;omega
           intro g2 cap2 w2 hown hgrow hat hlt'
           obtain⟨hp,_,hT⟩:=(P1.o.keep (Bnew (B0 _) (.cells #[.int .u32 0] 76))).grow (i:=1) qo hown hgrow (fun q hq=>by
             have hq:g2=q:=by simpa [Value.ownBlock] using hq
             subst hq
             rcases hat with h1|h1
             · exact .inl h1
             · right;rw[h1];exact Nat.le_refl _)
           have d1:w2.cell? ⟨w.heap.size,2,none⟩=some (v 1):=hp.head.cell 2
           have e1:w2.cell? ⟨w.heap.size,3,none⟩=some (v 2):=hp.head.cell 3
           have f1:=hp.head.thawed 2
           have hl1:=hp.head.lt
           have P2:=qh (hp.setHead 2 (.slice (some ⟨g2,0,none⟩) (k+1) cap2)).1
           have B2:=qh (Bput (hT.below (Bgo B1.o (Bnew (B0 _) (.cells #[.int .u32 0] 76))) (fun q hq=>P1.o.ge q hq)) (p:=⟨w.heap.size,2,none⟩) (Nat.le_refl _) (.slice (some ⟨g2,0,none⟩) (k+1) cap2))
           have O2:qH ((w2.setCell ⟨w.heap.size,2,none⟩ (.slice (some ⟨g2,0,none⟩) (k+1) cap2)).ownsRow w.heap.size 4 1 (v 2) k (bX k 2)):=qh (P2.o.own.own 2 qo)
           clear hp hT hown hgrow hat hlt')
        | (at_builtin
           refine wpList_append_lies _ rfl _ _ 78 rfl w.heap.size 4 i0 (.bool false) 1 1 Tryz.underlying78 hi0 hi1 hi2 hi3 rfl (by decide) (v 2) k (bX k 2) rfl (O2.o.alloc _) ⟨_,0,none⟩ 1 1 [.bool false] rfl rfl ?c1 ?c2 qo ?c3 ?c4 ?c5 _ rfl ?_
           case c1=>intro j y hy;have h9:=World.news_of_block (heap_alloc_new (w2.setCell ⟨w.heap.size,2,none⟩ (.slice (some ⟨g2,0,none⟩) (k+1) cap2)) (.cells #[.bool false] 4)) j y (by simpa using hy);simpa using h9
           case c2=>simp[Value.oneCell']
           case c3=>unfold maxLen;omega
           case c4=>omega
           case c5=>have:=B2.o.size;simp at this ⊢;omega
           intro g3 cap3 w3 hown hgrow hat hlt'
           obtain⟨hp,_,hT⟩:=(P2.o.keep (Bnew (B0 _) (.cells #[.bool false] 4))).grow (i:=2) qo hown hgrow (fun q hq=>by
             have hq:g3=q:=by simpa [Value.ownBlock] using hq
             subst hq
             rcases hat with h1|h1
             · exact .inl h1
             · right;rw[h1];exact Nat.le_refl _)
           have d2:w3.cell? ⟨w.heap.size,3,none⟩=some (v 2):=hp.head.cell 3
           have e2:w3.cell? ⟨w.heap.size,4,none⟩=some (v 3):=hp.head.cell 4
           have f2:=hp.head.thawed 3
           have hl2:=hp.head.lt
           have P3:=qh (hp.setHead 3 (.slice (some ⟨g3,0,none⟩) (k+1) cap3)).1
           have B3:=qh (Bput (hT.below (Bgo B2.o (Bnew (B0 _) (.cells #[.bool false] 4))) (fun q hq=>P2.o.ge q hq)) (p:=⟨w.heap.size,3,none⟩) (Nat.le_refl _) (.slice (some ⟨g3,0,none⟩) (k+1) cap3))
           have O3:qH ((w3.setCell ⟨w.heap.size,3,none⟩ (.slice (some ⟨g3,0,none⟩) (k+1) cap3)).ownsRow w.heap.size 76 1 (v 3) k (bX k 3)):=qh (P3.o.own.own 3 qo)
           clear hp hT hown hgrow hat hlt')
        | (at_builtin
           refine wpList_append_lies _ rfl _ _ 24 rfl w.heap.size 76 j0 (.int .u32 0) 1 4 Tryz.underlying24 hj0 hj1 hj2 hj3 rfl (by decide) (v 3) k (bX k 3) rfl (O3.o.alloc _) ⟨_,0,none⟩ 1 1 [.int .u32 0] rfl rfl ?c1 ?c2 qo ?c3 ?c4 ?c5 _ rfl ?_
           case c1=>intro j y hy;have h9:=World.news_of_block (heap_alloc_new (w3.setCell ⟨w.heap.size,3,none⟩ (.slice (some ⟨g3,0,none⟩) (k+1) cap3)) (.cells #[.int .u32 0] 76)) j y (by simpa using hy);simpa using h9
           case c2=>simp[Value.oneCell']
           case c3=>unfold maxLen;omega
           case c4=>omega
           case c5=>have:=B3.o.size;simp at this ⊢;omega
           intro g4 cap4 w4 hown hgrow hat hlt'
           obtain⟨hp,_,hT⟩:=(P3.o.keep (Bnew (B0 _) (.cells #[.int .u32 0] 76))).grow (i:=3) qo hown hgrow (fun q hq=>by
             have hq:g4=q:=by simpa [Value.ownBlock] using hq
             subst hq
             rcases hat with h1|h1
             · exact .inl h1
             · right;rw[h1];exact Nat.le_refl _)
           have d3:w4.cell? ⟨w.heap.size,4,none⟩=some (v 3):=hp.head.cell 4
           have e3:w4.cell? ⟨w.heap.size,5,none⟩=some (v 4):=hp.head.cell 5
           have f3:=hp.head.thawed 4
           have hl3:=hp.head.lt
           have P4:=qh (hp.setHead 4 (.slice (some ⟨g4,0,none⟩) (k+1) cap4)).1
           have B4:=qh (Bput (hT.below (Bgo B3.o (Bnew (B0 _) (.cells #[.int .u32 0] 76))) (fun q hq=>P3.o.ge q hq)) (p:=⟨w.heap.size,4,none⟩) (Nat.le_refl _) (.slice (some ⟨g4,0,none⟩) (k+1) cap4))
           have O4:qH ((w4.setCell ⟨w.heap.size,4,none⟩ (.slice (some ⟨g4,0,none⟩) (k+1) cap4)).ownsRow w.heap.size 3 1 (v 4) 0 []):=qh (P4.o.own.own 4 qo)
           clear hp hT hown hgrow hat hlt')
        | fail)
      go_roundw
      case rel=>exact⟨k+1,_,qo,by go_num,qh (P4.o.congr rfl (qD9 k) (qNj k)),B4⟩
      case measure=>simp[intOf];omega
    · obtain rfl:k=n:=qo
      go_wp2
      go_ret
      exact⟨w.heap.size,v,rfl,{ parts:=HP.o.congr rfl (qZt k) (qVJ k),ok:=VOk.fresh k,nmax:=hn,k32:=fun i x h=>by cases h },HB.o⟩


def firstK (vals:List Nat) (k:Nat):Nat->Option Nat:=fun i=>if i<k then vals[i]? else none
theorem qGh {vals:List Nat}{k:Nat}(h:k<vals.length):firstK vals (k+1)=updF (firstK vals k) k (some (vals.getD k 0)):=by
 funext i
 unfold firstK updF
 by_cases e:i=k
 ·subst e
  simp[List.getD,List.getElem?_eq_getElem h]
 ·have:(i<k+1)↔(i<k):=qo
  simp only[this,if_neg e]
theorem qHF (vals:List Nat):firstK vals vals.length=fun i=>vals[i]?:=by
 funext i
 unfold firstK
 split
 ·rfl
 ·rename_i h
  rw[List.getElem?_eq_none qo]
theorem qPNK (n:Nat)(K:Nat->Option Nat)(s:Vst)(j x:Nat):∀ i,i<6->updF (updF (rX n K s) 0 ((rX n K s 0).set j (.bool true))) 1 ((updF (rX n K s) 0 ((rX n K s 0).set j (.bool true)) 1).set j (.int .u32 (x:Int))) i=rX n (updF K j (some x)) s i:=by
 refine six ?_ ?_ rfl rfl rfl rfl
 ·show (rowL n (bitF fun j=>(K j).isSome)).set j (.bool true)=rowL n (bitF fun i=>(updF K j (some x) i).isSome)
  rw[qHB]
  refine qWZ (fun i _=>?_)
  unfold bitF updF
  by_cases e:i=j <;> simp[e]
 ·show (rowL n (valF fun j=>(K j).getD 0)).set j (.int .u32 (x:Int))=rowL n (valF fun i=>(updF K j (some x) i).getD 0)
  rw[qHB]
  refine qWZ (fun i _=>?_)
  unfold valF updF
  by_cases e:i=j <;> simp[e]

theorem qJu (A:Option Addr)(c:Nat)(vals:List Nat)(n:Nat)(hl:vals.length=n)(hmx:n<=2^40)(hnc:n<=c)(hc:c<=maxLen)(h32:∀ x∈vals,x<2^32)(w:World)
  (HR:Reads w w.heap.size 1 A n (valVs vals)) :
  Calls Tryz.prog 10 #[.slice A n c] w fun e w'=>∃ (b:Nat) (v:Nat->Value),e = .returned (.pointer (some ⟨b,0,none⟩))/\IsRefV w' w.heap.size b n true v (fun i=>vals[i]?) freshS/\Below w.heap.size w w':=by
 have HL:=qh hl
 have HRR:=qh HR
 have H32:qH (∀ i x,vals[i]?=some x->x<2^32):=qh (fun i x h=>h32 x (List.mem_of_getElem? h))
 have hc2:c<=9223372036854775807:=hc
 clear hl HR h32
 go_enter Tryz.func10,Tryz.ntmps10
 go_wp2_with fail
 refine(qON n hmx _).mono ?_
 rintro e w1 ⟨b,v,rfl,hI,hB⟩
 have HP1:qH (RParts w1 w.heap.size b v (rHead n v freshS false) (rN n freshS) (rX n (firstK vals 0) freshS)):=qh (hI.parts.congr rfl (fun _ _=>rfl) (fun i hi=>by
  have:firstK vals 0=fun _=>none:=by funext i;simp[firstK]
  rw[this]))
 have HB1:=qh hB
 clear hI hB
 go_wp2_with fail
 go_loopw [4] (fun i wr=>∃ k:Nat,k<=n/\i = .int .i64 k/\qH (RParts wr w.heap.size b v (rHead n v freshS false) (rN n freshS) (rX n (firstK vals k) freshS))/\qH (Below w.heap.size w wr)) (fun i _=>n-(intOf i).toNat)
 case atStart=>exact⟨0,qo,rfl,HP1,HB1⟩
 case round =>
  clear HP1 HB1
  obtain⟨k,hk,rfl,HP,HB⟩:=hrel
  by_cases hlt:k<n
  ·obtain⟨ad,rfl,hadb,hcl⟩:=HRR.o.2 qo
   obtain⟨x,hx⟩:∃ x,vals.getD k 0=x:=⟨_,rfl⟩
   have hvx:(valVs vals)[k]?=some (.int .u32 (x:Int)):=by
    unfold valVs
    rw[List.getElem?_map,List.getElem?_eq_getElem (by have:=HL.o;omega),<- hx]
    simp[List.getD,List.getElem?_eq_getElem (show k<vals.length by have:=HL.o;omega)]
   have x0:=(HB.o.cell (p:=ad.add k) (by rw[qXL];exact hadb)).trans (hcl k _ hvx)
   have c1:wr.cell? ⟨b,1,none⟩=some (v 0):=HP.o.head.cell 1
   have c2:wr.cell? ⟨b,2,none⟩=some (v 1):=HP.o.head.cell 2
   obtain⟨g0,p0,hv0,hp0,hm0,hg0,hl0⟩:=HP.o.form (i:=0) qo (show 0<n by omega)
   obtain⟨g1,p1,hv1,hp1,hm1,hg1,hl1⟩:=HP.o.form (i:=1) qo (show 0<n by omega)
   have hg01:g1≠g0:=fun e=>by
    have:=HP.o.own.apart 0 1 g0 qo qo (by rw[hv0];rfl) (by rw[hv1,e];rfl)
    omega
   have hn0:rN n freshS 0=n:=rfl
   have hn1:rN n freshS 1=n:=rfl
   rw[hv0,hn0] at c1
   rw[hv1,hn1] at c2
   rw[hn0] at hp0
   rw[hn1] at hp1
   obtain⟨d0,f0⟩:=HP.o.at_ (i:=0) qo hv0 (show k<n from hlt)
   rw[rX_0 n _ _ hlt] at d0
   obtain⟨d1,f1⟩:=HP.o.at_ (i:=1) qo hv1 (show k<n from hlt)
   rw[rX_1 n _ _ hlt] at d1
   have hag:w.heap.size<=g0:=HP.o.ge g0 (.inr ⟨0,qo,by rw[hv0];rfl⟩)
   have hag1:w.heap.size<=g1:=HP.o.ge g1 (.inr ⟨1,qo,by rw[hv1];rfl⟩)
   have HST:=qh (qGh (vals:=vals) (k:=k) (by have:=HL.o;omega))
   rw[hx] at HST
   have HP5:=qh (HP.o.store (i:=0) qo hv0 k (.bool true)).1
   have HT5:=qh (HP.o.store (i:=0) qo hv0 k (.bool true)).2
   have HB5:=qh (Bput HB.o (p:=⟨g0,k,none⟩) hag (.bool true))
   have y0:(wr.setCell ⟨g0,k,none⟩ (.bool true)).cell? ⟨b,2,none⟩=some (.slice (some ⟨g1,0,none⟩) n p1):=by
    have h1:(wr.setCell ⟨g0,k,none⟩ (.bool true)).cell? ⟨b,2,none⟩=some (v 1):=HP5.o.head.cell 2
    rw[h1,hv1,hn1]
   have y1:(wr.setCell ⟨g0,k,none⟩ (.bool true)).cell? (ad.add k)=some (.int .u32 (x:Int)):=(HB5.o.cell (p:=ad.add k) (by rw[qXL];exact hadb)).trans (hcl k _ hvx)
   obtain⟨z1,z2⟩:=HP5.o.at_ (i:=1) qo hv1 (show k<n from hlt)
   have z3:(wr.setCell ⟨g0,k,none⟩ (.bool true)).cell? ⟨g1,k,none⟩=some (.int .u32 (((firstK vals k k).getD 0:Nat):Int)):=z1.trans (rX_1 n (firstK vals k) freshS hlt)
   have HP6:=qh (HP5.o.store (i:=1) qo hv1 k (.int .u32 (x:Int))).1
   have HB6:=qh (Bput HB5.o (p:=⟨g1,k,none⟩) hag1 (.int .u32 (x:Int)))
   have y2:((wr.setCell ⟨g0,k,none⟩ (.bool true)).setCell ⟨g1,k,none⟩ (.int .u32 (x:Int))).cell? ⟨b,2,none⟩=some (.slice (some ⟨g1,0,none⟩) n p1):=by
    have h1:((wr.setCell ⟨g0,k,none⟩ (.bool true)).setCell ⟨g1,k,none⟩ (.int .u32 (x:Int))).cell? ⟨b,2,none⟩=some (v 1):=HP6.o.head.cell 2
    rw[h1,hv1,hn1]
   have y3:((wr.setCell ⟨g0,k,none⟩ (.bool true)).setCell ⟨g1,k,none⟩ (.int .u32 (x:Int))).cell? (ad.add k)=some (.int .u32 (x:Int)):=(HB6.o.cell (p:=ad.add k) (by rw[qXL];exact hadb)).trans (hcl k _ hvx)
   clear hcl hvx z1 hx
   generalize (firstK vals k k).getD 0=old at *
   generalize (firstK vals k k).isSome=old0 at *
   go_wp2_with fail
   refine wp_region_held_drew (S:=(fun w'=>w'.cell? ⟨b,2,none⟩=some (.slice (some ⟨g1,0,none⟩) n p1)/\w'.cell? (ad.add k)=some (.int .u32 (x:Int)))) qr ?_ (fun hHeld=>?_)
   ·(try dsimp only)
    first|exact⟨y0,y1⟩|exact⟨y2,y3⟩|exact hHeld
   refine Rbo ?_
   refine RPe ?_
   refine tkz 9 ?_
   refine rdz 10 fun K hK=>?_
   go_simp
   skip
   refine qk ?_ (fun hHeld=>?_)
   ·first|exact⟨y0,y1⟩|exact⟨y2,y3⟩|exact hHeld
   clear hK K
   refine dnz ?_
   go_wp2
   go_roundw
   case rel=>exact⟨k+1,qo,by go_num,qh ((HP6.o.keep (Bdrew (B0 _))).congr rfl (fun _ _=>rfl) (by rw[HST.o];exact qPNK n (firstK vals k) freshS k x)),qh (Bdrew HB6.o)⟩
   case measure=>simp[intOf];omega
  ·obtain rfl:k=n:=qo
   have f8:=HP.o.head.thawed 8
   have c8:wr.cell? ⟨b,8,none⟩=some (.bool false):=HP.o.head.cell 8
   have hbg:w.heap.size<=b:=HP.o.bb
   have HKA:qH (firstK vals k=fun i=>vals[i]?):=qh (by rw[<- HL.o];exact qHF vals)
   go_wp2
   go_ret
   refine⟨b,v,rfl,{ parts:=?_,ok:=VOk.fresh k,nmax:=hmx,k32:=H32.o },Bput HB.o (p:=⟨b,8,none⟩) hbg _⟩
   have:=(HP.o.setHead 8 (.bool true)).1
   rw[HKA.o] at this
   exact this
end
section
theorem qEi (A:Option Addr)(c q:Nat)(l:List Nat)(hl:l.length=q)(hqc:q<=c)(hc:c<=maxLen)(i:Nat)(w:World)(hR:Reads w w.heap.size 1 A q (ntVs l)) :
  Calls Tryz.prog 83 #[.slice A q c,.int .i64 (i:Int)] w fun e w'=>e = .returned (.bool (decide (i∈l)))/\w'=w:=by
 have HR:=qh hR
 have HL:=qh hl
 have hc2:c<=9223372036854775807:=hc
 clear hR hl
 go_enter Tryz.func83,Tryz.ntmps83
 go_wp2_with fail
 go_loopw [5] (fun j wr=>∃ k:Nat,k<=q/\j = .int .i64 k/\qH (i ∉ l.take k)/\wr=w) (fun j _=>q-(intOf j).toNat)
 case atStart=>exact⟨0,qo,rfl,qh (by simp),rfl⟩
 case round =>
  obtain⟨k,hk,rfl,HN,rfl⟩:=hrel
  by_cases hlt:k<q
  ·obtain⟨x,hx⟩:∃ x,l[k]?=some x:=⟨_,List.getElem?_eq_getElem (by rw[HL.o];exact hlt)⟩
   obtain⟨ad,rfl,_,hcl⟩:=HR.o.2 qo
   have x0:wr.cell? (ad.add k)=some (.int .i64 (x:Int)):=hcl k _ (by unfold ntVs;rw[List.getElem?_map,hx];rfl)
   have HT:qH (l.take (k+1)=l.take k ++ [x]):=qh (by rw[List.take_add_one,hx];rfl)
   clear hcl
   by_cases he:x=i
   ·subst he
    have HV:qH (decide (x∈l)=true):=qh (decide_eq_true (List.mem_of_getElem? hx))
    clear hx
    go_wp2
    go_ret
    exact⟨by rw[HV.o];rfl,rfl⟩
   ·have t0:((x:Int)==i)=false:=qs
    have t1:(x==i)=false:=by simpa using he
    have HN2:qH (i ∉ l.take (k+1)):=qh (by
     rw[HT.o,List.mem_append]
     rintro (h|h)
     ·exact HN.o h
     ·simp at h;exact he h.symm)
    clear hx he
    go_wp2
    go_roundw
    case rel=>exact⟨k+1,qo,by go_num,HN2,by trivial⟩
    case measure=>simp[intOf];omega
  ·obtain rfl:k=q:=qo
   have HV:qH (decide (i∈l)=false):=qh (decide_eq_false (by
    have:=HN.o
    rwa [List.take_of_length_le (by have:=HL.o;omega)] at this))
   go_wp2
   go_ret
   exact⟨by rw[HV.o];rfl,rfl⟩

theorem qDD {base b n:Nat}{all:Bool}{v:Nat->Value}{K:Nat->Option Nat}{s:Vst}(a:Int)(ho:opn n s a=false)(w:World)(h:IsRefV w base b n all v K s) :
  Calls Tryz.prog 41 #[.pointer (some ⟨b,0,none⟩),.int .i64 a] w fun e w'=>e = .returned (.int .u32 0)/\w'=w:=by
 obtain⟨c0,_,_,_,_,_,_,c7,_⟩:=h.cells
 clear h
 rcases Int.lt_or_le a 0 with h1|h1
 ·have t0:decide (a<0)=true:=decide_eq_true h1
  exact MuT
 ·have t0:decide (a<0)=false:=qf
  rcases Int.lt_or_le a n with h2|h2
  ·have t1:decide ((n:Int)<=a)=false:=qf
   have hl:s.lost=true:=by
    exact MuU
   have hm:missI s=(s.miss:Int):=by unfold missI;rw[hl];rfl
   rw[hm] at c7
   have t2:decide ((0:Int)<=(s.miss:Int))=true:=qt
   clear hm hl ho
   exact MuT
  ·have t1:decide ((n:Int)<=a)=true:=qt
   exact MuT

theorem qH8 {s:Vst}(h:s.lost=false):missI s = -1:=by unfold missI;rw[h];rfl

theorem qFP {base b n:Nat}{all:Bool}{v:Nat->Value}{K:Nat->Option Nat}{s:Vst}(i k:Nat)(hl:s.lost=false)(hk:pos s.wr i=some k)(hi:i<n)(w:World)(h:IsRefV w base b n all v K s) :
  Calls Tryz.prog 41 #[.pointer (some ⟨b,0,none⟩),.int .i64 (i:Int)] w fun e w'=>e = .returned (.int .u32 ((atW s.wr k:Nat):Int))/\w'=w:=by
 have hn:=h.nmax
 obtain⟨c0,_,_,c3,c4,_,_,c7,_⟩:=h.cells
 obtain⟨g2,p2,hv2,hp2,hm2,hg2,hl2,hr2⟩:=h.row (i:=2) qo qo
 obtain⟨g3,p3,hv3,hp3,hm3,hg3,hl3,hr3⟩:=h.row (i:=3) qo qo
 have d2:=(hr2 i hi).1.trans (rX_2 n K s hi)
 have d3:=(hr3 i hi).1.trans (rX_3 n K s hi)
 have hto:toV s.wr i=atW s.wr k:=by unfold toV;rw[hk]
 rw[hk] at d2
 rw[hto] at d3
 rw[hv2] at c3
 rw[hv3] at c4
 rw[qH8 hl] at c7
 have t0:decide ((i:Int)<0)=false:=qf
 have t1:decide ((n:Int)<=i)=false:=qf
 have t2:decide (n<=i)=false:=qf
 clear h hr2 hr3 hv2 hv3 hto hk hl
 go_enter Tryz.func41,Tryz.ntmps41
 go_wp2
 go_ret
 exact⟨rfl,rfl⟩

theorem qMq (n:Nat)(s:Vst)(i:Nat):∀ j,j<6->updF (rN n s) 4 (s.rd.length+1) j=rN n { s with rd:=s.rd ++ [i] } j:=six rfl rfl rfl rfl (by simp[updF,rN]) rfl
theorem qUu (n:Nat)(K:Nat->Option Nat)(s:Vst)(i:Nat):∀ j,j<6->updF (rX n K s) 4 (ntVs s.rd ++ [.int .i64 (i:Int)]) j=rX n K { s with rd:=s.rd ++ [i] } j:=six rfl rfl rfl rfl (by simp[updF,rX,ntVs]) rfl
theorem OwnAll.rowAt {w:World}{base b k:Nat}{e:Nat->TypeId}{sz:Nat->Nat}{v:Nat->Value}{n:Nat->Nat}{xs:Nat->List Value}(h:OwnAll w base b k e sz v n xs){i:Nat}(hi:i<k){T:TypeId}{z m:Nat}{ys:List Value}(h1:e i=T)(h2:sz i=z)(h3:n i=m)(h4:xs i=ys):w.ownsRow base T z (v i) m ys:=by
 subst h1 h2 h3 h4
 exact h.own i hi

theorem qWC {base b n:Nat}{all:Bool}{v:Nat->Value}{K:Nat->Option Nat}{s:Vst}(i x:Nat)(hl:s.lost=false)(hk:pos s.wr i=none)(hi:i<n)(hx:K i=some x)(hlim:s.rd.length<2^40)(w:World)(h:IsRefV w base b n all v K s) :
    Calls Tryz.prog 41 #[.pointer (some ⟨b,0,none⟩),.int .i64 (i:Int)] w fun e w'=>e = .returned (.int .u32 (x:Int))/\LeftR w base b n all v K (noteS s i) w':=by
  have hn:=h.nmax
  obtain⟨c0,c1,c2,c3,_,c5,_,c7,_⟩:=h.cells
  obtain⟨g0,p0,hv0,hp0,hm0,hg0,hl0,hr0⟩:=h.row (i:=0) qo qo
  obtain⟨g1,p1,hv1,hp1,hm1,hg1,hl1,hr1⟩:=h.row (i:=1) qo qo
  obtain⟨g2,p2,hv2,hp2,hm2,hg2,hl2,hr2⟩:=h.row (i:=2) qo qo
  have d0:=(hr0 i hi).1.trans (rX_0 n K s hi)
  have d1:=(hr1 i hi).1.trans (rX_1 n K s hi)
  have d2:=(hr2 i hi).1.trans (rX_2 n K s hi)
  rw[hx] at d0 d1
  rw[hk] at d2
  rw[hv0] at c1
  rw[hv1] at c2
  rw[hv2] at c3
  rw[qH8 hl] at c7
  have HO:qH (w.ownsRow base 3 1 (v 4) s.rd.length (ntVs s.rd)):=qh (h.parts.own.rowAt qo rfl rfl rfl rfl)
  obtain⟨A,cr,hv4⟩:=qKK HO.o
  rw[hv4] at c5
  obtain⟨hqc,hcr⟩:=qNY (by have:=HO.o;rwa [hv4] at this)
  have HRD:qH (Reads w w.heap.size 1 A s.rd.length (ntVs s.rd)):=qh (Reads.of_own (by have:=HO.o;rwa [hv4] at this))
  obtain⟨q,hq⟩:∃ q,s.rd.length=q:=⟨_,rfl⟩
  have HQ:=qh hq
  have HV4:=qh hv4
  have HH:=qh h
  have HV1:=qh hv1
  have hbl:=h.parts.head.lt
  have t0:decide ((i:Int)<0)=false:=qf
  have t1:decide ((n:Int)<=i)=false:=qf
  have t2:decide (n<=i)=false:=qf
  rw[hq] at c5 hqc HRD hlim
  have H01:qH (∀ w':World,(∀ g,g=g1\/g=b->w'.heap[g]?=w.heap[g]?)->w'.cell? ⟨g1,i,none⟩=some (.int .u32 (x:Int))/\w'.cell? ⟨b,2,none⟩=some (.slice (some ⟨g1,0,none⟩) n p1)):=qh (fun w' hw=>⟨(World.cell?_of_block (a:=⟨g1,i,none⟩) (hw g1 (.inl rfl))).trans d1,(World.cell?_of_block (a:=⟨b,2,none⟩) (hw b (.inr rfl))).trans c2⟩)
  by_cases hm:i∈s.rd
  · have HM:qH (decide (i∈s.rd)=true):=qh (decide_eq_true hm)
    have HN:=qh (qDm hm)
    clear h hr0 hr1 hr2 hv0 hv1 hv2 hv4 hk hl hx hq hm
    go_enter Tryz.func41,Tryz.ntmps41
    go_wp2_with fail
    refine(qEi A cr q s.rd HQ.o hqc hcr i _ HRD.o).mono ?_
    rintro e w1 ⟨rfl,rfl⟩
    rw[HM.o]
    go_wp2
    go_ret
    exact⟨rfl,by rw[HN.o];exact LeftR.same HH.o⟩
  · have HM:qH (decide (i∈s.rd)=false):=qh (decide_eq_false hm)
    have HN:=qh (qLy hm)
    have HOK:=qh (h.ok.note (i:=i) hi)
    have H14:qH (∀ g,(v 4).ownBlock=some g->g≠g1):=qh (fun g hg e=>by
      have:=h.parts.own.apart 1 4 g1 qo qo (by rw[hv1];rfl) (by rw[hg,e])
      omega)
    obtain⟨i0,hin,hz0,hz1,hz2⟩:=info_parts intInfo
    clear h hr0 hr1 hr2 hv0 hv1 hv2 hv4 hk hl hx hq hm
    go_enter Tryz.func41,Tryz.ntmps41
    go_wp2_with fail
    refine(qEi A cr q s.rd HQ.o hqc hcr i _ HRD.o).mono ?_
    rintro e w1 ⟨rfl,rfl⟩
    rw[HM.o]
    go_wp2_with (first
      | (at_builtin
         refine wpList_append_lies _ rfl _ _ 42 rfl base 3 i0 (.int .i64 0) 1 8 Tryz.underlying42 hin hz0 hz1 hz2 rfl (by decide) (.slice A q cr) q (ntVs s.rd) rfl ?c0 ⟨_,0,none⟩ 1 1 [.int .i64 (i:Int)] rfl rfl ?c1 ?c2 qo ?c3 ?c4 ?c5 _ rfl ?_
         case c0 =>
           have h9:=HO.o.alloc (.cells #[.int .i64 (i:Int)] 3)
           rw[HV4.o,HQ.o] at h9
           rw[<- HQ.o] at h9 ⊢
           exact h9
         case c1=>intro j y hy;rcases j with _|j;(· simp at hy;subst hy;simp[Addr.add]);(· simp at hy)
         case c2=>simp[Value.oneCell']
         case c3=>unfold maxLen;omega
         case c4=>omega
         case c5=>have:=HH.o.parts.bb;have:=HH.o.parts.head.lt;simp;omega
         intro g cap w4 hown4 hgrow4 hat4 hlt4
         obtain⟨hp4,hA4,hT4⟩:=(HH.o.parts.keep (Bnew (B0 w1) (.cells #[.int .i64 (i:Int)] 3))).grow (i:=4) qo hown4 (by rw[HV4.o,HQ.o];exact hgrow4) (fun q' hq'=>by
           have hq':g=q':=by simpa [Value.ownBlock] using hq'
           subst hq'
           rcases hat4 with h1|h1
           · left;rw[HV4.o,HQ.o];exact h1
           · right;rw[h1];exact Nat.le_refl _)
         have c5':w4.cell? ⟨b,5,none⟩=some (.slice A q cr):=(hp4.head.cell 5).trans (by rw[<- HQ.o,<- HV4.o];rfl)
         have f5:=hp4.head.thawed 5
         have y9:=H01.o w4 (fun z hz=>by
           have hz1:z<w1.heap.size:=by rcases hz with rfl|rfl;exact hl1;exact hbl
           refine(hgrow4.block z qs (fun e=>?_)).trans ((Bnew (B0 w1) (.cells #[.int .i64 (i:Int)] 3)).block z hz1)
           have e:(v 4).ownBlock=some z:=by rw[HV4.o,HQ.o];exact e.symm
           rcases hz with rfl|rfl
           · exact H14.o _ e rfl
           · exact HH.o.parts.own.notb 4 qo e)
         obtain⟨y1,y2⟩:=y9
         have HP4:=qh hp4
         have HA4:=qh hA4
         have HT4:=qh (((T0 (OwnF b 6 v) w1).alloc (.cells #[.int .i64 (i:Int)] 3)).trans hT4)
         clear hp4 hA4 hT4 hown4 hgrow4 hat4)
      | go_in)
    go_ret
    obtain⟨hp5,_⟩:=HP4.o.setHead 5 (.slice (some ⟨g,0,none⟩) (q+1) cap)
    refine⟨rfl,updF v 4 (.slice (some ⟨g,0,none⟩) (q+1) cap),?_,fun z hz=>?_,HT4.o.put (p:=⟨b,5,none⟩) (.inl rfl) _⟩
    · rw[HN.o] at HOK ⊢
      refine { parts:=hp5.congr rfl ?_ (qUu n K s i),ok:=HOK.o,nmax:=hn,k32:=HH.o.k32 }
      rw[<- HQ.o]
      exact qMq n s i
    · rcases HA4.o z hz with h1|h1
      · exact .inl h1
      · simp at h1
        exact .inr qo

theorem qND {base b n:Nat}{all:Bool}{v:Nat->Value}{K:Nat->Option Nat}{s:Vst}(i:Nat)(hl:s.lost=false)(hk:pos s.wr i=none)(hi:i<n)(hx:K i=none)(w:World)(h:IsRefV w base b n all v K s) :
  Calls Tryz.prog 41 #[.pointer (some ⟨b,0,none⟩),.int .i64 (i:Int)] w fun e w'=>e = .returned (.int .u32 0)/\LeftR w base b n all v K { s with lost:=true,miss:=i } w':=by
 have hn:=h.nmax
 obtain⟨c0,c1,_,c3,_,_,_,c7,_⟩:=h.cells
 obtain⟨g0,p0,hv0,hp0,hm0,hg0,hl0,hr0⟩:=h.row (i:=0) qo qo
 obtain⟨g2,p2,hv2,hp2,hm2,hg2,hl2,hr2⟩:=h.row (i:=2) qo qo
 have d0:=(hr0 i hi).1.trans (rX_0 n K s hi)
 have d2:=(hr2 i hi).1.trans (rX_2 n K s hi)
 rw[hx] at d0
 rw[hk] at d2
 rw[hv0] at c1
 rw[hv2] at c3
 rw[qH8 hl] at c7
 have f7:=h.parts.head.thawed 7
 have HH:=qh h
 have t0:decide ((i:Int)<0)=false:=qf
 have t1:decide ((n:Int)<=i)=false:=qf
 have t2:decide (n<=i)=false:=qf
 clear h hr0 hr2 hv0 hv2 hk hl hx
 go_enter Tryz.func41,Tryz.ntmps41
 go_wp2
 go_ret
 obtain⟨hp,ht⟩:=HH.o.parts.setHead 7 (.int .i64 (i:Int))
 exact⟨rfl,v,{ parts:=hp.congr rfl (fun _ _=>rfl) (fun _ _=>rfl),ok := { HH.o.ok with mLt:=fun _=>hi },nmax:=hn,k32:=HH.o.k32 },fun g hg => .inl hg,ht⟩

theorem qH6 {base b n:Nat}{all:Bool}{v:Nat->Value}{K:Nat->Option Nat}{s:Vst}(a:Int)(h1:s.rd.length<2^40)(w:World)(h:IsRefV w base b n all v K s) :
  Calls Tryz.prog 41 #[.pointer (some ⟨b,0,none⟩),.int .i64 a] w fun e w'=>e = .returned (.int .u32 ((getV n K s a:Nat):Int))/\LeftR w base b n all v K (getS n K s a) w':=by
 by_cases ho:opn n s a=true
 ·obtain⟨i,rfl,hi,hl⟩:=qAh ho
  cases hp:pos s.wr i with
  | some k =>
   rw[qWv ho hp,qZT ho hp]
   refine(qFP i k hl hp hi w h).mono ?_
   rintro e w1 ⟨rfl,rfl⟩
   exact⟨rfl,LeftR.same h⟩
  | none =>
   cases hk:K i with
   | some x =>
    rw[qGE ho hp hk,qTM ho hp hk]
    exact qWC i x hl hp hi hk h1 w h
   | none =>
    rw[qUa ho hp hk,qH4 ho hp hk]
    exact qND i hl hp hi hk w h
 ·have ho:opn n s a=false:=by simpa using ho
  rw[qDi ho,qPg ho]
  refine(qDD a ho w h).mono ?_
  rintro e w1 ⟨rfl,rfl⟩
  exact⟨rfl,LeftR.same h⟩
end
section
theorem qBt (l:List Nat):(valVs l).length=l.length:=by unfold valVs;simp
def RowP (w:World) (v:Value) (l:List (Nat × Nat)):Prop :=
 l.length<=maxLen/\((v = .slice none 0 0/\l = [])\/∃ g c,v = .slice (some ⟨g,0,none⟩) l.length c/\g<w.heap.size/\∀ i u,(prVs l)[i]?=some u->w.cell? ⟨g,i,none⟩=some u)
theorem RowP.below {w w':World}{v:Value}{l:List (Nat × Nat)}(h:RowP w v l)(hb:Below w.heap.size w w'):RowP w' v l:=by
 refine⟨h.1,?_⟩
 rcases h.2 with h|⟨g,c,hv,hg,hc⟩
 ·exact .inl h
 ·exact .inr ⟨g,c,hv,Nat.lt_of_lt_of_le hg hb.size,fun i u hu=>(hb.cell (p:=⟨g,i,none⟩) hg).trans (hc i u hu)⟩
theorem RowP.of_own {w:World}{base:Nat}{e:TypeId}{v:Value}{l:List (Nat × Nat)}(h:w.ownsRow base e 2 v l.length (prVs l)):RowP w v l:=by
 rcases h.2 with ⟨rfl,hn⟩|⟨g,cap,cur,rfl,hb,hg,hnc,hcm,hcs,htake⟩
 ·exact⟨qo,.inl ⟨rfl,List.eq_nil_of_length_eq_zero hn⟩⟩
 ·have hl:=h.lt g rfl
  refine⟨qo,.inr ⟨g,cap,rfl,hl.2,fun i u hu=>?_⟩⟩
  have hi:i<(prVs l).length:=by
   rcases Nat.lt_or_ge i (prVs l).length with h3|h3
   ·exact h3
   ·rw[List.getElem?_eq_none h3] at hu;cases hu
  rw[qUS] at hi
  rw[h.cellAt i hi,hu]

theorem qVp (l:List (Nat × Nat))(v u:Value)(w:World)(h1:RowP w v l)(h2:RowP w u l) :
  Calls Tryz.prog 49 #[v,u] w fun e w'=>e = .returned (.bool true)/\∃ n,w'=w.drewN n:=by
 have hm:=h1.1
 unfold maxLen at hm
 by_cases hx:l = []
 ·subst hx
  have hv:∃ A c,v = .slice A 0 c:=by
   rcases h1.2 with ⟨rfl,_⟩|⟨g,c,rfl,_⟩
   ·exact⟨_,_,rfl⟩
   ·exact⟨_,_,rfl⟩
  have hu:∃ A c,u = .slice A 0 c:=by
   rcases h2.2 with ⟨rfl,_⟩|⟨g,c,rfl,_⟩
   ·exact⟨_,_,rfl⟩
   ·exact⟨_,_,rfl⟩
  obtain⟨A,c,rfl⟩:=hv
  obtain⟨B,d,rfl⟩:=hu
  clear h1 h2
  go_enter Tryz.func49,Tryz.ntmps49
  go_wp2
  refine wp_loop_rounds 1 ?_
  rw[rounds_succ]
  go_wp2
  go_ret
  exact⟨rfl,0,rfl⟩
 ·rcases h1.2 with ⟨_,h⟩|⟨g,c,rfl,_,hc⟩
  ·exact absurd h hx
  rcases h2.2 with ⟨_,h⟩|⟨g2,c2,rfl,_,hc2⟩
  ·exact absurd h hx
  have HC:qH (∀ k,k<l.length->w.cell? ⟨g,k*2,none⟩=some (.int .i64 (cellW l k:Int))/\w.cell? ⟨g,k*2+1,none⟩=some (.int .u32 (atW l k:Int))):=qh (fun k hk=>⟨hc _ _ (qNC l k hk).1,hc _ _ (qNC l k hk).2⟩)
  have HC2:qH (∀ k,k<l.length->w.cell? ⟨g2,k*2,none⟩=some (.int .i64 (cellW l k:Int))/\w.cell? ⟨g2,k*2+1,none⟩=some (.int .u32 (atW l k:Int))):=qh (fun k hk=>⟨hc2 _ _ (qNC l k hk).1,hc2 _ _ (qNC l k hk).2⟩)
  clear hc hc2 h1 h2 hx
  generalize hn:l.length=n at *
  clear hn
  go_enter Tryz.func49,Tryz.ntmps49
  go_wp2
  go_loopw [5] (fun i wr=>∃ k m:Nat,k<=n/\i = .int .i64 k/\wr=w.drewN m) (fun i _=>n-(intOf i).toNat)
  case atStart=>exact⟨0,0,qo,rfl,rfl⟩
  case round =>
   obtain⟨k,m,hk,rfl,rfl⟩:=hrel
   by_cases hlt:k<n
   ·obtain⟨c1,d1⟩:=HC.o k hlt
    obtain⟨c2,d2⟩:=HC2.o k hlt
    generalize cellW l k=x at *
    generalize atW l k=y at *
    exact Mao
   ·go_wp2
    go_ret
    exact⟨rfl,m,rfl⟩
end
section
theorem qFS {base b n:Nat}{all:Bool}{v:Nat->Value}{K:Nat->Option Nat}{s:Vst}(a x:Int)(ho:opn n s a=false)(w:World)(h:IsRefV w base b n all v K s) :
  Calls Tryz.prog 43 #[.pointer (some ⟨b,0,none⟩),.int .i64 a,.int .u32 x] w fun e w'=>e = .returned (.tuple #[])/\w'=w:=by
 obtain⟨c0,_,_,_,_,_,_,c7,_⟩:=h.cells
 clear h
 rcases Int.lt_or_le a 0 with h1|h1
 ·have t0:decide (a<0)=true:=decide_eq_true h1
  exact MMm
 ·have t0:decide (a<0)=false:=qf
  rcases Int.lt_or_le a n with h2|h2
  ·have t1:decide ((n:Int)<=a)=false:=qf
   have hl:s.lost=true:=by
    exact MuU
   have hm:missI s=(s.miss:Int):=by unfold missI;rw[hl];rfl
   rw[hm] at c7
   have t2:decide ((0:Int)<=(s.miss:Int))=true:=qt
   clear hm hl ho
   exact MMm
  ·have t1:decide ((n:Int)<=a)=true:=qt
   exact MMm

theorem qJ7 {l:List (Nat × Nat)}{k i v:Nat}(h:k<l.length):atW (l.set k (i,v)) k=v:=by unfold atW;simp[List.getD,h]
theorem qB7 {l:List (Nat × Nat)}{k m:Nat}{p:Nat × Nat}(h:m≠k):atW (l.set k p) m=atW l m:=by unfold atW;simp[List.getD,List.getElem?_set_ne (Ne.symm h)]
theorem qV5 (l:List (Nat × Nat))(i v j:Nat):toV (putW l i v) j=updF (toV l) i v j:=by
 unfold toV updF
 rw[qT3]
 cases hp:pos l i with
 | some k =>
  rw[qRW hp]
  simp only
  have hkl:=(qG9 hp).1
  by_cases e:j=i
  ·subst e
   rw[if_pos rfl,hp]
   exact qJ7 hkl
  ·rw[if_neg e]
   cases hj:pos l j with
   | none=>rfl
   | some m =>
    have hne:m≠k:=by
     rintro rfl
     exact e ((qG9 hj).2.symm.trans (qG9 hp).2)
    exact qB7 hne
 | none =>
  rw[qWB hp]
  simp only
  by_cases e:j=i
  ·subst e
   rw[if_pos rfl,if_pos rfl]
   simp[atW,List.getD]
  ·rw[if_neg e,if_neg e]
   cases hj:pos l j with
   | none=>rfl
   | some m =>
    have:=(qG9 hj).1
    simp[atW,List.getD,List.getElem?_append_left this]
theorem qCH (l:List (Nat × Nat))(i v j:Nat):(pos (putW l i v) j).isSome=updF (fun j=>(pos l j).isSome) i true j:=by
 rw[qT3]
 unfold updF
 cases hp:pos l i with
 | some k =>
  simp only
  by_cases e:j=i
  ·subst e;simp[hp]
  ·simp[e]
 | none =>
  simp only
  by_cases e:j=i <;> simp[e]
theorem qG5 (n:Nat)(K:Nat->Option Nat)(s:Vst)(i v:Nat):(rX n K s 2).set i (.bool true)=rX n K { s with wr:=putW s.wr i v } 2:=by
 show (rowL n (bitF fun j=>(pos s.wr j).isSome)).set i (.bool true)=rowL n (bitF fun j=>(pos (putW s.wr i v) j).isSome)
 rw[qHB]
 refine qWZ (fun j _=>?_)
 show updF (fun i=>Value.bool (pos s.wr i).isSome) i (.bool true) j=Value.bool (pos (putW s.wr i v) j).isSome
 rw[qCH]
 unfold updF
 by_cases e:j=i <;> simp[e]
theorem qRC (n:Nat)(K:Nat->Option Nat)(s:Vst)(i v:Nat):(rX n K s 3).set i (.int .u32 (v:Int))=rX n K { s with wr:=putW s.wr i v } 3:=by
 show (rowL n (valF (toV s.wr))).set i (.int .u32 (v:Int))=rowL n (valF (toV (putW s.wr i v)))
 rw[qHB]
 refine qWZ (fun j _=>?_)
 show updF (fun i=>Value.int .u32 ((toV s.wr i:Nat):Int)) i (.int .u32 (v:Int)) j=Value.int .u32 ((toV (putW s.wr i v) j:Nat):Int)
 rw[qV5]
 unfold updF
 by_cases e:j=i <;> simp[e]
theorem qM6 {l:List (Nat × Nat)}{i v k:Nat}(h:pos l i=some k):(putW l i v).map (·.1)=l.map (·.1)/\(putW l i v).length=l.length:=by
 rw[qRW h]
 refine⟨?_,by simp⟩
 rw[List.map_set]
 have hk:=qG9 h
 apply List.ext_getElem?
 intro j
 rw[List.getElem?_set]
 split
 ·rename_i e
  subst e
  have h2:=hk.2
  unfold cellW at h2
  rw[if_pos (by simpa using hk.1),List.getElem?_map,List.getElem?_eq_getElem hk.1]
  rw[List.getD,List.getElem?_eq_getElem hk.1] at h2
  exact congrArg some h2.symm
 ·rfl

theorem qGW {base b n:Nat}{all:Bool}{v:Nat->Value}{K:Nat->Option Nat}{s:Vst}(i k x:Nat)(hl:s.lost=false)(hk:pos s.wr i=some k)(hi:i<n)(hx:x<2^32)(w:World)(h:IsRefV w base b n all v K s) :
  Calls Tryz.prog 43 #[.pointer (some ⟨b,0,none⟩),.int .i64 (i:Int),.int .u32 (x:Int)] w fun e w'=>e = .returned (.tuple #[])/\LeftR w base b n all v K { s with wr:=putW s.wr i x } w':=by
 have hn:=h.nmax
 obtain⟨c0,_,_,c3,c4,_,_,c7,_⟩:=h.cells
 obtain⟨g2,p2,hv2,hp2,hm2,hg2,hl2,hr2⟩:=h.row (i:=2) qo qo
 obtain⟨g3,p3,hv3,hp3,hm3,hg3,hl3,hr3⟩:=h.row (i:=3) qo qo
 have hg23:g3≠g2:=fun e=>by
  have:=h.parts.own.apart 2 3 g2 qo qo (by rw[hv2];rfl) (by rw[hv3,e];rfl)
  omega
 have d2:=(hr2 i hi).1.trans (rX_2 n K s hi)
 have d3:=(hr3 i hi).1.trans (rX_3 n K s hi)
 have f2:=(hr2 i hi).2
 have f3:=(hr3 i hi).2
 rw[hk] at d2
 rw[hv2] at c3
 rw[hv3] at c4
 rw[qH8 hl] at c7
 have HH:=qh h
 have HOK:qH (VOk n { s with wr:=putW s.wr i x }):=qh (by
  have:=h.ok.put (a:=(i:Int)) hx
  rwa [qPT (qB1 hi hl)] at this)
 have HV2:=qh hv2
 have HV3:=qh hv3
 have HPC:=qh (qM6 (v:=x) hk)
 have t0:decide ((i:Int)<0)=false:=qf
 have t1:decide ((n:Int)<=i)=false:=qf
 have t2:decide (n<=i)=false:=qf
 clear h hr2 hr3 hv2 hv3 hk hl
 generalize toV s.wr i=old at *
 go_enter Tryz.func43,Tryz.ntmps43
 go_wp2
 go_end0
 obtain⟨hp5,ht5⟩:=HH.o.parts.store (i:=2) (g:=g2) (cap:=p2) qo HV2.o i (.bool true)
 obtain⟨hp6,ht6⟩:=hp5.store (i:=3) (g:=g3) (cap:=p3) qo HV3.o i (.int .u32 (x:Int))
 refine⟨rfl,v,{ parts:=hp6.congr rfl (six rfl rfl rfl rfl rfl HPC.o.2.symm) (six rfl rfl (qG5 n K s i x) (qRC n K s i x) rfl ?_),ok:=HOK.o,nmax:=hn,k32:=HH.o.k32 },fun g hg => .inl hg,ht5.trans ht6⟩
 show ntVs (s.wr.map (·.1))=ntVs ((putW s.wr i x).map (·.1))
 rw[HPC.o.1]

theorem qIn {base b n:Nat}{all:Bool}{v:Nat->Value}{K:Nat->Option Nat}{s:Vst}(i x:Nat)(hl:s.lost=false)(hk:pos s.wr i=none)(hi:i<n)(hx:x<2^32)(hlim:s.wr.length<2^40)(w:World)(h:IsRefV w base b n all v K s) :
    Calls Tryz.prog 43 #[.pointer (some ⟨b,0,none⟩),.int .i64 (i:Int),.int .u32 (x:Int)] w fun e w'=>e = .returned (.tuple #[])/\LeftR w base b n all v K { s with wr:=putW s.wr i x } w':=by
  have hn:=h.nmax
  obtain⟨c0,_,_,c3,c4,_,c6,c7,_⟩:=h.cells
  obtain⟨g2,p2,hv2,hp2,hm2,hg2,hl2,hr2⟩:=h.row (i:=2) qo qo
  obtain⟨g3,p3,hv3,hp3,hm3,hg3,hl3,hr3⟩:=h.row (i:=3) qo qo
  have hg23:g3≠g2:=fun e=>by
    have:=h.parts.own.apart 2 3 g2 qo qo (by rw[hv2];rfl) (by rw[hv3,e];rfl)
    omega
  have d2:=(hr2 i hi).1.trans (rX_2 n K s hi)
  rw[hk] at d2
  rw[hv2] at c3
  rw[hv3] at c4
  rw[qH8 hl] at c7
  have HO:qH (w.ownsRow base 3 1 (v 5) s.wr.length (ntVs (s.wr.map (·.1)))):=qh (h.parts.own.rowAt qo rfl rfl rfl rfl)
  obtain⟨A,cr,hv5⟩:=qKK HO.o
  rw[hv5] at c6
  obtain⟨q,hq⟩:∃ q,s.wr.length=q:=⟨_,rfl⟩
  have HQ:=qh hq
  have HV5:=qh hv5
  have HH:=qh h
  have HV2:=qh hv2
  have HV3:=qh hv3
  have hbl:=h.parts.head.lt
  have HOK:qH (VOk n { s with wr:=putW s.wr i x }):=qh (by
    have:=h.ok.put (a:=(i:Int)) hx
    rwa [qPT (qB1 hi hl)] at this)
  have HPW:=qh (qWB (v:=x) hk)
  have t0:decide ((i:Int)<0)=false:=qf
  have t1:decide ((n:Int)<=i)=false:=qf
  have t2:decide (n<=i)=false:=qf
  obtain⟨i0,hin,hz0,hz1,hz2⟩:=info_parts intInfo
  rw[hq] at c6 hlim
  clear h hr2 hr3 hv2 hv3 hk hl hv5 hq
  go_enter Tryz.func43,Tryz.ntmps43
  go_wp2_with (first
    | (at_builtin
       refine wpList_append_lies _ rfl _ _ 42 rfl base 3 i0 (.int .i64 0) 1 8 Tryz.underlying42 hin hz0 hz1 hz2 rfl (by decide) (.slice A q cr) q (ntVs (s.wr.map (·.1))) rfl ?c0 ⟨_,0,none⟩ 1 1 [.int .i64 (i:Int)] rfl rfl ?c1 ?c2 qo ?c3 ?c4 ?c5 _ rfl ?_
       case c0 =>
         have h9:=HO.o.alloc (.cells #[.int .i64 (i:Int)] 3)
         rw[HV5.o,HQ.o] at h9
         rw[<- HQ.o] at h9 ⊢
         exact h9
       case c1=>intro j y hy;rcases j with _|j;(· simp at hy;subst hy;simp[Addr.add]);(· simp at hy)
       case c2=>simp[Value.oneCell']
       case c3=>unfold maxLen;omega
       case c4=>omega
       case c5=>have:=HH.o.parts.bb;have:=HH.o.parts.head.lt;simp;omega
       intro g cap w4 hown4 hgrow4 hat4 hlt4
       obtain⟨hp4,hA4,hT4⟩:=(HH.o.parts.keep (Bnew (B0 w) (.cells #[.int .i64 (i:Int)] 3))).grow (i:=5) qo hown4 (by rw[HV5.o,HQ.o];exact hgrow4) (fun q' hq'=>by
         have hq':g=q':=by simpa [Value.ownBlock] using hq'
         subst hq'
         rcases hat4 with h1|h1
         · left;rw[HV5.o,HQ.o];exact h1
         · right;rw[h1];exact Nat.le_refl _)
       have e3:w4.cell? ⟨b,3,none⟩=some (.slice (some ⟨g2,0,none⟩) n p2):=(hp4.head.cell 3).trans (by rw[<- HV2.o];rfl)
       have e4:w4.cell? ⟨b,4,none⟩=some (.slice (some ⟨g3,0,none⟩) n p3):=(hp4.head.cell 4).trans (by rw[<- HV3.o];rfl)
       have e6:w4.cell? ⟨b,6,none⟩=some (.slice A q cr):=(hp4.head.cell 6).trans (by rw[<- HQ.o,<- HV5.o];rfl)
       have f6:=hp4.head.thawed 6
       obtain⟨d5,f5⟩:=hp4.at_ (i:=2) (g:=g2) (cap:=p2) qo HV2.o (show i<n from hi)
       obtain⟨d7,f7⟩:=hp4.at_ (i:=3) (g:=g3) (cap:=p3) qo HV3.o (show i<n from hi)
       have d5':w4.cell? ⟨g2,i,none⟩=some (.bool (pos s.wr i).isSome):=d5.trans (rX_2 n K s hi)
       have d7':w4.cell? ⟨g3,i,none⟩=some (.int .u32 ((toV s.wr i:Nat):Int)):=d7.trans (rX_3 n K s hi)
       have HP4:=qh hp4
       have HA4:=qh hA4
       have HT4:=qh (((T0 (OwnF b 6 v) w).alloc (.cells #[.int .i64 (i:Int)] 3)).trans hT4)
       clear hp4 hA4 hT4 hown4 hgrow4 hat4 d5 d7)
    | go_in)
  go_end0
  obtain⟨hp5,_⟩:=HP4.o.setHead 6 (.slice (some ⟨g,0,none⟩) (q+1) cap)
  obtain⟨hp6,_⟩:=hp5.store (i:=2) (g:=g2) (cap:=p2) qo HV2.o i (.bool true)
  obtain⟨hp7,_⟩:=hp6.store (i:=3) (g:=g3) (cap:=p3) qo HV3.o i (.int .u32 (x:Int))
  refine⟨rfl,updF v 5 (.slice (some ⟨g,0,none⟩) (q+1) cap),{ parts:=hp7.congr rfl (six rfl rfl rfl rfl rfl ?_) (six rfl rfl (qG5 n K s i x) (qRC n K s i x) rfl ?_),ok:=HOK.o,nmax:=hn,k32:=HH.o.k32 },fun z hz=>?_,
    ((HT4.o.put (p:=⟨b,6,none⟩) (.inl rfl) _).put (p:=⟨g2,i,none⟩) (.inr ⟨2,qo,by rw[HV2.o];rfl⟩) _).put (p:=⟨g3,i,none⟩) (.inr ⟨3,qo,by rw[HV3.o];rfl⟩) _⟩
  · show q+1=(putW s.wr i x).length
    rw[HPW.o,<- HQ.o]
    simp
  · show ntVs (s.wr.map (·.1)) ++ [.int .i64 (i:Int)]=ntVs ((putW s.wr i x).map (·.1))
    rw[HPW.o]
    simp[ntVs]
  · rcases HA4.o z hz with h1|h1
    · exact .inl h1
    · simp at h1
      exact .inr qo

theorem qIQ {base b n:Nat}{all:Bool}{v:Nat->Value}{K:Nat->Option Nat}{s:Vst}(a:Int)(x:Nat)(hx:x<2^32)(h1:s.wr.length<2^40)(w:World)(h:IsRefV w base b n all v K s) :
  Calls Tryz.prog 43 #[.pointer (some ⟨b,0,none⟩),.int .i64 a,.int .u32 (x:Int)] w fun e w'=>e = .returned (.tuple #[])/\LeftR w base b n all v K (putS n s a x) w':=by
 by_cases ho:opn n s a=true
 ·obtain⟨i,rfl,hi,hl⟩:=qAh ho
  rw[qPT ho]
  cases hp:pos s.wr i with
  | some k=>exact qGW i k x hl hp hi hx w h
  | none=>exact qIn i x hl hp hi hx h1 w h
 ·have ho:opn n s a=false:=by simpa using ho
  rw[qRG ho]
  refine(qFS a _ ho w h).mono ?_
  rintro e w1 ⟨rfl,rfl⟩
  exact⟨rfl,LeftR.same h⟩
end
section
structure Ob where
 I:World->Vst->(Nat->Prop)->Prop
 lt:∀ {w:World} {s:Vst} {A:Nat->Prop},I w s A->∀ i,A i->i<w.heap.size
 turns:∀ {w w':World} {s:Vst} {A G:Nat->Prop},I w s A->Turns G w w'->(∀ i,A i->¬ G i)->I w' s A

def vOb (base b n:Nat) (wh:Bool) (K:Nat->Option Nat):Ob where
 I w s A:=∃ o,IsView w base b n wh o K s/\A=o.A b
 lt:=by
  rintro w s A ⟨o,h,rfl⟩
  exact h.lt
 turns:=by
  rintro w w' s A G ⟨o,h,rfl⟩ ht hf
  exact⟨o,h.turns ht hf,rfl⟩
def rOb (base b n:Nat) (all:Bool) (K:Nat->Option Nat):Ob where
 I w s A:=∃ v,IsRefV w base b n all v K s/\A=OwnF b 6 v
 lt:=by
  rintro w s A ⟨v,h,rfl⟩
  exact h.parts.lt
 turns:=by
  rintro w w' s A G ⟨v,h,rfl⟩ ht hf
  exact⟨v,h.turns ht hf,rfl⟩

def Ob.Left (O:Ob) (w:World) (A:Nat->Prop) (s:Vst) (w':World):Prop:=∃ A',O.I w' s A'/\(∀ g,A' g->A g\/w.heap.size<=g)/\Turns A w w'
def Ob.At (O:Ob) (w0:World) (A G:Nat->Prop) (s:Vst) (w:World):Prop :=
 ∃ A',O.I w s A'/\(∀ g,A' g->A g\/w0.heap.size<=g)/\Turns A w0 w/\∀ g,G g->w0.heap.size<=g/\g<w.heap.size/\¬ A' g
def Stay (G:Nat->Prop) (w w':World):Prop:=w.heap.size<=w'.heap.size/\∀ g,G g->g<w.heap.size->w'.heap[g]?=w.heap[g]?
def And1 (G:Nat->Prop) (N:Nat):Nat->Prop:=fun g=>G g\/g=N
def GU (G:Nat->Prop) (u:Value):Nat->Prop:=fun g=>G g\/u.ownBlock=some g

section
variable {O : Ob} {w w' w0 : World} {A G : Nat -> Prop} {s s' : Vst} {N : Nat}
theorem Ob.keep {A:Nat->Prop}(h:O.I w s A)(hb:Below w.heap.size w w'):O.I w' s A:=O.turns h (Turns.of_below hb (fun _=>False)) (fun _ _ x=>x)
theorem Ob.Left.size (h:O.Left w A s w'):w.heap.size<=w'.heap.size:=by obtain⟨A',_,_,h⟩:=h;exact h.size
theorem Ob.At.start (h:O.I w s A):O.At w A (fun _=>False) s w:=⟨A,h,fun g hg => .inl hg,T0 _ _,fun g hg=>hg.elim⟩
theorem Ob.At.left (h:O.At w0 A G s w):O.Left w0 A s w:=by
 obtain⟨A',h1,h2,h3,_⟩:=h
 exact⟨A',h1,h2,h3⟩
theorem Ob.At.size (h:O.At w0 A G s w):w0.heap.size<=w.heap.size:=h.left.size
theorem Ob.At.keep (h:O.At w0 A G s w)(hb:Below w.heap.size w w'):O.At w0 A G s w':=by
 obtain⟨A',h1,h2,h3,h4⟩:=h
 exact⟨A',Ob.keep h1 hb,h2,h3.trans (Turns.of_below hb A),fun g hg=>⟨(h4 g hg).1,Nat.lt_of_lt_of_le (h4 g hg).2.1 hb.size,(h4 g hg).2.2⟩⟩
theorem Ob.At.alloc (h:O.At w0 A G s w)(o:Obj):O.At w0 A G s (w.alloc o):=h.keep (Bnew (B0 w) o)
theorem Ob.At.drew (h:O.At w0 A G s w):O.At w0 A G s w.drew:=h.keep (Bdrew (B0 w))
theorem Ob.At.box (h:O.At w0 A G s w)(o:Obj):O.At w0 A (And1 G w.heap.size) s (w.alloc o):=by
 obtain⟨A',h1,h2,h3,h4⟩:=h
 have hs:=h3.size
 refine⟨A',Ob.keep h1 (Bnew (B0 w) o),h2,h3.alloc o,?_⟩
 rintro g (hg|rfl)
 ·exact⟨(h4 g hg).1,Nat.lt_of_lt_of_le (h4 g hg).2.1 (Bnew (B0 w) o).size,(h4 g hg).2.2⟩
 ·exact⟨hs,by simp,fun x=>by have:=O.lt h1 _ x;omega⟩
theorem Ob.At.put (h:O.At w0 A G s w){p:Addr}(hp:G p.block)(u:Value):O.At w0 A G s (w.setCell p u):=by
 obtain⟨A',h1,h2,h3,h4⟩:=h
 have hq:=h4 _ hp
 refine⟨A',O.turns h1 ((T0 (fun i=>i=p.block) w).put (p:=p) rfl u) (fun i hi e=>hq.2.2 (by rw[<- e];exact hi)),h2,h3.put_new hq.1 u,fun g hg=>⟨(h4 g hg).1,by simp;exact(h4 g hg).2.1,(h4 g hg).2.2⟩⟩
theorem Ob.At.less {G':Nat->Prop}(h:O.At w0 A G s w)(hg:∀ g,G' g->G g):O.At w0 A G' s w:=by
 obtain⟨A',h1,h2,h3,h4⟩:=h
 exact⟨A',h1,h2,h3,fun g x=>h4 g (hg g x)⟩
theorem Ob.At.call (h:O.At w0 A G s w){P:Program}{f:FuncId}{args:Array Value}{R:Ending->Prop}(hc:∀ B,O.I w s B->Calls P f args w fun e w'=>R e/\O.Left w B s' w') :
  Calls P f args w fun e w'=>R e/\O.At w0 A G s' w'/\Stay G w w':=by
 obtain⟨A',h1,h2,h3,h4⟩:=h
 refine(hc A' h1).mono ?_
 rintro e w' ⟨hr,B,k1,k2,k3⟩
 have hs:=h3.size
 refine⟨hr,⟨B,k1,fun g hg=>?_,k3.more_new hs h3 h2,fun g hg=>?_⟩,k3.size,fun g hg hl=>k3.block g hl (h4 g hg).2.2⟩
 ·rcases k2 g hg with h5|h5
  ·exact h2 g h5
  ·exact .inr qo
 ·refine⟨(h4 g hg).1,Nat.lt_of_lt_of_le (h4 g hg).2.1 k3.size,fun x=>?_⟩
  rcases k2 g x with h5|h5
  ·exact(h4 g hg).2.2 h5
  ·have:=(h4 g hg).2.1;omega
theorem Stay.of_below (hb:Below w.heap.size w w')(G:Nat->Prop):Stay G w w':=⟨hb.size,fun g _ hl=>hb.block g hl⟩
theorem Stay.trans {w'':World}(h:Stay G w w')(k:Stay G w' w''):Stay G w w'':=⟨Nat.le_trans h.1 k.1,fun g hg hl=>(k.2 g hg (Nat.lt_of_lt_of_le hl h.1)).trans (h.2 g hg hl)⟩
theorem Stay.less {G':Nat->Prop}(h:Stay G w w')(hg:∀ g,G' g->G g):Stay G' w w':=⟨h.1,fun g x hl=>h.2 g (hg g x) hl⟩
theorem Stay.held {g:Nat}{t:TypeId}{cs:Array Value}(h:Stay G w w')(hg:G g)(hh:Held w g t cs):Held w' g t cs:=(h.2 g hg hh.lt).trans hh
theorem Stay.own {base n size:Nat}{e:TypeId}{v:Value}{xs:List Value}(h:Stay G w w')(hg:∀ g,v.ownBlock=some g->G g)(ho:w.ownsRow base e size v n xs):w'.ownsRow base e size v n xs :=
 qWQ ho (fun g e=>h.2 g (hg g e) (ho.lt g e).2)
theorem Ob.At.grown {row:Option Nat}{G':Nat->Prop}(h:O.At w0 A G s w)(hg:w.grownBy w' row)(hr:∀ g,row=some g->G g)(hG:∀ g,G' g->G g\/(w.heap.size<=g/\g<w'.heap.size)):O.At w0 A G' s w':=by
 obtain⟨A',h1,h2,h3,h4⟩:=h
 have hs:=h3.size
 refine⟨A',O.turns h1 (G:=fun i=>row=some i) ⟨hg.os,hg.tape,hg.output,hg.size,fun i hi hn=>hg.block i hi (fun e=>hn e.symm)⟩ (fun i hi e=>(h4 i (hr i e)).2.2 hi),h2,
  ⟨hg.os.trans h3.os,hg.tape.trans h3.tape,hg.output.trans h3.output,Nat.le_trans hs hg.size,fun i hi hf=>(hg.block i qo (fun e=>by have:=(h4 i (hr i e.symm)).1;omega)).trans (h3.block i hi hf)⟩,fun g x=>?_⟩
 rcases hG g x with h5|h5
 ·exact⟨(h4 g h5).1,Nat.lt_of_lt_of_le (h4 g h5).2.1 hg.size,(h4 g h5).2.2⟩
 ·exact⟨qo,h5.2,fun y=>by have:=O.lt h1 _ y;omega⟩
theorem Ob.At.keep2 {G':Nat->Prop}(h:O.At w0 A G s w)(hb:Below w.heap.size w w')(hG:∀ g,G' g->G g\/(w.heap.size<=g/\g<w'.heap.size)):O.At w0 A G' s w' :=
 h.grown (row:=none) ⟨hb.os,hb.tape,hb.output,hb.size,fun i hi _=>hb.block i hi⟩ (fun g e=>by cases e) hG
end

theorem qNd:∀ (n:Nat) (l:List Nat),(∀ i∈l,i<n)->l.Nodup->l.length<=n
 | 0,l,h,_=>by
  cases l with
  | nil=>simp
  | cons a r=>have:=h a (List.mem_cons_self ..);omega
 | n+1,l,h,hd=>by
  by_cases hn:n∈l
  ·have h1:=qNd n (l.erase n) (fun i hi=>by
    have h2:=(hd.mem_erase_iff).1 hi
    have h3:=h i h2.2
    have h4:=h2.1
    omega) (hd.erase n)
   rw[List.length_erase_of_mem hn] at h1
   omega
  ·have h1:=qNd n l (fun i hi=>by
    have h3:=h i hi
    have h4:i≠n:=fun e=>hn (e ▸ hi)
    omega) hd
   omega
theorem VOk.few {n:Nat}{s:Vst}(h:VOk n s):s.rd.length<=n/\s.wr.length<=n:=by
 refine⟨qNd _ _ h.rdLt h.rdNd,?_⟩
 have:(s.wr.map (·.1)).length<=n:=by
  refine qNd _ _ (fun i hi=>?_) ?_
  ·obtain⟨p,hp,rfl⟩:=List.mem_map.1 hi
   exact(h.wrLt p hp).1
  ·unfold List.Nodup
   rw[List.pairwise_iff_getElem]
   intro i j hi hj hij e
   have hj':j<s.wr.length:=by simpa using hj
   have h1:=h.wrNd i qo
   have h2:=h.wrNd j hj'
   have e1:cellW s.wr i=cellW s.wr j:=by
    unfold cellW
    simp[List.getD,List.getElem?_eq_getElem (show i<s.wr.length by omega),List.getElem?_eq_getElem hj'] at e ⊢
    exact e
   rw[e1,h2] at h1
   injection h1 with h1
   omega
 simpa using this

section
variable {base b n : Nat} {wh all : Bool} {K : Nat -> Option Nat} {s : Vst} {w w0 : World} {A G : Nat -> Prop}
theorem vGetA (hn:n<2^40)(a:Int)(h:(vOb base b n wh K).At w0 A G s w) :
  Calls Tryz.prog 82 #[.pointer (some ⟨b,0,none⟩),.int .i64 a] w fun e w'=>e = .returned (.int .u32 ((getV n K s a:Nat):Int))/\(vOb base b n wh K).At w0 A G (getS n K s a) w'/\Stay G w w':=by
 refine h.call ?_
 rintro B ⟨o,hI,rfl⟩
 refine(qM8 a (by have:=hI.ok.few;omega) (by have:=hI.ok.few;omega) w hI).mono ?_
 rintro e w' ⟨rfl,o',h1,h2,h3⟩
 exact⟨rfl,_,⟨o',h1,rfl⟩,h2,h3.more (fun i hi => .inl hi)⟩
theorem vPutA (hn:n<2^40)(a:Int)(v:Nat)(hv:v<2^32)(h:(vOb base b n wh K).At w0 A G s w) :
  Calls Tryz.prog 81 #[.pointer (some ⟨b,0,none⟩),.int .i64 a,.int .u32 (v:Int)] w fun e w'=>e = .returned (.tuple #[])/\(vOb base b n wh K).At w0 A G (putS n s a v) w'/\Stay G w w':=by
 refine h.call ?_
 rintro B ⟨o,hI,rfl⟩
 refine(qYd a v hv (by have:=hI.ok.few;omega) w hI).mono ?_
 rintro e w' ⟨rfl,o',h1,h2,h3⟩
 exact⟨rfl,_,⟨o',h1,rfl⟩,h2,h3.more (fun i hi => .inl hi)⟩
theorem rGetA (hn:n<2^40)(a:Int)(h:(rOb base b n all K).At w0 A G s w) :
  Calls Tryz.prog 41 #[.pointer (some ⟨b,0,none⟩),.int .i64 a] w fun e w'=>e = .returned (.int .u32 ((getV n K s a:Nat):Int))/\(rOb base b n all K).At w0 A G (getS n K s a) w'/\Stay G w w':=by
 refine h.call ?_
 rintro B ⟨v,hI,rfl⟩
 refine(qH6 a (by have:=hI.ok.few;omega) w hI).mono ?_
 rintro e w' ⟨rfl,v',h1,h2,h3⟩
 exact⟨rfl,_,⟨v',h1,rfl⟩,h2,h3⟩
theorem rPutA (hn:n<2^40)(a:Int)(x:Nat)(hx:x<2^32)(h:(rOb base b n all K).At w0 A G s w) :
  Calls Tryz.prog 43 #[.pointer (some ⟨b,0,none⟩),.int .i64 a,.int .u32 (x:Int)] w fun e w'=>e = .returned (.tuple #[])/\(rOb base b n all K).At w0 A G (putS n s a x) w'/\Stay G w w':=by
 refine h.call ?_
 rintro B ⟨v,hI,rfl⟩
 refine(qIQ a x hx (by have:=hI.ok.few;omega) w hI).mono ?_
 rintro e w' ⟨rfl,v',h1,h2,h3⟩
 exact⟨rfl,_,⟨v',h1,rfl⟩,h2,h3⟩
end
end
end Go.Proofs.YtjjfcaliippgpaaGreatDoor
namespace Go.Proofs.YtjjfcaliippgpaaGreatDoor.HM

theorem bit_eq (x k:Nat):x / 2^k%2=(x.testBit k).toNat:=by
 rw[Nat.testBit_eq_decide_div_mod_eq]
 rcases Nat.mod_two_eq_zero_or_one (x / 2^k) with h|h <;> simp[h]

def getN (w a k:Nat):Nat:=w / 2^a%2^k
def putN (w a k v:Nat):Nat:=(w &&& (2^64-1-(2^k-1)*2^a)) ||| v*2^a

theorem mask_lt (a k:Nat)(h:a+k<=64):(2^k-1)*2^a<2^64:=by
 have h1:(2^k-1)*2^a<2^k*2^a:=(Nat.mul_lt_mul_right (Nat.two_pow_pos a)).2 (by have:=Nat.two_pow_pos k;omega)
 rw[<- Nat.pow_add] at h1
 exact Nat.lt_of_lt_of_le h1 (Nat.pow_le_pow_right qo qo)

theorem bit_putN (w a k v i:Nat)(h:a+k<=64)(hv:v<2^k)(hi:i<64):(putN w a k v).testBit i=if a<=i/\i<a+k then v.testBit (i-a) else w.testBit i:=by
 unfold putN
 rw[Nat.testBit_or,Nat.testBit_and,Nat.sub_sub,Nat.add_comm 1,Nat.testBit_two_pow_sub_succ (mask_lt a k h),Nat.testBit_mul_two_pow,Nat.testBit_mul_two_pow,Nat.testBit_two_pow_sub_one]
 by_cases h1:a<=i
 ·by_cases h2:i<a+k
  ·have h3:i-a<k:=qo
   simp[h1,h2,h3,hi]
  ·have h3:¬ i-a<k:=qo
   have h4:v.testBit (i-a)=false:=Nat.testBit_lt_two_pow (Nat.lt_of_lt_of_le hv (Nat.pow_le_pow_right qo qo))
   simp[h1,h2,h3,h4,hi]
 ·simp[h1,hi]

theorem putN_lt (w a k v:Nat)(h:a+k<=64)(hv:v<2^k):putN w a k v<2^64:=by
 have h1:v*2^a<2^64:=by
  have h2:v*2^a<2^k*2^a:=(Nat.mul_lt_mul_right (Nat.two_pow_pos a)).2 hv
  rw[<- Nat.pow_add] at h2
  exact Nat.lt_of_lt_of_le h2 (Nat.pow_le_pow_right qo qo)
 unfold putN
 refine Nat.or_lt_two_pow (Nat.lt_of_le_of_lt Nat.and_le_right ?_) h1
 have:=Nat.two_pow_pos 64
 omega

theorem bit_high {x i:Nat}(h:x<2^64)(hi:64<=i):x.testBit i=false :=
 Nat.testBit_lt_two_pow (Nat.lt_of_lt_of_le h (Nat.pow_le_pow_right qo hi))

def onesTo (v k:Nat):Nat:=((List.range k).filter fun i=>v.testBit i).length
def freeTo (v k:Nat):List Nat:=(List.range k).filter fun i => !v.testBit i
theorem onesTo_succ (v k:Nat):onesTo v (k+1)=onesTo v k+if v.testBit k then 1 else 0:=by
 unfold onesTo
 rw[List.range_succ,List.filter_append,List.length_append]
 cases h:v.testBit k <;> simp[h]
theorem onesTo_le (v k:Nat):onesTo v k<=k:=by
 unfold onesTo
 exact Nat.le_trans (List.length_filter_le _ _) (by simp)
theorem freeTo_succ (v k:Nat):freeTo v (k+1)=freeTo v k++if v.testBit k then [] else [k]:=by
 unfold freeTo
 rw[List.range_succ,List.filter_append]
 cases h:v.testBit k <;> simp[h]
theorem freeTo_le (v k:Nat):(freeTo v k).length<=k:=by
 unfold freeTo
 exact Nat.le_trans (List.length_filter_le _ _) (by simp)
theorem ones_free (v k:Nat):onesTo v k+(freeTo v k).length=k:=by
 induction k with
 | zero=>rfl
 | succ k ih =>
  rw[onesTo_succ,freeTo_succ,List.length_append]
  cases h:v.testBit k <;> simp <;> omega

def logI (n:Int):Int:=if n<1 then -1 else (Nat.log2 n.toNat:Int)
theorem logI_at (n:Int)(k:Nat)(h1:1<=n / 2^k)(h2:n / 2^(k+1)<1):logI n=k:=by
 have hp:(0:Int)<2^k:=Int.pow_pos qo
 have hn:1<=n:=by
  have h3:=(Int.le_ediv_iff_mul_le hp).1 h1
  omega
 obtain⟨m,rfl⟩:=Int.eq_ofNat_of_zero_le (show 0<=n by omega)
 unfold logI
 rw[if_neg qo,Int.toNat_natCast]
 have h4:2^k<=m:=by
  have h3:=(Int.le_ediv_iff_mul_le hp).1 h1
  rw[Int.one_mul] at h3
  exact_mod_cast h3
 have h5:m<2^(k+1):=by
  have h3:=(Int.ediv_lt_iff_lt_mul (Int.pow_pos qo)).1 h2
  rw[Int.one_mul] at h3
  exact_mod_cast h3
 have:m≠0:=by have:=Nat.two_pow_pos k;omega
 have e:Nat.log2 m=k:=by
  rw[Nat.log2_eq_iff this]
  exact⟨h4,h5⟩
 rw[e]
theorem logI_no (n:Int)(h:n<1):logI n = -1:=by unfold logI;rw[if_pos h]

end Go.Proofs.YtjjfcaliippgpaaGreatDoor.HM

