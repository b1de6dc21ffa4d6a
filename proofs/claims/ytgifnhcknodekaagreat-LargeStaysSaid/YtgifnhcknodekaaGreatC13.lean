/-
  The document's blocks. Written by doc12/gen_docblocks.py.
-/
import Derived.Test.YtgifnhcknodekaaGreatC12
import Derived.Test.YtgifnhcknodekaaGreatC07
import Derived.Deep.AppendLies
import Derived.Test.YtgifnhcknodekaaGreatC08
import Derived.Test.YtgifnhcknodekaaGreatC04
import Derived.Test.YtgifnhcknodekaaGreatCDocFeet
import Derived.Test.YtgifnhcknodekaaGreatC11
import Derived.Test.YtgifnhcknodekaaGreatCDocLoose
import Derived.Test.YtgifnhcknodekaaGreatC06
namespace Go.Proofs.YtgifnhcknodekaaGreat
theorem Rtb {P Q:Prop}(kq:Q)(h:HQ Q->P:=by
 intro kq
 refine wp_region_held_drew (S:=(fun w'=>w'.cell? ⟨w.heap.size,0,none⟩=some (.int .i64 (H.t:Int))/\w'.cell? ⟨w.heap.size,1,none⟩=some (.int .i64 (H.p:Int))/\w'.cell? ⟨w.heap.size,2,none⟩=some (.int .i64 (H.s:Int))/\w'.cell? ⟨w.heap.size,3,none⟩=some (.slice (some ad) n c)/\w'.cell? (ad.add j)=some (.int .u32 (v:Int)))) qr ?_ (fun hHeld=>?_)
 ·exact Mok
 refine tkz 0 ?_
 refine tkz 1 ?_
 refine tkz 2 ?_
 refine rdz 3 fun K hK=>?_
 go_simp
 go_at_call 54
 refine(qSB _ _).mono ?_
 rintro e w9 ⟨rfl,rfl⟩
 rw[HRT.o]
 refine qk ?_ (fun hHeld=>?_)
 ·first|exact HS.o _ (Bdrew (B0 _))|exact hHeld
 clear hK K
 refine tkz 4 ?_
 refine tkz 5 ?_
 refine tkz 6 ?_
 refine tkz 7 ?_
 refine dnz ?_
 revert hHeld
 exact kq.o):P:=h ⟨kq⟩
theorem RiX {P Q:Prop}(kq:Q)(h:HQ Q->P:=by
 intro kq
 go_at_call 55
 refine(qDP H.t H.p H.s _).mono ?_
 rintro e w2 ⟨rfl,hb2⟩
 rw[HRI.o]
 have HB2:=qh (Bgo HBW.o hb2)
 have HX2:=qh (HX0.o.keep hb2)
 clear hb2
 obtain⟨c0,c1,c2⟩:=HX2.o.three
 revert w2 HB2 HX2 c0 c1 c2
 exact kq.o):P:=h ⟨kq⟩
theorem Rye {P Q:Prop}(kq:Q)(h:HQ Q->P:=by
 intro kq
 go_at_call 56
 refine(qIM H.t H.p H.s _).mono ?_
 rintro e w3 ⟨rfl,hb3⟩
 rw[HLC.o]
 have HB3:=qh (Bgo HB2.o hb3)
 have HX3:=qh (HX2.o.keep hb3)
 clear hb3
 obtain⟨c0,c1,c2⟩:=HX3.o.three
 obtain⟨x0,x1,x2,x3⟩:=(Held.new w3 88 #[.int .i64 (H.t:Int),.int .i64 (H.p:Int),.int .i64 (H.s:Int),.slice (some ad) n c]).four
 revert w3 HB3 HX3 c0 c1 c2 x0 x1 x2 x3
 exact kq.o):P:=h ⟨kq⟩
theorem RH5 {P Q:Prop}(kq:Q)(h:HQ Q->P:=by
 intro kq
 go_at_call 57
 refine(HR1.o _ (HVL.o.below (Bnew HB3.o (.cells #[.int .i64 (H.t:Int),.int .i64 (H.p:Int),.int .i64 (H.s:Int),.slice (some ad) n c] 88)))).mono ?_
 rintro e w4 ⟨rfl,hb4⟩
 have HB4:=qh (Bgo (Bnew HB3.o (.cells #[.int .i64 (H.t:Int),.int .i64 (H.p:Int),.int .i64 (H.s:Int),.slice (some ad) n c] 88)) hb4)
 have HX4:=qh ((Held.new w3 88 #[.int .i64 (H.t:Int),.int .i64 (H.p:Int),.int .i64 (H.s:Int),.slice (some ad) n c]).keep hb4)
 clear hb4
 obtain⟨x0,x1,x2,x3⟩:=HX4.o.four
 revert w4 HB4 HX4 x0 x1 x2 x3
 exact kq.o):P:=h ⟨kq⟩
theorem Ry7 {P Q:Prop}(kq:Q)(h:HQ Q->P:=by
 intro kq
 go_at_call 58
 refine(HR2.o _ (HVL.o.below HB4.o)).mono ?_
 rintro e w5 ⟨rfl,hb5⟩
 have HB5:=qh (Bgo HB4.o hb5)
 have HX5:=qh (HX4.o.keep hb5)
 clear hb5
 obtain⟨x0,x1,x2,x3⟩:=HX5.o.four
 revert w5 HB5 HX5 x0 x1 x2 x3
 exact kq.o):P:=h ⟨kq⟩
theorem RFC {P Q:Prop}(kq:Q)(h:HQ Q->P:=by
 intro kq
 go_at_call 59
 refine(HR3.o _ (HVL.o.below HB5.o)).mono ?_
 rintro e w6 ⟨rfl,hb6⟩
 have HB6:=qh (Bgo HB5.o hb6)
 have HX6:=qh (HX5.o.keep hb6)
 clear hb6
 obtain⟨x0,x1,x2,x3⟩:=HX6.o.four
 revert w6 HB6 HX6 x0 x1 x2 x3
 exact kq.o):P:=h ⟨kq⟩
theorem RNO {P Q:Prop}(kq:Q)(h:HQ Q->P:=by
 intro kq
 go_at_call 60
 refine(HR4.o _ (HVL.o.below HB6.o)).mono ?_
 rintro e w7 ⟨rfl,hb7⟩
 have HB7:=qh (Bgo HB6.o hb7)
 have HX7:=qh (HX6.o.keep hb7)
 clear hb7
 obtain⟨x0,x1,x2,x3⟩:=HX7.o.four
 revert w7 HB7 HX7 x0 x1 x2 x3
 exact kq.o):P:=h ⟨kq⟩
theorem RB0 {P Q:Prop}(kq:Q)(h:HQ Q->P:=by
 intro kq
 go_at_call 61
 refine(HR5.o _ (HVL.o.below HB7.o)).mono ?_
 rintro e w8 ⟨rfl,hb8⟩
 have HB8:=qh (Bgo HB7.o hb8)
 have HX8:=qh (HX7.o.keep hb8)
 clear hb8
 obtain⟨x0,x1,x2,x3⟩:=HX8.o.four
 revert w8 HB8 HX8 x0 x1 x2 x3
 exact kq.o):P:=h ⟨kq⟩
theorem Rfm {P Q:Prop}(kq:Q)(h:HQ Q->P:=by
 intro kq
 go_at_call 62
 refine(HR6.o _ (HVL.o.below HB8.o)).mono ?_
 rintro e w9 ⟨rfl,hb9⟩
 have HB9:=qh (Bgo HB8.o hb9)
 have HX9:=qh (HX8.o.keep hb9)
 clear hb9
 obtain⟨x0,x1,x2,x3⟩:=HX9.o.four
 revert w9 HB9 HX9 x0 x1 x2 x3
 exact kq.o):P:=h ⟨kq⟩
theorem RCS {P Q:Prop}(kq:Q)(h:HQ Q->P:=by
 intro kq
 go_at_call 63
 refine(HR7.o _ (HVL.o.below HB9.o)).mono ?_
 rintro e w10 ⟨rfl,hb10⟩
 have HB10:=qh (Bgo HB9.o hb10)
 have HX10:=qh (HX9.o.keep hb10)
 clear hb10
 obtain⟨x0,x1,x2,x3⟩:=HX10.o.four
 revert w10 HB10 HX10 x0 x1 x2 x3
 exact kq.o):P:=h ⟨kq⟩
theorem Rwb {P Q:Prop}(kq:Q)(h:HQ Q->P:=by
 intro kq
 go_at_call 64
 refine(HR8.o _ (HVL.o.below HB10.o)).mono ?_
 rintro e w11 ⟨rfl,hb11⟩
 have HB11:=qh (Bgo HB10.o hb11)
 have HX11:=qh (HX10.o.keep hb11)
 clear hb11
 obtain⟨x0,x1,x2,x3⟩:=HX11.o.four
 revert w11 HB11 HX11 x0 x1 x2 x3
 exact kq.o):P:=h ⟨kq⟩
theorem R8l {P Q:Prop}(kq:Q)(h:HQ Q->P:=by
 intro kq
 go_at_call 65
 refine(HR9.o _ (HVL.o.below HB11.o)).mono ?_
 rintro e w12 ⟨rfl,hb12⟩
 have HB12:=qh (Bgo HB11.o hb12)
 have HX12:=qh (HX11.o.keep hb12)
 clear hb12
 obtain⟨x0,x1,x2,x3⟩:=HX12.o.four
 revert w12 HB12 HX12 x0 x1 x2 x3
 exact kq.o):P:=h ⟨kq⟩
theorem MLZ {P:Prop}(h:P:=by first|exact(qOX HP.o HNL.o hxx).2|exact(qOX (HP.o.alloc (.cells #[.int .i64 a,.int .i64 z] 59)) HNL.o hxx).2|exact(qOX HP8.o HNL.o hxx).2|exact hHeld):P:=h
theorem M7M {P:Prop}(h:P:=by
 go_roundw
 case rel=>exact⟨i+1,qo,by go_num,HOK1,qh HX.o.drew,qh HO.o.drew,qh (Bdrew HB.o)⟩
 case measure=>simp[intOf];omega):P:=h
theorem Mok {P:Prop}(h:P:=by
 (try dsimp only)
 first|exact HS.o _ (Bdrew (B0 _))|exact hHeld):P:=h
end Go.Proofs.YtgifnhcknodekaaGreat
set_option linter.unusedVariables false
set_option linter.unusedSimpArgs false
set_option maxRecDepth 100000
set_option maxHeartbeats 25600000
namespace Go.Proofs.YtgifnhcknodekaaGreat
open Go.ChangeShapes Go.WideShapes Go.ChangeAt Go.RowKit Go.Shelf
section
theorem qGH {w:World}{base n g cap:Nat}{e:TypeId}{l:List (Int × Int)}(h:w.ownsRow base e 2 (.slice (some ⟨g,0,none⟩) n cap) n (bkVs l))(hn:l.length=n){i:Nat}{x:Int × Int}(hx:l[i]?=some x) :
  w.cell? ⟨g,i*2,none⟩=some (.int .i64 x.1)/\w.cell? ⟨g,i*2+1,none⟩=some (.int .i64 x.2):=by
 have hi:i<n:=by
  rcases Nat.lt_or_ge i n with h1|h1
  ·exact h1
  ·rw[List.getElem?_eq_none qo] at hx;cases hx
 have hg:∀ (l:List (Int × Int)) (i:Nat) (x:Int × Int),l[i]?=some x->(bkVs l)[i*2]?=some (.int .i64 x.1)/\(bkVs l)[i*2+1]?=some (.int .i64 x.2):=by
  intro l
  induction l with
  | nil=>intro i x h;simp at h
  | cons y l ih =>
   intro i x h
   have e:bkVs (y :: l) = [.int .i64 y.1,.int .i64 y.2]++bkVs l:=by simp[bkVs]
   rcases i with _|i
   ·simp at h;subst h;simp[bkVs]
   ·have h':l[i]?=some x:=by simpa using h
    obtain⟨h1,h2⟩:=ih i x h'
    have g:∀ k,(bkVs (y :: l))[(i*2+k)+2]?=(bkVs l)[i*2+k]?:=fun k=>by
     rw[e,List.getElem?_append_right (by simp)]
     simp
    exact⟨by have:=g 0;rw[Nat.add_zero] at this;rw[show (i+1)*2=i*2+2 by omega,this];exact h1,by rw[show (i+1)*2+1=(i*2+1)+2 by omega,g];exact h2⟩
 obtain⟨h1,h2⟩:=hg l i x hx
 exact⟨(h.cellAt _ qo).trans h1,(h.cellAt _ qo).trans h2⟩

theorem qMm {H:AuH}{n c:Nat}(HV:HeapV H n c)(ad:Addr)(w:World)(hv:IsVals w ad n H.V) :
  Calls Tryz.prog 90 #[hpV H ad n c] w fun e w'=>∃ u,e = .returned u/\w'.ownsRow w.heap.size 59 2 u (blocksOf H.parts).length (bkVs (blocksOf H.parts))/\Below w.heap.size w w':=by
 have HVL:=qh hv
 have hpl:=AuH.parts_len (H:=H) H.p
 have hpp:=HV.nums.2.2.2.1
 obtain⟨j0,hjn,hjz0,hjz1,hjz2⟩:=info_parts blockInfo
 have HX0:=qh ((Held.new w 88 #[.int .i64 (H.t:Int),.int .i64 (H.p:Int),.int .i64 (H.s:Int),.slice (some ad) n c]).alloc (.cells #[] 59))
 obtain⟨c0,c1,c2,c3⟩:=HX0.o.four
 have HBW:=qh (Bnew (Bnew (B0 w) (.cells #[.int .i64 (H.t:Int),.int .i64 (H.p:Int),.int .i64 (H.s:Int),.slice (some ad) n c] 88)) (.cells #[] 59))
 have HOW:qH (((w.alloc (.cells #[.int .i64 (H.t:Int),.int .i64 (H.p:Int),.int .i64 (H.s:Int),.slice (some ad) n c] 88)).alloc (.cells #[] 59)).ownsRow (w.heap.size+1) 59 2 (.slice (some ⟨(w.alloc (.cells #[.int .i64 (H.t:Int),.int .i64 (H.p:Int),.int .i64 (H.s:Int),.slice (some ad) n c] 88)).heap.size,0,none⟩) 0 0) 0 []):=qh (World.ownsRow_lit (base:=(w.heap.size+1)) (e := 59) (size:=2) (w.alloc (.cells #[.int .i64 (H.t:Int),.int .i64 (H.p:Int),.int .i64 (H.s:Int),.slice (some ad) n c] 88)) #[] 0 (by simp) (by unfold maxLen;omega) rfl)
 rw[World.size_alloc] at HOW
 have HW0:qH (w.heap.size<((w.alloc (.cells #[.int .i64 (H.t:Int),.int .i64 (H.p:Int),.int .i64 (H.s:Int),.slice (some ad) n c] 88)).alloc (.cells #[] 59)).heap.size):=qh qs
 obtain⟨L,hL⟩:∃ L,H.parts=L:=⟨_,rfl⟩
 have HLL:=qh hL
 have hpl:L.length<=40000:=by rw[<- hL];unfold AuH.parts;omega
 obtain⟨nl,hnl⟩:∃ nl,L.length=nl:=⟨_,rfl⟩
 rw[hnl] at hpl
 have HNL:=qh hnl
 clear hL hnl hv
 unfold hpV
 go_enter Tryz.func90,Tryz.ntmps90
 go_wp2_with (first
  | (go_at_call 126;refine(qIF HV ad _ (HVL.o.below HBW.o)).mono ?_;rintro e w2 ⟨v,rfl,hown2,hb2⟩;rw[HLL.o,HNL.o] at hown2;obtain⟨Av,cv,rfl⟩:=qKK hown2;have HP2:=qh hown2;have HB2:=qh (Bgo HBW.o hb2);have HO2:=qh (qEc HOW.o hb2);have HSZ:=qh hb2.size;clear hown2 hb2)
  | fail)
 generalize (w.alloc (.cells #[.int .i64 (H.t:Int),.int .i64 (H.p:Int),.int .i64 (H.s:Int),.slice (some ad) n c] 88)).alloc (.cells #[] 59)=W0 at *
 have HCV:=qh (qJH HP2.o)
 have hcv:nl<=cv/\cv<=9223372036854775807:=HCV.o
 have HNE0:qH (∀ g,w2.heap.size<=g\/g<W0.heap.size->∀ gg,(Value.slice Av nl cv).ownBlock=some gg->gg≠g):=qh (fun g hg gg hgg e=>by have:=HP2.o.lt gg hgg;omega)
 clear c0 c1 c2 c3 HBW HX0
 go_loopw [3,5] (fun u3 u5 wr=>∃ (i k:Nat),i<=nl/\u5 = .int .i64 (i:Int)/\k<=i/\qH ((blocksOf (L.take i)).length=k)/\qH (wr.ownsRow (w.heap.size+1) 59 2 u3 k (bkVs (blocksOf (L.take i))))/\qH (wr.ownsRow W0.heap.size 143 3 (.slice Av nl cv) nl (ptVs L))/\qH (∀ g,u3.ownBlock=some g->w2.heap.size<=g\/g<W0.heap.size)/\qH (w2.heap.size<=wr.heap.size)/\qH (Below w.heap.size w wr)) (fun _ u5 _=>nl-(intOf u5).toNat)
 case atStart=>exact⟨0,0,qo,rfl,qo,qh rfl,HO2,HP2,qh (fun g h => .inr (HOW.o.lt g h).2),qh (Nat.le_refl _),HB2⟩
 case round =>
  clear HO2 HP2 HB2
  obtain⟨i,k,hi,rfl,hki,HM,HO,HP,HW,HWS,HB⟩:=hrel
  by_cases hlt:i<nl
  ·obtain⟨x,hx⟩:∃ x,L[i]?=some x:=⟨_,List.getElem?_eq_getElem (by have:=HNL.o;omega)⟩
   obtain⟨gv,cv',hvv,hbv,hlv⟩:=HP.o.form qo
   injection hvv with hvv hn0 hcc
   subst hvv
   subst hcc
   obtain⟨kd,a,z⟩:=x
   obtain⟨p0,p1,p2⟩:=qOX HP.o HNL.o hx
   have HTK:qH (L.take (i+1)=L.take i ++ [(kd,a,z)]):=qh (by rw[List.take_add_one,hx];rfl)
   have t0:decide ((i:Int)<nl)=true:=qt
   have t0n:decide (i<nl)=true:=decide_eq_true hlt
   have hxx:=hx
   simp only at p0 p1 p2
   have hbs:=HWS.o
   have hbs2:w.heap.size+1<=w2.heap.size:=by have:=HSZ.o;have:=HW0.o;omega
   clear hn0 hx
   by_cases h2:kd=2
   ·subst h2
    have HB1:qH (blocksOf (L.take (i+1))=blocksOf (L.take i) ++ [(a,z)]):=qh (by rw[HTK.o,qGG,qId rfl])
    have HNE:qH (∀ gg,gv=gg->u3.ownBlock≠some gg):=qh (fun gg e h=>by subst e;exact HNE0.o gv (HW.o gv h) gv rfl rfl)
    go_wp2_with fail
    refine wp_region_held_drew (S:=(fun w'=>w'.cell? ⟨gv,i*3+1,none⟩=some (.int .i64 a)/\w'.cell? ⟨gv,i*3+2,none⟩=some (.int .i64 z))) qr ?_ (fun hHeld=>?_)
    ·(try dsimp only)
     exact MLZ
    refine Rxn ?_
    refine tkz 7 ?_
    refine RYy ?_
    refine tkz 11 ?_
    refine rdz 12 fun K hK=>?_
    go_simp
    skip
    refine qk ?_ (fun hHeld=>?_)
    ·exact MLZ
    clear hK K
    refine rdz 13 fun K hK=>?_
    (refine step_append_lies _ (by rfl) _ _ 48 (by rfl) (w.heap.size+1) 59 j0 (.agg #[.int .i64 0,.int .i64 0]) 2 16 Tryz.underlying48 hjn hjz0 hjz1 hjz2 rfl (by decide) u3 k (bkVs (blocksOf (L.take i))) (by rfl) (HO.o.drew.alloc _) ⟨_,0,none⟩ 1 1 [.int .i64 a,.int .i64 z] (by rfl) rfl (fun jj yy hyy=>World.news_of_block (w:=wr.drew.alloc (.cells #[.int .i64 a,.int .i64 z] 59)) (heap_alloc_new wr.drew _) jj yy (by simpa using hyy)) (by simp[Value.oneCell']) qo (by unfold maxLen;omega) qo qs _ rfl ?_;intro g cap w8 hown8 hgrow8 hat8 hlt8;have HP8:=qh (qWQ (HP.o.alloc (.cells #[.int .i64 a,.int .i64 z] 59)) (fun gg hgg=>hgrow8.block gg (((HP.o.alloc (.cells #[.int .i64 a,.int .i64 z] 59)).lt gg hgg).2) (fun e=>HNE.o gg (Option.some.inj (hgg)) e.symm)));have HB8:=qh ((Bnew (Bdrew HB.o) (.cells #[.int .i64 a,.int .i64 z] 59)).grown hgrow8 (by have:=HB.o.size;simp;omega) (fun j hj=>by have:=(HO.o.lt j hj).1;omega));have HSG:qH (w2.heap.size<=w8.heap.size):=qh (by have:=hgrow8.size;simp at this;omega);have HAT:=qh hat8;have HO8:=qh hown8;clear hown8 hgrow8 hat8 hlt8)
    refine qk ?_ (fun hHeld=>?_)
    ·exact MLZ
    clear hK K
    refine tkz 14 ?_
    refine dnz ?_
    have HM1:qH ((blocksOf (L.take (i+1))).length=k+1):=qh (by rw[HB1.o,List.length_append,HM.o];rfl)
    have HO9:qH (w8.ownsRow (w.heap.size+1) 59 2 (.slice (some ⟨g,0,none⟩) (k+1) cap) (k+1) (bkVs (blocksOf (L.take (i+1))))):=qh (by rw[HB1.o,qU4];exact HO8.o)
    have HW9:qH (∀ gg,(Value.slice (some ⟨g,0,none⟩) (k+1) cap).ownBlock=some gg->w2.heap.size<=gg\/gg<W0.heap.size):=qh (fun gg hgg=>by
     have hgg:g=gg:=by simpa [Value.ownBlock] using hgg
     subst hgg
     rcases HAT.o with h|h
     ·exact HW.o _ h
     ·left;simp at h;have:=HWS.o;omega)
    have HS9:qH (w2.heap.size<=w8.heap.size):=HSG
    go_wp2_with fail
    go_roundw
    case rel=>exact⟨i+1,k+1,qo,by go_num,qo,HM1,HO9,HP8,HW9,HS9,HB8⟩
    case measure=>simp[intOf];omega
   ·have HB1:qH (blocksOf (L.take (i+1))=blocksOf (L.take i)):=qh (by rw[HTK.o,qGG,qCe h2,List.append_nil])
    have q0:(kd==2)=false:=by simpa using h2
    clear h2
    go_wp2_with fail
    go_roundw
    case rel=>exact⟨i+1,k,qo,by go_num,qo,qh (by rw[HB1.o];exact HM.o),qh (by rw[HB1.o];exact HO.o),HP,HW,HWS,HB⟩
    case measure=>simp[intOf];omega
  ·have t0:decide ((i:Int)<nl)=false:=qf
   have t0n:decide (i<nl)=false:=decide_eq_false hlt
   have HTA:qH (L.take i=L):=qh (List.take_of_length_le (by have:=HNL.o;omega))
   go_wp2_with fail
   go_ret
   refine⟨_,rfl,?_,HB.o⟩
   have h:=HO.o
   have h2:=HM.o
   rw[HTA.o] at h h2
   rw[HLL.o,h2]
   exact qIX h qo
end
section
theorem qLZ (l:List (Int × Int))(A:Option Addr)(nl cl:Nat)(a:Int)(w:World)(base:Nat)(hO:w.ownsRow base 59 2 (.slice A nl cl) nl (bkVs l))(hln:l.length=nl)(hcl:nl<=cl/\cl<=9223372036854775807)(hnl:nl<=100000)(b:Bool)(hb:b=true ↔ ∃ x∈l,x.1=a) :
  Calls Tryz.prog 24 #[.slice A nl cl,.int .i64 a] w fun e w'=>e = .returned (.bool b)/\w=w':=by
 have HO:=qh hO
 have HLN:=qh hln
 have HBC:=qh hb
 obtain⟨hcl1,hcl2⟩:=hcl
 clear hO hln hb
 go_enter Tryz.func24,Tryz.ntmps24
 go_wp2_with fail
 go_loopw [5] (fun u5 wr=>∃ (k:Nat),k<=nl/\u5 = .int .i64 (k:Int)/\qH (∀ x∈l.take k,x.1≠a)/\wr=w) (fun u5 _=>nl-(intOf u5).toNat)
 case atStart=>exact⟨0,qo,rfl,qh (by simp),rfl⟩
 case round =>
  obtain⟨k,hk,rfl,HNO,rfl⟩:=hrel
  by_cases hlt:k<nl
  ·have t0:decide ((k:Int)<nl)=true:=qt
   have t0n:decide (k<nl)=true:=decide_eq_true hlt
   obtain⟨x,hx⟩:∃ x,l[k]?=some x:=⟨_,List.getElem?_eq_getElem (by have:=HLN.o;omega)⟩
   obtain⟨gv,cv',hvv,hbv,hlv⟩:=HO.o.form qo
   injection hvv with hvv hn0 hcc
   subst hvv
   subst hcc
   obtain⟨p0,p1⟩:=qGH HO.o HLN.o hx
   have HTK:qH (l.take (k+1)=l.take k ++ [x]):=qh (by rw[List.take_add_one,hx];rfl)
   have HMX:qH (x∈l):=qh (List.mem_of_getElem? hx)
   obtain⟨xa,xz⟩:=x
   simp only at p0 p1
   clear hn0 hx
   by_cases hxa:xa=a
   ·have q0:(xa==a)=true:=by simpa using hxa
    have HBT:qH (b=true):=qh (HBC.o.2 ⟨_,HMX.o,hxa⟩)
    clear hxa
    go_wp2_with fail
    go_ret
    exact⟨by rw[HBT.o];rfl,rfl⟩
   ·have q0:(xa==a)=false:=by simpa using hxa
    have HN1:qH (∀ x∈l.take (k+1),x.1≠a):=qh (fun y hy=>by
     rw[HTK.o] at hy
     rcases List.mem_append.1 hy with hy|hy
     ·exact HNO.o y hy
     ·have:y=(xa,xz):=by simpa using hy
      subst this
      exact hxa)
    clear hxa
    go_wp2_with fail
    go_roundw
    case rel=>exact⟨k+1,qo,by go_num,HN1,(by first|rfl|trivial)⟩
    case measure=>simp[intOf];omega
  ·have t0:decide ((k:Int)<nl)=false:=qf
   have t0n:decide (k<nl)=false:=decide_eq_false hlt
   have HBF:qH (b=false):=qh (qE5 HBC.o (fun ⟨x,hx,he⟩=>HNO.o x (by rw[List.take_of_length_le (by have:=HLN.o;omega)];exact hx) he))
   go_wp2_with fail
   go_ret
   exact⟨by rw[HBF.o];rfl,rfl⟩

theorem qNX {H:AuH}{n c:Nat}(HV:HeapV H n c)(ad:Addr)(b:Bool)(hb:b=true↔H.R10)(w:World)(hv:IsVals w ad n H.V) :
  Calls Tryz.prog 65 #[hpV H ad n c] w fun e w'=>e = .returned (.bool b)/\Below w.heap.size w w':=by
 have HVL:=qh hv
 have HX0:=qh (Held.new w 88 #[.int .i64 (H.t:Int),.int .i64 (H.p:Int),.int .i64 (H.s:Int),.slice (some ad) n c])
 obtain⟨c0,c1,c2,c3⟩:=HX0.o.four
 have HBW:=qh (Bnew (B0 w) (.cells #[.int .i64 (H.t:Int),.int .i64 (H.p:Int),.int .i64 (H.s:Int),.slice (some ad) n c] 88))
 have hn:=HV.nums
 have hcx:c<=9223372036854775807:=hn.2.2.2.2.2.2.2.2
 have hni:n<=6238:=hn.2.2.2.2.2.2.1
 have hnc:=HV.cap
 have hp1:=hn.2.2.2.1
 have hn30:30<=n:=by have:=HV.len;omega
 have HBC:qH (b=true ↔ ∀ i,i<8->H.V (22+i)≠0->H.LiveAt (H.V (22+i):Int)):=qh hb
 have hpl:=AuH.parts_len (H:=H) H.p
 have hbl:=qY6 H.parts
 have HLI:=qh (fun a=>AuH.live_iff HV a)
 obtain⟨l,hl⟩:∃ l,blocksOf H.parts=l:=⟨_,rfl⟩
 have HLB:=qh hl
 rw[hl] at hbl HLI
 obtain⟨nb,hnb⟩:∃ nb,l.length=nb:=⟨_,rfl⟩
 have HNB:=qh hnb
 have HNL:=qh hnb
 have hnb9:nb<=100000:=by have:H.parts.length<=H.p*33:=hpl;omega
 clear hv hn hb hpl hbl hl hnb
 unfold hpV
 go_enter Tryz.func65,Tryz.ntmps65
 go_wp2_with (first
  | (go_at_call 90;refine(qMm HV ad _ (HVL.o.below HBW.o)).mono ?_;rintro e w2 ⟨u,rfl,hown2,hb2⟩;rw[HLB.o,HNB.o] at hown2;obtain⟨Ab,cb,rfl⟩:=qKK hown2;have HO2:=qh (qIX hown2 HBW.o.size);have HB2:=qh (Bgo HBW.o hb2);have HX2:=qh (HX0.o.keep hb2);clear hown2 hb2)
  | fail)
 have hcc:=qJH HO2.o
 obtain⟨hcc1,hcc2⟩:=hcc
 have hcc2:cb<=9223372036854775807:=hcc2
 clear c0 c1 c2 c3 HX0 HBW
 go_loopw [4] (fun u4 wr=>∃ (i:Nat),i<=8/\u4 = .int .i64 (i:Int)/\qH (∀ k,k<i->H.V (22+k)≠0->H.LiveAt (H.V (22+k):Int))/\qH (Held wr w.heap.size 88 #[.int .i64 (H.t:Int),.int .i64 (H.p:Int),.int .i64 (H.s:Int),.slice (some ad) n c])/\qH (wr.ownsRow w.heap.size 59 2 (.slice Ab nb cb) nb (bkVs l))/\qH (Below w.heap.size w wr)) (fun u4 _=>8-(intOf u4).toNat)
 case atStart=>exact⟨0,qo,rfl,qh (fun k h=>by omega),HX2,HO2,HB2⟩
 case round =>
  clear HX2 HO2 HB2
  obtain⟨i,hi,rfl,HOK,HX,HO,HB⟩:=hrel
  obtain⟨c0,c1,c2,c3⟩:=HX.o.four
  by_cases hlt:i<8
  ·have t0:decide ((i:Int)<8)=true:=qt
   obtain⟨j,hj⟩:∃ j,22+i=j:=⟨_,rfl⟩
   have HRT:qH (nthI 22 8 1 (i:Int)=((j:Nat):Int)):=qh (by rw[qLq qo qo qo];omega)
   have hjn:j<n:=qo
   have hjn2:(j:Int)<n:=qo
   have hv0:=(HVL.o.below HB.o).2 j hjn
   have hbj:(ad.add j).block<wr.heap.size:=by rw[qXL];exact(HVL.o.below HB.o).1
   have hv32:=HV.lt j hjn
   obtain⟨v,hvv⟩:∃ v,H.V j=v:=⟨_,rfl⟩
   have HVV:qH (H.V (22+i)=v):=qh (by rw[hj];exact hvv)
   rw[hvv] at hv0 hv32
   have HS:qH (∀ w',Below wr.heap.size wr w'->(fun w'=>w'.cell? ⟨w.heap.size,0,none⟩=some (.int .i64 (H.t:Int))/\w'.cell? ⟨w.heap.size,1,none⟩=some (.int .i64 (H.p:Int))/\w'.cell? ⟨w.heap.size,2,none⟩=some (.int .i64 (H.s:Int))/\w'.cell? ⟨w.heap.size,3,none⟩=some (.slice (some ad) n c)/\w'.cell? (ad.add j)=some (.int .u32 (v:Int))) w'):=qh (fun w' hb=>by have hh:=HX.o.keep hb;exact⟨hh.four.1,hh.four.2.1,hh.four.2.2.1,hh.four.2.2.2,(hb.cell hbj).trans hv0⟩)
   have wv:IntKind.i64.wrap (v:Int)=(v:Int):=qIv qo qo
   have HST:qH ((v≠0->H.LiveAt (v:Int))->∀ k,k<i+1->H.V (22+k)≠0->H.LiveAt (H.V (22+k):Int)):=qh (fun h k hk=>by
    rcases Nat.lt_or_ge k i with h1|h1
    ·exact HOK.o k h1
    ·obtain rfl:k=i:=qo
     rw[HVV.o]
     exact h)
   clear hj hvv hv0 hbj
   by_cases hv1:v=0
   ·have q0:((v:Int) != 0)=false:=qs
    have HOK1:=qh (HST.o (fun h=>absurd hv1 h))
    clear hv1
    go_wp2_with fail
    refine Rtb ?_;intro hHeld
    go_wp2_with fail
    exact M7M
   ·have q0:((v:Int) != 0)=true:=qs
    by_cases hlv:H.LiveAt (v:Int)
    ·have HHA:=qh (fun (W:World) (hO:W.ownsRow w.heap.size 59 2 (.slice Ab nb cb) nb (bkVs l))=>qLZ l Ab nb cb (v:Int) W w.heap.size hO HNL.o ⟨hcc1,hcc2⟩ qo true ⟨fun _=>(HLI.o v).2 hlv,fun _=>rfl⟩)
     have HOK1:=qh (HST.o (fun _=>hlv))
     clear hv1 hlv
     go_wp2_with fail
     refine Rtb ?_;intro hHeld
     go_wp2_with (first
      | (go_at_call 24;refine(HHA.o _ HO.o.drew).mono ?_;rintro e w9 ⟨rfl,rfl⟩)
      | fail)
     exact M7M
    ·have HHA:=qh (fun (W:World) (hO:W.ownsRow w.heap.size 59 2 (.slice Ab nb cb) nb (bkVs l))=>qLZ l Ab nb cb (v:Int) W w.heap.size hO HNL.o ⟨hcc1,hcc2⟩ qo false ⟨fun h=>(by cases h),fun h=>absurd ((HLI.o v).1 h) hlv⟩)
     have HBF:qH (b=false):=qh (qE5 HBC.o (fun h=>hlv (by have h1:=h i hlt;rw[HVV.o] at h1;exact h1 hv1)))
     clear hv1 hlv
     go_wp2_with fail
     refine Rtb ?_;intro hHeld
     go_wp2_with (first
      | (go_at_call 24;refine(HHA.o _ HO.o.drew).mono ?_;rintro e w9 ⟨rfl,rfl⟩)
      | fail)
     go_ret
     exact⟨by rw[HBF.o];rfl,Bdrew HB.o⟩
  ·have t0:decide ((i:Int)<8)=false:=qf
   have HBT:qH (b=true):=qh (HBC.o.2 (fun k hk=>HOK.o k qo))
   exact MnL
end
section
theorem qA2 (t q s:Int)(A:Option Addr)(n c:Nat)(hnc:n<=c)(hc:c<=maxLen)(h:¬ (lC t q s≠0/\(n:Int)=lC t q s))(w:World) :
  Calls Tryz.prog 26 #[.agg #[.int .i64 t,.int .i64 q,.int .i64 s],.slice A n c] w fun e w'=>e = .returned (.tuple #[.int .i64 1,.bool false])/\Below w.heap.size w w':=by
 have HX0:=qh (Held.new w 23 #[.int .i64 t,.int .i64 q,.int .i64 s])
 obtain⟨c0,c1,c2⟩:=HX0.o.three
 have HBW:=qh (Bnew (B0 w) (.cells #[.int .i64 t,.int .i64 q,.int .i64 s] 23))
 cases hr:rightB t q s
 ·have HRI:=qh hr
  clear hr h
  go_enter Tryz.func26,Tryz.ntmps26
  go_wp2_with (first
   | (go_at_call 55;refine(qDP t q s _).mono ?_;rintro e w2 ⟨rfl,hb2⟩;rw[HRI.o];have HB2:=qh (Bgo HBW.o hb2);have HX2:=qh (HX0.o.keep hb2);clear hb2 c0 c1 c2;obtain⟨c0,c1,c2⟩:=HX2.o.three)
   | fail)
  go_ret2
  exact⟨rfl,HB2.o⟩
 ·have HRI:=qh hr
  have hl0:lC t q s≠0:=by
   have:=(qVu hr).5
   have h4:=(qQB t q s).1 hr
   omega
  have hne:¬ (n:Int)=lC t q s:=fun h2=>h ⟨hl0,h2⟩
  obtain⟨l,hl⟩:∃ l,lC t q s=l:=⟨_,rfl⟩
  have HLC:=qh hl
  rw[hl] at hne
  have q0:((n:Int) != l)=true:=by simpa using hne
  clear hr h hl0 hl hne
  go_enter Tryz.func26,Tryz.ntmps26
  go_wp2_with (first
   | (go_at_call 55;refine(qDP t q s _).mono ?_;rintro e w2 ⟨rfl,hb2⟩;rw[HRI.o];have HB2:=qh (Bgo HBW.o hb2);have HX2:=qh (HX0.o.keep hb2);clear hb2 c0 c1 c2;obtain⟨c0,c1,c2⟩:=HX2.o.three)
   | (go_at_call 56;refine(qIM t q s _).mono ?_;rintro e w3 ⟨rfl,hb3⟩;rw[HLC.o];have HB3:=qh (Bgo HB2.o hb3))
   | fail)
  go_ret2
  exact⟨rfl,HB3.o⟩

theorem qSe {H:AuH}{n c:Nat}(HV:HeapV H n c)(ad:Addr)(hr:∀ i,i<1->H.rule i)(hno:¬ H.rule 1)(w:World)(hv:IsVals w ad n H.V) :
  Calls Tryz.prog 26 #[.agg #[.int .i64 (H.t:Int),.int .i64 (H.p:Int),.int .i64 (H.s:Int)],.slice (some ad) n c] w fun e w'=>e = .returned (.tuple #[.int .i64 2,.bool false])/\Below w.heap.size w w':=by
 have HVL:=qh hv
 have HX0:=qh (Held.new w 23 #[.int .i64 (H.t:Int),.int .i64 (H.p:Int),.int .i64 (H.s:Int)])
 obtain⟨c0,c1,c2⟩:=HX0.o.three
 have HBW:=qh (Bnew (B0 w) (.cells #[.int .i64 (H.t:Int),.int .i64 (H.p:Int),.int .i64 (H.s:Int)] 23))
 have HRI:=qh HV.right
 have HLC:qH (lC H.t H.p H.s=(n:Int)):=qh (by have:=(qVu HV.right).5;have:=HV.len;omega)
 have HR1:=qh (fun (W:World) (hv:IsVals W ad n H.V)=>qIG HV ad false ⟨fun h=>(by cases h),fun h=>absurd h hno⟩ W hv)
 have hn:=HV.nums
 have hcx:c<=9223372036854775807:=hn.2.2.2.2.2.2.2.2
 have hni:n<=6238:=hn.2.2.2.2.2.2.1
 have hnc:=HV.cap
 clear hv hr hno hn
 go_enter Tryz.func26,Tryz.ntmps26
 go_wp2_with (first
  | (refine RiX ?_;clear c0 c1 c2;intro w2 HB2 HX2 c0 c1 c2)
  | (refine Rye ?_;clear c0 c1 c2;intro w3 HB3 HX3 c0 c1 c2 x0 x1 x2 x3)
  | (refine RH5 ?_;clear x0 x1 x2 x3;intro w4 HB4 HX4 x0 x1 x2 x3)
  | fail)
 go_ret2
 exact⟨rfl,HB4.o⟩

theorem qTi {H:AuH}{n c:Nat}(HV:HeapV H n c)(ad:Addr)(hr:∀ i,i<2->H.rule i)(hno:¬ H.rule 2)(w:World)(hv:IsVals w ad n H.V) :
  Calls Tryz.prog 26 #[.agg #[.int .i64 (H.t:Int),.int .i64 (H.p:Int),.int .i64 (H.s:Int)],.slice (some ad) n c] w fun e w'=>e = .returned (.tuple #[.int .i64 3,.bool false])/\Below w.heap.size w w':=by
 have HVL:=qh hv
 have HX0:=qh (Held.new w 23 #[.int .i64 (H.t:Int),.int .i64 (H.p:Int),.int .i64 (H.s:Int)])
 obtain⟨c0,c1,c2⟩:=HX0.o.three
 have HBW:=qh (Bnew (B0 w) (.cells #[.int .i64 (H.t:Int),.int .i64 (H.p:Int),.int .i64 (H.s:Int)] 23))
 have HRI:=qh HV.right
 have HLC:qH (lC H.t H.p H.s=(n:Int)):=qh (by have:=(qVu HV.right).5;have:=HV.len;omega)
 have HR1:=qh (fun (W:World) (hv:IsVals W ad n H.V)=>qIG HV ad true ⟨fun _=>hr 1 qo,fun _=>rfl⟩ W hv)
 have HR2:=qh (fun (W:World) (hv:IsVals W ad n H.V)=>qY3 HV (hr 1 qo) ad false ⟨fun h=>(by cases h),fun h=>absurd h hno⟩ W hv)
 have hn:=HV.nums
 have hcx:c<=9223372036854775807:=hn.2.2.2.2.2.2.2.2
 have hni:n<=6238:=hn.2.2.2.2.2.2.1
 have hnc:=HV.cap
 clear hv hr hno hn
 go_enter Tryz.func26,Tryz.ntmps26
 go_wp2_with (first
  | (refine RiX ?_;clear c0 c1 c2;intro w2 HB2 HX2 c0 c1 c2)
  | (refine Rye ?_;clear c0 c1 c2;intro w3 HB3 HX3 c0 c1 c2 x0 x1 x2 x3)
  | (refine RH5 ?_;clear x0 x1 x2 x3;intro w4 HB4 HX4 x0 x1 x2 x3)
  | (refine Ry7 ?_;clear x0 x1 x2 x3;intro w5 HB5 HX5 x0 x1 x2 x3)
  | fail)
 go_ret2
 exact⟨rfl,HB5.o⟩

theorem qQ2 {H:AuH}{n c:Nat}(HV:HeapV H n c)(ad:Addr)(hr:∀ i,i<3->H.rule i)(hno:¬ H.rule 3)(w:World)(hv:IsVals w ad n H.V) :
  Calls Tryz.prog 26 #[.agg #[.int .i64 (H.t:Int),.int .i64 (H.p:Int),.int .i64 (H.s:Int)],.slice (some ad) n c] w fun e w'=>e = .returned (.tuple #[.int .i64 4,.bool false])/\Below w.heap.size w w':=by
 have HVL:=qh hv
 have HX0:=qh (Held.new w 23 #[.int .i64 (H.t:Int),.int .i64 (H.p:Int),.int .i64 (H.s:Int)])
 obtain⟨c0,c1,c2⟩:=HX0.o.three
 have HBW:=qh (Bnew (B0 w) (.cells #[.int .i64 (H.t:Int),.int .i64 (H.p:Int),.int .i64 (H.s:Int)] 23))
 have HRI:=qh HV.right
 have HLC:qH (lC H.t H.p H.s=(n:Int)):=qh (by have:=(qVu HV.right).5;have:=HV.len;omega)
 have HR1:=qh (fun (W:World) (hv:IsVals W ad n H.V)=>qIG HV ad true ⟨fun _=>hr 1 qo,fun _=>rfl⟩ W hv)
 have HR2:=qh (fun (W:World) (hv:IsVals W ad n H.V)=>qY3 HV (hr 1 qo) ad true ⟨fun _=>hr 2 qo,fun _=>rfl⟩ W hv)
 have HR3:=qh (fun (W:World) (hv:IsVals W ad n H.V)=>qVH HV (hr 1 qo) ad false ⟨fun h=>(by cases h),fun h=>absurd h hno⟩ W hv)
 have hn:=HV.nums
 have hcx:c<=9223372036854775807:=hn.2.2.2.2.2.2.2.2
 have hni:n<=6238:=hn.2.2.2.2.2.2.1
 have hnc:=HV.cap
 clear hv hr hno hn
 go_enter Tryz.func26,Tryz.ntmps26
 go_wp2_with (first
  | (refine RiX ?_;clear c0 c1 c2;intro w2 HB2 HX2 c0 c1 c2)
  | (refine Rye ?_;clear c0 c1 c2;intro w3 HB3 HX3 c0 c1 c2 x0 x1 x2 x3)
  | (refine RH5 ?_;clear x0 x1 x2 x3;intro w4 HB4 HX4 x0 x1 x2 x3)
  | (refine Ry7 ?_;clear x0 x1 x2 x3;intro w5 HB5 HX5 x0 x1 x2 x3)
  | (refine RFC ?_;clear x0 x1 x2 x3;intro w6 HB6 HX6 x0 x1 x2 x3)
  | fail)
 go_ret2
 exact⟨rfl,HB6.o⟩

theorem qJb {H:AuH}{n c:Nat}(HV:HeapV H n c)(ad:Addr)(hr:∀ i,i<4->H.rule i)(hno:¬ H.rule 4)(w:World)(hv:IsVals w ad n H.V) :
  Calls Tryz.prog 26 #[.agg #[.int .i64 (H.t:Int),.int .i64 (H.p:Int),.int .i64 (H.s:Int)],.slice (some ad) n c] w fun e w'=>e = .returned (.tuple #[.int .i64 5,.bool false])/\Below w.heap.size w w':=by
 have HVL:=qh hv
 have HX0:=qh (Held.new w 23 #[.int .i64 (H.t:Int),.int .i64 (H.p:Int),.int .i64 (H.s:Int)])
 obtain⟨c0,c1,c2⟩:=HX0.o.three
 have HBW:=qh (Bnew (B0 w) (.cells #[.int .i64 (H.t:Int),.int .i64 (H.p:Int),.int .i64 (H.s:Int)] 23))
 have HRI:=qh HV.right
 have HLC:qH (lC H.t H.p H.s=(n:Int)):=qh (by have:=(qVu HV.right).5;have:=HV.len;omega)
 have HR1:=qh (fun (W:World) (hv:IsVals W ad n H.V)=>qIG HV ad true ⟨fun _=>hr 1 qo,fun _=>rfl⟩ W hv)
 have HR2:=qh (fun (W:World) (hv:IsVals W ad n H.V)=>qY3 HV (hr 1 qo) ad true ⟨fun _=>hr 2 qo,fun _=>rfl⟩ W hv)
 have HR3:=qh (fun (W:World) (hv:IsVals W ad n H.V)=>qVH HV (hr 1 qo) ad true ⟨fun _=>hr 3 qo,fun _=>rfl⟩ W hv)
 have HR4:=qh (fun (W:World) (hv:IsVals W ad n H.V)=>qPG HV ad false ⟨fun h=>(by cases h),fun h=>absurd h hno⟩ W hv)
 have hn:=HV.nums
 have hcx:c<=9223372036854775807:=hn.2.2.2.2.2.2.2.2
 have hni:n<=6238:=hn.2.2.2.2.2.2.1
 have hnc:=HV.cap
 clear hv hr hno hn
 go_enter Tryz.func26,Tryz.ntmps26
 go_wp2_with (first
  | (refine RiX ?_;clear c0 c1 c2;intro w2 HB2 HX2 c0 c1 c2)
  | (refine Rye ?_;clear c0 c1 c2;intro w3 HB3 HX3 c0 c1 c2 x0 x1 x2 x3)
  | (refine RH5 ?_;clear x0 x1 x2 x3;intro w4 HB4 HX4 x0 x1 x2 x3)
  | (refine Ry7 ?_;clear x0 x1 x2 x3;intro w5 HB5 HX5 x0 x1 x2 x3)
  | (refine RFC ?_;clear x0 x1 x2 x3;intro w6 HB6 HX6 x0 x1 x2 x3)
  | (refine RNO ?_;clear x0 x1 x2 x3;intro w7 HB7 HX7 x0 x1 x2 x3)
  | fail)
 go_ret2
 exact⟨rfl,HB7.o⟩

theorem qPx {H:AuH}{n c:Nat}(HV:HeapV H n c)(ad:Addr)(hr:∀ i,i<5->H.rule i)(hno:¬ H.rule 5)(w:World)(hv:IsVals w ad n H.V) :
  Calls Tryz.prog 26 #[.agg #[.int .i64 (H.t:Int),.int .i64 (H.p:Int),.int .i64 (H.s:Int)],.slice (some ad) n c] w fun e w'=>e = .returned (.tuple #[.int .i64 6,.bool false])/\Below w.heap.size w w':=by
 have HVL:=qh hv
 have HX0:=qh (Held.new w 23 #[.int .i64 (H.t:Int),.int .i64 (H.p:Int),.int .i64 (H.s:Int)])
 obtain⟨c0,c1,c2⟩:=HX0.o.three
 have HBW:=qh (Bnew (B0 w) (.cells #[.int .i64 (H.t:Int),.int .i64 (H.p:Int),.int .i64 (H.s:Int)] 23))
 have HRI:=qh HV.right
 have HLC:qH (lC H.t H.p H.s=(n:Int)):=qh (by have:=(qVu HV.right).5;have:=HV.len;omega)
 have HR1:=qh (fun (W:World) (hv:IsVals W ad n H.V)=>qIG HV ad true ⟨fun _=>hr 1 qo,fun _=>rfl⟩ W hv)
 have HR2:=qh (fun (W:World) (hv:IsVals W ad n H.V)=>qY3 HV (hr 1 qo) ad true ⟨fun _=>hr 2 qo,fun _=>rfl⟩ W hv)
 have HR3:=qh (fun (W:World) (hv:IsVals W ad n H.V)=>qVH HV (hr 1 qo) ad true ⟨fun _=>hr 3 qo,fun _=>rfl⟩ W hv)
 have HR4:=qh (fun (W:World) (hv:IsVals W ad n H.V)=>qPG HV ad true ⟨fun _=>hr 4 qo,fun _=>rfl⟩ W hv)
 have HR5:=qh (fun (W:World) (hv:IsVals W ad n H.V)=>qJ0 HV ad false ⟨fun h=>(by cases h),fun h=>absurd h hno⟩ W hv)
 have hn:=HV.nums
 have hcx:c<=9223372036854775807:=hn.2.2.2.2.2.2.2.2
 have hni:n<=6238:=hn.2.2.2.2.2.2.1
 have hnc:=HV.cap
 clear hv hr hno hn
 go_enter Tryz.func26,Tryz.ntmps26
 go_wp2_with (first
  | (refine RiX ?_;clear c0 c1 c2;intro w2 HB2 HX2 c0 c1 c2)
  | (refine Rye ?_;clear c0 c1 c2;intro w3 HB3 HX3 c0 c1 c2 x0 x1 x2 x3)
  | (refine RH5 ?_;clear x0 x1 x2 x3;intro w4 HB4 HX4 x0 x1 x2 x3)
  | (refine Ry7 ?_;clear x0 x1 x2 x3;intro w5 HB5 HX5 x0 x1 x2 x3)
  | (refine RFC ?_;clear x0 x1 x2 x3;intro w6 HB6 HX6 x0 x1 x2 x3)
  | (refine RNO ?_;clear x0 x1 x2 x3;intro w7 HB7 HX7 x0 x1 x2 x3)
  | (refine RB0 ?_;clear x0 x1 x2 x3;intro w8 HB8 HX8 x0 x1 x2 x3)
  | fail)
 go_ret2
 exact⟨rfl,HB8.o⟩

theorem qWo {H:AuH}{n c:Nat}(HV:HeapV H n c)(ad:Addr)(hr:∀ i,i<6->H.rule i)(hno:¬ H.rule 6)(w:World)(hv:IsVals w ad n H.V) :
  Calls Tryz.prog 26 #[.agg #[.int .i64 (H.t:Int),.int .i64 (H.p:Int),.int .i64 (H.s:Int)],.slice (some ad) n c] w fun e w'=>e = .returned (.tuple #[.int .i64 7,.bool false])/\Below w.heap.size w w':=by
 have HVL:=qh hv
 have HX0:=qh (Held.new w 23 #[.int .i64 (H.t:Int),.int .i64 (H.p:Int),.int .i64 (H.s:Int)])
 obtain⟨c0,c1,c2⟩:=HX0.o.three
 have HBW:=qh (Bnew (B0 w) (.cells #[.int .i64 (H.t:Int),.int .i64 (H.p:Int),.int .i64 (H.s:Int)] 23))
 have HRI:=qh HV.right
 have HLC:qH (lC H.t H.p H.s=(n:Int)):=qh (by have:=(qVu HV.right).5;have:=HV.len;omega)
 have HR1:=qh (fun (W:World) (hv:IsVals W ad n H.V)=>qIG HV ad true ⟨fun _=>hr 1 qo,fun _=>rfl⟩ W hv)
 have HR2:=qh (fun (W:World) (hv:IsVals W ad n H.V)=>qY3 HV (hr 1 qo) ad true ⟨fun _=>hr 2 qo,fun _=>rfl⟩ W hv)
 have HR3:=qh (fun (W:World) (hv:IsVals W ad n H.V)=>qVH HV (hr 1 qo) ad true ⟨fun _=>hr 3 qo,fun _=>rfl⟩ W hv)
 have HR4:=qh (fun (W:World) (hv:IsVals W ad n H.V)=>qPG HV ad true ⟨fun _=>hr 4 qo,fun _=>rfl⟩ W hv)
 have HR5:=qh (fun (W:World) (hv:IsVals W ad n H.V)=>qJ0 HV ad true ⟨fun _=>hr 5 qo,fun _=>rfl⟩ W hv)
 have HR6:=qh (fun (W:World) (hv:IsVals W ad n H.V)=>qFV HV (hr 4 qo) ad false ⟨fun h=>(by cases h),fun h=>absurd h hno⟩ W hv)
 have hn:=HV.nums
 have hcx:c<=9223372036854775807:=hn.2.2.2.2.2.2.2.2
 have hni:n<=6238:=hn.2.2.2.2.2.2.1
 have hnc:=HV.cap
 clear hv hr hno hn
 go_enter Tryz.func26,Tryz.ntmps26
 go_wp2_with (first
  | (refine RiX ?_;clear c0 c1 c2;intro w2 HB2 HX2 c0 c1 c2)
  | (refine Rye ?_;clear c0 c1 c2;intro w3 HB3 HX3 c0 c1 c2 x0 x1 x2 x3)
  | (refine RH5 ?_;clear x0 x1 x2 x3;intro w4 HB4 HX4 x0 x1 x2 x3)
  | (refine Ry7 ?_;clear x0 x1 x2 x3;intro w5 HB5 HX5 x0 x1 x2 x3)
  | (refine RFC ?_;clear x0 x1 x2 x3;intro w6 HB6 HX6 x0 x1 x2 x3)
  | (refine RNO ?_;clear x0 x1 x2 x3;intro w7 HB7 HX7 x0 x1 x2 x3)
  | (refine RB0 ?_;clear x0 x1 x2 x3;intro w8 HB8 HX8 x0 x1 x2 x3)
  | (refine Rfm ?_;clear x0 x1 x2 x3;intro w9 HB9 HX9 x0 x1 x2 x3)
  | fail)
 go_ret2
 exact⟨rfl,HB9.o⟩

theorem qBK {H:AuH}{n c:Nat}(HV:HeapV H n c)(ad:Addr)(hr:∀ i,i<7->H.rule i)(hno:¬ H.rule 7)(w:World)(hv:IsVals w ad n H.V) :
  Calls Tryz.prog 26 #[.agg #[.int .i64 (H.t:Int),.int .i64 (H.p:Int),.int .i64 (H.s:Int)],.slice (some ad) n c] w fun e w'=>e = .returned (.tuple #[.int .i64 8,.bool false])/\Below w.heap.size w w':=by
 have HVL:=qh hv
 have HX0:=qh (Held.new w 23 #[.int .i64 (H.t:Int),.int .i64 (H.p:Int),.int .i64 (H.s:Int)])
 obtain⟨c0,c1,c2⟩:=HX0.o.three
 have HBW:=qh (Bnew (B0 w) (.cells #[.int .i64 (H.t:Int),.int .i64 (H.p:Int),.int .i64 (H.s:Int)] 23))
 have HRI:=qh HV.right
 have HLC:qH (lC H.t H.p H.s=(n:Int)):=qh (by have:=(qVu HV.right).5;have:=HV.len;omega)
 have HR1:=qh (fun (W:World) (hv:IsVals W ad n H.V)=>qIG HV ad true ⟨fun _=>hr 1 qo,fun _=>rfl⟩ W hv)
 have HR2:=qh (fun (W:World) (hv:IsVals W ad n H.V)=>qY3 HV (hr 1 qo) ad true ⟨fun _=>hr 2 qo,fun _=>rfl⟩ W hv)
 have HR3:=qh (fun (W:World) (hv:IsVals W ad n H.V)=>qVH HV (hr 1 qo) ad true ⟨fun _=>hr 3 qo,fun _=>rfl⟩ W hv)
 have HR4:=qh (fun (W:World) (hv:IsVals W ad n H.V)=>qPG HV ad true ⟨fun _=>hr 4 qo,fun _=>rfl⟩ W hv)
 have HR5:=qh (fun (W:World) (hv:IsVals W ad n H.V)=>qJ0 HV ad true ⟨fun _=>hr 5 qo,fun _=>rfl⟩ W hv)
 have HR6:=qh (fun (W:World) (hv:IsVals W ad n H.V)=>qFV HV (hr 4 qo) ad true ⟨fun _=>hr 6 qo,fun _=>rfl⟩ W hv)
 have HR7:=qh (fun (W:World) (hv:IsVals W ad n H.V)=>qKJ HV (hr 4 qo) ad false ⟨fun h=>(by cases h),fun h=>absurd h hno⟩ W hv)
 have hn:=HV.nums
 have hcx:c<=9223372036854775807:=hn.2.2.2.2.2.2.2.2
 have hni:n<=6238:=hn.2.2.2.2.2.2.1
 have hnc:=HV.cap
 clear hv hr hno hn
 go_enter Tryz.func26,Tryz.ntmps26
 go_wp2_with (first
  | (refine RiX ?_;clear c0 c1 c2;intro w2 HB2 HX2 c0 c1 c2)
  | (refine Rye ?_;clear c0 c1 c2;intro w3 HB3 HX3 c0 c1 c2 x0 x1 x2 x3)
  | (refine RH5 ?_;clear x0 x1 x2 x3;intro w4 HB4 HX4 x0 x1 x2 x3)
  | (refine Ry7 ?_;clear x0 x1 x2 x3;intro w5 HB5 HX5 x0 x1 x2 x3)
  | (refine RFC ?_;clear x0 x1 x2 x3;intro w6 HB6 HX6 x0 x1 x2 x3)
  | (refine RNO ?_;clear x0 x1 x2 x3;intro w7 HB7 HX7 x0 x1 x2 x3)
  | (refine RB0 ?_;clear x0 x1 x2 x3;intro w8 HB8 HX8 x0 x1 x2 x3)
  | (refine Rfm ?_;clear x0 x1 x2 x3;intro w9 HB9 HX9 x0 x1 x2 x3)
  | (refine RCS ?_;clear x0 x1 x2 x3;intro w10 HB10 HX10 x0 x1 x2 x3)
  | fail)
 go_ret2
 exact⟨rfl,HB10.o⟩

theorem qZ8 {H:AuH}{n c:Nat}(HV:HeapV H n c)(ad:Addr)(hr:∀ i,i<8->H.rule i)(hno:¬ H.rule 8)(w:World)(hv:IsVals w ad n H.V) :
  Calls Tryz.prog 26 #[.agg #[.int .i64 (H.t:Int),.int .i64 (H.p:Int),.int .i64 (H.s:Int)],.slice (some ad) n c] w fun e w'=>e = .returned (.tuple #[.int .i64 9,.bool false])/\Below w.heap.size w w':=by
 have HVL:=qh hv
 have HX0:=qh (Held.new w 23 #[.int .i64 (H.t:Int),.int .i64 (H.p:Int),.int .i64 (H.s:Int)])
 obtain⟨c0,c1,c2⟩:=HX0.o.three
 have HBW:=qh (Bnew (B0 w) (.cells #[.int .i64 (H.t:Int),.int .i64 (H.p:Int),.int .i64 (H.s:Int)] 23))
 have HRI:=qh HV.right
 have HLC:qH (lC H.t H.p H.s=(n:Int)):=qh (by have:=(qVu HV.right).5;have:=HV.len;omega)
 have HR1:=qh (fun (W:World) (hv:IsVals W ad n H.V)=>qIG HV ad true ⟨fun _=>hr 1 qo,fun _=>rfl⟩ W hv)
 have HR2:=qh (fun (W:World) (hv:IsVals W ad n H.V)=>qY3 HV (hr 1 qo) ad true ⟨fun _=>hr 2 qo,fun _=>rfl⟩ W hv)
 have HR3:=qh (fun (W:World) (hv:IsVals W ad n H.V)=>qVH HV (hr 1 qo) ad true ⟨fun _=>hr 3 qo,fun _=>rfl⟩ W hv)
 have HR4:=qh (fun (W:World) (hv:IsVals W ad n H.V)=>qPG HV ad true ⟨fun _=>hr 4 qo,fun _=>rfl⟩ W hv)
 have HR5:=qh (fun (W:World) (hv:IsVals W ad n H.V)=>qJ0 HV ad true ⟨fun _=>hr 5 qo,fun _=>rfl⟩ W hv)
 have HR6:=qh (fun (W:World) (hv:IsVals W ad n H.V)=>qFV HV (hr 4 qo) ad true ⟨fun _=>hr 6 qo,fun _=>rfl⟩ W hv)
 have HR7:=qh (fun (W:World) (hv:IsVals W ad n H.V)=>qKJ HV (hr 4 qo) ad true ⟨fun _=>hr 7 qo,fun _=>rfl⟩ W hv)
 have HR8:=qh (fun (W:World) (hv:IsVals W ad n H.V)=>qBB HV (hr 4 qo) ad false ⟨fun h=>(by cases h),fun h=>absurd h hno⟩ W hv)
 have hn:=HV.nums
 have hcx:c<=9223372036854775807:=hn.2.2.2.2.2.2.2.2
 have hni:n<=6238:=hn.2.2.2.2.2.2.1
 have hnc:=HV.cap
 clear hv hr hno hn
 go_enter Tryz.func26,Tryz.ntmps26
 go_wp2_with (first
  | (refine RiX ?_;clear c0 c1 c2;intro w2 HB2 HX2 c0 c1 c2)
  | (refine Rye ?_;clear c0 c1 c2;intro w3 HB3 HX3 c0 c1 c2 x0 x1 x2 x3)
  | (refine RH5 ?_;clear x0 x1 x2 x3;intro w4 HB4 HX4 x0 x1 x2 x3)
  | (refine Ry7 ?_;clear x0 x1 x2 x3;intro w5 HB5 HX5 x0 x1 x2 x3)
  | (refine RFC ?_;clear x0 x1 x2 x3;intro w6 HB6 HX6 x0 x1 x2 x3)
  | (refine RNO ?_;clear x0 x1 x2 x3;intro w7 HB7 HX7 x0 x1 x2 x3)
  | (refine RB0 ?_;clear x0 x1 x2 x3;intro w8 HB8 HX8 x0 x1 x2 x3)
  | (refine Rfm ?_;clear x0 x1 x2 x3;intro w9 HB9 HX9 x0 x1 x2 x3)
  | (refine RCS ?_;clear x0 x1 x2 x3;intro w10 HB10 HX10 x0 x1 x2 x3)
  | (refine Rwb ?_;clear x0 x1 x2 x3;intro w11 HB11 HX11 x0 x1 x2 x3)
  | fail)
 go_ret2
 exact⟨rfl,HB11.o⟩

theorem qEo {H:AuH}{n c:Nat}(HV:HeapV H n c)(ad:Addr)(hr:∀ i,i<9->H.rule i)(hno:¬ H.rule 9)(w:World)(hv:IsVals w ad n H.V) :
  Calls Tryz.prog 26 #[.agg #[.int .i64 (H.t:Int),.int .i64 (H.p:Int),.int .i64 (H.s:Int)],.slice (some ad) n c] w fun e w'=>e = .returned (.tuple #[.int .i64 10,.bool false])/\Below w.heap.size w w':=by
 have HVL:=qh hv
 have HX0:=qh (Held.new w 23 #[.int .i64 (H.t:Int),.int .i64 (H.p:Int),.int .i64 (H.s:Int)])
 obtain⟨c0,c1,c2⟩:=HX0.o.three
 have HBW:=qh (Bnew (B0 w) (.cells #[.int .i64 (H.t:Int),.int .i64 (H.p:Int),.int .i64 (H.s:Int)] 23))
 have HRI:=qh HV.right
 have HLC:qH (lC H.t H.p H.s=(n:Int)):=qh (by have:=(qVu HV.right).5;have:=HV.len;omega)
 have HR1:=qh (fun (W:World) (hv:IsVals W ad n H.V)=>qIG HV ad true ⟨fun _=>hr 1 qo,fun _=>rfl⟩ W hv)
 have HR2:=qh (fun (W:World) (hv:IsVals W ad n H.V)=>qY3 HV (hr 1 qo) ad true ⟨fun _=>hr 2 qo,fun _=>rfl⟩ W hv)
 have HR3:=qh (fun (W:World) (hv:IsVals W ad n H.V)=>qVH HV (hr 1 qo) ad true ⟨fun _=>hr 3 qo,fun _=>rfl⟩ W hv)
 have HR4:=qh (fun (W:World) (hv:IsVals W ad n H.V)=>qPG HV ad true ⟨fun _=>hr 4 qo,fun _=>rfl⟩ W hv)
 have HR5:=qh (fun (W:World) (hv:IsVals W ad n H.V)=>qJ0 HV ad true ⟨fun _=>hr 5 qo,fun _=>rfl⟩ W hv)
 have HR6:=qh (fun (W:World) (hv:IsVals W ad n H.V)=>qFV HV (hr 4 qo) ad true ⟨fun _=>hr 6 qo,fun _=>rfl⟩ W hv)
 have HR7:=qh (fun (W:World) (hv:IsVals W ad n H.V)=>qKJ HV (hr 4 qo) ad true ⟨fun _=>hr 7 qo,fun _=>rfl⟩ W hv)
 have HR8:=qh (fun (W:World) (hv:IsVals W ad n H.V)=>qBB HV (hr 4 qo) ad true ⟨fun _=>hr 8 qo,fun _=>rfl⟩ W hv)
 have HR9:=qh (fun (W:World) (hv:IsVals W ad n H.V)=>qNX HV ad false ⟨fun h=>(by cases h),fun h=>absurd h hno⟩ W hv)
 have hn:=HV.nums
 have hcx:c<=9223372036854775807:=hn.2.2.2.2.2.2.2.2
 have hni:n<=6238:=hn.2.2.2.2.2.2.1
 have hnc:=HV.cap
 clear hv hr hno hn
 go_enter Tryz.func26,Tryz.ntmps26
 go_wp2_with (first
  | (refine RiX ?_;clear c0 c1 c2;intro w2 HB2 HX2 c0 c1 c2)
  | (refine Rye ?_;clear c0 c1 c2;intro w3 HB3 HX3 c0 c1 c2 x0 x1 x2 x3)
  | (refine RH5 ?_;clear x0 x1 x2 x3;intro w4 HB4 HX4 x0 x1 x2 x3)
  | (refine Ry7 ?_;clear x0 x1 x2 x3;intro w5 HB5 HX5 x0 x1 x2 x3)
  | (refine RFC ?_;clear x0 x1 x2 x3;intro w6 HB6 HX6 x0 x1 x2 x3)
  | (refine RNO ?_;clear x0 x1 x2 x3;intro w7 HB7 HX7 x0 x1 x2 x3)
  | (refine RB0 ?_;clear x0 x1 x2 x3;intro w8 HB8 HX8 x0 x1 x2 x3)
  | (refine Rfm ?_;clear x0 x1 x2 x3;intro w9 HB9 HX9 x0 x1 x2 x3)
  | (refine RCS ?_;clear x0 x1 x2 x3;intro w10 HB10 HX10 x0 x1 x2 x3)
  | (refine Rwb ?_;clear x0 x1 x2 x3;intro w11 HB11 HX11 x0 x1 x2 x3)
  | (refine R8l ?_;clear x0 x1 x2 x3;intro w12 HB12 HX12 x0 x1 x2 x3)
  | fail)
 go_ret2
 exact⟨rfl,HB12.o⟩

theorem qI9 {H:AuH}{n c:Nat}(HV:HeapV H n c)(ad:Addr)(hr:∀ i,i<10->H.rule i)(w:World)(hv:IsVals w ad n H.V) :
  Calls Tryz.prog 26 #[.agg #[.int .i64 (H.t:Int),.int .i64 (H.p:Int),.int .i64 (H.s:Int)],.slice (some ad) n c] w fun e w'=>e = .returned (.tuple #[.int .i64 0,.bool true])/\Below w.heap.size w w':=by
 have HVL:=qh hv
 have HX0:=qh (Held.new w 23 #[.int .i64 (H.t:Int),.int .i64 (H.p:Int),.int .i64 (H.s:Int)])
 obtain⟨c0,c1,c2⟩:=HX0.o.three
 have HBW:=qh (Bnew (B0 w) (.cells #[.int .i64 (H.t:Int),.int .i64 (H.p:Int),.int .i64 (H.s:Int)] 23))
 have HRI:=qh HV.right
 have HLC:qH (lC H.t H.p H.s=(n:Int)):=qh (by have:=(qVu HV.right).5;have:=HV.len;omega)
 have HR1:=qh (fun (W:World) (hv:IsVals W ad n H.V)=>qIG HV ad true ⟨fun _=>hr 1 qo,fun _=>rfl⟩ W hv)
 have HR2:=qh (fun (W:World) (hv:IsVals W ad n H.V)=>qY3 HV (hr 1 qo) ad true ⟨fun _=>hr 2 qo,fun _=>rfl⟩ W hv)
 have HR3:=qh (fun (W:World) (hv:IsVals W ad n H.V)=>qVH HV (hr 1 qo) ad true ⟨fun _=>hr 3 qo,fun _=>rfl⟩ W hv)
 have HR4:=qh (fun (W:World) (hv:IsVals W ad n H.V)=>qPG HV ad true ⟨fun _=>hr 4 qo,fun _=>rfl⟩ W hv)
 have HR5:=qh (fun (W:World) (hv:IsVals W ad n H.V)=>qJ0 HV ad true ⟨fun _=>hr 5 qo,fun _=>rfl⟩ W hv)
 have HR6:=qh (fun (W:World) (hv:IsVals W ad n H.V)=>qFV HV (hr 4 qo) ad true ⟨fun _=>hr 6 qo,fun _=>rfl⟩ W hv)
 have HR7:=qh (fun (W:World) (hv:IsVals W ad n H.V)=>qKJ HV (hr 4 qo) ad true ⟨fun _=>hr 7 qo,fun _=>rfl⟩ W hv)
 have HR8:=qh (fun (W:World) (hv:IsVals W ad n H.V)=>qBB HV (hr 4 qo) ad true ⟨fun _=>hr 8 qo,fun _=>rfl⟩ W hv)
 have HR9:=qh (fun (W:World) (hv:IsVals W ad n H.V)=>qNX HV ad true ⟨fun _=>hr 9 qo,fun _=>rfl⟩ W hv)
 have hn:=HV.nums
 have hcx:c<=9223372036854775807:=hn.2.2.2.2.2.2.2.2
 have hni:n<=6238:=hn.2.2.2.2.2.2.1
 have hnc:=HV.cap
 clear hv hr hn
 go_enter Tryz.func26,Tryz.ntmps26
 go_wp2_with (first
  | (refine RiX ?_;clear c0 c1 c2;intro w2 HB2 HX2 c0 c1 c2)
  | (refine Rye ?_;clear c0 c1 c2;intro w3 HB3 HX3 c0 c1 c2 x0 x1 x2 x3)
  | (refine RH5 ?_;clear x0 x1 x2 x3;intro w4 HB4 HX4 x0 x1 x2 x3)
  | (refine Ry7 ?_;clear x0 x1 x2 x3;intro w5 HB5 HX5 x0 x1 x2 x3)
  | (refine RFC ?_;clear x0 x1 x2 x3;intro w6 HB6 HX6 x0 x1 x2 x3)
  | (refine RNO ?_;clear x0 x1 x2 x3;intro w7 HB7 HX7 x0 x1 x2 x3)
  | (refine RB0 ?_;clear x0 x1 x2 x3;intro w8 HB8 HX8 x0 x1 x2 x3)
  | (refine Rfm ?_;clear x0 x1 x2 x3;intro w9 HB9 HX9 x0 x1 x2 x3)
  | (refine RCS ?_;clear x0 x1 x2 x3;intro w10 HB10 HX10 x0 x1 x2 x3)
  | (refine Rwb ?_;clear x0 x1 x2 x3;intro w11 HB11 HX11 x0 x1 x2 x3)
  | (refine R8l ?_;clear x0 x1 x2 x3;intro w12 HB12 HX12 x0 x1 x2 x3)
  | fail)
 go_ret2
 exact⟨rfl,HB12.o⟩

def XCheckIs (w:World) (t q s:Int) (A:Option Addr) (n c:Nat) (m:Nat) (b:Bool):Prop :=
 ∀ W,Below w.heap.size w W->Calls Tryz.prog 26 #[.agg #[.int .i64 t,.int .i64 q,.int .i64 s],.slice A n c] W fun e w'=>e = .returned (.tuple #[.int .i64 (m:Int),.bool b])/\Below W.heap.size W w'
theorem XCheckIs.grown {w w1:World}{t q s:Int}{A:Option Addr}{n c m:Nat}{b:Bool}(h:XCheckIs w t q s A n c m b)(hb:Below w.heap.size w w1):XCheckIs w1 t q s A n c m b :=
 fun W hW=>h W (Bgo hb hW)
theorem qSU (w:World)(t q s:Int)(A:Option Addr)(n c:Nat)(hnc:n<=c)(hc:c<=maxLen)(h:¬ (lC t q s≠0/\(n:Int)=lC t q s)):XCheckIs w t q s A n c 1 false :=
 fun W _=>qA2 t q s A n c hnc hc h W
theorem qZU {H:AuH}{n c:Nat}(HV:HeapV H n c)(ad:Addr)(w:World)(hv:IsVals w ad n H.V){m:Nat}{b:Bool}(h:H.Told m b):XCheckIs w H.t H.p H.s (some ad) n c m b:=by
 intro W hW
 rcases h with ⟨rfl,rfl,hr⟩|⟨rfl,k,rfl,h1,h2,hr,hno⟩
 ·exact qI9 HV ad hr W (hv.below hW)
 ·rcases(by omega:k=1\/k=2\/k=3\/k=4\/k=5\/k=6\/k=7\/k=8\/k=9) with rfl|rfl|rfl|rfl|rfl|rfl|rfl|rfl|rfl
  ·exact qSe HV ad hr hno W (hv.below hW)
  ·exact qTi HV ad hr hno W (hv.below hW)
  ·exact qQ2 HV ad hr hno W (hv.below hW)
  ·exact qJb HV ad hr hno W (hv.below hW)
  ·exact qPx HV ad hr hno W (hv.below hW)
  ·exact qWo HV ad hr hno W (hv.below hW)
  ·exact qBK HV ad hr hno W (hv.below hW)
  ·exact qZ8 HV ad hr hno W (hv.below hW)
  ·exact qEo HV ad hr hno W (hv.below hW)
end
section
theorem qHm (t q s:Int)(A:Option Addr)(n c m:Nat)(b:Bool)(w:World)(hC:XCheckIs w t q s A n c m b) :
  Calls Tryz.prog 7 #[.agg #[.int .i64 t,.int .i64 q,.int .i64 s],.slice A n c] w fun e w'=>e = .returned (.bool b)/\Below w.heap.size w w':=by
 have HX0:=qh (Held.new w 23 #[.int .i64 t,.int .i64 q,.int .i64 s])
 obtain⟨c0,c1,c2⟩:=HX0.o.three
 have HBW:=qh (Bnew (B0 w) (.cells #[.int .i64 t,.int .i64 q,.int .i64 s] 23))
 have HCK:=qh (hC _ HBW.o)
 clear hC
 go_enter Tryz.func7,Tryz.ntmps7
 go_wp2_with (first
  | (go_at_call 26;refine HCK.o.mono ?_;rintro e w2 ⟨rfl,hb2⟩;have HB2:=qh (Bgo HBW.o hb2);clear hb2)
  | fail)
 go_ret
 exact⟨rfl,HB2.o⟩

theorem qIn {H:AuH}{n c:Nat}(HV:HeapV H n c)(ad:Addr)(m:Nat)(w:World)(hv:IsVals w ad n H.V)(hC:XCheckIs w H.t H.p H.s (some ad) n c m true) :
  Calls Tryz.prog 53 #[.agg #[.int .i64 (H.t:Int),.int .i64 (H.p:Int),.int .i64 (H.s:Int)],.slice (some ad) n c] w fun e w'=>∃ u,e = .returned u/\w'.ownsRow w.heap.size 59 2 u (blocksOf H.parts).length (bkVs (blocksOf H.parts))/\Below w.heap.size w w':=by
 have HX0:=qh (Held.new w 23 #[.int .i64 (H.t:Int),.int .i64 (H.p:Int),.int .i64 (H.s:Int)])
 obtain⟨c0,c1,c2⟩:=HX0.o.three
 have HBW:=qh (Bnew (B0 w) (.cells #[.int .i64 (H.t:Int),.int .i64 (H.p:Int),.int .i64 (H.s:Int)] 23))
 have HSO:=qh (qHm (H.t:Int) (H.p:Int) (H.s:Int) (some ad) n c m true _ (hC.grown HBW.o))
 have HPP:=qh (fun (W:World) (h1:Below w.heap.size w W)=>qMm HV ad W (hv.below h1))
 unfold hpV at HPP
 clear hC hv
 go_enter Tryz.func53,Tryz.ntmps53
 go_wp2_with (first
  | (go_at_call 7;refine HSO.o.mono ?_;rintro e w2 ⟨rfl,hb2⟩;have HX2:=qh (HX0.o.keep hb2);have HB2:=qh (Bgo HBW.o hb2);have HB3:=qh (Bnew HB2.o (.cells #[.int .i64 (H.t:Int),.int .i64 (H.p:Int),.int .i64 (H.s:Int),.slice (some ad) n c] 88));clear hb2 c0 c1 c2;obtain⟨c0,c1,c2⟩:=HX2.o.three;obtain⟨x0,x1,x2,x3⟩:=(Held.new w2 88 #[.int .i64 (H.t:Int),.int .i64 (H.p:Int),.int .i64 (H.s:Int),.slice (some ad) n c]).four)
  | (go_at_call 90;refine(HPP.o _ HB3.o).mono ?_;rintro e w4 ⟨u,rfl,hown4,hb4⟩;have HO4:=qh hown4;have HB4:=qh (Bgo HB3.o hb4);clear hown4 hb4)
  | fail)
 go_ret
 exact⟨u,rfl,qIX HO4.o HB3.o.size,HB4.o⟩
end
end Go.Proofs.YtgifnhcknodekaaGreat
