/-
  The document's rule 8. Written by doc12/gen_loose.py.
-/
import Derived.Test.YtgifnhcknodekaaGreatC11
import Derived.Test.YtgifnhcknodekaaGreatC06
namespace Go.Proofs.YtgifnhcknodekaaGreat
theorem RcU {P Q:Prop}(kq:Q)(h:HQ Q->P:=by
 intro kq
 refine wp_region_held_drew (S:=(fun w'=>w'.cell? ⟨w.heap.size,0,none⟩=some (.int .i64 (H.t:Int))/\w'.cell? ⟨w.heap.size,1,none⟩=some (.int .i64 (H.p:Int))/\w'.cell? ⟨w.heap.size,2,none⟩=some (.int .i64 (H.s:Int))/\w'.cell? ⟨w.heap.size,3,none⟩=some (.slice (some ad) n c)/\w'.cell? (ad.add i2)=some (.int .u32 (v2:Int))/\w'.cell? (ad.add i3)=some (.int .u32 (v3:Int)))) qr ?_ (fun hHeld=>?_)
 ·exact Mlp
 refine tkz 0 ?_
 refine tkz 1 ?_
 refine tkz 2 ?_
 refine tkz 3 ?_
 refine tkz 4 ?_
 refine rdz 5 fun K hK=>?_
 go_simp
 go_at_call 103
 refine(qKI _ _ _ _ _).mono ?_
 rintro e w6 ⟨rfl,hb6⟩
 rw[HI2.o]
 have HB6:=qh (Bgo (Bdrew HB5.o) hb6)
 have HB6r:=qh (Bgo (Bdrew (B0 w5)) hb6)
 have HX6:=qh (HX5.o.drew.keep hb6)
 clear hb6
 refine qk ?_ (fun hHeld=>?_)
 ·exact MW8
 clear hK K
 refine tkz 6 ?_
 refine tkz 7 ?_
 refine tkz 8 ?_
 refine tkz 9 ?_
 revert w6 HB6 HB6r HX6 hHeld
 exact kq.o):P:=h ⟨kq⟩
theorem Rxn {P Q:Prop}(kq:Q)(h:HQ Q->P:=by
 intro kq
 refine tkz 0 ?_
 refine tkz 1 ?_
 refine tkz 2 ?_
 refine tkz 3 ?_
 refine tkz 4 ?_
 refine tkz 5 ?_
 refine tkz 6 ?_
 exact kq.o):P:=h ⟨kq⟩
theorem Rfg {P Q:Prop}(kq:Q)(h:HQ Q->P:=by
 intro kq
 refine tkz 10 ?_
 refine tkz 11 ?_
 refine tkz 12 ?_
 refine tkz 13 ?_
 refine tkz 14 ?_
 refine rdz 15 fun K hK=>?_
 go_simp
 go_at_call 104
 refine(qJU _ _ _ _ _).mono ?_
 rintro e w7 ⟨rfl,hb7⟩
 rw[HI3.o]
 have HB7:=qh (Bgo HB6.o hb7)
 have HB7r:=qh (Bgo HB6r.o hb7)
 have HX7:=qh (HX6.o.keep hb7)
 clear hb7
 refine qk ?_ (fun hHeld=>?_)
 ·exact MW8
 clear hK K
 refine tkz 16 ?_
 refine tkz 17 ?_
 refine tkz 18 ?_
 refine tkz 19 ?_
 refine dnz ?_
 revert w7 HB7 HB7r HX7 hHeld
 exact kq.o):P:=h ⟨kq⟩
theorem MGk {P:Prop}(h:P:=by
 have HV5:=qh (HVL.o.below HB5.o)
 obtain⟨c0,c1,c2,c3⟩:=HX5.o.four
 obtain⟨i2,hii2⟩:∃ i2,30+4*H.t+6*p+2=i2:=⟨_,rfl⟩
 have hini2:i2<n:=by have:=HV.len;omega
 have HI2:qH (pageI H.t H.p H.s p 2=(i2:Int)):=qh (by have h:=HV.page (b:=2) hlt qo;rw[hii2] at h;exact h)
 have h32i2:=HV.cel_lt hlt (show 2<6 by omega)
 have hceli2:H.cel p 2=H.V i2:=by unfold AuH.cel;rw[hii2]
 obtain⟨v2,hvvv2⟩:∃ v2,H.cel p 2=v2:=⟨_,rfl⟩
 have HCv2:=qh hvvv2
 rw[hvvv2] at h32i2
 obtain⟨i3,hii3⟩:∃ i3,30+4*H.t+6*p+3=i3:=⟨_,rfl⟩
 have hini3:i3<n:=by have:=HV.len;omega
 have HI3:qH (pageI H.t H.p H.s p 3=(i3:Int)):=qh (by have h:=HV.page (b:=3) hlt qo;rw[hii3] at h;exact h)
 have h32i3:=HV.cel_lt hlt (show 3<6 by omega)
 have hceli3:H.cel p 3=H.V i3:=by unfold AuH.cel;rw[hii3]
 obtain⟨v3,hvvv3⟩:∃ v3,H.cel p 3=v3:=⟨_,rfl⟩
 have HCv3:=qh hvvv3
 rw[hvvv3] at h32i3
 have hci2:=(HV5.o).2 i2 hini2
 rw[<- hceli2,hvvv2] at hci2
 have hbli2:(ad.add i2).block<w5.heap.size:=by rw[qXL];exact(HV5.o).1
 have hci3:=(HV5.o).2 i3 hini3
 rw[<- hceli3,hvvv3] at hci3
 have hbli3:(ad.add i3).block<w5.heap.size:=by rw[qXL];exact(HV5.o).1
 have HS6:qH (∀ w',Below w5.heap.size w5 w'->(fun w'=>w'.cell? ⟨w.heap.size,0,none⟩=some (.int .i64 (H.t:Int))/\w'.cell? ⟨w.heap.size,1,none⟩=some (.int .i64 (H.p:Int))/\w'.cell? ⟨w.heap.size,2,none⟩=some (.int .i64 (H.s:Int))/\w'.cell? ⟨w.heap.size,3,none⟩=some (.slice (some ad) n c)/\w'.cell? (ad.add i2)=some (.int .u32 (v2:Int))/\w'.cell? (ad.add i3)=some (.int .u32 (v3:Int))) w'):=qh (fun w' hb=>by have hh:=HX5.o.keep hb;exact⟨hh.four.1,hh.four.2.1,hh.four.2.2.1,hh.four.2.2.2,(hb.cell hbli2).trans hci2,(hb.cell hbli3).trans hci3⟩)
 clear hci2 hbli2 hceli2 hvvv2 hii2 hci3 hbli3 hceli3 hvvv3 hii3 c0 c1 c2 c3
 by_cases h2:v2=0
 ·have q2:((v2:Int) != 0)=false:=qs
  by_cases h3:v3=0
  ·have q3:((v3:Int) != 0)=false:=qs
   have HOK1:qH (∀ q,q<p+1->H.tgt q = -1->H.cel q 2=0/\H.cel q 3=0):=qh (fun q hq=>by
    rcases Nat.lt_or_ge q p with h|h
    ·exact HOK.o q h
    ·obtain rfl:q=p:=qo
     exact fun _=>⟨HCv2.o.trans h2,HCv3.o.trans h3⟩)
   clear h2 h3
   go_wp2_with fail
   refine RcU ?_;intro w6 HB6 HB6r HX6 hHeld
   refine Rfg ?_;intro w7 HB7 HB7r HX7 hHeld
   go_wp2_with fail
   go_roundw
   case rel=>exact⟨p+1,qo,by go_num,HOK1,HX7,HB7⟩
   case measure=>simp[intOf];omega
  ·have q3:((v3:Int) != 0)=true:=qs
   have HBF:qH (b=false):=qh (qE5 HBC.o (fun h=>h3 (by rw[<- HCv3.o];exact(h p hlt HTG.o).2)))
   clear h2 h3
   go_wp2_with fail
   refine RcU ?_;intro w6 HB6 HB6r HX6 hHeld
   refine Rfg ?_;intro w7 HB7 HB7r HX7 hHeld
   go_wp2_with fail
   go_ret
   exact⟨by rw[HBF.o];rfl,HB7.o⟩
 ·have q2:((v2:Int) != 0)=true:=qs
  have HBF:qH (b=false):=qh (qE5 HBC.o (fun h=>h2 (by rw[<- HCv2.o];exact(h p hlt HTG.o).1)))
  clear h2
  go_wp2_with fail
  refine RcU ?_;intro w6 HB6 HB6r HX6 hHeld
  refine RKv ?_
  refine skz 15 ?_
  refine skz 16 ?_
  refine skz 17 ?_
  refine skz 18 ?_
  refine tkz 19 ?_
  refine dnz ?_
  go_wp2_with fail
  go_ret
  exact⟨by rw[HBF.o];rfl,HB6.o⟩):P:=h
theorem Mlp {P:Prop}(h:P:=by
 (try dsimp only)
 exact MW8):P:=h
theorem MW8 {P:Prop}(h:P:=by first|exact HS6.o _ (Bdrew (B0 _))|exact HS6.o _ HB6r.o|exact HS6.o _ HB7r.o|exact hHeld):P:=h
theorem M40 {P:Prop}(h:P:=by
 (try dsimp only)
 exact MKB):P:=h
theorem MKB {P:Prop}(h:P:=by first|exact HS5.o _ (Bdrew (B0 _))|exact HS5.o _ HB5r.o|exact hHeld):P:=h
end Go.Proofs.YtgifnhcknodekaaGreat
set_option linter.unusedVariables false
set_option linter.unusedSimpArgs false
set_option maxRecDepth 100000
set_option maxHeartbeats 25600000
namespace Go.Proofs.YtgifnhcknodekaaGreat
open Go.ChangeShapes Go.WideShapes Go.ChangeAt Go.RowKit Go.Shelf
section
theorem AuH.tgt_free_ne {H:AuH}{q:Nat}(h:H.K q=1):H.tgt q ≠ -1:=by
 have hk:=H.K_cases q
 rw[AuH.tgt_free h]
 have:=AuH.log_few (n:=H.ln q) qo qo
 omega
theorem qKJ {H:AuH}{n c:Nat}(HV:HeapV H n c)(h5:H.R5)(ad:Addr)(b:Bool)(hb:b=true↔H.R8)(w:World)(hv:IsVals w ad n H.V) :
  Calls Tryz.prog 63 #[hpV H ad n c] w fun e w'=>e = .returned (.bool b)/\Below w.heap.size w w':=by
 have HVL:=qh hv
 have HX0:=qh (Held.new w 88 #[.int .i64 (H.t:Int),.int .i64 (H.p:Int),.int .i64 (H.s:Int),.slice (some ad) n c])
 obtain⟨c0,c1,c2,c3⟩:=HX0.o.four
 have HBW:=qh (Bnew (B0 w) (.cells #[.int .i64 (H.t:Int),.int .i64 (H.p:Int),.int .i64 (H.s:Int),.slice (some ad) n c] 88))
 have hn:=HV.nums
 have hcx:c<=9223372036854775807:=hn.2.2.2.2.2.2.2.2
 have hni:n<=6238:=hn.2.2.2.2.2.2.1
 have hnc:=HV.cap
 have hp1:=hn.2.2.2.1
 have HBC:qH (b=true ↔ ∀ q,q<H.p->H.tgt q = -1->H.cel q 2=0/\H.cel q 3=0):=qh hb
 have HR5:=qh h5
 clear hv hn hb h5
 unfold hpV
 go_enter Tryz.func63,Tryz.ntmps63
 go_wp2_with fail
 go_loopw [3] (fun u3 wr=>∃ (p:Nat),p<=H.p/\u3 = .int .i64 (p:Int)/\qH (∀ q,q<p->H.tgt q = -1->H.cel q 2=0/\H.cel q 3=0)/\qH (Held wr w.heap.size 88 #[.int .i64 (H.t:Int),.int .i64 (H.p:Int),.int .i64 (H.s:Int),.slice (some ad) n c])/\qH (Below w.heap.size w wr)) (fun u3 _=>H.p-(intOf u3).toNat)
 case atStart=>exact⟨0,qo,rfl,qh (fun q h=>by omega),HX0,HBW⟩
 case round =>
  clear c0 c1 c2 c3 HX0 HBW
  obtain⟨p,hp,rfl,HOK,HX,HB⟩:=hrel
  obtain⟨c0,c1,c2,c3⟩:=HX.o.four
  by_cases hlt:p<H.p
  ·refine RKO ?_;intro t0 HVR
   refine ROE ?_;intro hkc kk hkk m hmm cl hcl HK HM HCL
   rw[hkk,hmm,hcl] at hkc
   by_cases hk1:kk=1
   ·have HNT:=qh (AuH.tgt_free_ne (hkk.trans hk1))
    subst hk1
    clear hkk hmm hcl hkc
    have HOK1:qH (∀ q,q<p+1->H.tgt q = -1->H.cel q 2=0/\H.cel q 3=0):=qh (fun q hq=>by
     rcases Nat.lt_or_ge q p with h|h
     ·exact HOK.o q h
     ·obtain rfl:q=p:=qo
      exact fun ht=>absurd ht HNT.o)
    have HS5:qH (∀ w3 g2,Held w3 w.heap.size 88 #[.int .i64 (H.t:Int),.int .i64 (H.p:Int),.int .i64 (H.s:Int),.slice (some ad) n c]->Held w3 g2 90 #[.int .i64 1,.int .i64 (m:Int),.int .i64 cl]->∀ w',Below w3.heap.size w3 w'->(fun w'=>w'.cell? ⟨w.heap.size,0,none⟩=some (.int .i64 (H.t:Int))/\w'.cell? ⟨w.heap.size,1,none⟩=some (.int .i64 (H.p:Int))/\w'.cell? ⟨w.heap.size,2,none⟩=some (.int .i64 (H.s:Int))/\w'.cell? ⟨w.heap.size,3,none⟩=some (.slice (some ad) n c)/\w'.cell? ⟨g2,0,none⟩=some (.int .i64 1)/\w'.cell? ⟨g2,2,none⟩=some (.int .i64 cl)) w'):=qh (fun w3 g2 h1 h2 w' hb=>by have hh:=h1.keep hb;have hi:=(h2.keep hb).three;exact⟨hh.four.1,hh.four.2.1,hh.four.2.2.1,hh.four.2.2.2,hi.1,hi.2.2⟩)
    go_wp2_with (first
     | (go_at_call 42;refine(qMU HV ad hlt _ HVR.o).mono ?_;rintro e w2 ⟨rfl,hb2⟩;rw[HK.o,HM.o,HCL.o];have HB3:=qh (Bnew (Bgo HB.o hb2) (.cells #[.int .i64 1,.int .i64 (m:Int),.int .i64 cl] 90));have HX3:=qh ((HX.o.keep hb2).alloc (.cells #[.int .i64 1,.int .i64 (m:Int),.int .i64 cl] 90));have HI3:=qh (Held.new w2 90 #[.int .i64 1,.int .i64 (m:Int),.int .i64 cl]);clear hb2 c0 c1 c2 c3)
     | fail)
    generalize hg2:w2.heap.size=g2 at *
    generalize w2.alloc (.cells #[.int .i64 1,.int .i64 (m:Int),.int .i64 cl] 90)=w3 at *
    replace HS5:=qh (HS5.o w3 g2 HX3.o HI3.o)
    obtain⟨c0,c1,c2,c3,d0,d2⟩:=HS5.o w3 (B0 _)
    clear hg2 HX HB HVR
    refine wp_region_held_drew (S:=(fun w'=>w'.cell? ⟨w.heap.size,0,none⟩=some (.int .i64 (H.t:Int))/\w'.cell? ⟨w.heap.size,1,none⟩=some (.int .i64 (H.p:Int))/\w'.cell? ⟨w.heap.size,2,none⟩=some (.int .i64 (H.s:Int))/\w'.cell? ⟨w.heap.size,3,none⟩=some (.slice (some ad) n c)/\w'.cell? ⟨g2,0,none⟩=some (.int .i64 1)/\w'.cell? ⟨g2,2,none⟩=some (.int .i64 cl))) qr ?_ (fun hHeld=>?_)
    ·exact M40
    refine Ro3 ?_
    refine tkz 3 ?_
    refine skz 4 ?_
    refine skz 5 ?_
    refine skz 6 ?_
    refine skz 7 ?_
    refine skz 8 ?_
    refine skz 9 ?_
    refine RKv ?_
    refine skz 15 ?_
    refine tkz 16 ?_
    refine dnz ?_
    clear c0 c1 c2 c3 d0 d2 HS5 HI3
    go_wp2_with fail
    go_roundw
    case rel=>exact⟨p+1,qo,by go_num,HOK1,qh HX3.o.drew,qh (Bdrew HB3.o)⟩
    case measure=>simp[intOf];omega
   ·by_cases hk3:kk=3
    ·obtain⟨h5a,h5b,h5c⟩:=(HR5.o p hlt).1 (hkk.trans hk3)
     obtain⟨tk,htk⟩:∃ t,H.cel p 5=t:=⟨_,rfl⟩
     rw[htk,hcl] at h5b
     have HTV:=qh htk
     have hclb:0<=cl/\cl<=8:=qo
     obtain⟨bf,hbf⟩:∃ bf:Bool,bf=true↔tk=2^slotI cl-1:=⟨decide (tk=2^slotI cl-1),by simp⟩
     have HBFL:=qh hbf
     have HFU:=qh (fun W=>qRk tk cl hclb.1 hclb.2 h5b bf hbf W)
     have HKK:qH (H.K p=3):=qh (hkk.trans hk3)
     subst hk3
     clear hkk hmm hcl hkc htk h5a h5b h5c hbf hk1
     have q31:((3:Int)==1)=false:=rfl
     have HS5:qH (∀ w3 g2,Held w3 w.heap.size 88 #[.int .i64 (H.t:Int),.int .i64 (H.p:Int),.int .i64 (H.s:Int),.slice (some ad) n c]->Held w3 g2 90 #[.int .i64 3,.int .i64 (m:Int),.int .i64 cl]->∀ w',Below w3.heap.size w3 w'->(fun w'=>w'.cell? ⟨w.heap.size,0,none⟩=some (.int .i64 (H.t:Int))/\w'.cell? ⟨w.heap.size,1,none⟩=some (.int .i64 (H.p:Int))/\w'.cell? ⟨w.heap.size,2,none⟩=some (.int .i64 (H.s:Int))/\w'.cell? ⟨w.heap.size,3,none⟩=some (.slice (some ad) n c)/\w'.cell? ⟨g2,0,none⟩=some (.int .i64 3)/\w'.cell? ⟨g2,2,none⟩=some (.int .i64 cl)) w'):=qh (fun w3 g2 h1 h2 w' hb=>by have hh:=h1.keep hb;have hi:=(h2.keep hb).three;exact⟨hh.four.1,hh.four.2.1,hh.four.2.2.1,hh.four.2.2.2,hi.1,hi.2.2⟩)
     go_wp2_with (first
      | (go_at_call 42;refine(qMU HV ad hlt _ HVR.o).mono ?_;rintro e w2 ⟨rfl,hb2⟩;rw[HK.o,HM.o,HCL.o];have HB3:=qh (Bnew (Bgo HB.o hb2) (.cells #[.int .i64 3,.int .i64 (m:Int),.int .i64 cl] 90));have HX3:=qh ((HX.o.keep hb2).alloc (.cells #[.int .i64 3,.int .i64 (m:Int),.int .i64 cl] 90));have HI3:=qh (Held.new w2 90 #[.int .i64 3,.int .i64 (m:Int),.int .i64 cl]);clear hb2 c0 c1 c2 c3)
      | fail)
     generalize hg2:w2.heap.size=g2 at *
     generalize w2.alloc (.cells #[.int .i64 3,.int .i64 (m:Int),.int .i64 cl] 90)=w3 at *
     replace HS5:=qh (HS5.o w3 g2 HX3.o HI3.o)
     obtain⟨c0,c1,c2,c3,d0,d2⟩:=HS5.o w3 (B0 _)
     clear hg2 HX HB HVR
     refine wp_region_held_drew (S:=(fun w'=>w'.cell? ⟨w.heap.size,0,none⟩=some (.int .i64 (H.t:Int))/\w'.cell? ⟨w.heap.size,1,none⟩=some (.int .i64 (H.p:Int))/\w'.cell? ⟨w.heap.size,2,none⟩=some (.int .i64 (H.s:Int))/\w'.cell? ⟨w.heap.size,3,none⟩=some (.slice (some ad) n c)/\w'.cell? ⟨g2,0,none⟩=some (.int .i64 3)/\w'.cell? ⟨g2,2,none⟩=some (.int .i64 cl))) qr ?_ (fun hHeld=>?_)
     ·exact M40
     refine Rxn ?_
     refine tkz 7 ?_
     refine tkz 8 ?_
     refine tkz 9 ?_
     refine tkz 11 ?_
     refine tkz 12 ?_
     refine rdz 10 fun K hK=>?_
     go_simp
     (go_at_call 94;refine(qXi HV ad hlt _ (HVL.o.below HB3.o).drew).mono ?_;rintro e w5 ⟨rfl,hb5⟩;rw[HTV.o];have HB5:=qh (Bgo (Bdrew HB3.o) hb5);have HB5r:=qh (Bgo (Bdrew (B0 w3)) hb5);have HX5:=qh (HX3.o.drew.keep hb5);clear hb5)
     refine qk ?_ (fun hHeld=>?_)
     ·exact MKB
     clear hK K
     refine rdz 13 fun K hK=>?_
     go_simp
     (go_at_call 102;refine(HFU.o _).mono ?_;rintro e w9 ⟨rfl,rfl⟩)
     refine qk ?_ (fun hHeld=>?_)
     ·exact MKB
     clear hK K
     refine tkz 14 ?_
     refine tkz 15 ?_
     refine tkz 16 ?_
     refine dnz ?_
     clear c0 c1 c2 c3 d0 d2 HS5 HI3
     cases bf
     ·have HTN:qH (H.tgt p ≠ -1):=qh (by rw[AuH.tgt_slab HKK.o (by rw[HTV.o,HCL.o];intro h;have:=HBFL.o.2 h;cases this),HCL.o];omega)
      have HOK1:qH (∀ q,q<p+1->H.tgt q = -1->H.cel q 2=0/\H.cel q 3=0):=qh (fun q hq=>by
       rcases Nat.lt_or_ge q p with h|h
       ·exact HOK.o q h
       ·obtain rfl:q=p:=qo
        exact fun ht=>absurd ht HTN.o)
      go_wp2_with fail
      go_roundw
      case rel=>exact⟨p+1,qo,by go_num,HOK1,HX5,HB5⟩
      case measure=>simp[intOf];omega
     ·have HTG:qH (H.tgt p = -1):=qh (AuH.tgt_full HKK.o (by rw[HTV.o,HCL.o];exact HBFL.o.1 rfl))
      clear HB3 HX3 HB5r
      exact MGk
    ·have q1:(kk==1)=false:=by simpa using hk1
     have q3:(kk==3)=false:=by simpa using hk3
     have HTG:qH (H.tgt p = -1):=qh (by unfold AuH.tgt;rw[hkk,if_neg hk1,if_neg (fun h=>hk3 h.1)])
     clear hkk hmm hcl hkc hk1 hk3
     have HS5:qH (∀ w3 g2,Held w3 w.heap.size 88 #[.int .i64 (H.t:Int),.int .i64 (H.p:Int),.int .i64 (H.s:Int),.slice (some ad) n c]->Held w3 g2 90 #[.int .i64 kk,.int .i64 (m:Int),.int .i64 cl]->∀ w',Below w3.heap.size w3 w'->(fun w'=>w'.cell? ⟨w.heap.size,0,none⟩=some (.int .i64 (H.t:Int))/\w'.cell? ⟨w.heap.size,1,none⟩=some (.int .i64 (H.p:Int))/\w'.cell? ⟨w.heap.size,2,none⟩=some (.int .i64 (H.s:Int))/\w'.cell? ⟨w.heap.size,3,none⟩=some (.slice (some ad) n c)/\w'.cell? ⟨g2,0,none⟩=some (.int .i64 kk)/\w'.cell? ⟨g2,2,none⟩=some (.int .i64 cl)) w'):=qh (fun w3 g2 h1 h2 w' hb=>by have hh:=h1.keep hb;have hi:=(h2.keep hb).three;exact⟨hh.four.1,hh.four.2.1,hh.four.2.2.1,hh.four.2.2.2,hi.1,hi.2.2⟩)
     go_wp2_with (first
      | (go_at_call 42;refine(qMU HV ad hlt _ HVR.o).mono ?_;rintro e w2 ⟨rfl,hb2⟩;rw[HK.o,HM.o,HCL.o];have HB3:=qh (Bnew (Bgo HB.o hb2) (.cells #[.int .i64 kk,.int .i64 (m:Int),.int .i64 cl] 90));have HX3:=qh ((HX.o.keep hb2).alloc (.cells #[.int .i64 kk,.int .i64 (m:Int),.int .i64 cl] 90));have HI3:=qh (Held.new w2 90 #[.int .i64 kk,.int .i64 (m:Int),.int .i64 cl]);clear hb2 c0 c1 c2 c3)
      | fail)
     generalize hg2:w2.heap.size=g2 at *
     generalize w2.alloc (.cells #[.int .i64 kk,.int .i64 (m:Int),.int .i64 cl] 90)=w3 at *
     replace HS5:=qh (HS5.o w3 g2 HX3.o HI3.o)
     obtain⟨c0,c1,c2,c3,d0,d2⟩:=HS5.o w3 (B0 _)
     clear hg2 HX HB HVR
     refine wp_region_held_drew (S:=(fun w'=>w'.cell? ⟨w.heap.size,0,none⟩=some (.int .i64 (H.t:Int))/\w'.cell? ⟨w.heap.size,1,none⟩=some (.int .i64 (H.p:Int))/\w'.cell? ⟨w.heap.size,2,none⟩=some (.int .i64 (H.s:Int))/\w'.cell? ⟨w.heap.size,3,none⟩=some (.slice (some ad) n c)/\w'.cell? ⟨g2,0,none⟩=some (.int .i64 kk)/\w'.cell? ⟨g2,2,none⟩=some (.int .i64 cl))) qr ?_ (fun hHeld=>?_)
     ·exact M40
     refine Rxn ?_
     refine tkz 7 ?_
     refine skz 8 ?_
     refine skz 9 ?_
     refine RKv ?_
     refine tkz 15 ?_
     refine tkz 16 ?_
     refine dnz ?_
     clear c0 c1 c2 c3 d0 d2 HS5 HI3
     have HX5:=qh HX3.o.drew
     have HB5:=qh (Bdrew HB3.o)
     clear HB3 HX3
     generalize w3.drew=w5 at *
     exact MGk
  ·have t0:decide ((p:Int)<H.p)=false:=qf
   have HBT:qH (b=true):=qh (HBC.o.2 (fun q hq=>HOK.o q qo))
   exact MnL
end
end Go.Proofs.YtgifnhcknodekaaGreat
