/-
  The document's rule 4. Written by doc12/gen_apart.py.
-/
import Derived.Test.YtgifnhcknodekaaGreatC10
import Derived.Test.YtgifnhcknodekaaGreatC06
import Derived.Test.YtgifnhcknodekaaGreatC09
import Derived.Test.YtgifnhcknodekaaGreatC07
import Derived.Test.YtgifnhcknodekaaGreatC04
namespace Go.Proofs.YtgifnhcknodekaaGreat
theorem R19 {P Q:Prop}(kq:Q)(h:HQ Q->P:=by
 intro kq
 refine wp_region_held_drew (S:=(fun w'=>w'.cell? ⟨w.heap.size,0,none⟩=some (.int .i64 (H.t:Int))/\w'.cell? ⟨w.heap.size,1,none⟩=some (.int .i64 (H.p:Int))/\w'.cell? ⟨w.heap.size,2,none⟩=some (.int .i64 (H.s:Int))/\w'.cell? ⟨w.heap.size,3,none⟩=some (.slice (some ad) n c)/\w'.cell? ⟨gl,n1,none⟩=some (.int .i64 (bb:Int))/\w'.cell? ⟨gl,k1,none⟩=some (.int .i64 (aa:Int)))) qr ?_ (fun hHeld=>?_)
 ·exact Mgu
 refine tkz 0 ?_
 refine tkz 1 ?_
 refine tkz 2 ?_
 refine tkz 3 ?_
 refine tkz 4 ?_
 refine rdz 5 fun K hK=>?_
 go_simp
 go_at_call 42
 refine(qMU HV ad hbp _ HVR.o.drew).mono ?_
 rintro e w3 ⟨rfl,hb3⟩
 rw[HKB.o]
 have HB3:=qh (Bgo (Bdrew HB.o) hb3)
 have HB3r:=qh (Bgo (Bdrew (B0 wr)) hb3)
 have HX3:=qh (HX.o.drew.keep hb3)
 have HL3:=qh (HLW.o.drew.keep hb3)
 clear hb3
 refine qk ?_ (fun hHeld=>?_)
 ·exact MPn
 clear hK K
 refine tkz 6 ?_
 refine tkz 7 ?_
 refine tkz 8 ?_
 revert w3 HB3 HB3r HX3 HL3 hHeld
 exact kq.o):P:=h ⟨kq⟩
theorem RPO {P Q:Prop}(kq:Q)(h:HQ Q->P:=by
 intro kq
 refine tkz 9 ?_
 refine tkz 10 ?_
 refine tkz 11 ?_
 refine tkz 12 ?_
 refine tkz 13 ?_
 refine tkz 14 ?_
 refine rdz 15 fun K hK=>?_
 go_simp
 have hz:=HKA.o
 clear hz
 go_at_call 42
 refine(qMU HV ad hap _ (HVL.o.below HB3.o)).mono ?_
 rintro e w4 ⟨rfl,hb4⟩
 rw[HKA.o]
 have HB4:=qh (Bgo HB3.o hb4)
 have HB4r:=qh (Bgo HB3r.o hb4)
 have HX4:=qh (HX3.o.keep hb4)
 have HL4:=qh (HL3.o.keep hb4)
 clear hb4
 refine qk ?_ (fun hHeld=>?_)
 ·exact MPn
 clear hK K
 refine tkz 16 ?_
 refine tkz 17 ?_
 refine tkz 18 ?_
 refine dnz ?_
 revert w4 HB4 HB4r HX4 HL4 hHeld
 exact kq.o):P:=h ⟨kq⟩
theorem RCQ {P Q:Prop}(kq:Q)(h:HQ Q->P:=by
 intro kq
 refine qk ?_ (fun hHeld=>?_)
 ·exact MZx
 refine rdz 3 fun K hK=>?_
 go_simp
 go_at_call 96
 refine(qUB HV ad hd qo _ (HVL.o.below HB.o).drew).mono ?_
 rintro e w3 ⟨u3,bk,rfl,hy,hno,hb3⟩
 have HY:=qh hy
 have HN:=qh hno
 have HB3:=qh (Bgo (Bdrew HB.o) hb3)
 have HX3:=qh (HX.o.drew.keep hb3)
 clear hb3 hy hno
 refine qk ?_ (fun hHeld=>?_)
 ·exact MZx
 clear hK K
 refine tkz 4 ?_
 refine tkz 5 ?_
 refine tkz 6 ?_
 refine tkz 7 ?_
 refine tkz 8 ?_
 refine dnz ?_
 obtain⟨c0,c1,c2,c3⟩:=HX3.o.four
 revert w3 u3 bk HY HN HB3 HX3 hHeld c0 c1 c2 c3
 exact kq.o):P:=h ⟨kq⟩
theorem Ro1 {P Q:Prop}(kq:Q)(h:HQ Q->P:=by
 intro kq
 have HBF:qH (b=false):=qh (qE5 HBC.o (fun h=>hcw (by
  have h1:=h k hk
  rw[HHD.o] at h1
  rw[<- HCN.o,(HLO.o.1 h1) q hq,HIF.o])))
 revert HBF
 exact kq.o):P:=h ⟨kq⟩
theorem Rji {P Q:Prop}(kq:Q)(h:HQ Q->P:=by
 intro kq
 refine wp_region_held_drew (S:=(fun w'=>w'.cell? ⟨w.heap.size,0,none⟩=some (.int .i64 (H.t:Int))/\w'.cell? ⟨w.heap.size,1,none⟩=some (.int .i64 (H.p:Int))/\w'.cell? ⟨w.heap.size,2,none⟩=some (.int .i64 (H.s:Int))/\w'.cell? ⟨w.heap.size,3,none⟩=some (.slice (some ad) n c))) qr ?_ (fun hHeld=>?_)
 ·(try dsimp only)
  exact MZx
 refine tkz 0 ?_
 refine tkz 1 ?_
 refine rdz 2 fun K hK=>?_
 go_simp
 revert hHeld K hK
 exact kq.o):P:=h ⟨kq⟩
theorem ROE {P Q:Prop}(kq:Q)(h:HQ Q->P:=by
 intro kq
 have hkc:=H.K_cases p
 obtain⟨kk,hkk⟩:∃ k,H.K p=k:=⟨_,rfl⟩
 obtain⟨m,hmm⟩:∃ m,H.ln p=m:=⟨_,rfl⟩
 obtain⟨cl,hcl⟩:∃ k,H.Cl p=k:=⟨_,rfl⟩
 have HK:=qh hkk
 have HM:=qh hmm
 have HCL:=qh hcl
 revert hkc kk hkk m hmm cl hcl HK HM HCL
 exact kq.o):P:=h ⟨kq⟩
theorem RKv {P Q:Prop}(kq:Q)(h:HQ Q->P:=by
 intro kq
 refine skz 10 ?_
 refine skz 11 ?_
 refine skz 12 ?_
 refine skz 13 ?_
 refine skz 14 ?_
 exact kq.o):P:=h ⟨kq⟩
theorem RC9 {P Q:Prop}(kq:Q)(h:HQ Q->P:=by
 intro kq
 go_at_call 95
 refine(qML cl qo qo _).mono ?_
 rintro e w9 ⟨rfl,rfl⟩
 rw[HSL.o]
 exact kq.o):P:=h ⟨kq⟩
theorem RaJ {P Q:Prop}(kq:Q)(h:HQ Q->P:=by
 intro kq
 go_at_call 94
 refine(qXi HV ad hlt _ (HVL.o.below HB.o)).mono ?_
 rintro e w4 ⟨rfl,hb4⟩
 rw[HTV.o]
 have HB4:=qh (Bgo HB.o hb4)
 have HX4:=qh (HX.o.keep hb4)
 clear hb4
 revert w4 HB4 HX4
 exact kq.o):P:=h ⟨kq⟩
theorem RFH {P Q:Prop}(kq:Q)(h:HQ Q->P:=by
 intro kq
 go_at_call 42
 refine(qMU HV ad hq _ (HVL.o.below HBW.o)).mono ?_
 rintro e w2 ⟨rfl,hb2⟩
 rw[HK.o,HLM.o,HCL.o]
 have HB2:=qh (Bnew (Bgo HBW.o hb2) (.cells #[.int .i64 3,.int .i64 (m:Int),.int .i64 cl] 90))
 have HX2:=qh ((HX0.o.keep hb2).alloc (.cells #[.int .i64 3,.int .i64 (m:Int),.int .i64 cl] 90))
 clear hb2
 obtain⟨c0,c1,c2,c3⟩:=HX2.o.four
 obtain⟨d0,d1,d2⟩:=(Held.new w2 90 #[.int .i64 3,.int .i64 (m:Int),.int .i64 cl]).three
 revert w2 HB2 HX2 c0 c1 c2 c3 d0 d1 d2
 exact kq.o):P:=h ⟨kq⟩
theorem R4r {P Q:Prop}(kq:Q)(h:HQ Q->P:=by
 intro kq
 go_at_call 98
 refine(qNS HV ad hq k hk true HTG.o _ (HVL.o.below HB.o)).mono ?_
 rintro e w4 ⟨rfl,hb4⟩
 have HB4:=qh (Bgo HB.o hb4)
 have HX4:=qh (HX.o.keep hb4)
 have HO4:=qh (qEc HO.o hb4)
 clear hb4
 obtain⟨c0,c1,c2,c3⟩:=HX4.o.four
 revert w4 HB4 HX4 HO4 c0 c1 c2 c3
 exact kq.o):P:=h ⟨kq⟩
theorem RXf {P Q:Prop}(kq:Q)(h:HQ Q->P:=by
 intro kq
 go_at_call 99
 refine(qOk l Au nl cu q qo qo ⟨qo,qo⟩ HLN.o _ (Reads.of_own HO4.o)).mono ?_
 rintro e w9 ⟨rfl,rfl⟩
 rw[HCN.o]
 exact kq.o):P:=h ⟨kq⟩
theorem Rbj {P Q:Prop}(kq:Q)(h:HQ Q->P:=by
 intro kq
 go_at_call 98
 refine(qNS HV ad hq k hk false HTG.o _ (HVL.o.below HB.o)).mono ?_
 rintro e w4 ⟨rfl,hb4⟩
 have HB4:=qh (Bgo HB.o hb4)
 have HX4:=qh (HX.o.keep hb4)
 have HO4:=qh (qEc HO.o hb4)
 clear hb4
 obtain⟨c0,c1,c2,c3⟩:=HX4.o.four
 revert w4 HB4 HX4 HO4 c0 c1 c2 c3
 exact kq.o):P:=h ⟨kq⟩
theorem RqW {P Q:Prop}(kq:Q)(h:HQ Q->P:=by
 intro kq
 go_at_call 101
 refine(qJC HV ad hq (HR5.o q hq) k hk true HTG.o _ (HVL.o.below HB.o)).mono ?_
 rintro e w4 ⟨rfl,hb4⟩
 have HB4:=qh (Bgo HB.o hb4)
 have HX4:=qh (HX.o.keep hb4)
 have HO4:=qh (qEc HO.o hb4)
 clear hb4
 obtain⟨c0,c1,c2,c3⟩:=HX4.o.four
 revert w4 HB4 HX4 HO4 c0 c1 c2 c3
 exact kq.o):P:=h ⟨kq⟩
theorem RzM {P Q:Prop}(kq:Q)(h:HQ Q->P:=by
 intro kq
 go_at_call 101
 refine(qJC HV ad hq (HR5.o q hq) k hk false HTG.o _ (HVL.o.below HB.o)).mono ?_
 rintro e w4 ⟨rfl,hb4⟩
 have HB4:=qh (Bgo HB.o hb4)
 have HX4:=qh (HX.o.keep hb4)
 have HO4:=qh (qEc HO.o hb4)
 clear hb4
 obtain⟨c0,c1,c2,c3⟩:=HX4.o.four
 revert w4 HB4 HX4 HO4 c0 c1 c2 c3
 exact kq.o):P:=h ⟨kq⟩
theorem ML2 {P:Prop}(h:P:=by
 go_wp2_with (first
  | (go_at_call 42;refine(qMU HV ad hq _ (HVL.o.below HBW.o)).mono ?_;rintro e w2 ⟨rfl,hb2⟩;rw[HK.o,HLM.o,HCL.o];have HB2:=qh (Bnew (Bgo HBW.o hb2) (.cells #[.int .i64 kk,.int .i64 (m:Int),.int .i64 cl] 90));have HX2:=qh ((HX0.o.keep hb2).alloc (.cells #[.int .i64 kk,.int .i64 (m:Int),.int .i64 cl] 90));clear hb2 c0 c1 c2 c3;obtain⟨c0,c1,c2,c3⟩:=HX2.o.four;obtain⟨d0,d1,d2⟩:=(Held.new w2 90 #[.int .i64 kk,.int .i64 (m:Int),.int .i64 cl]).three)
  | fail)
 go_ret
 exact⟨by rw[HBF.o];rfl,HB2.o⟩):P:=h
theorem MVu {P:Prop}(h:P:=by
 go_wp2_with (first
  | (refine RC9 ?_)
  | fail)
 exact MEH):P:=h
theorem Mof {P:Prop}(h:P:=by
 have HBF:qH (b=false):=qh (qE5 HBC.o (fun h=>HN.o rfl (by have h1:=h k hk;rw[HHD.o] at h1;exact h1)))
 clear HY
 go_wp2_with fail
 go_ret
 exact⟨by rw[HBF.o];rfl,HB3.o⟩):P:=h
theorem Mx9 {P:Prop}(h:P:=by
 go_wp2_with (first
  | (refine RC9 ?_)
  | fail)
 go_ret
 exact⟨by rw[HBF.o];rfl,HB4.o⟩):P:=h
theorem MDQ {P:Prop}(h:P:=by
 have HBT:qH (b=true):=qh (HBC.o.2 (fun q hq=>HLS.o q qo))
 exact MnL):P:=h
theorem MKn {P:Prop}(h:P:=by
 go_wp2_with fail
 go_roundw
 case rel=>exact⟨k+1,qo,by go_num,HL1,HX,HB⟩
 case measure=>simp[intOf];omega):P:=h
theorem Mgu {P:Prop}(h:P:=by
 (try dsimp only)
 exact MPn):P:=h
theorem MEH {P:Prop}(h:P:=by
 go_roundw
 case rel=>exact⟨k+1,qo,by go_num,HOK1,HX4,HI4,HB4⟩
 case measure=>simp[intOf];omega):P:=h
theorem MC6 {P:Prop}(h:P:=by
 go_roundw
 case rel=>exact⟨q+1,qo,by go_num,HOK1,HX4,HO4,HB4⟩
 case measure=>simp[intOf];omega):P:=h
theorem MPn {P:Prop}(h:P:=by first|exact HS.o _ (Bdrew (B0 _))|exact HS.o _ HB3r.o|exact HS.o _ HB4r.o|exact hHeld):P:=h
theorem MnS {P:Prop}(h:P:=by
  (try dsimp only)
  first|exact HS2.o _ (Bdrew (B0 _))|exact HS2.o _ HB7r.o|exact hHeld):P:=h
theorem MH5 {P:Prop}(h:P:=by
  (try dsimp only)
  first|exact HS.o _ (Bdrew (B0 _))|exact HS.o _ HB5r.o|exact hHeld):P:=h
theorem MkQ {P:Prop}(h:P:=by first|exact HX.o.drew.four|exact HX3.o.four|exact HX4.o.four|exact hHeld):P:=h
theorem MZx {P:Prop}(h:P:=by first|exact HX.o.drew.four|exact HX3.o.four|exact hHeld):P:=h
theorem MNP {P:Prop}(h:P:=by
 go_wp2_with fail
 go_ret
 exact⟨by rw[HBF.o];rfl,HB4.o⟩):P:=h
end Go.Proofs.YtgifnhcknodekaaGreat
set_option linter.unusedVariables false
set_option linter.unusedSimpArgs false
set_option maxRecDepth 100000
set_option maxHeartbeats 25600000
namespace Go.Proofs.YtgifnhcknodekaaGreat
open Go.ChangeShapes Go.WideShapes Go.ChangeAt Go.RowKit Go.Shelf
section
theorem qVH {H:AuH}{n c:Nat}(HV:HeapV H n c)(ht:H.Tiled)(ad:Addr)(b:Bool)(hb:b=true↔H.R4)(w:World)(hv:IsVals w ad n H.V) :
  Calls Tryz.prog 59 #[hpV H ad n c] w fun e w'=>e = .returned (.bool b)/\Below w.heap.size w w':=by
 have HVL:=qh hv
 have HX0:=qh (Held.new w 88 #[.int .i64 (H.t:Int),.int .i64 (H.p:Int),.int .i64 (H.s:Int),.slice (some ad) n c])
 obtain⟨c0,c1,c2,c3⟩:=HX0.o.four
 have HBW:=qh (Bnew (B0 w) (.cells #[.int .i64 (H.t:Int),.int .i64 (H.p:Int),.int .i64 (H.s:Int),.slice (some ad) n c] 88))
 have hn:=HV.nums
 have hcx:c<=9223372036854775807:=hn.2.2.2.2.2.2.2.2
 have hni:n<=6238:=hn.2.2.2.2.2.2.1
 have hnc:=HV.cap
 have hp1:=hn.2.2.2.1
 have HBC:=qh hb
 have hA:=ht.1
 clear hv hn hb ht
 unfold hpV
 go_enter Tryz.func59,Tryz.ntmps59
 go_wp2_with (first
  | (refine RYP ?_;clear c0 c1 c2 c3;intro w2 gl cl l nl hpos hcl0 hcl HSL HLN HLR HB2 HX2)
  | fail)
 have hnl:nl<=1024:=by have:=HSL.o.len;have:=HLN.o;omega
 go_loopw [5] (fun u5 wr=>∃ (n1:Nat),1<=n1/\n1<=nl/\u5 = .int .i64 (n1:Int)/\qH (H.ApartTo l n1)/\qH (Held wr w.heap.size 88 #[.int .i64 (H.t:Int),.int .i64 (H.p:Int),.int .i64 (H.s:Int),.slice (some ad) n c])/\qH (LRow wr gl l)/\qH (Below w.heap.size w wr)) (fun u5 _=>nl-(intOf u5).toNat)
 case atStart=>exact⟨1,qo,qo,rfl,qh (fun i a b h=>by omega),HX2,HLR,HB2⟩
 case round =>
  obtain⟨n1,hn0,hn1,rfl,HAP0,HX,HLW,HB⟩:=hrel
  obtain⟨c0,c1,c2,c3⟩:=HX.o.four
  by_cases hlt:n1<nl
  ·have t0:decide ((n1:Int)<nl)=true:=qt
   have HVR:=qh (HVL.o.below HB.o)
   obtain⟨k1,hk1⟩:∃ k1,n1=k1+1:=⟨n1-1,qo⟩
   have HNK:=qh hk1
   obtain⟨aa,hia⟩:∃ a,l[k1]?=some a:=⟨_,List.getElem?_eq_getElem (by have:=HLN.o;omega)⟩
   obtain⟨bb,hib⟩:∃ a,l[n1]?=some a:=⟨_,List.getElem?_eq_getElem (by have:=HLN.o;omega)⟩
   have HIA:=qh hia
   have HIB:=qh hib
   have hap:aa<H.p:=(HSL.o.next hia).1.2.2
   have hbp:bb<H.p:=(HSL.o.next hib).1.2.2
   have HS:qH (∀ w',Below wr.heap.size wr w'->(fun w'=>w'.cell? ⟨w.heap.size,0,none⟩=some (.int .i64 (H.t:Int))/\w'.cell? ⟨w.heap.size,1,none⟩=some (.int .i64 (H.p:Int))/\w'.cell? ⟨w.heap.size,2,none⟩=some (.int .i64 (H.s:Int))/\w'.cell? ⟨w.heap.size,3,none⟩=some (.slice (some ad) n c)/\w'.cell? ⟨gl,n1,none⟩=some (.int .i64 (bb:Int))/\w'.cell? ⟨gl,k1,none⟩=some (.int .i64 (aa:Int))) w'):=qh (fun w' hb=>by have hh:=HX.o.keep hb;exact⟨hh.four.1,hh.four.2.1,hh.four.2.2.1,hh.four.2.2.2,(HLW.o.keep hb).2 _ _ HIB.o,(HLW.o.keep hb).2 _ _ HIA.o⟩)
   have l0:=HLW.o.2 _ _ hia
   have l1:=HLW.o.2 _ _ hib
   have hf:∀ (x y z:Value) (w:World),(Instr.field 90 (.agg #[x,y,z]) 0).run Tryz.prog w = .ok x w:=fun _ _ _ _=>by kernel_rfl
   have HST:qH (¬ (H.K bb=1/\H.K aa=1)->H.ApartTo l (n1+1)):=qh (fun h=>by
    have h1:=HAP0.o
    have h2:=HIB.o
    have h3:=HNK.o
    subst h3
    exact h1.step HIA.o h2 h)
   have HNO:qH (H.K bb=1->H.K aa=1->¬ H.R4):=qh (fun h1 h2=>AuH.apart_not HSL.o HIA.o (by rw[<- HNK.o];exact HIB.o) h1 h2)
   obtain⟨kb,hkb⟩:∃ k,H.K bb=k:=⟨_,rfl⟩
   obtain⟨ka,hka⟩:∃ k,H.K aa=k:=⟨_,rfl⟩
   have HKB:=qh hkb
   have HKA:=qh hka
   rw[hkb,hka] at HST HNO
   have sw:IntKind.i64.wrap ((n1:Int)-1)=(k1:Int):=by rw[qIv qo qo];omega
   have hk1l:k1<nl:=qo
   clear hia hib hk1 hkb hka
   by_cases hkb:kb=1
   ·have q0:(kb==1)=true:=by simpa using hkb
    by_cases hka:ka=1
    ·have q1:(ka==1)=true:=by simpa using hka
     have HBF:qH (b=false):=qh (qE5 HBC.o (HNO.o hkb hka))
     clear hkb hka
     go_wp2_with fail
     refine R19 ?_;intro w3 HB3 HB3r HX3 HL3 hHeld
     refine RPO ?_;intro w4 HB4 HB4r HX4 HL4 hHeld
     exact MNP
    ·have q1:(ka==1)=false:=by simpa using hka
     have HAP:=qh (HST.o (fun h=>hka h.2))
     clear hkb hka
     go_wp2_with fail
     refine R19 ?_;intro w3 HB3 HB3r HX3 HL3 hHeld
     refine RPO ?_;intro w4 HB4 HB4r HX4 HL4 hHeld
     go_wp2_with fail
     go_roundw
     case rel=>exact⟨n1+1,qo,qo,by go_num,qh HAP.o,HX4,HL4,HB4⟩
     case measure=>simp[intOf];omega
   ·have q0:(kb==1)=false:=by simpa using hkb
    have HAP:=qh (HST.o (fun h=>hkb h.1))
    clear hkb
    go_wp2_with fail
    refine R19 ?_;intro w3 HB3 HB3r HX3 HL3 hHeld
    refine skz 9 ?_
    refine RKv ?_
    refine skz 15 ?_
    refine skz 16 ?_
    refine skz 17 ?_
    refine tkz 18 ?_
    refine dnz ?_
    go_wp2_with fail
    go_roundw
    case rel=>exact⟨n1+1,qo,qo,by go_num,qh HAP.o,HX3,HL3,HB3⟩
    case measure=>simp[intOf];omega
  ·have t0:decide ((n1:Int)<nl)=false:=qf
   have HBT:qH (b=true):=qh (HBC.o.2 (AuH.apart_all HSL.o (by have:=HLN.o;omega) HAP0.o))
   exact MnL
end
section
theorem qPG {H:AuH}{n c:Nat}(HV:HeapV H n c)(ad:Addr)(b:Bool)(hb:b=true↔H.R5)(w:World)(hv:IsVals w ad n H.V) :
  Calls Tryz.prog 60 #[hpV H ad n c] w fun e w'=>e = .returned (.bool b)/\Below w.heap.size w w':=by
 have HVL:=qh hv
 have HX0:=qh (Held.new w 88 #[.int .i64 (H.t:Int),.int .i64 (H.p:Int),.int .i64 (H.s:Int),.slice (some ad) n c])
 obtain⟨c0,c1,c2,c3⟩:=HX0.o.four
 have HBW:=qh (Bnew (B0 w) (.cells #[.int .i64 (H.t:Int),.int .i64 (H.p:Int),.int .i64 (H.s:Int),.slice (some ad) n c] 88))
 have hn:=HV.nums
 have hcx:c<=9223372036854775807:=hn.2.2.2.2.2.2.2.2
 have hni:n<=6238:=hn.2.2.2.2.2.2.1
 have hnc:=HV.cap
 have hp1:=hn.2.2.2.1
 have HBC:=qh hb
 clear hv hn hb
 unfold hpV
 go_enter Tryz.func60,Tryz.ntmps60
 go_wp2_with fail
 go_loopw [3] (fun u3 wr=>∃ (p:Nat),p<=H.p/\u3 = .int .i64 (p:Int)/\qH (∀ q,q<p->H.Slot5 q)/\qH (Held wr w.heap.size 88 #[.int .i64 (H.t:Int),.int .i64 (H.p:Int),.int .i64 (H.s:Int),.slice (some ad) n c])/\qH (Below w.heap.size w wr)) (fun u3 _=>H.p-(intOf u3).toNat)
 case atStart=>exact⟨0,qo,rfl,qh (fun q h=>by omega),HX0,HBW⟩
 case round =>
  clear c0 c1 c2 c3 HX0 HBW
  obtain⟨p,hp,rfl,HSO,HX,HB⟩:=hrel
  obtain⟨c0,c1,c2,c3⟩:=HX.o.four
  by_cases hlt:p<H.p
  ·refine RKO ?_;intro t0 HVR
   have h4:=AuH.slot5_iff (H:=H) p (HV.cel_lt hlt (show 4<6 by omega)) (HV.cel_lt hlt (show 5<6 by omega))
   obtain⟨sv,hsv⟩:∃ v,H.cel p 4=v:=⟨_,rfl⟩
   obtain⟨tv,htv⟩:∃ v,H.cel p 5=v:=⟨_,rfl⟩
   have HSV:=qh hsv
   have HTV:=qh htv
   have hs32:=HV.cel_lt hlt (show 4<6 by omega)
   have ht32:=HV.cel_lt hlt (show 5<6 by omega)
   rw[hsv] at hs32
   rw[htv] at ht32 h4
   refine ROE ?_;intro hkc kk hkk m hmm cl hcl HK HM HCL
   rw[hkk,hmm,hcl] at hkc
   rw[hkk] at h4
   obtain⟨sl,hsl⟩:∃ s,slotI cl=s:=⟨_,rfl⟩
   have HSL:=qh hsl
   have HH4:=qh h4
   have HBAD:qH (∀ j,H.SlotBad p j↔(sv.testBit j=true/\tv.testBit j=false)\/(tv.testBit j=true/\(kk≠3\/sl<=j))):=qh (fun j=>by unfold AuH.SlotBad;rw[hsv,htv,hkk,hcl,hsl])
   have HNB:qH (H.R5->∀ j,j<32->¬ H.SlotBad p j):=qh (fun h=>(h4.1 (h p hlt)).1)
   have HNZ:qH (H.R5->¬ (kk=3/\tv=0)):=qh (fun h=>(h4.1 (h p hlt)).2)
   clear hsv htv hkk hmm hcl h4 hsl
   go_wp2_with (first
    | (go_at_call 42;refine(qMU HV ad hlt _ HVR.o).mono ?_;rintro e w2 ⟨rfl,hb2⟩;rw[HK.o,HM.o,HCL.o];have HB2:=qh (Bnew (Bgo HB.o hb2) (.cells #[.int .i64 kk,.int .i64 (m:Int),.int .i64 cl] 90));have HX2:=qh ((HX.o.keep hb2).alloc (.cells #[.int .i64 kk,.int .i64 (m:Int),.int .i64 cl] 90));have HI2:=qh (Held.new w2 90 #[.int .i64 kk,.int .i64 (m:Int),.int .i64 cl]);clear hb2 c0 c1 c2 c3)
    | fail)
   generalize hg2:w2.heap.size=g2 at *
   generalize w2.alloc (.cells #[.int .i64 kk,.int .i64 (m:Int),.int .i64 cl] 90)=w3 at *
   clear hg2 HX HB HVR
   clear wr
   go_loopw [5] (fun u5 wr=>∃ (k:Nat),k<=32/\u5 = .int .i64 (k:Int)/\qH (∀ j,j<k->¬ H.SlotBad p j)/\qH (Held wr w.heap.size 88 #[.int .i64 (H.t:Int),.int .i64 (H.p:Int),.int .i64 (H.s:Int),.slice (some ad) n c])/\qH (Held wr g2 90 #[.int .i64 kk,.int .i64 (m:Int),.int .i64 cl])/\qH (Below w.heap.size w wr)) (fun u5 _=>32-(intOf u5).toNat)
   case atStart=>exact⟨0,qo,rfl,qh (fun j h=>by omega),HX2,HI2,HB2⟩
   case round =>
    clear HX2 HI2 HB2
    obtain⟨k,hk,rfl,HOK,HX,HI,HB⟩:=hrel
    obtain⟨c0,c1,c2,c3⟩:=HX.o.four
    by_cases hk32:k<32
    ·have t1:decide ((k:Int)<32)=true:=qt
     obtain⟨bl,hbl⟩:∃ x,sv.testBit ((k:Int)).toNat=x:=⟨_,rfl⟩
     obtain⟨bt,hbt⟩:∃ x,tv.testBit ((k:Int)).toNat=x:=⟨_,rfl⟩
     have HBL:=qh hbl
     have HBT:=qh hbt
     rw[Int.toNat_natCast] at hbl hbt
     have hbd:=HBAD.o k
     rw[hbl,hbt] at hbd
     have HBD:=qh (And.intro hbd.1 hbd.2)
     clear hbl hbt hbd
     go_wp2_with fail
     refine wp_region_held_drew (S:=(fun w'=>w'.cell? ⟨w.heap.size,0,none⟩=some (.int .i64 (H.t:Int))/\w'.cell? ⟨w.heap.size,1,none⟩=some (.int .i64 (H.p:Int))/\w'.cell? ⟨w.heap.size,2,none⟩=some (.int .i64 (H.s:Int))/\w'.cell? ⟨w.heap.size,3,none⟩=some (.slice (some ad) n c))) qr ?_ (fun hHeld=>?_)
     ·(try dsimp only)
      exact MkQ
     refine tkz 0 ?_
     refine tkz 1 ?_
     refine tkz 3 ?_
     refine tkz 5 ?_
     refine tkz 6 ?_
     refine tkz 8 ?_
     refine rdz 2 fun K hK=>?_
     go_simp
     (go_at_call 93;refine(qVC HV ad hlt _ (HVL.o.below HB.o).drew).mono ?_;rintro e w3 ⟨rfl,hb3⟩;rw[HSV.o];have HB3:=qh (Bgo (Bdrew HB.o) hb3);have HX3:=qh (HX.o.drew.keep hb3);have HI3:=qh (HI.o.drew.keep hb3);clear hb3)
     refine qk ?_ (fun hHeld=>?_)
     ·exact MkQ
     clear hK K
     refine rdz 4 fun K hK=>?_
     go_simp
     (go_at_call 92;refine(qA0 sv (k:Int) bl hs32 qo qo HBL.o _).mono ?_;rintro e w9 ⟨rfl,rfl⟩)
     refine qk ?_ (fun hHeld=>?_)
     ·exact MkQ
     clear hK K
     refine rdz 7 fun K hK=>?_
     go_simp
     (go_at_call 94;refine(qXi HV ad hlt _ (HVL.o.below HB3.o)).mono ?_;rintro e w4 ⟨rfl,hb4⟩;rw[HTV.o];have HB4:=qh (Bgo HB3.o hb4);have HX4:=qh (HX3.o.keep hb4);have HI4:=qh (HI3.o.keep hb4);clear hb4)
     refine qk ?_ (fun hHeld=>?_)
     ·exact MkQ
     clear hK K
     refine rdz 9 fun K hK=>?_
     go_simp
     (go_at_call 92;refine(qA0 tv (k:Int) bt ht32 qo qo HBT.o _).mono ?_;rintro e w9 ⟨rfl,rfl⟩)
     refine qk ?_ (fun hHeld=>?_)
     ·exact MkQ
     clear hK K
     refine tkz 10 ?_
     refine tkz 11 ?_
     refine dnz ?_
     clear c0 c1 c2 c3
     obtain⟨c0,c1,c2,c3⟩:=HX4.o.four
     obtain⟨d0,d1,d2⟩:=HI4.o.three
     cases bt
     ·cases bl
      ·have HOK1:qH (∀ j,j<k+1->¬ H.SlotBad p j):=qh (fun j hj=>by
        rcases Nat.lt_or_ge j k with h|h
        ·exact HOK.o j h
        ·obtain rfl:j=k:=qo
         exact fun hh=>by have:=HBD.o.1 hh;simp at this)
       go_wp2_with fail
       exact MEH
      ·have HBF:qH (b=false):=qh (qE5 HBC.o (fun h=>HNB.o h k hk32 (HBD.o.2 (.inl ⟨rfl,rfl⟩))))
       exact MNP
     ·by_cases hk3:kk=3
      ·have q0:(kk != 3)=false:=by simpa using hk3
       by_cases hsk:sl<=k
       ·have q1:decide ((sl:Int)<=k)=true:=qt
        have q2:decide (sl<=k)=true:=decide_eq_true hsk
        have HBF:qH (b=false):=qh (qE5 HBC.o (fun h=>HNB.o h k hk32 (HBD.o.2 (.inr ⟨rfl,.inr hsk⟩))))
        cases bl
        ·exact Mx9
        ·exact Mx9
       ·have q1:decide ((sl:Int)<=k)=false:=qf
        have q2:decide (sl<=k)=false:=decide_eq_false hsk
        have HOK1:qH (∀ j,j<k+1->¬ H.SlotBad p j):=qh (fun j hj=>by
         rcases Nat.lt_or_ge j k with h|h
         ·exact HOK.o j h
         ·obtain rfl:j=k:=qo
          rintro hh
          rcases HBD.o.1 hh with ⟨_,h2⟩|⟨_,h2|h2⟩
          ·cases h2
          ·exact h2 hk3
          ·exact hsk h2)
        clear hk3
        cases bl
        ·exact MVu
        ·exact MVu
      ·have q0:(kk != 3)=true:=by simpa using hk3
       have HBF:qH (b=false):=qh (qE5 HBC.o (fun h=>HNB.o h k hk32 (HBD.o.2 (.inr ⟨rfl,.inl hk3⟩))))
       clear hk3
       cases bl
       ·exact MNP
       ·exact MNP
    ·have t1:decide ((k:Int)<32)=false:=qf
     have hke:k=32:=qo
     have HOE:qH (∀ j,j<32->¬ H.SlotBad p j):=qh (fun j hj=>HOK.o j qo)
     obtain⟨d0,d1,d2⟩:=HI.o.three
     have HST:qH (¬ (kk=3/\tv=0)->∀ q,q<p+1->H.Slot5 q):=qh (fun h q hq=>by
      rcases Nat.lt_or_ge q p with h1|h1
      ·exact HSO.o q h1
      ·obtain rfl:q=p:=qo
       exact HH4.o.2 ⟨HOE.o,h⟩)
     by_cases hk3:kk=3
     ·have q0:(kk==3)=true:=by simpa using hk3
      by_cases htz:tv=0
      ·have q1:((tv:Int)==0)=true:=qs
       have HBF:qH (b=false):=qh (qE5 HBC.o (fun h=>HNZ.o h ⟨hk3,htz⟩))
       clear hk3 htz
       go_wp2_with (first
        | (refine RaJ ?_;intro w4 HB4 HX4)
        | fail)
       go_ret
       exact⟨by rw[HBF.o];rfl,HB4.o⟩
      ·have q1:((tv:Int)==0)=false:=qs
       have HS1:=qh (HST.o (fun h=>htz h.2))
       clear hk3 htz
       go_wp2_with (first
        | (refine RaJ ?_;intro w4 HB4 HX4)
        | fail)
       go_roundw
       case rel=>exact⟨p+1,qo,by go_num,HS1,HX4,HB4⟩
       case measure=>simp[intOf];omega
     ·have q0:(kk==3)=false:=by simpa using hk3
      have HS1:=qh (HST.o (fun h=>hk3 h.1))
      clear hk3
      go_wp2_with fail
      go_roundw
      case rel=>exact⟨p+1,qo,by go_num,HS1,HX,HB⟩
      case measure=>simp[intOf];omega
  ·have t0:decide ((p:Int)<H.p)=false:=qf
   have HBT:qH (b=true):=qh (HBC.o.2 (fun q hq=>HSO.o q qo))
   exact MnL
end
section
theorem qPd {w:World}{base:Nat}{e:TypeId}{size n c:Nat}{A:Option Addr}{xs:List Value}(h:w.ownsRow base e size (.slice A n c) n xs):n<=c/\c<=9223372036854775807:=by
 exact Mxe
def ListEnd (H:AuH) (head:Nat) (w:World) (e:Ending) (w':World):Prop:=∃ u b,e = .returned (.tuple #[u,.bool b])/\(b=true->∃ l a,H.Path head l 0 a/\l.length<=1024/\w'.ownsRow w.heap.size 3 1 u l.length (natVs l))/\(b=false->¬ H.ListOk head)/\Below w.heap.size w w'

theorem qUB {H:AuH}{n c:Nat}(HV:HeapV H n c)(ad:Addr)(hd:Nat)(hh:hd<30)(w:World)(hv:IsVals w ad n H.V) :
    Calls Tryz.prog 96 #[hpV H ad n c,.int .i64 (hd:Int)] w (ListEnd H hd w):=by
  have HVL:=qh hv
  have HX0:=qh ((Held.new w 88 #[.int .i64 (H.t:Int),.int .i64 (H.p:Int),.int .i64 (H.s:Int),.slice (some ad) n c]).alloc (.cells #[] 3))
  obtain⟨c0,c1,c2,c3⟩:=HX0.o.four
  have HBW:=qh (Bnew (Bnew (B0 w) (.cells #[.int .i64 (H.t:Int),.int .i64 (H.p:Int),.int .i64 (H.s:Int),.slice (some ad) n c] 88)) (.cells #[] 3))
  have HOW:qH (((w.alloc (.cells #[.int .i64 (H.t:Int),.int .i64 (H.p:Int),.int .i64 (H.s:Int),.slice (some ad) n c] 88)).alloc (.cells #[] 3)).ownsRow (w.heap.size+1) 3 1 (.slice (some ⟨(w.alloc (.cells #[.int .i64 (H.t:Int),.int .i64 (H.p:Int),.int .i64 (H.s:Int),.slice (some ad) n c] 88)).heap.size,0,none⟩) 0 0) 0 []):=qh (World.ownsRow_lit (base:=(w.heap.size+1)) (e := 3) (size:=1) (w.alloc (.cells #[.int .i64 (H.t:Int),.int .i64 (H.p:Int),.int .i64 (H.s:Int),.slice (some ad) n c] 88)) #[] 0 (by simp) (by unfold maxLen;omega) rfl)
  obtain⟨i0,hi0,hz0,hz1,hz2⟩:=info_parts intInfo
  have hn:=HV.nums
  have hcx:c<=9223372036854775807:=hn.2.2.2.2.2.2.2.2
  have hni:n<=6238:=hn.2.2.2.2.2.2.1
  have hnc:=HV.cap
  have hp1:=hn.2.2.2.1
  have hhn:hd<n:=by have:=HV.len;omega
  have hv0:=(HVL.o.below HBW.o).2 hd hhn
  obtain⟨v0,hvv0⟩:∃ v,H.V hd=v:=⟨_,rfl⟩
  have HP0:qH (H.Path hd [] v0 0):=qh (by rw[<- hvv0];exact .nil)
  have hv32:=HV.lt hd hhn
  rw[hvv0] at hv0 hv32
  clear hv hn hvv0
  unfold hpV
  go_enter Tryz.func96,Tryz.ntmps96
  go_wp2_with fail
  rw[World.size_alloc] at HOW
  generalize (w.alloc (.cells #[.int .i64 (H.t:Int),.int .i64 (H.p:Int),.int .i64 (H.s:Int),.slice (some ad) n c] 88)).alloc (.cells #[] 3)=W0 at *
  clear c0 c1 c2 c3 hv0
  go_loopw [6,7,8] (fun u6 u7 u8 wr=>∃ (q a:Nat) (l:List Nat) (nl:Nat),u7 = .int .u32 (q:Int)/\u8 = .int .u32 (a:Int)/\q<2^32/\a<2^32/\qH (H.Path hd l q a)/\nl<=H.p/\qH (l.length=nl)/\qH (wr.ownsRow (w.heap.size+1) 3 1 u6 nl (natVs l))/\(∃ A c,u6 = .slice A nl c/\nl<=c/\c<=9223372036854775807)/\qH (Held wr w.heap.size 88 #[.int .i64 (H.t:Int),.int .i64 (H.p:Int),.int .i64 (H.s:Int),.slice (some ad) n c])/\qH (Below w.heap.size w wr)) (fun u6 _ _ _=>H.p-(match u6 with | .slice _ k _=>k|_=>0))
  case atStart=>exact⟨v0,0,[],0,rfl,rfl,hv32,qo,HP0,qo,qh rfl,HOW,⟨_,_,rfl,qo,qo⟩,HX0,HBW⟩
  case round =>
    clear HOW HX0 HBW HP0
    obtain⟨q,a,l,nl,rfl,rfl,hq32,ha32,HPA,hnl,HLN,HO,⟨Au,cu,rfl,hcu0,hcu⟩,HX,HB⟩:=hrel
    obtain⟨c0,c1,c2,c3⟩:=HX.o.four
    by_cases hq0:q=0
    · have q0:((q:Int) != 0)=false:=qs
      have HQZ:=qh hq0
      clear hq0
      go_wp2_with fail
      go_ret2
      refine⟨_,true,rfl,fun _=>⟨l,a,?_,by have:=HLN.o;omega,by rw[HLN.o];exact qIX HO.o qo⟩,fun h=>(by cases h),HB.o⟩
      have:=HPA.o
      rwa [HQZ.o] at this
    · have q0:((q:Int) != 0)=true:=qs
      have HGO:qH (H.ListOk hd->1<=q/\q<=H.p/\H.cel (q-1) 3=a/\l.length<H.p):=qh (fun h=>AuH.listOk_goes h HPA.o hq0)
      have wq:IntKind.i64.wrap (q:Int)=(q:Int):=qIv qo qo
      by_cases hqp:q<=H.p
      · have t1:decide ((q:Int) > H.p)=false:=qf
        have t1b:decide ((H.p:Int)<q)=false:=qf
        by_cases hlp:nl<H.p
        · have t2:decide ((H.p:Int)<=nl)=false:=qf
          have t2b:¬ H.p<=nl:=qo
          obtain⟨p,hp⟩:∃ p,q=p+1:=⟨q-1,qo⟩
          have hlt:p<H.p:=qo
          have sw:IntKind.i64.wrap ((q:Int)-1)=(p:Int):=by rw[qIv qo qo];omega
          have HVR:=qh (HVL.o.below HB.o)
          have hqm:q-1=p:=qo
          have HPQ:=qh hp
          obtain⟨i,hii⟩:∃ i,30+4*H.t+6*p+3=i:=⟨_,rfl⟩
          have hini:i<n:=by have:=HV.len;omega
          have HI:qH (pageI H.t H.p H.s p 3=(i:Int)):=qh (by have h:=HV.page (b:=3) hlt qo;rw[hii] at h;exact h)
          have h32i:=HV.cel_lt hlt (show 3<6 by omega)
          have hceli:H.cel p 3=H.V i:=by unfold AuH.cel;rw[hii]
          obtain⟨v,hvvv⟩:∃ v,H.cel p 3=v:=⟨_,rfl⟩
          have HCv:=qh hvvv
          rw[hvvv] at h32i
          have hci:=(HVR.o).2 i hini
          rw[<- hceli,hvvv] at hci
          have hbli:(ad.add i).block<wr.heap.size:=by rw[qXL];exact(HVR.o).1
          have HS:qH (∀ w',Below wr.heap.size wr w'->(fun w'=>w'.cell? ⟨w.heap.size,0,none⟩=some (.int .i64 (H.t:Int))/\w'.cell? ⟨w.heap.size,1,none⟩=some (.int .i64 (H.p:Int))/\w'.cell? ⟨w.heap.size,2,none⟩=some (.int .i64 (H.s:Int))/\w'.cell? ⟨w.heap.size,3,none⟩=some (.slice (some ad) n c)/\w'.cell? (ad.add i)=some (.int .u32 (v:Int))) w'):=qh (fun w' hb=>by have hh:=HX.o.keep hb;exact⟨hh.four.1,hh.four.2.1,hh.four.2.2.1,hh.four.2.2.2,(hb.cell hbli).trans hci⟩)
          rw[hqm,hvvv] at HGO
          clear hci hbli hceli hvvv hii hqm hp
          by_cases hva:v=a
          · have q1:((v:Int) != (a:Int))=false:=qs
            have HPN:qH (∀ v2,H.cel p 2=v2->H.Path hd (l ++ [p]) v2 q):=qh (fun v2 hv2=>by
              have h:=AuH.Path.snoc HPA.o (by have:=HPQ.o;omega) hqp (by rw[show q-1=p by have:=HPQ.o;omega,HCv.o];exact hva)
              rwa [show q-1=p by have:=HPQ.o;omega,hv2] at h)
            clear hva HGO
            go_wp2_with fail
            refine wp_region_held_drew (S:=(fun w'=>w'.cell? ⟨w.heap.size,0,none⟩=some (.int .i64 (H.t:Int))/\w'.cell? ⟨w.heap.size,1,none⟩=some (.int .i64 (H.p:Int))/\w'.cell? ⟨w.heap.size,2,none⟩=some (.int .i64 (H.s:Int))/\w'.cell? ⟨w.heap.size,3,none⟩=some (.slice (some ad) n c)/\w'.cell? (ad.add i)=some (.int .u32 (v:Int)))) qr ?_ (fun hHeld=>?_)
            ·exact MH5
            refine tkz 0 ?_
            refine tkz 1 ?_
            refine tkz 2 ?_
            refine tkz 3 ?_
            refine tkz 4 ?_
            refine tkz 8 ?_
            refine rdz 5 fun K hK=>?_
            go_simp
            (go_at_call 104;refine(qJU _ _ _ _ _).mono ?_;rintro e w5 ⟨rfl,hb5⟩;rw[HI.o];have HB5:=qh (Bgo (Bdrew HB.o) hb5);have HB5r:=qh (Bgo (Bdrew (B0 wr)) hb5);have HX5:=qh (HX.o.drew.keep hb5);have HO5:=qh (qEc HO.o.drew hb5);clear hb5)
            refine hK.out _ _ ?_ (fun hHeld=>?_)
            ·exact MH5
            clear hK K
            (try simp only[Act.put,gA,gB,gC,sA,sB,sC])
            refine tkz 6 ?_
            refine tkz 7 ?_
            refine tkz 9 ?_
            refine dnz ?_
            obtain⟨c0,c1,c2,c3⟩:=HX5.o.four
            generalize hu6:(Value.slice Au nl cu)=u6 at *
            go_wp2_with (first
              | (at_builtin
                 refine wpList_append_own _ rfl _ _ 37 rfl (w.heap.size+1) 3 i0 (.int .i64 0) 1 8 Tryz.underlying37 hi0 hz0 hz1 hz2 rfl (by decide) _ _ _ rfl (HO5.o.alloc _) ⟨_,0,none⟩ 1 1 [.int .i64 (p:Int)] rfl rfl ?c1 ?c2 ?c3 ?c4 ?c5 ?_
                 case c1=>intro j y hy;rcases j with _|j;(· simp at hy;subst hy;simp[Addr.add]);(· simp at hy)
                 case c2=>simp[Value.oneCell']
                 case c3=>unfold maxLen;omega
                 case c4=>omega
                 case c5=>have:=HB5.o.size;have:=HX5.o.lt;simp;omega
                 intro u1 w6 hown6 hgrow hat6
                 have HO6:qH (w6.ownsRow (w.heap.size+1) 3 1 u1 (nl+1) (natVs (l ++ [p]))):=qh (by rw[qKj];exact hown6)
                 have hnb:∀ j,u6.ownBlock=some j->(w.heap.size+1)<=j:=fun j hj=>(HO5.o.lt j hj).1
                 have HB6:=qh ((Bnew HB5.o (.cells #[.int .i64 (p:Int)] 3)).grown hgrow (by have:=HB5.o.size;simp;omega) (fun j hj=>by have:=hnb j hj;omega))
                 have HX6:=qh (qGN (HX5.o.alloc (.cells #[.int .i64 (p:Int)] 3)) hgrow (fun e=>by have:=hnb _ e;omega))
                 clear hown6 hgrow hat6 hnb c0 c1 c2 c3
                 obtain⟨c0,c1,c2,c3⟩:=HX6.o.four)
              | fail)
            obtain⟨i2,hii2⟩:∃ i2,30+4*H.t+6*p+2=i2:=⟨_,rfl⟩
            have hini2:i2<n:=by have:=HV.len;omega
            have HI2:qH (pageI H.t H.p H.s p 2=(i2:Int)):=qh (by have h:=HV.page (b:=2) hlt qo;rw[hii2] at h;exact h)
            have h32i2:=HV.cel_lt hlt (show 2<6 by omega)
            have hceli2:H.cel p 2=H.V i2:=by unfold AuH.cel;rw[hii2]
            obtain⟨v2,hvvv2⟩:∃ v2,H.cel p 2=v2:=⟨_,rfl⟩
            have HCv2:=qh hvvv2
            rw[hvvv2] at h32i2
            have HV6:=qh (HVL.o.below HB6.o)
            have hci2:=(HV6.o).2 i2 hini2
            rw[<- hceli2,hvvv2] at hci2
            have hbli2:(ad.add i2).block<w6.heap.size:=by rw[qXL];exact(HV6.o).1
            have HS2:qH (∀ w',Below w6.heap.size w6 w'->(fun w'=>w'.cell? ⟨w.heap.size,0,none⟩=some (.int .i64 (H.t:Int))/\w'.cell? ⟨w.heap.size,1,none⟩=some (.int .i64 (H.p:Int))/\w'.cell? ⟨w.heap.size,2,none⟩=some (.int .i64 (H.s:Int))/\w'.cell? ⟨w.heap.size,3,none⟩=some (.slice (some ad) n c)/\w'.cell? (ad.add i2)=some (.int .u32 (v2:Int))) w'):=qh (fun w' hb=>by have hh:=HX6.o.keep hb;exact⟨hh.four.1,hh.four.2.1,hh.four.2.2.1,hh.four.2.2.2,(hb.cell hbli2).trans hci2⟩)
            have HPV:=qh (HPN.o v2 hvvv2)
            clear hci2 hbli2 hceli2 hvvv2 hii2 HPN
            refine wp_region_held_drew (S:=(fun w'=>w'.cell? ⟨w.heap.size,0,none⟩=some (.int .i64 (H.t:Int))/\w'.cell? ⟨w.heap.size,1,none⟩=some (.int .i64 (H.p:Int))/\w'.cell? ⟨w.heap.size,2,none⟩=some (.int .i64 (H.s:Int))/\w'.cell? ⟨w.heap.size,3,none⟩=some (.slice (some ad) n c)/\w'.cell? (ad.add i2)=some (.int .u32 (v2:Int)))) qr ?_ (fun hHeld=>?_)
            ·exact MnS
            refine tkz 0 ?_
            refine tkz 1 ?_
            refine tkz 2 ?_
            refine tkz 3 ?_
            refine tkz 4 ?_
            refine rdz 5 fun K hK=>?_
            go_simp
            (go_at_call 103;refine(qKI _ _ _ _ _).mono ?_;rintro e w7 ⟨rfl,hb7⟩;rw[HI2.o];have HB7:=qh (Bgo (Bdrew HB6.o) hb7);have HB7r:=qh (Bgo (Bdrew (B0 w6)) hb7);have HX7:=qh (HX6.o.drew.keep hb7);have HO7:=qh (qEc HO6.o.drew hb7);clear hb7)
            refine hK.out _ _ ?_ (fun hHeld=>?_)
            ·exact MnS
            clear hK K
            (try simp only[Act.put,gA,gB,gC,sA,sB,sC])
            refine tkz 6 ?_
            refine tkz 7 ?_
            refine tkz 8 ?_
            refine dnz ?_
            obtain⟨A1,cc1,hu1⟩:=qKK HO6.o
            subst hu1
            have hcc:=qPd HO6.o
            go_wp2_with fail
            subst hu6
            go_roundw
            case rel=>exact⟨v2,q,l ++ [p],nl+1,by go_num,by go_num,h32i2,hq32,qh HPV.o,qo,qh (by rw[List.length_append,HLN.o];rfl),HO7,⟨_,_,rfl,hcc.1,hcc.2⟩,HX7,HB7⟩
            case measure=>simp;omega
          · have q1:((v:Int) != (a:Int))=true:=qs
            have HNO:qH (¬ H.ListOk hd):=qh (fun h=>hva (HGO.o h).2.2.1)
            clear hva HGO
            go_wp2_with fail
            refine wp_region_held_drew (S:=(fun w'=>w'.cell? ⟨w.heap.size,0,none⟩=some (.int .i64 (H.t:Int))/\w'.cell? ⟨w.heap.size,1,none⟩=some (.int .i64 (H.p:Int))/\w'.cell? ⟨w.heap.size,2,none⟩=some (.int .i64 (H.s:Int))/\w'.cell? ⟨w.heap.size,3,none⟩=some (.slice (some ad) n c)/\w'.cell? (ad.add i)=some (.int .u32 (v:Int)))) qr ?_ (fun hHeld=>?_)
            ·exact MH5
            refine tkz 0 ?_
            refine tkz 1 ?_
            refine tkz 2 ?_
            refine tkz 3 ?_
            refine tkz 4 ?_
            refine tkz 8 ?_
            refine rdz 5 fun K hK=>?_
            go_simp
            (go_at_call 104;refine(qJU _ _ _ _ _).mono ?_;rintro e w5 ⟨rfl,hb5⟩;rw[HI.o];have HB5:=qh (Bgo (Bdrew HB.o) hb5);have HB5r:=qh (Bgo (Bdrew (B0 wr)) hb5);have HX5:=qh (HX.o.drew.keep hb5);have HO5:=qh (qEc HO.o.drew hb5);clear hb5)
            refine hK.out _ _ ?_ (fun hHeld=>?_)
            ·exact MH5
            clear hK K
            (try simp only[Act.put,gA,gB,gC,sA,sB,sC])
            refine tkz 6 ?_
            refine tkz 7 ?_
            refine tkz 9 ?_
            refine dnz ?_
            go_wp2_with fail
            go_ret2
            exact⟨_,false,rfl,fun h=>(by cases h),fun _=>HNO.o,HB5.o⟩
        · have t2:decide ((H.p:Int)<=nl)=true:=qt
          have t2b:H.p<=nl:=qo
          have HNO:qH (¬ H.ListOk hd):=qh (fun h=>by have:=(HGO.o h).2.2.2;have:=HLN.o;omega)
          clear HGO
          go_wp2_with fail
          go_ret2
          exact⟨_,false,rfl,fun h=>(by cases h),fun _=>HNO.o,HB.o⟩
      · have t1:decide ((q:Int) > H.p)=true:=qt
        have t1b:decide ((H.p:Int)<q)=true:=qt
        have HNO:qH (¬ H.ListOk hd):=qh (fun h=>hqp (HGO.o h).2.1)
        clear HGO
        go_wp2_with fail
        go_ret2
        exact⟨_,false,rfl,fun h=>(by cases h),fun _=>HNO.o,HB.o⟩

theorem qOk (l:List Nat)(A:Option Addr)(nl cl q:Nat)(hq:q<=1024)(hnl:nl<=1024)(hcl:nl<=cl/\cl<=9223372036854775807)(hln:l.length=nl)(w:World)(hR:Reads w w.heap.size 1 A nl (natVs l)) :
  Calls Tryz.prog 99 #[.slice A nl cl,.int .i64 (q:Int)] w fun e w'=>e = .returned (.int .i64 (AuH.cntIn l q:Nat))/\w=w':=by
 have HR:=qh hR
 have HLN:=qh hln
 have hcl1:=hcl.1
 have hcl2:=hcl.2
 clear hR hln hcl
 go_enter Tryz.func99,Tryz.ntmps99
 go_wp2_with fail
 go_loopw [5,6] (fun u5 u6 wr=>∃ (k m:Nat),k<=nl/\m<=k/\u6 = .int .i64 (k:Int)/\u5 = .int .i64 (m:Int)/\qH (AuH.cntIn (l.take k) q=m)/\wr=w) (fun _ u6 _=>nl-(intOf u6).toNat)
 case atStart=>exact⟨0,0,qo,qo,rfl,rfl,qh rfl,rfl⟩
 case round =>
  obtain⟨k,m,hk,hm,rfl,rfl,HC,rfl⟩:=hrel
  by_cases hlt:k<nl
  ·have t0:decide ((k:Int)<nl)=true:=qt
   obtain⟨a,hi⟩:∃ a,l[k]?=some a:=⟨_,List.getElem?_eq_getElem (by have:=HLN.o;omega)⟩
   obtain⟨ad,u,rfl,hbl,hu,hc⟩:=HR.o.at_ hlt
   have hua:u = .int .i64 (a:Int):=by
    have:=qHG hi
    rw[hu] at this
    simpa using this
   subst hua
   have HTK:qH (l.take (k+1)=l.take k ++ [a]):=qh (by rw[List.take_add_one,hi];rfl)
   clear hu hi
   by_cases haq:a=q
   ·have q0:((a:Int)==(q:Int))=true:=qs
    have HC1:qH (AuH.cntIn (l.take (k+1)) q=m+1):=qh (by rw[HTK.o,AuH.cntIn_snoc,HC.o,if_pos haq])
    clear haq
    go_wp2_with fail
    go_roundw
    case rel=>exact⟨k+1,m+1,qo,qo,by go_num,by go_num,HC1,(by first|rfl|trivial)⟩
    case measure=>simp[intOf];omega
   ·have q0:((a:Int)==(q:Int))=false:=qs
    have HC1:qH (AuH.cntIn (l.take (k+1)) q=m):=qh (by rw[HTK.o,AuH.cntIn_snoc,HC.o,if_neg haq,Nat.add_zero])
    clear haq
    go_wp2_with fail
    go_roundw
    case rel=>exact⟨k+1,m,qo,qo,by go_num,by go_num,HC1,(by first|rfl|trivial)⟩
    case measure=>simp[intOf];omega
  ·have t0:decide ((k:Int)<nl)=false:=qf
   have HE:qH (AuH.cntIn l q=m):=qh (by
    have h:=HC.o
    rwa [List.take_of_length_le (by have:=HLN.o;omega)] at h)
   go_wp2_with fail
   go_ret
   exact⟨by rw[HE.o];rfl,rfl⟩
end
section
theorem qRk (v:Nat)(k:Int)(hk0:0<=k)(hk1:k<=8)(hv:v<2^slotI k)(b:Bool)(hb:b=true↔v=2^slotI k-1)(w:World) :
  Calls Tryz.prog 102 #[.int .u32 (v:Int),.int .i64 k] w fun e w'=>e = .returned (.bool b)/\w=w':=by
 have hs:=qWU k
 have hv32:v<2^32:=Nat.lt_of_lt_of_le hv (Nat.pow_le_pow_right qo hs)
 have hf:=AuH.ones_full hv hs
 obtain⟨o,ho⟩:∃ o,HM.onesTo v 32=o:=⟨_,rfl⟩
 obtain⟨m,hm⟩:∃ m,slotI k=m:=⟨_,rfl⟩
 rw[ho,hm] at hf
 rw[hm] at hb
 have HO:=qh ho
 have HMM:=qh hm
 have t0:((o:Int)==(m:Int))=b:=by
  cases b
  ·have:¬ o=m:=fun h=>by have:=hb.2 (hf.1 h);cases this
   simp;omega
  ·have:=hf.2 (hb.1 rfl)
   simp;omega
 clear hf hb ho hm hv hs
 go_enter Tryz.func102,Tryz.ntmps102
 go_wp2_with (first
  | (go_at_call 105;refine(qTN v hv32 _).mono ?_;rintro e w1 ⟨rfl,rfl⟩;rw[HO.o])
  | (go_at_call 95;refine(qML k qo qo _).mono ?_;rintro e w1 ⟨rfl,rfl⟩;rw[HMM.o])
  | fail)
 go_ret
 exact⟨rfl,rfl⟩

theorem qNS {H:AuH}{n c:Nat}(HV:HeapV H n c)(ad:Addr){q:Nat}(hq:q<H.p)(k:Nat)(hk:k<11)(b:Bool)(hb:b=true↔H.tgt q=2+(k:Int))(w:World)(hv:IsVals w ad n H.V) :
  Calls Tryz.prog 98 #[hpV H ad n c,.int .i64 (q:Int),.int .i64 (k:Int)] w fun e w'=>e = .returned (.bool b)/\Below w.heap.size w w':=by
 have HVL:=qh hv
 have HX0:=qh (Held.new w 88 #[.int .i64 (H.t:Int),.int .i64 (H.p:Int),.int .i64 (H.s:Int),.slice (some ad) n c])
 obtain⟨c0,c1,c2,c3⟩:=HX0.o.four
 have HBW:=qh (Bnew (B0 w) (.cells #[.int .i64 (H.t:Int),.int .i64 (H.p:Int),.int .i64 (H.s:Int),.slice (some ad) n c] 88))
 have hkc:=H.K_cases q
 obtain⟨kk,hkk⟩:∃ k,H.K q=k:=⟨_,rfl⟩
 obtain⟨m,hmm⟩:∃ m,H.ln q=m:=⟨_,rfl⟩
 obtain⟨cl,hcl⟩:∃ k,H.Cl q=k:=⟨_,rfl⟩
 have HK:=qh hkk
 have HLM:=qh hmm
 have HCL:=qh hcl
 have HBC:=qh hb
 rw[hkk,hmm,hcl] at hkc
 by_cases h1:kk=1
 ·have ht:=AuH.tgt_free (hkk.trans h1)
  rw[hmm] at ht
  obtain⟨t,htt⟩:∃ t,HM.logI (m:Int)=t:=⟨_,rfl⟩
  rw[htt] at ht
  have HLG:=qh htt
  have q1:(t==(k:Int))=b:=by
   rw[ht] at hb
   cases b
   ·have:¬ t=(k:Int):=fun h=>by have:=hb.2 qo;cases this
    simpa using this
   ·have:=hb.1 rfl
    simp;omega
  subst h1
  have hml:m<=1024:=qo
  clear hv hb hkk hmm hcl hkc ht htt
  unfold hpV
  go_enter Tryz.func98,Tryz.ntmps98
  go_wp2_with (first
   | (go_at_call 42;refine(qMU HV ad hq _ (HVL.o.below HBW.o)).mono ?_;rintro e w2 ⟨rfl,hb2⟩;rw[HK.o,HLM.o,HCL.o];have HB2:=qh (Bnew (Bgo HBW.o hb2) (.cells #[.int .i64 1,.int .i64 (m:Int),.int .i64 cl] 90));have HX2:=qh ((HX0.o.keep hb2).alloc (.cells #[.int .i64 1,.int .i64 (m:Int),.int .i64 cl] 90));clear hb2 c0 c1 c2 c3;obtain⟨c0,c1,c2,c3⟩:=HX2.o.four;obtain⟨d0,d1,d2⟩:=(Held.new w2 90 #[.int .i64 1,.int .i64 (m:Int),.int .i64 cl]).three)
   | (go_at_call 129;refine(qWT _ qo qo _).mono ?_;rintro e w3 ⟨rfl,rfl⟩;rw[HLG.o])
   | fail)
  go_ret
  exact⟨rfl,HB2.o⟩
 ·have q0:(kk==1)=false:=by simpa using h1
  have HBF:qH (b=false):=qh (qE5 hb (fun h=>by
   unfold AuH.tgt at h
   rw[hkk,hcl,if_neg h1] at h
   split at h <;> omega))
  clear hv hb hkk hmm hcl hkc h1
  unfold hpV
  go_enter Tryz.func98,Tryz.ntmps98
  exact ML2

theorem qJC {H:AuH}{n c:Nat}(HV:HeapV H n c)(ad:Addr){q:Nat}(hq:q<H.p)(hs:H.Slot5 q)(k:Nat)(hk:k<9)(b:Bool)(hb:b=true↔H.tgt q=13+(k:Int))(w:World)(hv:IsVals w ad n H.V) :
  Calls Tryz.prog 101 #[hpV H ad n c,.int .i64 (q:Int),.int .i64 (k:Int)] w fun e w'=>e = .returned (.bool b)/\Below w.heap.size w w':=by
 have HVL:=qh hv
 have HX0:=qh (Held.new w 88 #[.int .i64 (H.t:Int),.int .i64 (H.p:Int),.int .i64 (H.s:Int),.slice (some ad) n c])
 obtain⟨c0,c1,c2,c3⟩:=HX0.o.four
 have HBW:=qh (Bnew (B0 w) (.cells #[.int .i64 (H.t:Int),.int .i64 (H.p:Int),.int .i64 (H.s:Int),.slice (some ad) n c] 88))
 have hkc:=H.K_cases q
 obtain⟨kk,hkk⟩:∃ k,H.K q=k:=⟨_,rfl⟩
 obtain⟨m,hmm⟩:∃ m,H.ln q=m:=⟨_,rfl⟩
 obtain⟨cl,hcl⟩:∃ k,H.Cl q=k:=⟨_,rfl⟩
 have HK:=qh hkk
 have HLM:=qh hmm
 have HCL:=qh hcl
 have HBC:=qh hb
 rw[hkk,hmm,hcl] at hkc
 by_cases h3:kk=3
 ·obtain⟨h5a,h5b,h5c⟩:=hs.1 (hkk.trans h3)
  obtain⟨tk,htk⟩:∃ t,H.cel q 5=t:=⟨_,rfl⟩
  rw[htk,hcl] at h5b
  have HTK:=qh htk
  by_cases hck:cl=(k:Int)
  ·have q1:(cl==(k:Int))=true:=by simpa using hck
   have HFU:qH (∀ W,Calls Tryz.prog 102 #[.int .u32 (tk:Int),.int .i64 (k:Int)] W fun e w'=>e = .returned (.bool (!b))/\W=w'):=qh (fun W=>by
    refine qRk tk k qo qo (by rw[<- hck];exact h5b) (!b) ?_ W
    cases hbb:b
    ·refine⟨fun _=>?_,fun _=>rfl⟩
     by_cases h6:tk=2^slotI (k:Int)-1
     ·exact h6
     ·have:=hb.2 (by rw[AuH.tgt_slab (hkk.trans h3) (by rw[htk,hcl,hck];exact h6),hcl,hck])
      rw[hbb] at this;cases this
    ·refine⟨fun h=>(by cases h),fun h6=>?_⟩
     have h7:=hb.1 hbb
     rw[AuH.tgt_full (hkk.trans h3) (by rw[htk,hcl,hck];exact h6)] at h7
     omega)
   subst h3
   clear hv hb hkk hmm hcl hkc htk h5a h5b h5c hs hck
   unfold hpV
   go_enter Tryz.func101,Tryz.ntmps101
   go_wp2_with (first
    | (refine RFH ?_;clear c0 c1 c2 c3;intro w2 HB2 HX2 c0 c1 c2 c3 d0 d1 d2)
    | (go_at_call 94;refine(qXi HV ad hq _ (HVL.o.below HB2.o)).mono ?_;rintro e w3 ⟨rfl,hb3⟩;rw[HTK.o];have HB3:=qh (Bgo HB2.o hb3);clear hb3)
    | (go_at_call 102;refine(HFU.o _).mono ?_;rintro e w4 ⟨rfl,rfl⟩)
    | fail)
   go_ret
   exact⟨by cases b <;> rfl,HB3.o⟩
  ·have q1:(cl==(k:Int))=false:=by simpa using hck
   have HBF:qH (b=false):=qh (qE5 hb (fun h=>by
    unfold AuH.tgt at h
    rw[hkk,hcl,if_neg qo] at h
    split at h <;> omega))
   subst h3
   clear hv hb hkk hmm hcl hkc htk h5a h5b h5c hs hck
   unfold hpV
   go_enter Tryz.func101,Tryz.ntmps101
   go_wp2_with (first
    | (refine RFH ?_;clear c0 c1 c2 c3;intro w2 HB2 HX2 c0 c1 c2 c3 d0 d1 d2)
    | fail)
   go_ret
   exact⟨by rw[HBF.o];rfl,HB2.o⟩
 ·have q0:(kk==3)=false:=by simpa using h3
  have HBF:qH (b=false):=qh (qE5 hb (fun h=>by
   unfold AuH.tgt at h
   rw[hkk,hmm] at h
   by_cases h1:kk=1
   ·rw[if_pos h1] at h
    have:=AuH.log_few (n:=m) qo qo
    omega
   ·rw[if_neg h1,if_neg qo] at h
    omega))
  clear hv hb hkk hmm hcl hkc h3 hs
  unfold hpV
  go_enter Tryz.func101,Tryz.ntmps101
  exact ML2
end
section
theorem qJ0 {H:AuH}{n c:Nat}(HV:HeapV H n c)(ad:Addr)(b:Bool)(hb:b=true ↔ ∀ k,k<11->H.ListOk (2+k))(w:World)(hv:IsVals w ad n H.V) :
  Calls Tryz.prog 61 #[hpV H ad n c] w fun e w'=>e = .returned (.bool b)/\Below w.heap.size w w':=by
 have HVL:=qh hv
 have HX0:=qh (Held.new w 88 #[.int .i64 (H.t:Int),.int .i64 (H.p:Int),.int .i64 (H.s:Int),.slice (some ad) n c])
 obtain⟨c0,c1,c2,c3⟩:=HX0.o.four
 have HBW:=qh (Bnew (B0 w) (.cells #[.int .i64 (H.t:Int),.int .i64 (H.p:Int),.int .i64 (H.s:Int),.slice (some ad) n c] 88))
 have hn:=HV.nums
 have hcx:c<=9223372036854775807:=hn.2.2.2.2.2.2.2.2
 have hni:n<=6238:=hn.2.2.2.2.2.2.1
 have hnc:=HV.cap
 have hp1:=hn.2.2.2.1
 have HBC:=qh hb
 clear hv hn hb
 unfold hpV
 go_enter Tryz.func61,Tryz.ntmps61
 go_wp2_with fail
 go_loopw [3] (fun u3 wr=>∃ (k:Nat),k<=11/\u3 = .int .i64 (k:Int)/\qH (∀ j,j<k->H.ListOk (2+j))/\qH (Held wr w.heap.size 88 #[.int .i64 (H.t:Int),.int .i64 (H.p:Int),.int .i64 (H.s:Int),.slice (some ad) n c])/\qH (Below w.heap.size w wr)) (fun u3 _=>11-(intOf u3).toNat)
 case atStart=>exact⟨0,qo,rfl,qh (fun q h=>by omega),HX0,HBW⟩
 case round =>
  clear c0 c1 c2 c3 HX0 HBW
  obtain⟨k,hkl,rfl,HLS,HX,HB⟩:=hrel
  obtain⟨c0,c1,c2,c3⟩:=HX.o.four
  by_cases hk:k<11
  ·have t0:decide ((k:Int)<11)=true:=qt
   obtain⟨hd,hhd⟩:∃ hd,2+k=hd:=⟨_,rfl⟩
   have HHD:=qh hhd
   have hd30:hd<30:=qo
   have HNT:qH (nthI 2 11 1 (k:Int)=((hd:Nat):Int)):=qh (by rw[qLq qo qo qo];omega)
   have HDK:qH ((hd:Int)=2+(k:Int)):=qh qo
   clear hhd
   go_wp2_with fail
   refine Rji ?_;intro hHeld K hK
   (go_at_call 97;refine(qSW _ _).mono ?_;rintro e w9 ⟨rfl,rfl⟩;rw[HNT.o])
   refine RCQ ?_;clear hK K c0 c1 c2 c3;intro w3 u3 bk HY HN HB3 HX3 hHeld c0 c1 c2 c3
   cases bk
   ·exact Mof
   ·obtain⟨l,a,hpa,hlen,hown⟩:=HY.o rfl
    obtain⟨nl,hnl⟩:∃ nl,l.length=nl:=⟨_,rfl⟩
    have HLO:=qh (AuH.listOk_iff hpa)
    rw[hnl] at hown hlen
    have HLN:=qh hnl
    have HO3:=qh (qIX hown (show w.heap.size<=wr.heap.size from HB.o.size))
    obtain⟨Au,cu,hu⟩:=qKK HO3.o
    subst hu
    have hcc:=qPd HO3.o
    obtain⟨hcc1,hcc2⟩:=hcc
    clear HY HN hpa hown hnl HX HB
    go_wp2_with fail
    clear c0 c1 c2 c3
    go_loopw [6] (fun u6 wr=>∃ (q:Nat),q<=H.p/\u6 = .int .i64 (q:Int)/\qH (∀ j,j<q->AuH.cntIn l j=H.isF (hd:Int) j)/\qH (Held wr w.heap.size 88 #[.int .i64 (H.t:Int),.int .i64 (H.p:Int),.int .i64 (H.s:Int),.slice (some ad) n c])/\qH (wr.ownsRow w.heap.size 3 1 (.slice Au nl cu) nl (natVs l))/\qH (Below w.heap.size w wr)) (fun u6 _=>H.p-(intOf u6).toNat)
    case atStart=>exact⟨0,qo,rfl,qh (fun j h=>by omega),HX3,HO3,HB3⟩
    case round =>
     clear HX3 HO3 HB3
     obtain⟨q,hqp,rfl,HOK,HX,HO,HB⟩:=hrel
     obtain⟨c0,c1,c2,c3⟩:=HX.o.four
     by_cases hq:q<H.p
     ·have t1:decide ((q:Int)<H.p)=true:=qt
      obtain⟨cn,hcn⟩:∃ cn,AuH.cntIn l q=cn:=⟨_,rfl⟩
      have HCN:=qh hcn
      clear hcn
      by_cases htg:H.tgt q=(hd:Int)
      ·have HIF:qH (H.isF (hd:Int) q=1):=qh (by unfold AuH.isF;rw[if_pos htg])
       have HTG:qH (true=true↔H.tgt q=2+(k:Int)):=qh ⟨fun _=>htg.trans HDK.o,fun _=>rfl⟩
       clear htg
       by_cases hcw:cn=1
       ·have q0:((cn:Int) != 1)=false:=qs
        have HOK1:qH (∀ j,j<q+1->AuH.cntIn l j=H.isF (hd:Int) j):=qh (fun j hj=>by
         rcases Nat.lt_or_ge j q with h|h
         ·exact HOK.o j h
         ·obtain rfl:j=q:=qo
          rw[HCN.o,HIF.o]
          exact hcw)
        clear hcw
        go_wp2_with (first
         | (refine R4r ?_;clear c0 c1 c2 c3;intro w4 HB4 HX4 HO4 c0 c1 c2 c3)
         | (refine RXf ?_)
         | fail)
        exact MC6
       ·have q0:((cn:Int) != 1)=true:=qs
        refine Ro1 ?_;intro HBF
        clear hcw
        go_wp2_with (first
         | (refine R4r ?_;clear c0 c1 c2 c3;intro w4 HB4 HX4 HO4 c0 c1 c2 c3)
         | (refine RXf ?_)
         | fail)
        go_ret
        exact⟨by rw[HBF.o];rfl,HB4.o⟩
      ·have HIF:qH (H.isF (hd:Int) q=0):=qh (by unfold AuH.isF;rw[if_neg htg])
       have HTG:qH (false=true↔H.tgt q=2+(k:Int)):=qh ⟨fun h=>(by cases h),fun h=>absurd (h.trans HDK.o.symm) htg⟩
       clear htg
       by_cases hcw:cn=0
       ·have q0:((cn:Int) != 0)=false:=qs
        have HOK1:qH (∀ j,j<q+1->AuH.cntIn l j=H.isF (hd:Int) j):=qh (fun j hj=>by
         rcases Nat.lt_or_ge j q with h|h
         ·exact HOK.o j h
         ·obtain rfl:j=q:=qo
          rw[HCN.o,HIF.o]
          exact hcw)
        clear hcw
        go_wp2_with (first
         | (refine Rbj ?_;clear c0 c1 c2 c3;intro w4 HB4 HX4 HO4 c0 c1 c2 c3)
         | (refine RXf ?_)
         | fail)
        exact MC6
       ·have q0:((cn:Int) != 0)=true:=qs
        refine Ro1 ?_;intro HBF
        clear hcw
        go_wp2_with (first
         | (refine Rbj ?_;clear c0 c1 c2 c3;intro w4 HB4 HX4 HO4 c0 c1 c2 c3)
         | (refine RXf ?_)
         | fail)
        go_ret
        exact⟨by rw[HBF.o];rfl,HB4.o⟩
     ·have t1:decide ((q:Int)<H.p)=false:=qf
      have HL1:qH (∀ j,j<k+1->H.ListOk (2+j)):=qh (fun j hj=>by
       rcases Nat.lt_or_ge j k with h|h
       ·exact HLS.o j h
       ·obtain rfl:j=k:=qo
        rw[HHD.o]
        exact HLO.o.2 (fun q' hq'=>HOK.o q' qo))
      exact MKn
  ·have t0:decide ((k:Int)<11)=false:=qf
   exact MDQ

theorem qFV {H:AuH}{n c:Nat}(HV:HeapV H n c)(h5:H.R5)(ad:Addr)(b:Bool)(hb:b=true ↔ ∀ k,k<9->H.ListOk (13+k))(w:World)(hv:IsVals w ad n H.V) :
  Calls Tryz.prog 62 #[hpV H ad n c] w fun e w'=>e = .returned (.bool b)/\Below w.heap.size w w':=by
 have HVL:=qh hv
 have HX0:=qh (Held.new w 88 #[.int .i64 (H.t:Int),.int .i64 (H.p:Int),.int .i64 (H.s:Int),.slice (some ad) n c])
 obtain⟨c0,c1,c2,c3⟩:=HX0.o.four
 have HBW:=qh (Bnew (B0 w) (.cells #[.int .i64 (H.t:Int),.int .i64 (H.p:Int),.int .i64 (H.s:Int),.slice (some ad) n c] 88))
 have hn:=HV.nums
 have hcx:c<=9223372036854775807:=hn.2.2.2.2.2.2.2.2
 have hni:n<=6238:=hn.2.2.2.2.2.2.1
 have hnc:=HV.cap
 have hp1:=hn.2.2.2.1
 have HBC:=qh hb
 have HR5:=qh h5
 clear hv hn hb
 unfold hpV
 go_enter Tryz.func62,Tryz.ntmps62
 go_wp2_with fail
 go_loopw [3] (fun u3 wr=>∃ (k:Nat),k<=9/\u3 = .int .i64 (k:Int)/\qH (∀ j,j<k->H.ListOk (13+j))/\qH (Held wr w.heap.size 88 #[.int .i64 (H.t:Int),.int .i64 (H.p:Int),.int .i64 (H.s:Int),.slice (some ad) n c])/\qH (Below w.heap.size w wr)) (fun u3 _=>9-(intOf u3).toNat)
 case atStart=>exact⟨0,qo,rfl,qh (fun q h=>by omega),HX0,HBW⟩
 case round =>
  clear c0 c1 c2 c3 HX0 HBW
  obtain⟨k,hkl,rfl,HLS,HX,HB⟩:=hrel
  obtain⟨c0,c1,c2,c3⟩:=HX.o.four
  by_cases hk:k<9
  ·have t0:decide ((k:Int)<9)=true:=qt
   obtain⟨hd,hhd⟩:∃ hd,13+k=hd:=⟨_,rfl⟩
   have HHD:=qh hhd
   have hd30:hd<30:=qo
   have HNT:qH (nthI 13 9 1 (k:Int)=((hd:Nat):Int)):=qh (by rw[qLq qo qo qo];omega)
   have HDK:qH ((hd:Int)=13+(k:Int)):=qh qo
   clear hhd
   go_wp2_with fail
   refine Rji ?_;intro hHeld K hK
   (go_at_call 100;refine(qU8 _ _).mono ?_;rintro e w9 ⟨rfl,rfl⟩;rw[HNT.o])
   refine RCQ ?_;clear hK K c0 c1 c2 c3;intro w3 u3 bk HY HN HB3 HX3 hHeld c0 c1 c2 c3
   cases bk
   ·exact Mof
   ·obtain⟨l,a,hpa,hlen,hown⟩:=HY.o rfl
    obtain⟨nl,hnl⟩:∃ nl,l.length=nl:=⟨_,rfl⟩
    have HLO:=qh (AuH.listOk_iff hpa)
    rw[hnl] at hown hlen
    have HLN:=qh hnl
    have HO3:=qh (qIX hown (show w.heap.size<=wr.heap.size from HB.o.size))
    obtain⟨Au,cu,hu⟩:=qKK HO3.o
    subst hu
    have hcc:=qPd HO3.o
    obtain⟨hcc1,hcc2⟩:=hcc
    clear HY HN hpa hown hnl HX HB
    go_wp2_with fail
    clear c0 c1 c2 c3
    go_loopw [6] (fun u6 wr=>∃ (q:Nat),q<=H.p/\u6 = .int .i64 (q:Int)/\qH (∀ j,j<q->AuH.cntIn l j=H.isF (hd:Int) j)/\qH (Held wr w.heap.size 88 #[.int .i64 (H.t:Int),.int .i64 (H.p:Int),.int .i64 (H.s:Int),.slice (some ad) n c])/\qH (wr.ownsRow w.heap.size 3 1 (.slice Au nl cu) nl (natVs l))/\qH (Below w.heap.size w wr)) (fun u6 _=>H.p-(intOf u6).toNat)
    case atStart=>exact⟨0,qo,rfl,qh (fun j h=>by omega),HX3,HO3,HB3⟩
    case round =>
     clear HX3 HO3 HB3
     obtain⟨q,hqp,rfl,HOK,HX,HO,HB⟩:=hrel
     obtain⟨c0,c1,c2,c3⟩:=HX.o.four
     by_cases hq:q<H.p
     ·have t1:decide ((q:Int)<H.p)=true:=qt
      obtain⟨cn,hcn⟩:∃ cn,AuH.cntIn l q=cn:=⟨_,rfl⟩
      have HCN:=qh hcn
      clear hcn
      by_cases htg:H.tgt q=(hd:Int)
      ·have HIF:qH (H.isF (hd:Int) q=1):=qh (by unfold AuH.isF;rw[if_pos htg])
       have HTG:qH (true=true↔H.tgt q=13+(k:Int)):=qh ⟨fun _=>htg.trans HDK.o,fun _=>rfl⟩
       clear htg
       by_cases hcw:cn=1
       ·have q0:((cn:Int) != 1)=false:=qs
        have HOK1:qH (∀ j,j<q+1->AuH.cntIn l j=H.isF (hd:Int) j):=qh (fun j hj=>by
         rcases Nat.lt_or_ge j q with h|h
         ·exact HOK.o j h
         ·obtain rfl:j=q:=qo
          rw[HCN.o,HIF.o]
          exact hcw)
        clear hcw
        go_wp2_with (first
         | (refine RqW ?_;clear c0 c1 c2 c3;intro w4 HB4 HX4 HO4 c0 c1 c2 c3)
         | (refine RXf ?_)
         | fail)
        exact MC6
       ·have q0:((cn:Int) != 1)=true:=qs
        refine Ro1 ?_;intro HBF
        clear hcw
        go_wp2_with (first
         | (refine RqW ?_;clear c0 c1 c2 c3;intro w4 HB4 HX4 HO4 c0 c1 c2 c3)
         | (refine RXf ?_)
         | fail)
        go_ret
        exact⟨by rw[HBF.o];rfl,HB4.o⟩
      ·have HIF:qH (H.isF (hd:Int) q=0):=qh (by unfold AuH.isF;rw[if_neg htg])
       have HTG:qH (false=true↔H.tgt q=13+(k:Int)):=qh ⟨fun h=>(by cases h),fun h=>absurd (h.trans HDK.o.symm) htg⟩
       clear htg
       by_cases hcw:cn=0
       ·have q0:((cn:Int) != 0)=false:=qs
        have HOK1:qH (∀ j,j<q+1->AuH.cntIn l j=H.isF (hd:Int) j):=qh (fun j hj=>by
         rcases Nat.lt_or_ge j q with h|h
         ·exact HOK.o j h
         ·obtain rfl:j=q:=qo
          rw[HCN.o,HIF.o]
          exact hcw)
        clear hcw
        go_wp2_with (first
         | (refine RzM ?_;clear c0 c1 c2 c3;intro w4 HB4 HX4 HO4 c0 c1 c2 c3)
         | (refine RXf ?_)
         | fail)
        exact MC6
       ·have q0:((cn:Int) != 0)=true:=qs
        refine Ro1 ?_;intro HBF
        clear hcw
        go_wp2_with (first
         | (refine RzM ?_;clear c0 c1 c2 c3;intro w4 HB4 HX4 HO4 c0 c1 c2 c3)
         | (refine RXf ?_)
         | fail)
        go_ret
        exact⟨by rw[HBF.o];rfl,HB4.o⟩
     ·have t1:decide ((q:Int)<H.p)=false:=qf
      have HL1:qH (∀ j,j<k+1->H.ListOk (13+j)):=qh (fun j hj=>by
       rcases Nat.lt_or_ge j k with h|h
       ·exact HLS.o j h
       ·obtain rfl:j=k:=qo
        rw[HHD.o]
        exact HLO.o.2 (fun q' hq'=>HOK.o q' qo))
      exact MKn
  ·have t0:decide ((k:Int)<9)=false:=qf
   exact MDQ
end
end Go.Proofs.YtgifnhcknodekaaGreat
