/-
  The document's parts of a heap. Written by doc12/gen_docparts.py.
-/
import Derived.Test.YtjjfcaliippgpaaGreatDoorX15
import Derived.Deep.AppendLies
import Derived.Test.YtjjfcaliippgpaaGreatDoorX06
import Derived.Test.YtjjfcaliippgpaaGreatDoorX09
namespace Go.Proofs.YtjjfcaliippgpaaGreatDoor
theorem Rtb {P Q:Prop}(kq:Q)(h:HQ Q->P:=by
 intro kq
 refine wp_region_held_drew (S:=(fun w'=>w'.cell? ⟨w.heap.size,0,none⟩=some (.int .i64 (H.t:Int))/\w'.cell? ⟨w.heap.size,1,none⟩=some (.int .i64 (H.p:Int))/\w'.cell? ⟨w.heap.size,2,none⟩=some (.int .i64 (H.s:Int))/\w'.cell? ⟨w.heap.size,3,none⟩=some (.slice (some ad) n c)/\w'.cell? (ad.add j)=some (.int .u32 (v:Int)))) qr ?_ (fun hHeld=>?_)
 ·exact Mok
 refine tkz 0 ?_
 refine tkz 1 ?_
 refine tkz 2 ?_
 refine rdz 3 fun K hK=>?_
 go_simp
 go_at_call 67
 refine(qSB _ _).mono ?_
 rintro e w9 ⟨rfl,rfl⟩
 rw[HRT.o]
 refine qk ?_ (fun hHeld=>?_)
 ·first|exact HS.o _ (Bdrew (B0 _))|exact hHeld
 clear hK K
 refine tkz 4 ?_
 refine tkz 5 ?_
 refine tkz 6 ?_
 refine tkz 7 ?_
 refine dnz ?_
 revert hHeld
 exact kq.o):P:=h ⟨kq⟩
theorem Rh9 {P Q:Prop}(kq:Q)(h:HQ Q->P:=by
 intro kq
 go_at_call 93
 refine(HOF.o _).mono ?_
 rintro e w4 ⟨rfl,hb4⟩
 have HB4:=qh (Bgo HB3.o hb4)
 have HX4:=qh (HX3.o.keep hb4)
 have HO4:=qh (qEc HO3.o hb4)
 have HI4:=qh (HI3.o.keep hb4)
 clear hb4
 obtain⟨c0,c1,c2,c3⟩:=HX4.o.four
 obtain⟨d0,d1,d2⟩:=HI4.o.three
 revert w4 HB4 HX4 HO4 HI4 c0 c1 c2 c3 d0 d1 d2
 exact kq.o):P:=h ⟨kq⟩
theorem MLZ {P:Prop}(h:P:=by first|exact(qOX HP.o HNL.o hxx).2|exact(qOX (HP.o.alloc (.cells #[.int .i64 a,.int .i64 z] 64)) HNL.o hxx).2|exact(qOX HP8.o HNL.o hxx).2|exact hHeld):P:=h
theorem M03 {P:Prop}(h:P:=by
  (try dsimp only)
  first|exact HSH.o _ HX4.o.drew HI4.o.drew|exact HSH.o _ HX5.o HI5.o|exact HSH.o _ (HX5.o.alloc _) (HI5.o.alloc _)|exact HSH.o _ HX8.o HI8.o|exact hHeld):P:=h
theorem M7M {P:Prop}(h:P:=by
 go_roundw
 case rel=>exact⟨i+1,qo,by go_num,HOK1,qh HX.o.drew,qh HO.o.drew,qh (Bdrew HB.o)⟩
 case measure=>simp[intOf];omega):P:=h
theorem Mok {P:Prop}(h:P:=by
 (try dsimp only)
 first|exact HS.o _ (Bdrew (B0 _))|exact hHeld):P:=h
end Go.Proofs.YtjjfcaliippgpaaGreatDoor
set_option linter.unusedVariables false
set_option linter.unusedSimpArgs false
set_option maxRecDepth 100000
set_option maxHeartbeats 25600000
namespace Go.Proofs.YtjjfcaliippgpaaGreatDoor
open Go.ChangeShapes Go.WideShapes Go.ChangeAt Go.RowKit Go.Shelf
section
theorem qT9 (l:List (Int × Int × Int)):∀ u∈ptVs l,u.oneCell'=true:=fun u hu=>by
 unfold ptVs at hu
 obtain⟨x,_,hx⟩:=List.mem_flatMap.1 hu
 simp at hx
 rcases hx with rfl|rfl|rfl <;> rfl
theorem qIF {H:AuH}{n c:Nat}(HV:HeapV H n c)(ad:Addr)(w:World)(hv:IsVals w ad n H.V) :
    Calls Tryz.prog 108 #[hpV H ad n c] w fun e w'=>∃ u,e = .returned u/\w'.ownsRow w.heap.size 128 3 u H.parts.length (ptVs H.parts)/\Below w.heap.size w w':=by
  have HVL:=qh hv
  have hg:=qMQ HV
  have hn:=HV.nums
  have hcx:c<=9223372036854775807:=hn.2.2.2.2.2.2.2.2
  have hni:n<=6238:=hn.2.2.2.2.2.2.1
  have hnc:=HV.cap
  have hp1:=hn.2.2.2.1
  obtain⟨j0,hjn,hjz0,hjz1,hjz2⟩:=info_parts partInfo
  have HX0:=qh ((Held.new w 114 #[.int .i64 (H.t:Int),.int .i64 (H.p:Int),.int .i64 (H.s:Int),.slice (some ad) n c]).alloc (.cells #[] 128))
  obtain⟨c0,c1,c2,c3⟩:=HX0.o.four
  have HBW:=qh (Bnew (Bnew (B0 w) (.cells #[.int .i64 (H.t:Int),.int .i64 (H.p:Int),.int .i64 (H.s:Int),.slice (some ad) n c] 114)) (.cells #[] 128))
  have HOW:qH (((w.alloc (.cells #[.int .i64 (H.t:Int),.int .i64 (H.p:Int),.int .i64 (H.s:Int),.slice (some ad) n c] 114)).alloc (.cells #[] 128)).ownsRow (w.heap.size+1) 128 3 (.slice (some ⟨(w.alloc (.cells #[.int .i64 (H.t:Int),.int .i64 (H.p:Int),.int .i64 (H.s:Int),.slice (some ad) n c] 114)).heap.size,0,none⟩) 0 0) 0 []):=qh (World.ownsRow_lit (base:=(w.heap.size+1)) (e := 128) (size:=3) (w.alloc (.cells #[.int .i64 (H.t:Int),.int .i64 (H.p:Int),.int .i64 (H.s:Int),.slice (some ad) n c] 114)) #[] 0 (by simp) (by unfold maxLen;omega) rfl)
  rw[World.size_alloc] at HOW
  have HPG0:qH (∀ W:World,Calls Tryz.prog 71 #[(.agg #[.int .i64 (H.t:Int),.int .i64 (H.p:Int),.int .i64 (H.s:Int)])] W fun e w'=>e = .returned (.int .i64 ((H.pg:Nat):Int))/\Below W.heap.size W w'):=qh (fun W=>by have h:=qQQ H.t H.p H.s W;rwa [hg.2.2.2] at h)
  have hgb:=hg.2.1
  clear hv hn hg
  unfold hpV
  go_enter Tryz.func108,Tryz.ntmps108
  go_wp2_with fail
  generalize (w.alloc (.cells #[.int .i64 (H.t:Int),.int .i64 (H.p:Int),.int .i64 (H.s:Int),.slice (some ad) n c] 114)).alloc (.cells #[] 128)=W0 at *
  clear c0 c1 c2 c3
  go_loopw [3,4] (fun u3 u4 wr=>∃ (p nl:Nat) (l:List (Int × Int × Int)),p<=H.p/\u4 = .int .i64 (p:Int)/\nl<=p*33/\qH (AuH.catTo H.partsAt p=l)/\qH (l.length=nl)/\qH (wr.ownsRow (w.heap.size+1) 128 3 u3 nl (ptVs l))/\qH (Held wr w.heap.size 114 #[.int .i64 (H.t:Int),.int .i64 (H.p:Int),.int .i64 (H.s:Int),.slice (some ad) n c])/\qH (Below w.heap.size w wr)) (fun _ u4 _=>H.p-(intOf u4).toNat)
  case atStart=>exact⟨0,0,[],qo,rfl,qo,qh rfl,qh rfl,HOW,HX0,HBW⟩
  case round =>
    clear HX0 HBW HOW
    obtain⟨p,nl,l,hp,rfl,hnl,HCT,HLN,HO,HX,HB⟩:=hrel
    obtain⟨c0,c1,c2,c3⟩:=HX.o.four
    by_cases hlt:p<H.p
    · have t0:decide ((p:Int)<H.p)=true:=qt
      have hnl9:nl<=100000:=qo
      have hf:=qFR HV hlt
      have HOF:qH (∀ W:World,Calls Tryz.prog 93 #[(.agg #[.int .i64 (H.t:Int),.int .i64 (H.p:Int),.int .i64 (H.s:Int)]),.int .i64 (p:Int),.int .i64 0] W fun e w'=>e = .returned (.tuple #[.int .i64 (H.first p),.bool true])/\Below W.heap.size W w'):=qh (fun W=>by
        have h:=qNN H.t H.p H.s p 0 W
        rwa [hf.1,hf.2.1] at h)
      have hkc:=H.K_cases p
      obtain⟨kk,hkk⟩:∃ k,H.K p=k:=⟨_,rfl⟩
      obtain⟨m,hmm⟩:∃ m,H.ln p=m:=⟨_,rfl⟩
      obtain⟨cl,hcl⟩:∃ k,H.Cl p=k:=⟨_,rfl⟩
      have HK:=qh hkk
      have HM:=qh hmm
      have HCL:=qh hcl
      rw[hkk,hmm,hcl] at hkc
      obtain⟨fp,hfp⟩:∃ x,H.first p=x:=⟨_,rfl⟩
      rw[hfp] at HOF
      obtain⟨pg,hpg⟩:∃ x,H.pg=x:=⟨_,rfl⟩
      have HPG:=qh HPG0.o
      rw[hpg] at HPG hgb
      obtain⟨zz,hzz⟩:∃ z:Int,(m:Int)*(pg:Int)=z:=⟨_,rfl⟩
      have hmz:m*pg<=1024*1048576:=Nat.mul_le_mul qo hgb
      have sw:IntKind.i64.wrap ((m:Int)*(pg:Int))=zz:=by
        rw[<- hzz]
        have hc:((m*pg:Nat):Int)=(m:Int)*(pg:Int):=by push_cast;rfl
        rw[<- hc]
        exact qIv qo qo
      clear hf
      rcases(by omega:H.K p=0\/H.K p=1\/H.K p=2\/H.K p=3) with hk|hk|hk|hk
      · have HCT1:qH (AuH.catTo H.partsAt (p+1)=l):=qh (by
          rw[<- HCT.o]
          show AuH.catTo H.partsAt p++H.partsAt p=_
          rw[AuH.partsAt_no hk,List.append_nil])
        rw[hkk] at hk
        subst hk
        clear hkk hmm hcl hkc hfp hpg hzz hmz
        go_wp2_with (first
          | (go_at_call 149;refine(qMU HV ad hlt _ (HVL.o.below HB.o)).mono ?_;rintro e w2 ⟨rfl,hb2⟩;rw[HK.o,HM.o,HCL.o];have HGN:qH (∀ g,u3.ownBlock=some g->g<w2.heap.size):=qh (fun g h=>by have h1:=(HO.o.lt g h).2;have h2:=hb2.size;omega);have HB3:=qh (Bnew (Bgo HB.o hb2) (.cells #[.int .i64 0,.int .i64 (m:Int),.int .i64 cl] 119));have HX3:=qh ((HX.o.keep hb2).alloc (.cells #[.int .i64 0,.int .i64 (m:Int),.int .i64 cl] 119));have HO3:=qh ((qEc HO.o hb2).alloc (.cells #[.int .i64 0,.int .i64 (m:Int),.int .i64 cl] 119));have HI3:=qh (Held.new w2 119 #[.int .i64 0,.int .i64 (m:Int),.int .i64 cl]);have HG2:=qh (rfl:w2.heap.size=w2.heap.size);clear hb2 c0 c1 c2 c3;obtain⟨c0,c1,c2,c3⟩:=HX3.o.four;obtain⟨d0,d1,d2⟩:=HI3.o.three)
          | (refine Rh9 ?_;clear c0 c1 c2 c3 d0 d1 d2;intro w4 HB4 HX4 HO4 HI4 c0 c1 c2 c3 d0 d1 d2)
          | fail)
        go_roundw
        case rel=>exact⟨p+1,nl,l,qo,by go_num,qo,HCT1,HLN,HO4,HX4,HB4⟩
        case measure=>simp[intOf];omega
      · have HPA:qH (H.partsAt p = [(1,fp,zz)]):=qh (by rw[<- hfp,<- hzz,<- hmm,<- hpg];unfold AuH.partsAt;rw[if_pos hk])
        have HCT1:qH (AuH.catTo H.partsAt (p+1)=l ++ [(1,fp,zz)]):=qh (by rw[<- HPA.o,<- HCT.o];rfl)
        rw[hkk] at hk
        subst hk
        clear hkk hmm hcl hkc hfp hpg hzz hmz
        go_wp2_with (first
          | (go_at_call 149;refine(qMU HV ad hlt _ (HVL.o.below HB.o)).mono ?_;rintro e w2 ⟨rfl,hb2⟩;rw[HK.o,HM.o,HCL.o];have HGN:qH (∀ g,u3.ownBlock=some g->g<w2.heap.size):=qh (fun g h=>by have h1:=(HO.o.lt g h).2;have h2:=hb2.size;omega);have HB3:=qh (Bnew (Bgo HB.o hb2) (.cells #[.int .i64 1,.int .i64 (m:Int),.int .i64 cl] 119));have HX3:=qh ((HX.o.keep hb2).alloc (.cells #[.int .i64 1,.int .i64 (m:Int),.int .i64 cl] 119));have HO3:=qh ((qEc HO.o hb2).alloc (.cells #[.int .i64 1,.int .i64 (m:Int),.int .i64 cl] 119));have HI3:=qh (Held.new w2 119 #[.int .i64 1,.int .i64 (m:Int),.int .i64 cl]);have HG2:=qh (rfl:w2.heap.size=w2.heap.size);clear hb2 c0 c1 c2 c3;obtain⟨c0,c1,c2,c3⟩:=HX3.o.four;obtain⟨d0,d1,d2⟩:=HI3.o.three)
          | (refine Rh9 ?_;clear c0 c1 c2 c3 d0 d1 d2;intro w4 HB4 HX4 HO4 HI4 c0 c1 c2 c3 d0 d1 d2)
          | fail)
        generalize hg2:w2.heap.size=g2 at *
        have HSH:qH (∀ w',Held w' w.heap.size 114 #[.int .i64 (H.t:Int),.int .i64 (H.p:Int),.int .i64 (H.s:Int),.slice (some ad) n c]->Held w' g2 119 #[.int .i64 1,.int .i64 (m:Int),.int .i64 cl]->(fun w'=>w'.cell? ⟨w.heap.size,0,none⟩=some (.int .i64 (H.t:Int))/\w'.cell? ⟨w.heap.size,1,none⟩=some (.int .i64 (H.p:Int))/\w'.cell? ⟨w.heap.size,2,none⟩=some (.int .i64 (H.s:Int))/\w'.cell? ⟨w.heap.size,3,none⟩=some (.slice (some ad) n c)/\w'.cell? ⟨g2,0,none⟩=some (.int .i64 1)/\w'.cell? ⟨g2,1,none⟩=some (.int .i64 (m:Int))) w'):=qh (fun w' h1 h2=>⟨h1.four.1,h1.four.2.1,h1.four.2.2.1,h1.four.2.2.2,h2.three.1,h2.three.2.1⟩)
        clear c2 c3 d2 HG2
        refine wp_region_held_drew (S:=(fun w'=>w'.cell? ⟨w.heap.size,0,none⟩=some (.int .i64 (H.t:Int))/\w'.cell? ⟨w.heap.size,1,none⟩=some (.int .i64 (H.p:Int))/\w'.cell? ⟨w.heap.size,2,none⟩=some (.int .i64 (H.s:Int))/\w'.cell? ⟨w.heap.size,3,none⟩=some (.slice (some ad) n c)/\w'.cell? ⟨g2,0,none⟩=some (.int .i64 1)/\w'.cell? ⟨g2,1,none⟩=some (.int .i64 (m:Int)))) qr ?_ (fun hHeld=>?_)
        ·exact M03
        refine tkz 0 ?_
        refine tkz 1 ?_
        refine tkz 2 ?_
        refine tkz 3 ?_
        refine tkz 4 ?_
        refine tkz 5 ?_
        refine tkz 6 ?_
        refine tkz 7 ?_
        refine rdz 8 fun K hK=>?_
        go_simp
        (go_at_call 71;refine(HPG.o _).mono ?_;rintro e w5 ⟨rfl,hb5⟩;have HB5:=qh (Bgo (Bdrew HB4.o) hb5);have HX5:=qh (HX4.o.drew.keep hb5);have HI5:=qh (HI4.o.drew.keep hb5);have HO5:=qh (qEc (w:=w4.drew) HO4.o hb5);have hb5s:=HX5.o.lt;clear hb5)
        refine hK.out _ _ ?_ (fun hHeld=>?_)
        ·exact M03
        clear hK K
        (try simp only[Act.put,gA,gB,gC,sA,sB,sC])
        refine tkz 9 ?_
        refine tkz 10 ?_
        refine rdz 11 fun K hK=>?_
        go_simp
        skip
        refine hK.out _ _ ?_ (fun hHeld=>?_)
        ·exact M03
        clear hK K
        (try simp only[Act.put,gA,gB,gC,sA,sB,sC])
        refine rdz 12 fun K hK=>?_
        (refine step_append_lies _ (by rfl) _ _ 124 (by rfl) (w.heap.size+1) 128 j0 (.agg #[.int .i64 0,.int .i64 0,.int .i64 0]) 3 24 Tryz.underlying124 hjn hjz0 hjz1 hjz2 rfl (by decide) u3 nl (ptVs l) (by rfl) (HO5.o.alloc _) ⟨_,0,none⟩ 1 1 [.int .i64 1,.int .i64 fp,.int .i64 zz] (by rfl) rfl (fun jj yy hyy=>World.news_of_block (w:=w5.alloc (.cells #[.int .i64 1,.int .i64 fp,.int .i64 zz] 128)) (heap_alloc_new w5 _) jj yy (by simpa using hyy)) (by simp[Value.oneCell']) qo (by unfold maxLen;omega) qo qs _ rfl ?_;intro g cap w8 hown8 hgrow8 hat8 hlt8;have HX8:=qh (qLO (HX5.o.alloc (.cells #[.int .i64 1,.int .i64 fp,.int .i64 zz] 128)) hgrow8 (fun e=>by have:=(HO5.o.lt _ e).1;omega));have HI8:=qh (qLO (HI5.o.alloc (.cells #[.int .i64 1,.int .i64 fp,.int .i64 zz] 128)) hgrow8 (fun e=>by have:=HGN.o _ e;omega));have HB8:=qh ((Bnew HB5.o (.cells #[.int .i64 1,.int .i64 fp,.int .i64 zz] 128)).grown hgrow8 (by have:=HB5.o.size;simp;omega) (fun j hj=>by have:=(HO5.o.lt j hj).1;omega));have HO8:=qh hown8;clear hown8 hgrow8 hat8 hlt8)
        refine hK.out _ _ ?_ (fun hHeld=>?_)
        ·exact M03
        clear hK K
        (try simp only[Act.put,gA,gB,gC,sA,sB,sC])
        refine tkz 13 ?_
        refine dnz ?_
        go_wp2_with fail
        go_roundw
        case rel=>exact⟨p+1,nl+1,_,qo,by go_num,qo,HCT1,qh (by rw[List.length_append,HLN.o];rfl),qh (by rw[qHW,qKz];exact HO8.o),HX8,HB8⟩
        case measure=>simp[intOf];omega
      · have HPA:qH (H.partsAt p = [(2,fp,zz)]):=qh (by rw[<- hfp,<- hzz,<- hmm,<- hpg];unfold AuH.partsAt;rw[if_neg qo,if_pos hk])
        have HCT1:qH (AuH.catTo H.partsAt (p+1)=l ++ [(2,fp,zz)]):=qh (by rw[<- HPA.o,<- HCT.o];rfl)
        rw[hkk] at hk
        subst hk
        clear hkk hmm hcl hkc hfp hpg hzz hmz
        go_wp2_with (first
          | (go_at_call 149;refine(qMU HV ad hlt _ (HVL.o.below HB.o)).mono ?_;rintro e w2 ⟨rfl,hb2⟩;rw[HK.o,HM.o,HCL.o];have HGN:qH (∀ g,u3.ownBlock=some g->g<w2.heap.size):=qh (fun g h=>by have h1:=(HO.o.lt g h).2;have h2:=hb2.size;omega);have HB3:=qh (Bnew (Bgo HB.o hb2) (.cells #[.int .i64 2,.int .i64 (m:Int),.int .i64 cl] 119));have HX3:=qh ((HX.o.keep hb2).alloc (.cells #[.int .i64 2,.int .i64 (m:Int),.int .i64 cl] 119));have HO3:=qh ((qEc HO.o hb2).alloc (.cells #[.int .i64 2,.int .i64 (m:Int),.int .i64 cl] 119));have HI3:=qh (Held.new w2 119 #[.int .i64 2,.int .i64 (m:Int),.int .i64 cl]);have HG2:=qh (rfl:w2.heap.size=w2.heap.size);clear hb2 c0 c1 c2 c3;obtain⟨c0,c1,c2,c3⟩:=HX3.o.four;obtain⟨d0,d1,d2⟩:=HI3.o.three)
          | (refine Rh9 ?_;clear c0 c1 c2 c3 d0 d1 d2;intro w4 HB4 HX4 HO4 HI4 c0 c1 c2 c3 d0 d1 d2)
          | fail)
        generalize hg2:w2.heap.size=g2 at *
        have HSH:qH (∀ w',Held w' w.heap.size 114 #[.int .i64 (H.t:Int),.int .i64 (H.p:Int),.int .i64 (H.s:Int),.slice (some ad) n c]->Held w' g2 119 #[.int .i64 2,.int .i64 (m:Int),.int .i64 cl]->(fun w'=>w'.cell? ⟨w.heap.size,0,none⟩=some (.int .i64 (H.t:Int))/\w'.cell? ⟨w.heap.size,1,none⟩=some (.int .i64 (H.p:Int))/\w'.cell? ⟨w.heap.size,2,none⟩=some (.int .i64 (H.s:Int))/\w'.cell? ⟨w.heap.size,3,none⟩=some (.slice (some ad) n c)/\w'.cell? ⟨g2,0,none⟩=some (.int .i64 2)/\w'.cell? ⟨g2,1,none⟩=some (.int .i64 (m:Int))) w'):=qh (fun w' h1 h2=>⟨h1.four.1,h1.four.2.1,h1.four.2.2.1,h1.four.2.2.2,h2.three.1,h2.three.2.1⟩)
        clear c2 c3 d2 HG2
        refine wp_region_held_drew (S:=(fun w'=>w'.cell? ⟨w.heap.size,0,none⟩=some (.int .i64 (H.t:Int))/\w'.cell? ⟨w.heap.size,1,none⟩=some (.int .i64 (H.p:Int))/\w'.cell? ⟨w.heap.size,2,none⟩=some (.int .i64 (H.s:Int))/\w'.cell? ⟨w.heap.size,3,none⟩=some (.slice (some ad) n c)/\w'.cell? ⟨g2,0,none⟩=some (.int .i64 2)/\w'.cell? ⟨g2,1,none⟩=some (.int .i64 (m:Int)))) qr ?_ (fun hHeld=>?_)
        ·exact M03
        refine tkz 0 ?_
        refine tkz 1 ?_
        refine tkz 2 ?_
        refine tkz 3 ?_
        refine tkz 4 ?_
        refine tkz 5 ?_
        refine tkz 6 ?_
        refine tkz 7 ?_
        refine rdz 8 fun K hK=>?_
        go_simp
        (go_at_call 71;refine(HPG.o _).mono ?_;rintro e w5 ⟨rfl,hb5⟩;have HB5:=qh (Bgo (Bdrew HB4.o) hb5);have HX5:=qh (HX4.o.drew.keep hb5);have HI5:=qh (HI4.o.drew.keep hb5);have HO5:=qh (qEc (w:=w4.drew) HO4.o hb5);have hb5s:=HX5.o.lt;clear hb5)
        refine hK.out _ _ ?_ (fun hHeld=>?_)
        ·exact M03
        clear hK K
        (try simp only[Act.put,gA,gB,gC,sA,sB,sC])
        refine tkz 9 ?_
        refine tkz 10 ?_
        refine rdz 11 fun K hK=>?_
        go_simp
        skip
        refine hK.out _ _ ?_ (fun hHeld=>?_)
        ·exact M03
        clear hK K
        (try simp only[Act.put,gA,gB,gC,sA,sB,sC])
        refine rdz 12 fun K hK=>?_
        (refine step_append_lies _ (by rfl) _ _ 124 (by rfl) (w.heap.size+1) 128 j0 (.agg #[.int .i64 0,.int .i64 0,.int .i64 0]) 3 24 Tryz.underlying124 hjn hjz0 hjz1 hjz2 rfl (by decide) u3 nl (ptVs l) (by rfl) (HO5.o.alloc _) ⟨_,0,none⟩ 1 1 [.int .i64 2,.int .i64 fp,.int .i64 zz] (by rfl) rfl (fun jj yy hyy=>World.news_of_block (w:=w5.alloc (.cells #[.int .i64 2,.int .i64 fp,.int .i64 zz] 128)) (heap_alloc_new w5 _) jj yy (by simpa using hyy)) (by simp[Value.oneCell']) qo (by unfold maxLen;omega) qo qs _ rfl ?_;intro g cap w8 hown8 hgrow8 hat8 hlt8;have HX8:=qh (qLO (HX5.o.alloc (.cells #[.int .i64 2,.int .i64 fp,.int .i64 zz] 128)) hgrow8 (fun e=>by have:=(HO5.o.lt _ e).1;omega));have HI8:=qh (qLO (HI5.o.alloc (.cells #[.int .i64 2,.int .i64 fp,.int .i64 zz] 128)) hgrow8 (fun e=>by have:=HGN.o _ e;omega));have HB8:=qh ((Bnew HB5.o (.cells #[.int .i64 2,.int .i64 fp,.int .i64 zz] 128)).grown hgrow8 (by have:=HB5.o.size;simp;omega) (fun j hj=>by have:=(HO5.o.lt j hj).1;omega));have HO8:=qh hown8;clear hown8 hgrow8 hat8 hlt8)
        refine hK.out _ _ ?_ (fun hHeld=>?_)
        ·exact M03
        clear hK K
        (try simp only[Act.put,gA,gB,gC,sA,sB,sC])
        refine tkz 13 ?_
        refine dnz ?_
        go_wp2_with fail
        go_roundw
        case rel=>exact⟨p+1,nl+1,_,qo,by go_num,qo,HCT1,qh (by rw[List.length_append,HLN.o];rfl),qh (by rw[qHW,qKz];exact HO8.o),HX8,HB8⟩
        case measure=>simp[intOf];omega
      · have hlq:=AuH.partsAt_len (H:=H) p
        have hlq0:0<(H.partsAt p).length:=by
          unfold AuH.partsAt
          rw[if_neg qo,if_neg qo,if_pos hk,List.length_append,AuH.slotsTo_len]
          have:0<H.sl p:=by
            unfold AuH.sl
            have:=mt (slotI_zero (k:=H.Cl p)).1 qo
            omega
          omega
        obtain⟨lq,hlqq⟩:∃ x,(H.partsAt p).length=x:=⟨_,rfl⟩
        rw[hlqq] at hlq hlq0
        have HLQ:=qh hlqq
        have HSLB:qH (∀ W:World,IsVals W ad n H.V->Calls Tryz.prog 150 #[.agg #[.int .i64 (H.t:Int),.int .i64 (H.p:Int),.int .i64 (H.s:Int),.slice (some ad) n c],.int .i64 (p:Int),.int .i64 cl] W fun e w'=>∃ u,e = .returned u/\w'.ownsRow W.heap.size 128 3 u (H.partsAt p).length (ptVs (H.partsAt p))/\Below W.heap.size W w'):=qh (fun W hv=>by
          have h:=qNa HV ad hlt hk W hv
          rwa [hcl] at h)
        have HCT1:qH (AuH.catTo H.partsAt (p+1)=l++H.partsAt p):=qh (by rw[<- HCT.o];rfl)
        rw[hkk] at hk
        subst hk
        clear hkk hmm hcl hkc hfp hpg hzz hmz hlqq
        go_wp2_with (first
          | (go_at_call 149;refine(qMU HV ad hlt _ (HVL.o.below HB.o)).mono ?_;rintro e w2 ⟨rfl,hb2⟩;rw[HK.o,HM.o,HCL.o];have HGN:qH (∀ g,u3.ownBlock=some g->g<w2.heap.size):=qh (fun g h=>by have h1:=(HO.o.lt g h).2;have h2:=hb2.size;omega);have HB3:=qh (Bnew (Bgo HB.o hb2) (.cells #[.int .i64 3,.int .i64 (m:Int),.int .i64 cl] 119));have HX3:=qh ((HX.o.keep hb2).alloc (.cells #[.int .i64 3,.int .i64 (m:Int),.int .i64 cl] 119));have HO3:=qh ((qEc HO.o hb2).alloc (.cells #[.int .i64 3,.int .i64 (m:Int),.int .i64 cl] 119));have HI3:=qh (Held.new w2 119 #[.int .i64 3,.int .i64 (m:Int),.int .i64 cl]);have HG2:=qh (rfl:w2.heap.size=w2.heap.size);clear hb2 c0 c1 c2 c3;obtain⟨c0,c1,c2,c3⟩:=HX3.o.four;obtain⟨d0,d1,d2⟩:=HI3.o.three)
          | (refine Rh9 ?_;clear c0 c1 c2 c3 d0 d1 d2;intro w4 HB4 HX4 HO4 HI4 c0 c1 c2 c3 d0 d1 d2)
          | (go_at_call 150;refine(HSLB.o _ (HVL.o.below HB4.o)).mono ?_;rintro e w5 ⟨u2,rfl,hown5,hb5⟩;have HB5:=qh (Bgo HB4.o hb5);have HX5:=qh (HX4.o.keep hb5);have HI5:=qh (HI4.o.keep hb5);have HO5:=qh (qEc HO4.o hb5);have hb5s:=HX5.o.lt;clear hb5 c0 c1 c2 c3 d0 d1 d2;rw[HLQ.o] at hown5;obtain⟨As,cs,rfl⟩:=qKK hown5;obtain⟨asl,rfl,_,hnw⟩:=(Reads.of_own hown5).2 hlq0;have HNW:=qh hnw;clear hown5 hnw)
          | (at_builtin
             refine wpList_append_lies _ rfl _ _ 124 rfl (w.heap.size+1) 128 j0 (.agg #[.int .i64 0,.int .i64 0,.int .i64 0]) 3 24 Tryz.underlying124 hjn hjz0 hjz1 hjz2 rfl (by decide) u3 nl (ptVs l) rfl HO5.o asl lq cs (ptVs (H.partsAt p)) rfl ?c0 HNW.o ?c1 hlq0 ?c3 ?c4 ?c5 _ rfl ?_
             case c0=>rw[qNP,HLQ.o]
             case c1=>exact qT9 _
             case c3=>unfold maxLen;omega
             case c4=>omega
             case c5=>omega
             intro g cap w8 hown8 hgrow8 hat8 hlt8)
          | fail)
        have HX8:=qh (qLO HX5.o hgrow8 (fun e=>by have:=(HO5.o.lt _ e).1;omega))
        have HB8:=qh (HB5.o.grown hgrow8 (by have:=HB5.o.size;omega) (fun j hj=>by have:=(HO5.o.lt j hj).1;omega))
        have HO8:=qh hown8
        clear hown8 hgrow8 hat8 hlt8
        go_wp2_with fail
        go_roundw
        case rel=>exact⟨p+1,nl+lq,_,qo,by go_num,qo,HCT1,qh (by rw[List.length_append,HLN.o,HLQ.o]),qh (by rw[qHW];exact HO8.o),HX8,HB8⟩
        case measure=>simp[intOf];omega
    · have t0:decide ((p:Int)<H.p)=false:=qf
      have hpe:p=H.p:=qo
      have HOE:qH (wr.ownsRow (w.heap.size+1) 128 3 u3 H.parts.length (ptVs H.parts)):=qh (by
        have h:=HO.o
        unfold AuH.parts
        rw[<- hpe,HCT.o,HLN.o]
        exact h)
      clear hpe
      go_wp2_with fail
      go_ret
      exact⟨_,rfl,qIX HOE.o qo,HB.o⟩
end
section
theorem qGH {w:World}{base n g cap:Nat}{e:TypeId}{l:List (Int × Int)}(h:w.ownsRow base e 2 (.slice (some ⟨g,0,none⟩) n cap) n (bkVs l))(hn:l.length=n){i:Nat}{x:Int × Int}(hx:l[i]?=some x) :
  w.cell? ⟨g,i*2,none⟩=some (.int .i64 x.1)/\w.cell? ⟨g,i*2+1,none⟩=some (.int .i64 x.2):=by
 have hi:i<n:=by
  rcases Nat.lt_or_ge i n with h1|h1
  ·exact h1
  ·rw[List.getElem?_eq_none qo] at hx;cases hx
 have hg:∀ (l:List (Int × Int)) (i:Nat) (x:Int × Int),l[i]?=some x->(bkVs l)[i*2]?=some (.int .i64 x.1)/\(bkVs l)[i*2+1]?=some (.int .i64 x.2):=by
  intro l
  induction l with
  | nil=>intro i x h;simp at h
  | cons y l ih =>
   intro i x h
   have e:bkVs (y :: l) = [.int .i64 y.1,.int .i64 y.2]++bkVs l:=by simp[bkVs]
   rcases i with _|i
   ·simp at h;subst h;simp[bkVs]
   ·have h':l[i]?=some x:=by simpa using h
    obtain⟨h1,h2⟩:=ih i x h'
    have g:∀ k,(bkVs (y :: l))[(i*2+k)+2]?=(bkVs l)[i*2+k]?:=fun k=>by
     rw[e,List.getElem?_append_right (by simp)]
     simp
    exact⟨by have:=g 0;rw[Nat.add_zero] at this;rw[show (i+1)*2=i*2+2 by omega,this];exact h1,by rw[show (i+1)*2+1=(i*2+1)+2 by omega,g];exact h2⟩
 obtain⟨h1,h2⟩:=hg l i x hx
 exact⟨(h.cellAt _ qo).trans h1,(h.cellAt _ qo).trans h2⟩

theorem qGF {H:AuH}{n c:Nat}(HV:HeapV H n c)(ad:Addr)(w:World)(hv:IsVals w ad n H.V) :
  Calls Tryz.prog 107 #[hpV H ad n c] w fun e w'=>∃ u,e = .returned u/\w'.ownsRow w.heap.size 64 2 u (blocksOf H.parts).length (bkVs (blocksOf H.parts))/\Below w.heap.size w w':=by
 have HVL:=qh hv
 have hpl:=AuH.parts_len (H:=H) H.p
 have hpp:=HV.nums.2.2.2.1
 obtain⟨j0,hjn,hjz0,hjz1,hjz2⟩:=info_parts blockInfo
 have HX0:=qh ((Held.new w 114 #[.int .i64 (H.t:Int),.int .i64 (H.p:Int),.int .i64 (H.s:Int),.slice (some ad) n c]).alloc (.cells #[] 64))
 obtain⟨c0,c1,c2,c3⟩:=HX0.o.four
 have HBW:=qh (Bnew (Bnew (B0 w) (.cells #[.int .i64 (H.t:Int),.int .i64 (H.p:Int),.int .i64 (H.s:Int),.slice (some ad) n c] 114)) (.cells #[] 64))
 have HOW:qH (((w.alloc (.cells #[.int .i64 (H.t:Int),.int .i64 (H.p:Int),.int .i64 (H.s:Int),.slice (some ad) n c] 114)).alloc (.cells #[] 64)).ownsRow (w.heap.size+1) 64 2 (.slice (some ⟨(w.alloc (.cells #[.int .i64 (H.t:Int),.int .i64 (H.p:Int),.int .i64 (H.s:Int),.slice (some ad) n c] 114)).heap.size,0,none⟩) 0 0) 0 []):=qh (World.ownsRow_lit (base:=(w.heap.size+1)) (e := 64) (size:=2) (w.alloc (.cells #[.int .i64 (H.t:Int),.int .i64 (H.p:Int),.int .i64 (H.s:Int),.slice (some ad) n c] 114)) #[] 0 (by simp) (by unfold maxLen;omega) rfl)
 rw[World.size_alloc] at HOW
 have HW0:qH (w.heap.size<((w.alloc (.cells #[.int .i64 (H.t:Int),.int .i64 (H.p:Int),.int .i64 (H.s:Int),.slice (some ad) n c] 114)).alloc (.cells #[] 64)).heap.size):=qh qs
 obtain⟨L,hL⟩:∃ L,H.parts=L:=⟨_,rfl⟩
 have HLL:=qh hL
 have hpl:L.length<=40000:=by rw[<- hL];unfold AuH.parts;omega
 obtain⟨nl,hnl⟩:∃ nl,L.length=nl:=⟨_,rfl⟩
 rw[hnl] at hpl
 have HNL:=qh hnl
 clear hL hnl hv
 unfold hpV
 go_enter Tryz.func107,Tryz.ntmps107
 go_wp2_with (first
  | (go_at_call 108;refine(qIF HV ad _ (HVL.o.below HBW.o)).mono ?_;rintro e w2 ⟨v,rfl,hown2,hb2⟩;rw[HLL.o,HNL.o] at hown2;obtain⟨Av,cv,rfl⟩:=qKK hown2;have HP2:=qh hown2;have HB2:=qh (Bgo HBW.o hb2);have HO2:=qh (qEc HOW.o hb2);have HSZ:=qh hb2.size;clear hown2 hb2)
  | fail)
 generalize (w.alloc (.cells #[.int .i64 (H.t:Int),.int .i64 (H.p:Int),.int .i64 (H.s:Int),.slice (some ad) n c] 114)).alloc (.cells #[] 64)=W0 at *
 have HCV:=qh (qJH HP2.o)
 have hcv:nl<=cv/\cv<=9223372036854775807:=HCV.o
 have HNE0:qH (∀ g,w2.heap.size<=g\/g<W0.heap.size->∀ gg,(Value.slice Av nl cv).ownBlock=some gg->gg≠g):=qh (fun g hg gg hgg e=>by have:=HP2.o.lt gg hgg;omega)
 clear c0 c1 c2 c3 HBW HX0
 go_loopw [3,5] (fun u3 u5 wr=>∃ (i k:Nat),i<=nl/\u5 = .int .i64 (i:Int)/\k<=i/\qH ((blocksOf (L.take i)).length=k)/\qH (wr.ownsRow (w.heap.size+1) 64 2 u3 k (bkVs (blocksOf (L.take i))))/\qH (wr.ownsRow W0.heap.size 128 3 (.slice Av nl cv) nl (ptVs L))/\qH (∀ g,u3.ownBlock=some g->w2.heap.size<=g\/g<W0.heap.size)/\qH (w2.heap.size<=wr.heap.size)/\qH (Below w.heap.size w wr)) (fun _ u5 _=>nl-(intOf u5).toNat)
 case atStart=>exact⟨0,0,qo,rfl,qo,qh rfl,HO2,HP2,qh (fun g h => .inr (HOW.o.lt g h).2),qh (Nat.le_refl _),HB2⟩
 case round =>
  clear HO2 HP2 HB2
  obtain⟨i,k,hi,rfl,hki,HM,HO,HP,HW,HWS,HB⟩:=hrel
  by_cases hlt:i<nl
  ·obtain⟨x,hx⟩:∃ x,L[i]?=some x:=⟨_,List.getElem?_eq_getElem (by have:=HNL.o;omega)⟩
   obtain⟨gv,cv',hvv,hbv,hlv⟩:=HP.o.form qo
   injection hvv with hvv hn0 hcc
   subst hvv
   subst hcc
   obtain⟨kd,a,z⟩:=x
   obtain⟨p0,p1,p2⟩:=qOX HP.o HNL.o hx
   have HTK:qH (L.take (i+1)=L.take i ++ [(kd,a,z)]):=qh (by rw[List.take_add_one,hx];rfl)
   have t0:decide ((i:Int)<nl)=true:=qt
   have t0n:decide (i<nl)=true:=decide_eq_true hlt
   have hxx:=hx
   simp only at p0 p1 p2
   have hbs:=HWS.o
   have hbs2:w.heap.size+1<=w2.heap.size:=by have:=HSZ.o;have:=HW0.o;omega
   clear hn0 hx
   by_cases h2:kd=2
   ·subst h2
    have HB1:qH (blocksOf (L.take (i+1))=blocksOf (L.take i) ++ [(a,z)]):=qh (by rw[HTK.o,qGG,qId rfl])
    have HNE:qH (∀ gg,gv=gg->u3.ownBlock≠some gg):=qh (fun gg e h=>by subst e;exact HNE0.o gv (HW.o gv h) gv rfl rfl)
    go_wp2_with fail
    refine wp_region_held_drew (S:=(fun w'=>w'.cell? ⟨gv,i*3+1,none⟩=some (.int .i64 a)/\w'.cell? ⟨gv,i*3+2,none⟩=some (.int .i64 z))) qr ?_ (fun hHeld=>?_)
    ·(try dsimp only)
     exact MLZ
    refine Rbo ?_
    refine RPe ?_
    refine tkz 9 ?_
    refine tkz 10 ?_
    refine tkz 11 ?_
    refine rdz 12 fun K hK=>?_
    go_simp
    skip
    refine qk ?_ (fun hHeld=>?_)
    ·exact MLZ
    clear hK K
    refine rdz 13 fun K hK=>?_
    (refine step_append_lies _ (by rfl) _ _ 53 (by rfl) (w.heap.size+1) 64 j0 (.agg #[.int .i64 0,.int .i64 0]) 2 16 Tryz.underlying53 hjn hjz0 hjz1 hjz2 rfl (by decide) u3 k (bkVs (blocksOf (L.take i))) (by rfl) (HO.o.drew.alloc _) ⟨_,0,none⟩ 1 1 [.int .i64 a,.int .i64 z] (by rfl) rfl (fun jj yy hyy=>World.news_of_block (w:=wr.drew.alloc (.cells #[.int .i64 a,.int .i64 z] 64)) (heap_alloc_new wr.drew _) jj yy (by simpa using hyy)) (by simp[Value.oneCell']) qo (by unfold maxLen;omega) qo qs _ rfl ?_;intro g cap w8 hown8 hgrow8 hat8 hlt8;have HP8:=qh (qWQ (HP.o.alloc (.cells #[.int .i64 a,.int .i64 z] 64)) (fun gg hgg=>hgrow8.block gg (((HP.o.alloc (.cells #[.int .i64 a,.int .i64 z] 64)).lt gg hgg).2) (fun e=>HNE.o gg (Option.some.inj (hgg)) e.symm)));have HB8:=qh ((Bnew (Bdrew HB.o) (.cells #[.int .i64 a,.int .i64 z] 64)).grown hgrow8 (by have:=HB.o.size;simp;omega) (fun j hj=>by have:=(HO.o.lt j hj).1;omega));have HSG:qH (w2.heap.size<=w8.heap.size):=qh (by have:=hgrow8.size;simp at this;omega);have HAT:=qh hat8;have HO8:=qh hown8;clear hown8 hgrow8 hat8 hlt8)
    refine qk ?_ (fun hHeld=>?_)
    ·exact MLZ
    clear hK K
    refine tkz 14 ?_
    refine dnz ?_
    have HM1:qH ((blocksOf (L.take (i+1))).length=k+1):=qh (by rw[HB1.o,List.length_append,HM.o];rfl)
    have HO9:qH (w8.ownsRow (w.heap.size+1) 64 2 (.slice (some ⟨g,0,none⟩) (k+1) cap) (k+1) (bkVs (blocksOf (L.take (i+1))))):=qh (by rw[HB1.o,qU4];exact HO8.o)
    have HW9:qH (∀ gg,(Value.slice (some ⟨g,0,none⟩) (k+1) cap).ownBlock=some gg->w2.heap.size<=gg\/gg<W0.heap.size):=qh (fun gg hgg=>by
     have hgg:g=gg:=by simpa [Value.ownBlock] using hgg
     subst hgg
     rcases HAT.o with h|h
     ·exact HW.o _ h
     ·left;simp at h;have:=HWS.o;omega)
    have HS9:qH (w2.heap.size<=w8.heap.size):=HSG
    go_wp2_with fail
    go_roundw
    case rel=>exact⟨i+1,k+1,qo,by go_num,qo,HM1,HO9,HP8,HW9,HS9,HB8⟩
    case measure=>simp[intOf];omega
   ·have HB1:qH (blocksOf (L.take (i+1))=blocksOf (L.take i)):=qh (by rw[HTK.o,qGG,qCe h2,List.append_nil])
    have q0:(kd==2)=false:=by simpa using h2
    clear h2
    go_wp2_with fail
    go_roundw
    case rel=>exact⟨i+1,k,qo,by go_num,qo,qh (by rw[HB1.o];exact HM.o),qh (by rw[HB1.o];exact HO.o),HP,HW,HWS,HB⟩
    case measure=>simp[intOf];omega
  ·have t0:decide ((i:Int)<nl)=false:=qf
   have t0n:decide (i<nl)=false:=decide_eq_false hlt
   have HTA:qH (L.take i=L):=qh (List.take_of_length_le (by have:=HNL.o;omega))
   go_wp2_with fail
   go_ret
   refine⟨_,rfl,?_,HB.o⟩
   have h:=HO.o
   have h2:=HM.o
   rw[HTA.o] at h h2
   rw[HLL.o,h2]
   exact qIX h qo
end
section
theorem qLZ (l:List (Int × Int))(A:Option Addr)(nl cl:Nat)(a:Int)(w:World)(base:Nat)(hO:w.ownsRow base 64 2 (.slice A nl cl) nl (bkVs l))(hln:l.length=nl)(hcl:nl<=cl/\cl<=9223372036854775807)(hnl:nl<=100000)(b:Bool)(hb:b=true ↔ ∃ x∈l,x.1=a) :
  Calls Tryz.prog 25 #[.slice A nl cl,.int .i64 a] w fun e w'=>e = .returned (.bool b)/\w=w':=by
 have HO:=qh hO
 have HLN:=qh hln
 have HBC:=qh hb
 obtain⟨hcl1,hcl2⟩:=hcl
 clear hO hln hb
 go_enter Tryz.func25,Tryz.ntmps25
 go_wp2_with fail
 go_loopw [5] (fun u5 wr=>∃ (k:Nat),k<=nl/\u5 = .int .i64 (k:Int)/\qH (∀ x∈l.take k,x.1≠a)/\wr=w) (fun u5 _=>nl-(intOf u5).toNat)
 case atStart=>exact⟨0,qo,rfl,qh (by simp),rfl⟩
 case round =>
  obtain⟨k,hk,rfl,HNO,rfl⟩:=hrel
  by_cases hlt:k<nl
  ·have t0:decide ((k:Int)<nl)=true:=qt
   have t0n:decide (k<nl)=true:=decide_eq_true hlt
   obtain⟨x,hx⟩:∃ x,l[k]?=some x:=⟨_,List.getElem?_eq_getElem (by have:=HLN.o;omega)⟩
   obtain⟨gv,cv',hvv,hbv,hlv⟩:=HO.o.form qo
   injection hvv with hvv hn0 hcc
   subst hvv
   subst hcc
   obtain⟨p0,p1⟩:=qGH HO.o HLN.o hx
   have HTK:qH (l.take (k+1)=l.take k ++ [x]):=qh (by rw[List.take_add_one,hx];rfl)
   have HMX:qH (x∈l):=qh (List.mem_of_getElem? hx)
   obtain⟨xa,xz⟩:=x
   simp only at p0 p1
   clear hn0 hx
   by_cases hxa:xa=a
   ·have q0:(xa==a)=true:=by simpa using hxa
    have HBT:qH (b=true):=qh (HBC.o.2 ⟨_,HMX.o,hxa⟩)
    clear hxa
    go_wp2_with fail
    go_ret
    exact⟨by rw[HBT.o];rfl,rfl⟩
   ·have q0:(xa==a)=false:=by simpa using hxa
    have HN1:qH (∀ x∈l.take (k+1),x.1≠a):=qh (fun y hy=>by
     rw[HTK.o] at hy
     rcases List.mem_append.1 hy with hy|hy
     ·exact HNO.o y hy
     ·have:y=(xa,xz):=by simpa using hy
      subst this
      exact hxa)
    clear hxa
    go_wp2_with fail
    go_roundw
    case rel=>exact⟨k+1,qo,by go_num,HN1,(by first|rfl|trivial)⟩
    case measure=>simp[intOf];omega
  ·have t0:decide ((k:Int)<nl)=false:=qf
   have t0n:decide (k<nl)=false:=decide_eq_false hlt
   have HBF:qH (b=false):=qh (qE5 HBC.o (fun ⟨x,hx,he⟩=>HNO.o x (by rw[List.take_of_length_le (by have:=HLN.o;omega)];exact hx) he))
   go_wp2_with fail
   go_ret
   exact⟨by rw[HBF.o];rfl,rfl⟩

theorem qNX {H:AuH}{n c:Nat}(HV:HeapV H n c)(ad:Addr)(b:Bool)(hb:b=true↔H.R10)(w:World)(hv:IsVals w ad n H.V) :
  Calls Tryz.prog 148 #[hpV H ad n c] w fun e w'=>e = .returned (.bool b)/\Below w.heap.size w w':=by
 have HVL:=qh hv
 have HX0:=qh (Held.new w 114 #[.int .i64 (H.t:Int),.int .i64 (H.p:Int),.int .i64 (H.s:Int),.slice (some ad) n c])
 obtain⟨c0,c1,c2,c3⟩:=HX0.o.four
 have HBW:=qh (Bnew (B0 w) (.cells #[.int .i64 (H.t:Int),.int .i64 (H.p:Int),.int .i64 (H.s:Int),.slice (some ad) n c] 114))
 have hn:=HV.nums
 have hcx:c<=9223372036854775807:=hn.2.2.2.2.2.2.2.2
 have hni:n<=6238:=hn.2.2.2.2.2.2.1
 have hnc:=HV.cap
 have hp1:=hn.2.2.2.1
 have hn30:30<=n:=by have:=HV.len;omega
 have HBC:qH (b=true ↔ ∀ i,i<8->H.V (22+i)≠0->H.LiveAt (H.V (22+i):Int)):=qh hb
 have hpl:=AuH.parts_len (H:=H) H.p
 have hbl:=qY6 H.parts
 have HLI:=qh (fun a=>AuH.live_iff HV a)
 obtain⟨l,hl⟩:∃ l,blocksOf H.parts=l:=⟨_,rfl⟩
 have HLB:=qh hl
 rw[hl] at hbl HLI
 obtain⟨nb,hnb⟩:∃ nb,l.length=nb:=⟨_,rfl⟩
 have HNB:=qh hnb
 have HNL:=qh hnb
 have hnb9:nb<=100000:=by have:H.parts.length<=H.p*33:=hpl;omega
 clear hv hn hb hpl hbl hl hnb
 unfold hpV
 go_enter Tryz.func148,Tryz.ntmps148
 go_wp2_with (first
  | (go_at_call 107;refine(qGF HV ad _ (HVL.o.below HBW.o)).mono ?_;rintro e w2 ⟨u,rfl,hown2,hb2⟩;rw[HLB.o,HNB.o] at hown2;obtain⟨Ab,cb,rfl⟩:=qKK hown2;have HO2:=qh (qIX hown2 HBW.o.size);have HB2:=qh (Bgo HBW.o hb2);have HX2:=qh (HX0.o.keep hb2);clear hown2 hb2)
  | fail)
 have hcc:=qJH HO2.o
 obtain⟨hcc1,hcc2⟩:=hcc
 have hcc2:cb<=9223372036854775807:=hcc2
 clear c0 c1 c2 c3 HX0 HBW
 go_loopw [4] (fun u4 wr=>∃ (i:Nat),i<=8/\u4 = .int .i64 (i:Int)/\qH (∀ k,k<i->H.V (22+k)≠0->H.LiveAt (H.V (22+k):Int))/\qH (Held wr w.heap.size 114 #[.int .i64 (H.t:Int),.int .i64 (H.p:Int),.int .i64 (H.s:Int),.slice (some ad) n c])/\qH (wr.ownsRow w.heap.size 64 2 (.slice Ab nb cb) nb (bkVs l))/\qH (Below w.heap.size w wr)) (fun u4 _=>8-(intOf u4).toNat)
 case atStart=>exact⟨0,qo,rfl,qh (fun k h=>by omega),HX2,HO2,HB2⟩
 case round =>
  clear HX2 HO2 HB2
  obtain⟨i,hi,rfl,HOK,HX,HO,HB⟩:=hrel
  obtain⟨c0,c1,c2,c3⟩:=HX.o.four
  by_cases hlt:i<8
  ·have t0:decide ((i:Int)<8)=true:=qt
   obtain⟨j,hj⟩:∃ j,22+i=j:=⟨_,rfl⟩
   have HRT:qH (nthI 22 8 1 (i:Int)=((j:Nat):Int)):=qh (by rw[qLq qo qo qo];omega)
   have hjn:j<n:=qo
   have hjn2:(j:Int)<n:=qo
   have hv0:=(HVL.o.below HB.o).2 j hjn
   have hbj:(ad.add j).block<wr.heap.size:=by rw[qXL];exact(HVL.o.below HB.o).1
   have hv32:=HV.lt j hjn
   obtain⟨v,hvv⟩:∃ v,H.V j=v:=⟨_,rfl⟩
   have HVV:qH (H.V (22+i)=v):=qh (by rw[hj];exact hvv)
   rw[hvv] at hv0 hv32
   have HS:qH (∀ w',Below wr.heap.size wr w'->(fun w'=>w'.cell? ⟨w.heap.size,0,none⟩=some (.int .i64 (H.t:Int))/\w'.cell? ⟨w.heap.size,1,none⟩=some (.int .i64 (H.p:Int))/\w'.cell? ⟨w.heap.size,2,none⟩=some (.int .i64 (H.s:Int))/\w'.cell? ⟨w.heap.size,3,none⟩=some (.slice (some ad) n c)/\w'.cell? (ad.add j)=some (.int .u32 (v:Int))) w'):=qh (fun w' hb=>by have hh:=HX.o.keep hb;exact⟨hh.four.1,hh.four.2.1,hh.four.2.2.1,hh.four.2.2.2,(hb.cell hbj).trans hv0⟩)
   have wv:IntKind.i64.wrap (v:Int)=(v:Int):=qIv qo qo
   have HST:qH ((v≠0->H.LiveAt (v:Int))->∀ k,k<i+1->H.V (22+k)≠0->H.LiveAt (H.V (22+k):Int)):=qh (fun h k hk=>by
    rcases Nat.lt_or_ge k i with h1|h1
    ·exact HOK.o k h1
    ·obtain rfl:k=i:=qo
     rw[HVV.o]
     exact h)
   clear hj hvv hv0 hbj
   by_cases hv1:v=0
   ·have q0:((v:Int) != 0)=false:=qs
    have HOK1:=qh (HST.o (fun h=>absurd hv1 h))
    clear hv1
    go_wp2_with fail
    refine Rtb ?_;intro hHeld
    go_wp2_with fail
    exact M7M
   ·have q0:((v:Int) != 0)=true:=qs
    by_cases hlv:H.LiveAt (v:Int)
    ·have HHA:=qh (fun (W:World) (hO:W.ownsRow w.heap.size 64 2 (.slice Ab nb cb) nb (bkVs l))=>qLZ l Ab nb cb (v:Int) W w.heap.size hO HNL.o ⟨hcc1,hcc2⟩ qo true ⟨fun _=>(HLI.o v).2 hlv,fun _=>rfl⟩)
     have HOK1:=qh (HST.o (fun _=>hlv))
     clear hv1 hlv
     go_wp2_with fail
     refine Rtb ?_;intro hHeld
     go_wp2_with (first
      | (go_at_call 25;refine(HHA.o _ HO.o.drew).mono ?_;rintro e w9 ⟨rfl,rfl⟩)
      | fail)
     exact M7M
    ·have HHA:=qh (fun (W:World) (hO:W.ownsRow w.heap.size 64 2 (.slice Ab nb cb) nb (bkVs l))=>qLZ l Ab nb cb (v:Int) W w.heap.size hO HNL.o ⟨hcc1,hcc2⟩ qo false ⟨fun h=>(by cases h),fun h=>absurd ((HLI.o v).1 h) hlv⟩)
     have HBF:qH (b=false):=qh (qE5 HBC.o (fun h=>hlv (by have h1:=h i hlt;rw[HVV.o] at h1;exact h1 hv1)))
     clear hv1 hlv
     go_wp2_with fail
     refine Rtb ?_;intro hHeld
     go_wp2_with (first
      | (go_at_call 25;refine(HHA.o _ HO.o.drew).mono ?_;rintro e w9 ⟨rfl,rfl⟩)
      | fail)
     go_ret
     exact⟨by rw[HBF.o];rfl,Bdrew HB.o⟩
  ·have t0:decide ((i:Int)<8)=false:=qf
   have HBT:qH (b=true):=qh (HBC.o.2 (fun k hk=>HOK.o k qo))
   exact MnL
end
end Go.Proofs.YtjjfcaliippgpaaGreatDoor
