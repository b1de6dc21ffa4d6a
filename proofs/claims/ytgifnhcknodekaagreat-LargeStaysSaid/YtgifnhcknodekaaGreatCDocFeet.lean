/-
  The document's rule 3. Written by doc12/gen_rules.py.
-/
import Derived.Test.YtgifnhcknodekaaGreatC10
import Derived.Test.YtgifnhcknodekaaGreatC06
namespace Go.Proofs.YtgifnhcknodekaaGreat
theorem Rot {P Q:Prop}(kq:Q)(h:HQ Q->P:=by
 intro kq
 refine wp_region_held_drew (S:=(fun w'=>w'.cell? ⟨w.heap.size,0,none⟩=some (.int .i64 (H.t:Int))/\w'.cell? ⟨w.heap.size,1,none⟩=some (.int .i64 (H.p:Int))/\w'.cell? ⟨w.heap.size,2,none⟩=some (.int .i64 (H.s:Int))/\w'.cell? ⟨w.heap.size,3,none⟩=some (.slice (some ad) n c)/\w'.cell? ⟨gl,nn,none⟩=some (.int .i64 (a:Int)))) qr ?_ (fun hHeld=>?_)
 ·exact MLT
 refine tkz 0 ?_
 refine tkz 1 ?_
 refine tkz 2 ?_
 refine tkz 3 ?_
 refine tkz 4 ?_
 refine tkz 5 ?_
 refine tkz 6 ?_
 refine tkz 7 ?_
 refine tkz 8 ?_
 refine tkz 9 ?_
 refine rdz 10 fun K hK=>?_
 go_simp
 go_at_call 42
 refine(qMU HV ad hap _ HVR.o.drew).mono ?_
 rintro e w3 ⟨rfl,hb3⟩
 rw[HLM.o]
 have HB3:=qh (Bgo (Bdrew HB.o) hb3)
 have HB3r:=qh (Bgo (Bdrew (B0 wr)) hb3)
 have HX3:=qh (HX.o.drew.keep hb3)
 have HL3:=qh (HLW.o.drew.keep hb3)
 clear hb3
 refine qk ?_ (fun hHeld=>?_)
 ·exact Mrp
 clear hK K
 refine tkz 11 ?_
 refine tkz 12 ?_
 refine tkz 13 ?_
 refine tkz 14 ?_
 refine dnz ?_
 obtain⟨c0,c1,c2,c3⟩:=HX3.o.four
 revert w3 HB3 HB3r HX3 HL3 hHeld c0 c1 c2 c3
 exact kq.o):P:=h ⟨kq⟩
theorem RmE {P Q:Prop}(kq:Q)(h:HQ Q->P:=by
 intro kq
 have HS:qH (∀ w',Below w3.heap.size w3 w'->(fun w'=>w'.cell? ⟨w.heap.size,0,none⟩=some (.int .i64 (H.t:Int))/\w'.cell? ⟨w.heap.size,1,none⟩=some (.int .i64 (H.p:Int))/\w'.cell? ⟨w.heap.size,2,none⟩=some (.int .i64 (H.s:Int))/\w'.cell? ⟨w.heap.size,3,none⟩=some (.slice (some ad) n c)/\w'.cell? (ad.add i)=some (.int .u32 (v:Int))) w'):=qh (fun w' hb=>by have hh:=HX3.o.keep hb;exact⟨hh.four.1,hh.four.2.1,hh.four.2.2.1,hh.four.2.2.2,(hb.cell hbli).trans hci⟩)
 revert HS
 exact kq.o):P:=h ⟨kq⟩
theorem RUu {P Q:Prop}(kq:Q)(h:HQ Q->P:=by
 intro kq
 refine tkz 8 ?_
 refine rdz 5 fun K hK=>?_
 go_simp
 go_at_call 79
 refine(qGC _ _ _ _ _).mono ?_
 rintro e w5 ⟨rfl,hb5⟩
 rw[HI.o]
 have HB5:=qh (Bgo (Bdrew HB3.o) hb5)
 have HB5r:=qh (Bgo (Bdrew (B0 w3)) hb5)
 have HX5:=qh (HX3.o.drew.keep hb5)
 have HL5:=qh (HL3.o.drew.keep hb5)
 clear hb5
 refine qk ?_ (fun hHeld=>?_)
 ·exact M5w
 clear hK K
 refine tkz 6 ?_
 refine tkz 7 ?_
 refine tkz 9 ?_
 refine dnz ?_
 revert w5 HB5 HB5r HX5 HL5 hHeld
 exact kq.o):P:=h ⟨kq⟩
theorem Rt3 {P Q:Prop}(kq:Q)(h:HQ Q->P:=by
 intro kq
 have t1c:¬ (nn+1<nl):=qo
 have t1b:decide (nn+1<nl)=false:=decide_eq_false t1c
 have t1:decide (((nn+1:Nat):Int)<nl)=false:=qf
 revert t1c t1b t1
 exact kq.o):P:=h ⟨kq⟩
theorem RkP {P Q:Prop}(kq:Q)(h:HQ Q->P:=by
 intro kq
 have t1c:nn+1<nl:=qo
 have t1:decide (((nn+1:Nat):Int)<nl)=true:=qt
 revert t1c t1
 exact kq.o):P:=h ⟨kq⟩
theorem MUg {P:Prop}(h:P:=by
 have q5:((p:Int)==((a+m-1:Nat):Int))=true:=qs
 have q6:((v:Int) != ((a:Int)+1))=false:=qs
 exact MgC):P:=h
theorem MIj {P:Prop}(h:P:=by
 have q5:((p:Int)==((a+m-1:Nat):Int))=false:=qs
 have q6:((v:Int) != (0:Int))=false:=qs
 exact MgC):P:=h
theorem MK3 {P:Prop}(h:P:=by
 have q5:((p:Int)==((a+m-1:Nat):Int))=true:=qs
 have q6:((v:Int) != ((a:Int)+1))=true:=qs
 exact MRU):P:=h
theorem MgC {P:Prop}(h:P:=by
 have HFIN:=qh (HRV.o.2 qo)
 clear hpm hvw HRV hle
 go_wp2_with fail
 refine Rot ?_;intro w3 HB3 HB3r HX3 HL3 hHeld c0 c1 c2 c3
 have l3:=HL3.o.2 nn a HNN.o
 have HV3:=qh (HVL.o.below HB3.o)
 have hci:=(HV3.o).2 i hini
 rw[<- hceli,hvvv] at hci
 have hbli:(ad.add i).block<w3.heap.size:=by rw[qXL];exact(HV3.o).1
 refine RmE ?_;intro HS
 clear hci hbli hceli hvvv hii
 go_wp2_with fail
 refine RaV ?_;intro hHeld
 refine RUu ?_;intro w5 HB5 HB5r HX5 HL5 hHeld
 go_wp2_with fail
 go_roundw
 case rel=>exact⟨nn,p+1,a,by have:=HNL.o;omega,qo,by have:=HLE.o;omega,qh HLX.o,by go_num,by go_num,HNN,HFIN,HX5,HL5,HB5⟩
 case measure=>simp[intOf];omega):P:=h
theorem MZS {P:Prop}(h:P:=by
 have q5:((p:Int)==((a+m-1:Nat):Int))=false:=qs
 have q6:((v:Int) != (0:Int))=true:=qs
 exact MRU):P:=h
theorem MRU {P:Prop}(h:P:=by
 have HFIN:=qh ((qE5 HBC.o (fun h=>hvw (HRV.o.1 h)):b=false))
 clear hpm hvw HRV hle
 go_wp2_with fail
 refine Rot ?_;intro w3 HB3 HB3r HX3 HL3 hHeld c0 c1 c2 c3
 have l3:=HL3.o.2 nn a HNN.o
 have HV3:=qh (HVL.o.below HB3.o)
 have hci:=(HV3.o).2 i hini
 rw[<- hceli,hvvv] at hci
 have hbli:(ad.add i).block<w3.heap.size:=by rw[qXL];exact(HV3.o).1
 refine RmE ?_;intro HS
 clear hci hbli hceli hvvv hii
 go_wp2_with fail
 refine RaV ?_;intro hHeld
 refine RUu ?_;intro w5 HB5 HB5r HX5 HL5 hHeld
 go_wp2_with fail
 go_ret
 exact⟨by rw[HFIN.o];rfl,HB5.o⟩):P:=h
theorem MLT {P:Prop}(h:P:=by
 (try dsimp only)
 exact Mrp):P:=h
theorem Mrp {P:Prop}(h:P:=by first|exact HSF.o _ (Bdrew (B0 _))|exact HSF.o _ HB3r.o|exact hHeld):P:=h
end Go.Proofs.YtgifnhcknodekaaGreat
set_option linter.unusedVariables false
set_option linter.unusedSimpArgs false
set_option maxRecDepth 100000
set_option maxHeartbeats 25600000
namespace Go.Proofs.YtgifnhcknodekaaGreat
open Go.ChangeShapes Go.WideShapes Go.ChangeAt Go.RowKit Go.Shelf
section
theorem qY3 {H:AuH}{n c:Nat}(HV:HeapV H n c)(ht:H.Tiled)(ad:Addr)(b:Bool)(hb:b=true↔H.R3)(w:World)(hv:IsVals w ad n H.V) :
  Calls Tryz.prog 58 #[hpV H ad n c] w fun e w'=>e = .returned (.bool b)/\Below w.heap.size w w':=by
 have HVL:=qh hv
 have HX0:=qh (Held.new w 88 #[.int .i64 (H.t:Int),.int .i64 (H.p:Int),.int .i64 (H.s:Int),.slice (some ad) n c])
 obtain⟨c0,c1,c2,c3⟩:=HX0.o.four
 have HBW:=qh (Bnew (B0 w) (.cells #[.int .i64 (H.t:Int),.int .i64 (H.p:Int),.int .i64 (H.s:Int),.slice (some ad) n c] 88))
 have hn:=HV.nums
 have hcx:c<=9223372036854775807:=hn.2.2.2.2.2.2.2.2
 have hni:n<=6238:=hn.2.2.2.2.2.2.1
 have hnc:=HV.cap
 have hp1:=hn.2.2.2.1
 have hp0:=hn.2.2.1
 have HBC:=qh hb
 have HTD:=qh ht
 have hA:=ht.1
 clear hv hn hb ht
 unfold hpV
 go_enter Tryz.func58,Tryz.ntmps58
 go_wp2_with (first
  | (refine RYP ?_;clear c0 c1 c2 c3;intro w2 gl cl l nl hpos hcl0 hcl HSL HLN HLR HB2 HX2)
  | fail)
 have hnl:nl<=1024:=by have:=HSL.o.len;have:=HLN.o;omega
 have HHD:qH (l[0]?=some 0):=qh (by
  rcases HSL.o.head with ⟨_,h⟩|h
  ·omega
  ·exact h)
 go_loopw [5,6] (fun u5 u6 wr=>∃ (n1 p a:Nat),n1<nl/\p<=H.p/\a<=p/\qH (p<=H.nx a)/\u5 = .int .i64 (n1:Int)/\u6 = .int .i64 (p:Int)/\qH (l[n1]?=some a)/\qH (∀ q,q<p->∀ a',H.At a'->a'<=q->q<H.nx a'->H.FootAt a' q)/\qH (Held wr w.heap.size 88 #[.int .i64 (H.t:Int),.int .i64 (H.p:Int),.int .i64 (H.s:Int),.slice (some ad) n c])/\qH (LRow wr gl l)/\qH (Below w.heap.size w wr)) (fun _ u6 _=>H.p-(intOf u6).toNat)
 case atStart=>exact⟨0,0,0,qo,qo,qo,qh (Nat.zero_le _),rfl,rfl,HHD,qh (fun q h=>by omega),HX2,HLR,HB2⟩
 case round =>
  obtain⟨n1,p,a0,hn1,hp,hle0,HLX0,rfl,rfl,HN1,HJ,HX,HLW,HB⟩:=hrel
  obtain⟨c0,c1,c2,c3⟩:=HX.o.four
  by_cases hlt:p<H.p
  ·refine RKO ?_;intro t0 HVR
   obtain⟨nn,a,hle,hlx,hnn,hcase⟩:∃ nn a,a<=p/\p<H.nx a/\l[nn]?=some a/\((nn<nl/\nn=n1+1/\a=p)\/(nn+1<nl/\nn=n1/\∃ y,l[nn+1]?=some y/\y≠p)\/(nn+1=nl/\nn=n1)):=by
    have hlx0:=HLX0.o
    have hlen:=HLN.o
    rcases(HSL.o.next HN1.o).2 with h|⟨h,h2⟩
    ·have hl:n1+1<nl:=by
      rcases Nat.lt_or_ge (n1+1) l.length with h5|h5
      ·omega
      ·rw[List.getElem?_eq_none h5] at h;cases h
     by_cases he:H.nx a0=p
     ·rw[he] at h
      have hg:=(H.nx_gt (HSL.o.next h).1.2.1).1
      exact⟨n1+1,p,Nat.le_refl _,hg,h,.inl ⟨hl,rfl,rfl⟩⟩
     ·exact⟨n1,a0,hle0,qo,HN1.o,.inr (.inl ⟨hl,rfl,_,h,he⟩)⟩
    ·exact⟨n1,a0,hle0,qo,HN1.o,.inr (.inr ⟨qo,rfl⟩)⟩
   have HNN:=qh hnn
   have hap:a<H.p:=qo
   have HNL:qH (nn<nl):=qh (by rcases hcase with h|h|h <;> omega)
   have l0:=HLW.o.2 nn a hnn
   have hm:=(H.ln_pos a (((H.can_iff a).1 (HSL.o.next hnn).1.2.1).2.1)).2
   have hm1:=(H.ln_pos a (((H.can_iff a).1 (HSL.o.next hnn).1.2.1).2.1)).1
   have HSF:qH (∀ w',Below wr.heap.size wr w'->(fun w'=>w'.cell? ⟨w.heap.size,0,none⟩=some (.int .i64 (H.t:Int))/\w'.cell? ⟨w.heap.size,1,none⟩=some (.int .i64 (H.p:Int))/\w'.cell? ⟨w.heap.size,2,none⟩=some (.int .i64 (H.s:Int))/\w'.cell? ⟨w.heap.size,3,none⟩=some (.slice (some ad) n c)/\w'.cell? ⟨gl,nn,none⟩=some (.int .i64 (a:Int))) w'):=qh (fun w' hb=>by have hh:=HX.o.keep hb;exact⟨hh.four.1,hh.four.2.1,hh.four.2.2.1,hh.four.2.2.2,(HLW.o.keep hb).2 nn a HNN.o⟩)
   have hR:∀ v,H.cel p 1=v->(H.R3->v=if p+1=H.nx a then a+1 else 0)/\(v=(if p+1=H.nx a then a+1 else 0)->∀ q,q<p+1->∀ a',H.At a'->a'<=q->q<H.nx a'->H.FootAt a' q):=fun v hv=>by
    have ha:=(HSL.o.next HNN.o).1.1
    refine⟨fun h=>by rw[<- hv];exact(AuH.r3_iff HTD.o).1 h p hlt a ha hle hlx,fun h q hq a' h1 h2 h3=>?_⟩
    rcases Nat.lt_or_ge q p with h4|h4
    ·exact HJ.o q h4 a' h1 h2 h3
    ·have:q=p:=qo
     subst this
     have:a'=a:=by
      rcases Nat.lt_trichotomy a' a with h5|h5|h5
      ·have:=(AuH.At.next h1 ha h5).2;omega
      ·exact h5
      ·have:=(AuH.At.next ha h1 h5).2;omega
     subst this
     unfold AuH.FootAt
     rw[hv]
     exact h
   have hf:∀ (x y z:Value) (w:World),(Instr.field 90 (.agg #[x,y,z]) 1).run Tryz.prog w = .ok y w:=fun _ _ _ _=>by kernel_rfl
   have hnx:H.nx a=a+H.ln a:=rfl
   have HLX:qH (p+1<=H.nx a):=qh hlx
   have HLE:=qh hle
   obtain⟨i,hii⟩:∃ i,30+4*H.t+6*p+1=i:=⟨_,rfl⟩
   have hini:i<n:=by have:=HV.len;omega
   have HI:qH (pageI H.t H.p H.s p 1=(i:Int)):=qh (by have h:=HV.page (b:=1) hlt qo;rw[hii] at h;exact h)
   have h32i:=HV.cel_lt hlt (show 1<6 by omega)
   have hceli:H.cel p 1=H.V i:=by unfold AuH.cel;rw[hii]
   obtain⟨v,hvvv⟩:∃ v,H.cel p 1=v:=⟨_,rfl⟩
   have HCv:=qh hvvv
   rw[hvvv] at h32i
   have HRV:=qh (hR v hvvv)
   rw[hnx] at hlx HRV
   clear hR hnx hnn HLX0 HN1 hle0
   obtain⟨m,hlm⟩:∃ m,H.ln a=m:=⟨_,rfl⟩
   rw[hlm] at hlx HRV hm hm1
   have HLM:=qh hlm
   clear hlm
   have sw1:IntKind.i64.wrap ((a:Int)+m)=(a:Int)+m:=qIv qo qo
   have sw2:IntKind.i64.wrap ((a:Int)+m-1)=((a+m-1:Nat):Int):=by rw[qIv qo qo];omega
   have sw3:IntKind.u32.wrap ((a:Int)+1)=(a:Int)+1:=by rw[show (a:Int)+1=((a+1:Nat):Int) by push_cast;rfl];exact qTt _ qo
   have sw4:IntKind.i64.wrap ((a:Int)+1)=(a:Int)+1:=qIv qo qo
   by_cases hpm:p+1=a+m
   all_goals (first|rw[if_pos hpm] at HRV|rw[if_neg hpm] at HRV)
   ·by_cases hvw:v=a+1
    ·rcases hcase with ⟨g1,g2,g3⟩|⟨g1,rfl,y,g3,g4⟩|⟨g1,rfl⟩
     ·have t1c:nn<nl:=qo
      have t1:decide ((nn:Int)<nl)=true:=qt
      have swn:IntKind.i64.wrap ((n1:Int)+1)=(nn:Int):=by rw[qIv qo qo];omega
      have q0:((a:Int)==(p:Int))=true:=qs
      clear g1 g2 g3
      exact MUg
     ·refine RkP ?_;intro t1c t1
      have swn:IntKind.i64.wrap ((nn:Int)+1)=((nn+1:Nat):Int):=by rw[qIv qo qo];push_cast;rfl
      have l1:=HLW.o.2 _ _ g3
      have q0:((y:Int)==(p:Int))=false:=qs
      clear g1 g3 g4
      exact MUg
     ·refine Rt3 ?_;intro t1c t1b t1
      have swn:IntKind.i64.wrap ((nn:Int)+1)=((nn+1:Nat):Int):=by rw[qIv qo qo];push_cast;rfl
      clear g1
      exact MUg
    ·rcases hcase with ⟨g1,g2,g3⟩|⟨g1,rfl,y,g3,g4⟩|⟨g1,rfl⟩
     ·have t1c:nn<nl:=qo
      have t1:decide ((nn:Int)<nl)=true:=qt
      have swn:IntKind.i64.wrap ((n1:Int)+1)=(nn:Int):=by rw[qIv qo qo];omega
      have q0:((a:Int)==(p:Int))=true:=qs
      clear g1 g2 g3
      exact MK3
     ·refine RkP ?_;intro t1c t1
      have swn:IntKind.i64.wrap ((nn:Int)+1)=((nn+1:Nat):Int):=by rw[qIv qo qo];push_cast;rfl
      have l1:=HLW.o.2 _ _ g3
      have q0:((y:Int)==(p:Int))=false:=qs
      clear g1 g3 g4
      exact MK3
     ·refine Rt3 ?_;intro t1c t1b t1
      have swn:IntKind.i64.wrap ((nn:Int)+1)=((nn+1:Nat):Int):=by rw[qIv qo qo];push_cast;rfl
      clear g1
      exact MK3
   ·by_cases hvw:v=0
    ·rcases hcase with ⟨g1,g2,g3⟩|⟨g1,rfl,y,g3,g4⟩|⟨g1,rfl⟩
     ·have t1c:nn<nl:=qo
      have t1:decide ((nn:Int)<nl)=true:=qt
      have swn:IntKind.i64.wrap ((n1:Int)+1)=(nn:Int):=by rw[qIv qo qo];omega
      have q0:((a:Int)==(p:Int))=true:=qs
      clear g1 g2 g3
      exact MIj
     ·refine RkP ?_;intro t1c t1
      have swn:IntKind.i64.wrap ((nn:Int)+1)=((nn+1:Nat):Int):=by rw[qIv qo qo];push_cast;rfl
      have l1:=HLW.o.2 _ _ g3
      have q0:((y:Int)==(p:Int))=false:=qs
      clear g1 g3 g4
      exact MIj
     ·refine Rt3 ?_;intro t1c t1b t1
      have swn:IntKind.i64.wrap ((nn:Int)+1)=((nn+1:Nat):Int):=by rw[qIv qo qo];push_cast;rfl
      clear g1
      exact MIj
    ·rcases hcase with ⟨g1,g2,g3⟩|⟨g1,rfl,y,g3,g4⟩|⟨g1,rfl⟩
     ·have t1c:nn<nl:=qo
      have t1:decide ((nn:Int)<nl)=true:=qt
      have swn:IntKind.i64.wrap ((n1:Int)+1)=(nn:Int):=by rw[qIv qo qo];omega
      have q0:((a:Int)==(p:Int))=true:=qs
      clear g1 g2 g3
      exact MZS
     ·refine RkP ?_;intro t1c t1
      have swn:IntKind.i64.wrap ((nn:Int)+1)=((nn+1:Nat):Int):=by rw[qIv qo qo];push_cast;rfl
      have l1:=HLW.o.2 _ _ g3
      have q0:((y:Int)==(p:Int))=false:=qs
      clear g1 g3 g4
      exact MZS
     ·refine Rt3 ?_;intro t1c t1b t1
      have swn:IntKind.i64.wrap ((nn:Int)+1)=((nn+1:Nat):Int):=by rw[qIv qo qo];push_cast;rfl
      clear g1
      exact MZS
  ·have t0:decide ((p:Int)<H.p)=false:=qf
   have HBT:qH (b=true):=qh (HBC.o.2 ((AuH.r3_iff HTD.o).2 (fun q hq=>HJ.o q qo)))
   exact MnL
end
end Go.Proofs.YtgifnhcknodekaaGreat
