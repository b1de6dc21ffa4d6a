/-
  The document's starts of spans. Written by doc12/gen_starts.py.
-/
import Derived.Test.YtgifnhcknodekaaGreatA08
import Derived.Test.YtgifnhcknodekaaGreatA01
import Derived.Test.YtgifnhcknodekaaGreatA07
namespace Go.Proofs.YtgifnhcknodekaaGreat
theorem RaV {P Q:Prop}(kq:Q)(h:HQ Q->P:=by
 intro kq
 refine wp_region_held_drew (S:=(fun w'=>w'.cell? ⟨w.heap.size,0,none⟩=some (.int .i64 (H.t:Int))/\w'.cell? ⟨w.heap.size,1,none⟩=some (.int .i64 (H.p:Int))/\w'.cell? ⟨w.heap.size,2,none⟩=some (.int .i64 (H.s:Int))/\w'.cell? ⟨w.heap.size,3,none⟩=some (.slice (some ad) n c)/\w'.cell? (ad.add i)=some (.int .u32 (v:Int)))) qr ?_ (fun hHeld=>?_)
 ·exact MUh
 refine tkz 0 ?_
 refine tkz 1 ?_
 refine tkz 2 ?_
 refine tkz 3 ?_
 refine tkz 4 ?_
 revert hHeld
 exact kq.o):P:=h ⟨kq⟩
theorem RCk {P Q:Prop}(kq:Q)(h:HQ Q->P:=by
 intro kq
 refine rdz 5 fun K hK=>?_
 go_simp
 go_at_call 77
 refine(qQ1 _ _ _ _ _).mono ?_
 rintro e w5 ⟨rfl,hb5⟩
 rw[HI.o]
 have HB5:=qh (Bgo (Bdrew HB.o) hb5)
 have HB5r:=qh (Bgo (Bdrew (B0 wr)) hb5)
 have HX5:=qh (HX.o.drew.keep hb5)
 have HL5:=qh (HLW.o.drew.keep hb5)
 clear hb5
 refine qk ?_ (fun hHeld=>?_)
 ·exact M5w
 clear hK K
 refine tkz 6 ?_
 refine tkz 7 ?_
 refine tkz 8 ?_
 refine dnz ?_
 revert w5 HB5 HB5r HX5 HL5 hHeld
 exact kq.o):P:=h ⟨kq⟩
theorem RKO {P Q:Prop}(kq:Q)(h:HQ Q->P:=by
 intro kq
 have t0:decide ((p:Int)<H.p)=true:=qt
 have HVR:=qh (HVL.o.below HB.o)
 revert t0 HVR
 exact kq.o):P:=h ⟨kq⟩
theorem RYP {P Q:Prop}(kq:Q)(h:HQ Q->P:=by
 intro kq
 go_at_call 91
 refine(qDG HV hA ad _ (HVL.o.below HBW.o)).mono ?_
 rintro e w2 ⟨gl,cl,l,nl,rfl,hl,hln,hpos,hcl0,hcl,hlr,hb2⟩
 have HSL:=qh hl
 have HLN:=qh hln
 have HLR:=qh hlr
 have HB2:=qh (Bgo HBW.o hb2)
 have HX2:=qh (HX0.o.keep hb2)
 clear hl hln hlr hb2
 revert w2 gl cl l nl hpos hcl0 hcl HSL HLN HLR HB2 HX2
 exact kq.o):P:=h ⟨kq⟩
theorem MF3 {P:Prop}(h:P:=by
 obtain⟨i,hii⟩:∃ i,30+4*H.t+6*p+0=i:=⟨_,rfl⟩
 have hini:i<n:=by have:=HV.len;omega
 have HI:qH (pageI H.t H.p H.s p 0=(i:Int)):=qh (by have h:=HV.page (b:=0) hlt qo;rw[hii] at h;exact h)
 have h32i:=HV.cel_lt hlt (show 0<6 by omega)
 have hceli:H.cel p 0=H.V i:=by unfold AuH.cel;rw[hii]
 obtain⟨v,hvvv⟩:∃ v,H.cel p 0=v:=⟨_,rfl⟩
 have HCv:=qh hvvv
 rw[hvvv] at h32i
 have hci:=(HVR.o).2 i hini
 rw[<- hceli,hvvv] at hci
 have hbli:(ad.add i).block<wr.heap.size:=by rw[qXL];exact(HVR.o).1
 have HS:qH (∀ w',Below wr.heap.size wr w'->(fun w'=>w'.cell? ⟨w.heap.size,0,none⟩=some (.int .i64 (H.t:Int))/\w'.cell? ⟨w.heap.size,1,none⟩=some (.int .i64 (H.p:Int))/\w'.cell? ⟨w.heap.size,2,none⟩=some (.int .i64 (H.s:Int))/\w'.cell? ⟨w.heap.size,3,none⟩=some (.slice (some ad) n c)/\w'.cell? (ad.add i)=some (.int .u32 (v:Int))) w'):=qh (fun w' hb=>by have hh:=HX.o.keep hb;exact⟨hh.four.1,hh.four.2.1,hh.four.2.2.1,hh.four.2.2.2,(hb.cell hbli).trans hci⟩)
 clear hci hbli hceli hvvv hii
 by_cases hv0:v=0
 ·have q2:((v:Int) != 0)=false:=qs
  have HV0:=qh hv0
  clear hv0
  go_wp2_with fail
  refine RaV ?_;intro hHeld
  refine RCk ?_;intro w5 HB5 HB5r HX5 HL5 hHeld
  go_wp2_with fail
  go_roundw
  case rel=>exact⟨n1,p+1,qo,qo,rfl,by go_num,qh HFN.o.2,qh (fun q hq hn=>by rcases Nat.lt_or_ge q p with h|h;(exact HJ.o q h hn);(have:q=p:=by omega);subst this;rw[HCv.o];exact HV0.o),HX5,HL5,HB5⟩
  case measure=>simp[intOf];omega
 ·have q2:((v:Int) != 0)=true:=qs
  have HBF:qH (b=false):=qh (qE5 HBC.o (fun h=>hv0 (HCv.o.symm.trans (AuH.tiled_not h hlt HFN.o.1))))
  go_wp2_with fail
  refine RaV ?_;intro hHeld
  refine RCk ?_;intro w5 HB5 HB5r HX5 HL5 hHeld
  go_wp2_with fail
  go_ret
  exact⟨by rw[HBF.o];rfl,HB5.o⟩):P:=h
theorem Mxe {P:Prop}(h:P:=by
 rcases h.2 with ⟨h1,h2⟩|⟨g,cap,cur,h1,hb,hg,hnc,hcm,hr⟩
 ·injection h1 with _ h1 h3;omega
 ·injection h1 with _ _ h3;unfold maxLen at hcm;omega):P:=h
theorem MHa {P:Prop}(h:P:=by
  go_wp2_with fail
  go_ret2
  exact⟨_,false,rfl,⟨⟨fun h=>(by cases h),fun h=>absurd h HNA.o⟩,fun h=>(by cases h)⟩,HBX.o⟩):P:=h
theorem MUh {P:Prop}(h:P:=by
 (try dsimp only)
 exact M5w):P:=h
theorem M5w {P:Prop}(h:P:=by first|exact HS.o _ (Bdrew (B0 _))|exact HS.o _ HB5r.o|exact hHeld):P:=h
theorem MnL {P:Prop}(h:P:=by
 go_wp2_with fail
 go_ret
 exact⟨by rw[HBT.o];rfl,HB.o⟩):P:=h
end Go.Proofs.YtgifnhcknodekaaGreat
set_option linter.unusedVariables false
set_option linter.unusedSimpArgs false
set_option maxRecDepth 100000
set_option maxHeartbeats 25600000
namespace Go.Proofs.YtgifnhcknodekaaGreat
open Go.ChangeShapes Go.WideShapes Go.ChangeAt Go.RowKit Go.Shelf
section
def natVs (l:List Nat):List Value:=l.map fun (n:Nat)=>Value.int .i64 (n:Int)
theorem qEk (l:List Nat)(q:Nat):natVs (l ++ [q])=natVs l ++ [.int .i64 (q:Int)]:=by unfold natVs;simp
theorem qHG {l:List Nat}{i a:Nat}(h:l[i]?=some a):(natVs l)[i]?=some (.int .i64 (a:Int)):=by unfold natVs;simp[h]
theorem qUf {w:World}{base n g cap:Nat}{e:TypeId}{l:List Nat}(h:w.ownsRow base e 1 (.slice (some ⟨g,0,none⟩) n cap) n (natVs l))(hn:l.length=n){i a:Nat}(hi:l[i]?=some a):w.cell? ⟨g,i,none⟩=some (.int .i64 (a:Int)):=by
 have hl:i<n:=by
  rcases Nat.lt_or_ge i n with h1|h1
  ·exact h1
  ·rw[List.getElem?_eq_none qo] at hi;cases hi
 exact(h.cellAt _ qo).trans (qHG hi)
def StartsIs (H:AuH) (w:World) (u:Value) (b:Bool) (w':World):Prop:=(b=true↔H.At H.p)/\(b=true->∃ l,H.Starts l H.p/\w'.ownsRow w.heap.size 3 1 u l.length (natVs l))
def StartsEnd (H:AuH) (w:World) (e:Ending) (w':World):Prop:=∃ u b,e = .returned (.tuple #[u,.bool b])/\StartsIs H w u b w'/\Below w.heap.size w w'

theorem qYO {H:AuH}{n c:Nat}(HV:HeapV H n c)(ad:Addr)(w:World)(hv:IsVals w ad n H.V) :
    Calls Tryz.prog 91 #[hpV H ad n c] w (StartsEnd H w):=by
  have HVL:=qh hv
  have HX0:=qh ((Held.new w 88 #[.int .i64 (H.t:Int),.int .i64 (H.p:Int),.int .i64 (H.s:Int),.slice (some ad) n c]).alloc (.cells #[] 3))
  have HBW:=qh (Bnew (Bnew (B0 w) (.cells #[.int .i64 (H.t:Int),.int .i64 (H.p:Int),.int .i64 (H.s:Int),.slice (some ad) n c] 88)) (.cells #[] 3))
  have HOW:qH (((w.alloc (.cells #[.int .i64 (H.t:Int),.int .i64 (H.p:Int),.int .i64 (H.s:Int),.slice (some ad) n c] 88)).alloc (.cells #[] 3)).ownsRow (w.heap.size+1) 3 1 (.slice (some ⟨(w.alloc (.cells #[.int .i64 (H.t:Int),.int .i64 (H.p:Int),.int .i64 (H.s:Int),.slice (some ad) n c] 88)).heap.size,0,none⟩) 0 0) 0 []):=qh (World.ownsRow_lit (base:=(w.heap.size+1)) (e := 3) (size:=1) (w.alloc (.cells #[.int .i64 (H.t:Int),.int .i64 (H.p:Int),.int .i64 (H.s:Int),.slice (some ad) n c] 88)) #[] 0 (by simp) (by unfold maxLen;omega) rfl)
  obtain⟨i0,hi0,hz0,hz1,hz2⟩:=info_parts intInfo
  have hn:=HV.nums
  have hcx:c<=9223372036854775807:=hn.2.2.2.2.2.2.2.2
  have hni:n<=6238:=hn.2.2.2.2.2.2.1
  have hnc:=HV.cap
  have hp1:=hn.2.2.2.1
  clear hv hn
  unfold hpV
  go_enter Tryz.func91,Tryz.ntmps91
  go_wp2_with fail
  rw[World.size_alloc] at HOW
  generalize (w.alloc (.cells #[.int .i64 (H.t:Int),.int .i64 (H.p:Int),.int .i64 (H.s:Int),.slice (some ad) n c] 88)).alloc (.cells #[] 3)=W0 at *
  go_loopw [4,5] (fun u4 u5 wr=>∃ (a:Nat) (l:List Nat) (nl:Nat),u5 = .int .i64 (a:Int)/\a<=4096/\qH ((a<=H.p/\H.Starts l a)\/(H.p<a/\¬ H.At H.p))/\nl<=1024/\qH (l.length=nl)/\qH (wr.ownsRow (w.heap.size+1) 3 1 u4 nl (natVs l))/\qH (Held wr w.heap.size 88 #[.int .i64 (H.t:Int),.int .i64 (H.p:Int),.int .i64 (H.s:Int),.slice (some ad) n c])/\qH (Below w.heap.size w wr)) (fun _ u5 _=>H.p-(intOf u5).toNat)
  case atStart=>exact⟨0,[],0,rfl,qo,qh (.inl ⟨qo,.nil⟩),qo,qh rfl,HOW,HX0,HBW⟩
  case round =>
    clear HOW HX0 HBW
    obtain⟨a,l,nl,rfl,ha,HST,hnl,HLN,HO,HX,HB⟩:=hrel
    obtain⟨c0,c1,c2,c3⟩:=HX.o.four
    by_cases hlt:a<H.p
    · have hst:H.Starts l a:=by
        rcases HST.o with h|h
        · exact h.2
        · omega
      have HSL:=qh hst
      have hln:=hst.len
      have t0:decide ((a:Int)<H.p)=true:=qt
      have HVR:=qh (HVL.o.below HB.o)
      obtain⟨i,hii⟩:∃ i,30+4*H.t+6*a+0=i:=⟨_,rfl⟩
      have hini:i<n:=by have:=HV.len;omega
      have HI:qH (pageI H.t H.p H.s a 0=(i:Int)):=qh (by have h:=HV.page (b:=0) hlt qo;rw[hii] at h;exact h)
      have h32i:=HV.cel_lt hlt (show 0<6 by omega)
      have hceli:H.cel a 0=H.V i:=by unfold AuH.cel;rw[hii]
      obtain⟨v,hvvv⟩:∃ v,H.cel a 0=v:=⟨_,rfl⟩
      have HCv:=qh hvvv
      rw[hvvv] at h32i
      have hci:=(HVR.o).2 i hini
      rw[<- hceli,hvvv] at hci
      have hbli:(ad.add i).block<wr.heap.size:=by rw[qXL];exact(HVR.o).1
      have HS:qH (∀ w',Below wr.heap.size wr w'->(fun w'=>w'.cell? ⟨w.heap.size,0,none⟩=some (.int .i64 (H.t:Int))/\w'.cell? ⟨w.heap.size,1,none⟩=some (.int .i64 (H.p:Int))/\w'.cell? ⟨w.heap.size,2,none⟩=some (.int .i64 (H.s:Int))/\w'.cell? ⟨w.heap.size,3,none⟩=some (.slice (some ad) n c)/\w'.cell? (ad.add i)=some (.int .u32 (v:Int))) w'):=qh (fun w' hb=>by have hh:=HX.o.keep hb;exact⟨hh.four.1,hh.four.2.1,hh.four.2.2.1,hh.four.2.2.2,(hb.cell hbli).trans hci⟩)
      have hie:=H.info_eq a
      rw[H.L_ln,hvvv] at hie
      have hok:=H.ok_of a
      have hkc:=H.K_cases a
      have HCN:qH (H.can a=false->¬ H.At H.p):=qh (fun h hp=>by have:=(AuH.At.next hst.at_ hp hlt).1;rw[h] at this;cases this)
      have HCA:qH (H.K a≠0->a+H.ln a<=H.p->H.can a=true/\H.nx a=a+H.ln a):=qh (fun h1 h2=>⟨(H.can_iff a).2 ⟨hlt,h1,h2⟩,rfl⟩)
      have HCF:qH (H.K a=0\/H.p<a+H.ln a->H.can a=false):=qh (fun h=>(H.can_no a).2 qo)
      generalize H.K a=k at *
      generalize H.ln a=m at *
      generalize H.Cl a=cl at *
      generalize H.ok a=okb at *
      have HG:=qh hie
      clear hci hbli hceli hvvv hii HCv hie hst
      go_upto_region 4 with fail
      go_cut [6,7] from 14 to 25 (fun u6 u7 wx=>∃ g:Nat,u6 = .pointer (some ⟨g,0,none⟩)/\u7 = .bool okb/\Held wx g 90 #[(.int .i64 k),(.int .i64 (m:Int)),(.int .i64 cl)]/\Below wr.heap.size wr wx/\wr.heap.size<=g)
      case first =>
        have HB:=qh (Bdrew (B0 (wr)))
        refine wp_region_held_drew (S:=(fun w'=>w'.cell? ⟨w.heap.size,0,none⟩=some (.int .i64 (H.t:Int))/\w'.cell? ⟨w.heap.size,1,none⟩=some (.int .i64 (H.p:Int))/\w'.cell? ⟨w.heap.size,2,none⟩=some (.int .i64 (H.s:Int))/\w'.cell? ⟨w.heap.size,3,none⟩=some (.slice (some ad) n c)/\w'.cell? (ad.add i)=some (.int .u32 (v:Int)))) qr ?_ (fun hHeld=>?_)
        · (try dsimp only)
          exact HS.o _ HB.o
        generalize hq0:(wr).drew=q0 at HB hHeld ⊢
        clear hq0
        refine Ro3 ?_
        refine tkz 3 ?_
        refine tkz 4 ?_
        refine wpAnyH_ready (rs := [5,12]) qr (by simp) ?_
        refine AllReadyH.cons (o:=_) rfl (fun K hK=>?_) (AllReadyH.cons (o:=_) rfl (fun K hK=>?_) AllReadyH.nil)
        · skip
          go_simp
          (go_at_call 77;refine(qQ1 _ _ _ _ _).mono ?_;rintro e q1 ⟨rfl,hb1⟩;rw[HI.o];have HB:=qh (Bgo HB.o hb1);skip;clear hb1)
          refine hK.out _ _ ?_ (fun hHeld=>?_)
          · (try dsimp only)
            exact HS.o _ HB.o
          clear hK K
          (try simp only[Act.put,gA,gB,gC,sA,sB,sC])
          refine tkz 6 ?_
          refine tkz 7 ?_
          refine wpAnyH_ready (rs := [8,12]) qr (by simp) ?_
          refine AllReadyH.cons (o:=_) rfl (fun K hK=>?_) (AllReadyH.cons (o:=_) rfl (fun K hK=>?_) AllReadyH.nil)
          · skip
            go_simp
            (go_at_call 82;refine(qRV _ _ _ _ _ h32i HG.o _).mono ?_;rintro e q2 ⟨rfl,hb1⟩;have HB:=qh (Bgo HB.o hb1);skip;clear hb1)
            refine hK.out _ _ ?_ (fun hHeld=>?_)
            · (try dsimp only)
              exact HS.o _ HB.o
            clear hK K
            (try simp only[Act.put,gA,gB,gC,sA,sB,sC])
            refine tkz 9 ?_
            refine tkz 10 ?_
            refine tkz 11 ?_
            refine rdz 12 fun K hK=>?_
            · skip
              go_simp
              have HLE:=qh HB.o.size
              have HB:=qh (Bnew HB.o (.cells #[.int .i64 0,.int .i64 0,.int .i64 0] 90))
              have HN:=qh (Held.new q2 90 #[.int .i64 0,.int .i64 0,.int .i64 0])
              try simp only[World.heap_drew] at HLE HN
              generalize hq3:q2.alloc (.cells #[.int .i64 0,.int .i64 0,.int .i64 0] 90)=q3 at HB HN ⊢
              clear hq3
              refine hK.out _ _ ?_ (fun hHeld=>?_)
              · (try dsimp only)
                exact HS.o _ HB.o
              clear hK K
              (try simp only[Act.put,gA,gB,gC,sA,sB,sC])
              refine rdz 13 fun K hK=>?_
              obtain⟨z0,z1,z2⟩:=HN.o.three
              have f0:=HN.o.thawed 0
              have f1:=HN.o.thawed 1
              have f2:=HN.o.thawed 2
              go_simp
              have HN:=qh (HN.o.put 0 (.int .i64 k))
              have HN:=qh (HN.o.put 1 (.int .i64 (m:Int)))
              have HN:=qh (HN.o.put 2 (.int .i64 cl))
              have HB:=qh (Bput (p:=⟨_,2,none⟩) (Bput (p:=⟨_,1,none⟩) (Bput (p:=⟨_,0,none⟩) HB.o HLE.o (.int .i64 k)) HLE.o (.int .i64 (m:Int))) HLE.o (.int .i64 cl))
              clear z0 z1 z2 f0 f1 f2
              refine hK.out _ _ ?_ (fun hHeld=>?_)
              · (try dsimp only)
                exact HS.o _ HB.o
              clear hK K
              (try simp only[Act.put,gA,gB,gC,sA,sB,sC])
              refine tkz 14 ?_
              refine dnz ?_
              go_wp2_with fail
              go_meet
              case rel=>exact⟨_,rfl,rfl,HN.o,HB.o,HLE.o⟩
          · skip
            go_simp
            have HLE:=qh HB.o.size
            have HB:=qh (Bnew HB.o (.cells #[.int .i64 0,.int .i64 0,.int .i64 0] 90))
            have HN:=qh (Held.new q1 90 #[.int .i64 0,.int .i64 0,.int .i64 0])
            try simp only[World.heap_drew] at HLE HN
            generalize hq4:q1.alloc (.cells #[.int .i64 0,.int .i64 0,.int .i64 0] 90)=q4 at HB HN ⊢
            clear hq4
            refine hK.out _ _ ?_ (fun hHeld=>?_)
            · (try dsimp only)
              exact HS.o _ HB.o
            clear hK K
            (try simp only[Act.put,gA,gB,gC,sA,sB,sC])
            refine rdz 8 fun K hK=>?_
            · skip
              go_simp
              (go_at_call 82;refine(qRV _ _ _ _ _ h32i HG.o _).mono ?_;rintro e q5 ⟨rfl,hb1⟩;have HB:=qh (Bgo HB.o hb1);have HN:=qh (HN.o.keep hb1);clear hb1)
              refine hK.out _ _ ?_ (fun hHeld=>?_)
              · (try dsimp only)
                exact HS.o _ HB.o
              clear hK K
              (try simp only[Act.put,gA,gB,gC,sA,sB,sC])
              refine tkz 9 ?_
              refine tkz 10 ?_
              refine tkz 11 ?_
              refine rdz 13 fun K hK=>?_
              obtain⟨z0,z1,z2⟩:=HN.o.three
              have f0:=HN.o.thawed 0
              have f1:=HN.o.thawed 1
              have f2:=HN.o.thawed 2
              go_simp
              have HN:=qh (HN.o.put 0 (.int .i64 k))
              have HN:=qh (HN.o.put 1 (.int .i64 (m:Int)))
              have HN:=qh (HN.o.put 2 (.int .i64 cl))
              have HB:=qh (Bput (p:=⟨_,2,none⟩) (Bput (p:=⟨_,1,none⟩) (Bput (p:=⟨_,0,none⟩) HB.o HLE.o (.int .i64 k)) HLE.o (.int .i64 (m:Int))) HLE.o (.int .i64 cl))
              clear z0 z1 z2 f0 f1 f2
              refine hK.out _ _ ?_ (fun hHeld=>?_)
              · (try dsimp only)
                exact HS.o _ HB.o
              clear hK K
              (try simp only[Act.put,gA,gB,gC,sA,sB,sC])
              refine tkz 14 ?_
              refine dnz ?_
              go_wp2_with fail
              go_meet
              case rel=>exact⟨_,rfl,rfl,HN.o,HB.o,HLE.o⟩
        · skip
          go_simp
          have HLE:=qh HB.o.size
          have HB:=qh (Bnew HB.o (.cells #[.int .i64 0,.int .i64 0,.int .i64 0] 90))
          have HN:=qh (Held.new q0 90 #[.int .i64 0,.int .i64 0,.int .i64 0])
          try simp only[World.heap_drew] at HLE HN
          generalize hq6:q0.alloc (.cells #[.int .i64 0,.int .i64 0,.int .i64 0] 90)=q6 at HB HN ⊢
          clear hq6
          refine hK.out _ _ ?_ (fun hHeld=>?_)
          · (try dsimp only)
            exact HS.o _ HB.o
          clear hK K
          (try simp only[Act.put,gA,gB,gC,sA,sB,sC])
          refine rdz 5 fun K hK=>?_
          · skip
            go_simp
            (go_at_call 77;refine(qQ1 _ _ _ _ _).mono ?_;rintro e q7 ⟨rfl,hb1⟩;rw[HI.o];have HB:=qh (Bgo HB.o hb1);have HN:=qh (HN.o.keep hb1);clear hb1)
            refine hK.out _ _ ?_ (fun hHeld=>?_)
            · (try dsimp only)
              exact HS.o _ HB.o
            clear hK K
            (try simp only[Act.put,gA,gB,gC,sA,sB,sC])
            refine tkz 6 ?_
            refine tkz 7 ?_
            refine rdz 8 fun K hK=>?_
            · skip
              go_simp
              (go_at_call 82;refine(qRV _ _ _ _ _ h32i HG.o _).mono ?_;rintro e q8 ⟨rfl,hb1⟩;have HB:=qh (Bgo HB.o hb1);have HN:=qh (HN.o.keep hb1);clear hb1)
              refine hK.out _ _ ?_ (fun hHeld=>?_)
              · (try dsimp only)
                exact HS.o _ HB.o
              clear hK K
              (try simp only[Act.put,gA,gB,gC,sA,sB,sC])
              refine tkz 9 ?_
              refine tkz 10 ?_
              refine tkz 11 ?_
              refine rdz 13 fun K hK=>?_
              obtain⟨z0,z1,z2⟩:=HN.o.three
              have f0:=HN.o.thawed 0
              have f1:=HN.o.thawed 1
              have f2:=HN.o.thawed 2
              go_simp
              have HN:=qh (HN.o.put 0 (.int .i64 k))
              have HN:=qh (HN.o.put 1 (.int .i64 (m:Int)))
              have HN:=qh (HN.o.put 2 (.int .i64 cl))
              have HB:=qh (Bput (p:=⟨_,2,none⟩) (Bput (p:=⟨_,1,none⟩) (Bput (p:=⟨_,0,none⟩) HB.o HLE.o (.int .i64 k)) HLE.o (.int .i64 (m:Int))) HLE.o (.int .i64 cl))
              clear z0 z1 z2 f0 f1 f2
              refine hK.out _ _ ?_ (fun hHeld=>?_)
              · (try dsimp only)
                exact HS.o _ HB.o
              clear hK K
              (try simp only[Act.put,gA,gB,gC,sA,sB,sC])
              refine tkz 14 ?_
              refine dnz ?_
              go_wp2_with fail
              go_meet
              case rel=>exact⟨_,rfl,rfl,HN.o,HB.o,HLE.o⟩
      case rest =>
        obtain⟨g,rfl,rfl,h1,h2,h3⟩:=hcut
        obtain⟨d0,d1,d2⟩:=h1.three
        have HBX:=qh (Bgo HB.o h2)
        have HHX:=qh (HX.o.keep h2)
        have HNX:=qh h1
        have HOX:=qh (qEc HO.o h2)
        have HGE:=qh h3
        clear h1 h2 h3 HS c0 c1 c2 c3
        by_cases hk0:k=0
        · have HNA:=qh (HCN.o (HCF.o (.inl hk0)))
          subst hk0
          cases okb
          ·exact MHa
          ·exact MHa
        · have e:okb=true:=hok hk0
          subst e
          have q0:(k==0)=false:=by simpa using hk0
          have hmm:1<=m/\m<=1024:=qo
          have sw:IntKind.i64.wrap ((a:Int)+m)=((a+m:Nat):Int):=by rw[qIv qo qo];push_cast;rfl
          clear hkc hok
          go_wp2_with (first
            | (at_builtin
               refine wpList_append_own _ rfl _ _ 37 rfl (w.heap.size+1) 3 i0 (.int .i64 0) 1 8 Tryz.underlying37 hi0 hz0 hz1 hz2 rfl (by decide) _ _ _ rfl (HOX.o.alloc _) ⟨_,0,none⟩ 1 1 [.int .i64 (a:Int)] rfl rfl ?c1 ?c2 ?c3 ?c4 ?c5 ?_
               case c1=>intro j y hy;rcases j with _|j;(· simp at hy;subst hy;simp[Addr.add]);(· simp at hy)
               case c2=>simp[Value.oneCell']
               case c3=>unfold maxLen;omega
               case c4=>omega
               case c5=>have:=HBX.o.size;have:=HX.o.lt;simp;omega
               intro u1 w3 hown3 hgrow hat3
               have HO3:qH (w3.ownsRow (w.heap.size+1) 3 1 u1 (nl+1) (natVs (l ++ [a]))):=qh (by rw[qEk];exact hown3)
               have hnb:∀ j,u4.ownBlock=some j->(w.heap.size+1)<=j:=fun j hj=>(HOX.o.lt j hj).1
               have HB3:=qh ((Bnew HBX.o (.cells #[.int .i64 (a:Int)] 3)).grown hgrow (by have:=HBX.o.size;simp;omega) (fun j hj=>by have:=hnb j hj;omega))
               have HX3:=qh (qGN (HHX.o.alloc (.cells #[.int .i64 (a:Int)] 3)) hgrow (fun e=>by have:=hnb _ e;omega))
               have HN3:=qh (qGN (HNX.o.alloc (.cells #[.int .i64 (a:Int)] 3)) hgrow (fun e=>by have:=(HO.o.lt _ e).2;have:=HGE.o;omega))
               clear hown3 hgrow hat3 hnb d0 d1 d2
               obtain⟨d0,d1,d2⟩:=HN3.o.three)
            | fail)
          go_roundw
          case rel =>
            refine⟨a+m,l ++ [a],nl+1,by go_num,qo,?_,by have:=HSL.o.len;have:=HLN.o;omega,qh (by rw[List.length_append,HLN.o];rfl),HO3,HX3,HB3⟩
            rcases Nat.lt_or_ge H.p (a+m) with h|h
            · exact qh (.inr ⟨h,HCN.o (HCF.o (.inr h))⟩)
            · have h4:=HCA.o hk0 h
              exact qh (.inl ⟨h,by rw[<- h4.2];exact .snoc HSL.o h4.1⟩)
          case measure=>simp[intOf];omega
    · have t0:decide ((a:Int)<H.p)=false:=qf
      obtain⟨b,hb⟩:∃ b:Bool,((a:Int)==H.p)=b:=⟨_,rfl⟩
      have HSI:qH (StartsIs H w u4 b wr):=qh (by
        rcases HST.o with ⟨h1,h2⟩|⟨h1,h2⟩
        · have hap:a=H.p:=qo
          have hbt:b=true:=by rw[<- hb];simp;omega
          subst hbt
          refine⟨⟨fun _=>by rw[<- hap];exact h2.at_,fun _=>rfl⟩,fun _=>⟨l,by rw[<- hap];exact h2,by rw[HLN.o];exact qIX HO.o qo⟩⟩
        · have hbt:b=false:=by rw[<- hb];simp;omega
          subst hbt
          exact⟨⟨fun h=>(by cases h),fun h=>absurd h h2⟩,fun h=>(by cases h)⟩)
      clear HST
      go_wp2_with fail
      refine wp_region_held_drew (S:=(fun w'=>w'.cell? ⟨w.heap.size,0,none⟩=some (.int .i64 (H.t:Int))/\w'.cell? ⟨w.heap.size,1,none⟩=some (.int .i64 (H.p:Int))/\w'.cell? ⟨w.heap.size,2,none⟩=some (.int .i64 (H.s:Int))/\w'.cell? ⟨w.heap.size,3,none⟩=some (.slice (some ad) n c))) qr ?_ (fun hHeld=>?_)
      · (try dsimp only)
        first|exact⟨c0,c1,c2,c3⟩|exact hHeld
      refine tkz 0 ?_
      refine tkz 1 ?_
      refine tkz 2 ?_
      refine tkz 3 ?_
      refine tkz 4 ?_
      refine tkz 5 ?_
      refine tkz 6 ?_
      refine tkz 7 ?_
      refine dnz ?_
      go_wp2_with fail
      go_ret2
      exact⟨_,_,rfl,HSI.o,Bdrew HB.o⟩
end
section
def LRow (w:World) (g:Nat) (l:List Nat):Prop:=g<w.heap.size/\∀ (i a:Nat),l[i]?=some a->w.cell? ⟨g,i,none⟩=some (.int .i64 (a:Int))
theorem LRow.keep {w w':World}{g:Nat}{l:List Nat}(h:LRow w g l)(hb:Below w.heap.size w w'):LRow w' g l :=
 ⟨Nat.lt_of_lt_of_le h.1 hb.size,fun i a hi=>(hb.cell (p:=⟨g,i,none⟩) h.1).trans (h.2 i a hi)⟩
theorem LRow.drew {w:World}{g:Nat}{l:List Nat}(h:LRow w g l):LRow w.drew g l:=h
def StartsYes (H:AuH) (w:World) (e:Ending) (w':World):Prop:=∃ g cap l nl,e = .returned (.tuple #[.slice (some ⟨g,0,none⟩) nl cap,.bool true])/\H.Starts l H.p/\l.length=nl/\0<nl/\nl<=cap/\cap<=9223372036854775807/\LRow w' g l/\Below w.heap.size w w'
theorem qXz {w:World}{base:Nat}{e:TypeId}{size n c:Nat}{A:Option Addr}{xs:List Value}(h:w.ownsRow base e size (.slice A n c) n xs):n<=c/\c<=9223372036854775807:=by
 exact Mxe
theorem qDG {H:AuH}{n c:Nat}(HV:HeapV H n c)(hA:H.At H.p)(ad:Addr)(w:World)(hv:IsVals w ad n H.V):Calls Tryz.prog 91 #[hpV H ad n c] w (StartsYes H w):=by
 refine(qYO HV ad w hv).mono ?_
 rintro e w1 ⟨u,b,rfl,⟨h1,h2⟩,hb⟩
 have hbt:=h1.2 hA
 subst hbt
 obtain⟨l,hl,hown⟩:=h2 rfl
 have hpos:0<l.length:=by
  rcases hl.head with ⟨_,h⟩|h
  ·have:=HV.nums.2.2.1;omega
  ·rcases Nat.lt_or_ge 0 l.length with h3|h3
   ·exact h3
   ·rw[List.getElem?_eq_none h3] at h;cases h
 obtain⟨g,cap,rfl,hg1,hg2⟩:=hown.form hpos
 have hc:=qXz hown
 exact⟨g,cap,l,l.length,rfl,hl,rfl,hpos,hc.1,hc.2,⟨hg2,fun i a hi=>qUf hown rfl hi⟩,hb⟩
def StartsNo (w:World) (e:Ending) (w':World):Prop:=∃ u,e = .returned (.tuple #[u,.bool false])/\Below w.heap.size w w'
theorem qTv {H:AuH}{n c:Nat}(HV:HeapV H n c)(hA:¬ H.At H.p)(ad:Addr)(w:World)(hv:IsVals w ad n H.V):Calls Tryz.prog 91 #[hpV H ad n c] w (StartsNo w):=by
 refine(qYO HV ad w hv).mono ?_
 rintro e w1 ⟨u,b,rfl,⟨h1,h2⟩,hb⟩
 cases b
 ·exact⟨u,rfl,hb⟩
 ·exact absurd (h1.1 rfl) hA

theorem qIG {H:AuH}{n c:Nat}(HV:HeapV H n c)(ad:Addr)(b:Bool)(hb:b=true↔H.Tiled)(w:World)(hv:IsVals w ad n H.V) :
  Calls Tryz.prog 57 #[hpV H ad n c] w fun e w'=>e = .returned (.bool b)/\Below w.heap.size w w':=by
 have HVL:=qh hv
 have HX0:=qh (Held.new w 88 #[.int .i64 (H.t:Int),.int .i64 (H.p:Int),.int .i64 (H.s:Int),.slice (some ad) n c])
 obtain⟨c0,c1,c2,c3⟩:=HX0.o.four
 have HBW:=qh (Bnew (B0 w) (.cells #[.int .i64 (H.t:Int),.int .i64 (H.p:Int),.int .i64 (H.s:Int),.slice (some ad) n c] 88))
 have hn:=HV.nums
 have hcx:c<=9223372036854775807:=hn.2.2.2.2.2.2.2.2
 have hni:n<=6238:=hn.2.2.2.2.2.2.1
 have hnc:=HV.cap
 have hp1:=hn.2.2.2.1
 have HBC:=qh hb
 clear hv hn hb
 unfold hpV
 by_cases hA:H.At H.p
 ·go_enter Tryz.func57,Tryz.ntmps57
  go_wp2_with (first
   | (refine RYP ?_;clear c0 c1 c2 c3;intro w2 gl cl l nl hpos hcl0 hcl HSL HLN HLR HB2 HX2)
   | fail)
  have hnl:nl<=1024:=by have:=HSL.o.len;have:=HLN.o;omega
  go_loopw [5,6] (fun u5 u6 wr=>∃ (n1 p:Nat),n1<=nl/\p<=H.p/\u5 = .int .i64 (n1:Int)/\u6 = .int .i64 (p:Int)/\qH (H.Front l n1 p)/\qH (∀ q,q<p->¬ H.At q->H.cel q 0=0)/\qH (Held wr w.heap.size 88 #[.int .i64 (H.t:Int),.int .i64 (H.p:Int),.int .i64 (H.s:Int),.slice (some ad) n c])/\qH (LRow wr gl l)/\qH (Below w.heap.size w wr)) (fun _ u6 _=>H.p-(intOf u6).toNat)
  case atStart=>exact⟨0,0,qo,qo,rfl,rfl,qh (AuH.Front.zero HSL.o),qh (fun q h=>by omega),HX2,HLR,HB2⟩
  case round =>
   obtain⟨n1,p,hn1,hp,rfl,rfl,HF,HJ,HX,HLW,HB⟩:=hrel
   obtain⟨c0,c1,c2,c3⟩:=HX.o.four
   by_cases hlt:p<H.p
   ·refine RKO ?_;intro t0 HVR
    by_cases hln:n1<nl
    ·obtain⟨a,hi⟩:∃ a,l[n1]?=some a:=⟨_,List.getElem?_eq_getElem (by have:=HLN.o;omega)⟩
     have l0:=HLW.o.2 n1 a hi
     have t1:decide ((n1:Int)<nl)=true:=qt
     by_cases hap:a=p
     ·subst hap
      have HFN:=qh (AuH.Front.yes HSL.o HF.o hi)
      have q0:((a:Int)==(a:Int))=true:=by simp
      clear hi
      go_wp2_with fail
      go_roundw
      case rel=>exact⟨n1+1,a+1,qo,qo,by go_num,by go_num,qh HFN.o.2,qh (fun q hq hn=>by rcases Nat.lt_or_ge q a with h|h;(exact HJ.o q h hn);(have:q=a:=by omega);subst this;exact absurd HFN.o.1 hn),HX,HLW,HB⟩
      case measure=>simp[intOf];omega
     ·have HFN:=qh (AuH.Front.no HSL.o HF.o hlt (by rw[hi];simpa using hap))
      have q0:((a:Int)==(p:Int))=false:=qs
      clear hi
      exact MF3
    ·have t1:decide ((n1:Int)<nl)=false:=qf
     have HFN:=qh (AuH.Front.no HSL.o HF.o hlt (by rw[List.getElem?_eq_none (by have:=HLN.o;omega)];simp))
     exact MF3
   ·have t0:decide ((p:Int)<H.p)=false:=qf
    have HBT:qH (b=true):=qh (HBC.o.2 ((AuH.tiled_iff hA).2 (fun q hq=>HJ.o q qo)))
    exact MnL
 ·have HBF:qH (b=false):=qh (qE5 HBC.o (fun h=>hA h.1))
  go_enter Tryz.func57,Tryz.ntmps57
  go_wp2_with (first
   | (go_at_call 91;refine(qTv HV hA ad _ (HVL.o.below HBW.o)).mono ?_;rintro e w2 ⟨u,rfl,hb2⟩;have HB2:=qh (Bgo HBW.o hb2);clear hb2)
   | fail)
  go_ret
  exact⟨by rw[HBF.o];rfl,HB2.o⟩
end
end Go.Proofs.YtgifnhcknodekaaGreat
