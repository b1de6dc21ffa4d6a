/-
  The document's rules 2, 3, 4. Written by doc12/gen_rules.py.
-/
import Derived.Test.YtgifnhcknodekaaGreatC09
import Derived.Test.YtgifnhcknodekaaGreatC06
namespace Go.Proofs.YtgifnhcknodekaaGreat
theorem RaV {P Q:Prop}(kq:Q)(h:HQ Q->P:=by
 intro kq
 refine wp_region_held_drew (S:=(fun w'=>w'.cell? ⟨w.heap.size,0,none⟩=some (.int .i64 (H.t:Int))/\w'.cell? ⟨w.heap.size,1,none⟩=some (.int .i64 (H.p:Int))/\w'.cell? ⟨w.heap.size,2,none⟩=some (.int .i64 (H.s:Int))/\w'.cell? ⟨w.heap.size,3,none⟩=some (.slice (some ad) n c)/\w'.cell? (ad.add i)=some (.int .u32 (v:Int)))) qr ?_ (fun hHeld=>?_)
 ·exact MUh
 refine tkz 0 ?_
 refine tkz 1 ?_
 refine tkz 2 ?_
 refine tkz 3 ?_
 refine tkz 4 ?_
 revert hHeld
 exact kq.o):P:=h ⟨kq⟩
theorem RCk {P Q:Prop}(kq:Q)(h:HQ Q->P:=by
 intro kq
 refine rdz 5 fun K hK=>?_
 go_simp
 go_at_call 77
 refine(qQ1 _ _ _ _ _).mono ?_
 rintro e w5 ⟨rfl,hb5⟩
 rw[HI.o]
 have HB5:=qh (Bgo (Bdrew HB.o) hb5)
 have HB5r:=qh (Bgo (Bdrew (B0 wr)) hb5)
 have HX5:=qh (HX.o.drew.keep hb5)
 have HL5:=qh (HLW.o.drew.keep hb5)
 clear hb5
 refine qk ?_ (fun hHeld=>?_)
 ·exact M5w
 clear hK K
 refine tkz 6 ?_
 refine tkz 7 ?_
 refine tkz 8 ?_
 refine dnz ?_
 revert w5 HB5 HB5r HX5 HL5 hHeld
 exact kq.o):P:=h ⟨kq⟩
theorem RKO {P Q:Prop}(kq:Q)(h:HQ Q->P:=by
 intro kq
 have t0:decide ((p:Int)<H.p)=true:=qt
 have HVR:=qh (HVL.o.below HB.o)
 revert t0 HVR
 exact kq.o):P:=h ⟨kq⟩
theorem RYP {P Q:Prop}(kq:Q)(h:HQ Q->P:=by
 intro kq
 go_at_call 91
 refine(qDG HV hA ad _ (HVL.o.below HBW.o)).mono ?_
 rintro e w2 ⟨gl,cl,l,nl,rfl,hl,hln,hpos,hcl0,hcl,hlr,hb2⟩
 have HSL:=qh hl
 have HLN:=qh hln
 have HLR:=qh hlr
 have HB2:=qh (Bgo HBW.o hb2)
 have HX2:=qh (HX0.o.keep hb2)
 clear hl hln hlr hb2
 revert w2 gl cl l nl hpos hcl0 hcl HSL HLN HLR HB2 HX2
 exact kq.o):P:=h ⟨kq⟩
theorem MF3 {P:Prop}(h:P:=by
 obtain⟨i,hii⟩:∃ i,30+4*H.t+6*p+0=i:=⟨_,rfl⟩
 have hini:i<n:=by have:=HV.len;omega
 have HI:qH (pageI H.t H.p H.s p 0=(i:Int)):=qh (by have h:=HV.page (b:=0) hlt qo;rw[hii] at h;exact h)
 have h32i:=HV.cel_lt hlt (show 0<6 by omega)
 have hceli:H.cel p 0=H.V i:=by unfold AuH.cel;rw[hii]
 obtain⟨v,hvvv⟩:∃ v,H.cel p 0=v:=⟨_,rfl⟩
 have HCv:=qh hvvv
 rw[hvvv] at h32i
 have hci:=(HVR.o).2 i hini
 rw[<- hceli,hvvv] at hci
 have hbli:(ad.add i).block<wr.heap.size:=by rw[qXL];exact(HVR.o).1
 have HS:qH (∀ w',Below wr.heap.size wr w'->(fun w'=>w'.cell? ⟨w.heap.size,0,none⟩=some (.int .i64 (H.t:Int))/\w'.cell? ⟨w.heap.size,1,none⟩=some (.int .i64 (H.p:Int))/\w'.cell? ⟨w.heap.size,2,none⟩=some (.int .i64 (H.s:Int))/\w'.cell? ⟨w.heap.size,3,none⟩=some (.slice (some ad) n c)/\w'.cell? (ad.add i)=some (.int .u32 (v:Int))) w'):=qh (fun w' hb=>by have hh:=HX.o.keep hb;exact⟨hh.four.1,hh.four.2.1,hh.four.2.2.1,hh.four.2.2.2,(hb.cell hbli).trans hci⟩)
 clear hci hbli hceli hvvv hii
 by_cases hv0:v=0
 ·have q2:((v:Int) != 0)=false:=qs
  have HV0:=qh hv0
  clear hv0
  go_wp2_with fail
  refine RaV ?_;intro hHeld
  refine RCk ?_;intro w5 HB5 HB5r HX5 HL5 hHeld
  go_wp2_with fail
  go_roundw
  case rel=>exact⟨n1,p+1,qo,qo,rfl,by go_num,qh HFN.o.2,qh (fun q hq hn=>by rcases Nat.lt_or_ge q p with h|h;(exact HJ.o q h hn);(have:q=p:=by omega);subst this;rw[HCv.o];exact HV0.o),HX5,HL5,HB5⟩
  case measure=>simp[intOf];omega
 ·have q2:((v:Int) != 0)=true:=qs
  have HBF:qH (b=false):=qh (qE5 HBC.o (fun h=>hv0 (HCv.o.symm.trans (AuH.tiled_not h hlt HFN.o.1))))
  go_wp2_with fail
  refine RaV ?_;intro hHeld
  refine RCk ?_;intro w5 HB5 HB5r HX5 HL5 hHeld
  go_wp2_with fail
  go_ret
  exact⟨by rw[HBF.o];rfl,HB5.o⟩):P:=h
theorem Mxe {P:Prop}(h:P:=by
 rcases h.2 with ⟨h1,h2⟩|⟨g,cap,cur,h1,hb,hg,hnc,hcm,hr⟩
 ·injection h1 with _ h1 h3;omega
 ·injection h1 with _ _ h3;unfold maxLen at hcm;omega):P:=h
theorem MUh {P:Prop}(h:P:=by
 (try dsimp only)
 exact M5w):P:=h
theorem M5w {P:Prop}(h:P:=by first|exact HS.o _ (Bdrew (B0 _))|exact HS.o _ HB5r.o|exact hHeld):P:=h
theorem MnL {P:Prop}(h:P:=by
 go_wp2_with fail
 go_ret
 exact⟨by rw[HBT.o];rfl,HB.o⟩):P:=h
end Go.Proofs.YtgifnhcknodekaaGreat
set_option linter.unusedVariables false
set_option linter.unusedSimpArgs false
set_option maxRecDepth 100000
set_option maxHeartbeats 25600000
namespace Go.Proofs.YtgifnhcknodekaaGreat
open Go.ChangeShapes Go.WideShapes Go.ChangeAt Go.RowKit Go.Shelf
section
def LRow (w:World) (g:Nat) (l:List Nat):Prop:=g<w.heap.size/\∀ (i a:Nat),l[i]?=some a->w.cell? ⟨g,i,none⟩=some (.int .i64 (a:Int))
theorem LRow.keep {w w':World}{g:Nat}{l:List Nat}(h:LRow w g l)(hb:Below w.heap.size w w'):LRow w' g l :=
 ⟨Nat.lt_of_lt_of_le h.1 hb.size,fun i a hi=>(hb.cell (p:=⟨g,i,none⟩) h.1).trans (h.2 i a hi)⟩
theorem LRow.drew {w:World}{g:Nat}{l:List Nat}(h:LRow w g l):LRow w.drew g l:=h
def StartsYes (H:AuH) (w:World) (e:Ending) (w':World):Prop:=∃ g cap l nl,e = .returned (.tuple #[.slice (some ⟨g,0,none⟩) nl cap,.bool true])/\H.Starts l H.p/\l.length=nl/\0<nl/\nl<=cap/\cap<=9223372036854775807/\LRow w' g l/\Below w.heap.size w w'
theorem qXz {w:World}{base:Nat}{e:TypeId}{size n c:Nat}{A:Option Addr}{xs:List Value}(h:w.ownsRow base e size (.slice A n c) n xs):n<=c/\c<=9223372036854775807:=by
 exact Mxe
theorem qDG {H:AuH}{n c:Nat}(HV:HeapV H n c)(hA:H.At H.p)(ad:Addr)(w:World)(hv:IsVals w ad n H.V):Calls Tryz.prog 91 #[hpV H ad n c] w (StartsYes H w):=by
 refine(qYO HV ad w hv).mono ?_
 rintro e w1 ⟨u,b,rfl,⟨h1,h2⟩,hb⟩
 have hbt:=h1.2 hA
 subst hbt
 obtain⟨l,hl,hown⟩:=h2 rfl
 have hpos:0<l.length:=by
  rcases hl.head with ⟨_,h⟩|h
  ·have:=HV.nums.2.2.1;omega
  ·rcases Nat.lt_or_ge 0 l.length with h3|h3
   ·exact h3
   ·rw[List.getElem?_eq_none h3] at h;cases h
 obtain⟨g,cap,rfl,hg1,hg2⟩:=hown.form hpos
 have hc:=qXz hown
 exact⟨g,cap,l,l.length,rfl,hl,rfl,hpos,hc.1,hc.2,⟨hg2,fun i a hi=>qUf hown rfl hi⟩,hb⟩
def StartsNo (w:World) (e:Ending) (w':World):Prop:=∃ u,e = .returned (.tuple #[u,.bool false])/\Below w.heap.size w w'
theorem qTv {H:AuH}{n c:Nat}(HV:HeapV H n c)(hA:¬ H.At H.p)(ad:Addr)(w:World)(hv:IsVals w ad n H.V):Calls Tryz.prog 91 #[hpV H ad n c] w (StartsNo w):=by
 refine(qYO HV ad w hv).mono ?_
 rintro e w1 ⟨u,b,rfl,⟨h1,h2⟩,hb⟩
 cases b
 ·exact⟨u,rfl,hb⟩
 ·exact absurd (h1.1 rfl) hA

theorem qIG {H:AuH}{n c:Nat}(HV:HeapV H n c)(ad:Addr)(b:Bool)(hb:b=true↔H.Tiled)(w:World)(hv:IsVals w ad n H.V) :
  Calls Tryz.prog 57 #[hpV H ad n c] w fun e w'=>e = .returned (.bool b)/\Below w.heap.size w w':=by
 have HVL:=qh hv
 have HX0:=qh (Held.new w 88 #[.int .i64 (H.t:Int),.int .i64 (H.p:Int),.int .i64 (H.s:Int),.slice (some ad) n c])
 obtain⟨c0,c1,c2,c3⟩:=HX0.o.four
 have HBW:=qh (Bnew (B0 w) (.cells #[.int .i64 (H.t:Int),.int .i64 (H.p:Int),.int .i64 (H.s:Int),.slice (some ad) n c] 88))
 have hn:=HV.nums
 have hcx:c<=9223372036854775807:=hn.2.2.2.2.2.2.2.2
 have hni:n<=6238:=hn.2.2.2.2.2.2.1
 have hnc:=HV.cap
 have hp1:=hn.2.2.2.1
 have HBC:=qh hb
 clear hv hn hb
 unfold hpV
 by_cases hA:H.At H.p
 ·go_enter Tryz.func57,Tryz.ntmps57
  go_wp2_with (first
   | (refine RYP ?_;clear c0 c1 c2 c3;intro w2 gl cl l nl hpos hcl0 hcl HSL HLN HLR HB2 HX2)
   | fail)
  have hnl:nl<=1024:=by have:=HSL.o.len;have:=HLN.o;omega
  go_loopw [5,6] (fun u5 u6 wr=>∃ (n1 p:Nat),n1<=nl/\p<=H.p/\u5 = .int .i64 (n1:Int)/\u6 = .int .i64 (p:Int)/\qH (H.Front l n1 p)/\qH (∀ q,q<p->¬ H.At q->H.cel q 0=0)/\qH (Held wr w.heap.size 88 #[.int .i64 (H.t:Int),.int .i64 (H.p:Int),.int .i64 (H.s:Int),.slice (some ad) n c])/\qH (LRow wr gl l)/\qH (Below w.heap.size w wr)) (fun _ u6 _=>H.p-(intOf u6).toNat)
  case atStart=>exact⟨0,0,qo,qo,rfl,rfl,qh (AuH.Front.zero HSL.o),qh (fun q h=>by omega),HX2,HLR,HB2⟩
  case round =>
   obtain⟨n1,p,hn1,hp,rfl,rfl,HF,HJ,HX,HLW,HB⟩:=hrel
   obtain⟨c0,c1,c2,c3⟩:=HX.o.four
   by_cases hlt:p<H.p
   ·refine RKO ?_;intro t0 HVR
    by_cases hln:n1<nl
    ·obtain⟨a,hi⟩:∃ a,l[n1]?=some a:=⟨_,List.getElem?_eq_getElem (by have:=HLN.o;omega)⟩
     have l0:=HLW.o.2 n1 a hi
     have t1:decide ((n1:Int)<nl)=true:=qt
     by_cases hap:a=p
     ·subst hap
      have HFN:=qh (AuH.Front.yes HSL.o HF.o hi)
      have q0:((a:Int)==(a:Int))=true:=by simp
      clear hi
      go_wp2_with fail
      go_roundw
      case rel=>exact⟨n1+1,a+1,qo,qo,by go_num,by go_num,qh HFN.o.2,qh (fun q hq hn=>by rcases Nat.lt_or_ge q a with h|h;(exact HJ.o q h hn);(have:q=a:=by omega);subst this;exact absurd HFN.o.1 hn),HX,HLW,HB⟩
      case measure=>simp[intOf];omega
     ·have HFN:=qh (AuH.Front.no HSL.o HF.o hlt (by rw[hi];simpa using hap))
      have q0:((a:Int)==(p:Int))=false:=qs
      clear hi
      exact MF3
    ·have t1:decide ((n1:Int)<nl)=false:=qf
     have HFN:=qh (AuH.Front.no HSL.o HF.o hlt (by rw[List.getElem?_eq_none (by have:=HLN.o;omega)];simp))
     exact MF3
   ·have t0:decide ((p:Int)<H.p)=false:=qf
    have HBT:qH (b=true):=qh (HBC.o.2 ((AuH.tiled_iff hA).2 (fun q hq=>HJ.o q qo)))
    exact MnL
 ·have HBF:qH (b=false):=qh (qE5 HBC.o (fun h=>hA h.1))
  go_enter Tryz.func57,Tryz.ntmps57
  go_wp2_with (first
   | (go_at_call 91;refine(qTv HV hA ad _ (HVL.o.below HBW.o)).mono ?_;rintro e w2 ⟨u,rfl,hb2⟩;have HB2:=qh (Bgo HBW.o hb2);clear hb2)
   | fail)
  go_ret
  exact⟨by rw[HBF.o];rfl,HB2.o⟩
end
end Go.Proofs.YtgifnhcknodekaaGreat
