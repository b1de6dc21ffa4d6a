/-
  What the document's Find does. Written by bin/gen_rfind.py.
-/
import Derived.Test.YtgifnhcknodekaaGreatA13
import Derived.Test.YtgifnhcknodekaaGreatA03
import Derived.Deep.RegionHeld3
import Derived.Test.YtgifnhcknodekaaGreatA01
import Derived.Test.YtgifnhcknodekaaGreatA06
import Derived.Test.YtgifnhcknodekaaGreatA12
import Derived.Test.YtgifnhcknodekaaGreatA08
namespace Go.Proofs.YtgifnhcknodekaaGreat
theorem Rh2 {P Q:Prop}(kq:Q)(h:HQ Q->P:=by
 intro kq
 refine(qHu hn ((l:Int)-1) 1 ll cc okk HI.o W3.o.at_).mono ?_
 rintro e w5 ⟨rfl,a1,a2⟩
 have W5:=qh (W3.o.call a1 a2)
 clear a1 a2
 have Y5:=qh (Held.new w5 90 #[.int .i64 1,.int .i64 ll,.int .i64 cc])
 have W6:=qh (W5.o.alloc (.cells #[.int .i64 1,.int .i64 ll,.int .i64 cc] 90))
 revert w5 W5 Y5 W6
 exact kq.o):P:=h ⟨kq⟩
theorem Mwn {P:Prop}(h:P:=by
 clear HFF HLK
 go_wp2_with fail
 refine(qT2 nn qo qo _).mono ?_
 rintro e w9 ⟨rfl,rfl⟩
 rw[HO.o]
 go_wp2_with fail
 clear x0 x1 x2
 go_loopw [8,11] (fun _ u11 wr=>∃ (k:Nat) (sx:Vst),own<k/\k<=11/\u11 = .int .i64 (k:Int)/\qH (findF n K t q s nn own st=nextF n K q (11-k) k sx)/\qH (WL (rOb base b n all K) w0 A G w [⟨w.heap.size,23,#[.int .i64 t,.int .i64 q,.int .i64 s]⟩] sx wr)) (fun _ u11 _=>11-(intOf u11).toNat)
 case atStart=>exact⟨own+1,_,qo,qo,by go_num,HNX,W3⟩
 case round =>
  clear W3 HNX
  obtain⟨k,sx,hko,hk11,rfl,HFF,W1⟩:=hrel
  obtain⟨x0,x1,x2⟩:=W1.o.h0.three
  by_cases hk:k<11
  ·refine RAP ?_;intro t2 hd hhd HHD HB
   obtain⟨l1,hl1⟩:∃ l,getV n K sx (hd:Int)=l:=⟨_,rfl⟩
   have hl32:l1<2^32:=by rw[<- hl1];exact qXU W1.o _
   have HL1:=qh hl1
   obtain⟨j,hj⟩:∃ j,11-k=j+1:=⟨10-k,qo⟩
   have HJ:qH (11-(k+1)=j):=qh qo
   rw[hj] at HFF
   clear hl1 hhd hj
   go_wp2_with fail
   refine(qSW (k:Int) _).mono ?_
   rintro e w9 ⟨rfl,rfl⟩
   rw[HB.o]
   go_wp2_with fail
   refine(rGetA hn _ W1.o.at_).mono ?_
   rintro e w2 ⟨rfl,a1,a2⟩
   rw[HL1.o]
   have W2:=qh (W1.o.call a1 a2)
   clear a1 a2 W1 x0 x1 x2
   obtain⟨x0,x1,x2⟩:=W2.o.h0.three
   by_cases hp1:1<=l1
   ·have t3:decide ((1:Int)<=(l1:Int))=true:=qt
    by_cases hp2:l1<=Q
    ·have t4:decide ((l1:Int)<=q)=true:=decide_eq_true ((hqL l1 hp1).2 hp2)
     have HFIN:qH (findF n K t q s nn own st=(some (l1-1),getS n K sx (hd:Int))):=qh (by rw[HFF.o,qRa n K q (by rw[HHD.o,HL1.o];exact⟨hp1,(hqL l1 hp1).2 hp2⟩),HHD.o,HL1.o])
     have HPL:qH (Value.int .i64 ((l1:Int)-1)=Value.int .i64 ((l1-1:Nat):Int)):=qh (by congr 1;omega)
     clear HFF HL1
     go_wp2_with fail
     go_ret2
     exact⟨by rw[HFIN.o];show Ending.returned (.tuple #[.int .i64 ((l1:Int)-1),.bool true])=_;rw[HPL.o];rfl,by rw[HFIN.o];exact W2.o.fin⟩
    ·have t4:decide ((l1:Int)<=q)=false:=decide_eq_false (fun h3=>hp2 ((hqL l1 hp1).1 h3))
     have HN2:qH (findF n K t q s nn own st=nextF n K q (11-(k+1)) (k+1) (getS n K sx (hd:Int))):=qh (by
      rw[HFF.o,qXY n K q (by rw[HHD.o,HL1.o];exact fun h4=>hp2 ((hqL l1 h4.1).1 h4.2)),HHD.o,HJ.o])
     exact MMp
   ·have t3:decide ((1:Int)<=(l1:Int))=false:=qf
    have HN2:qH (findF n K t q s nn own st=nextF n K q (11-(k+1)) (k+1) (getS n K sx (hd:Int))):=qh (by
     rw[HFF.o,qXY n K q (by rw[HHD.o,HL1.o];exact fun h4=>hp1 h4.1),HHD.o,HJ.o])
    exact MMp
  ·have t2:decide ((k:Int)<11)=false:=qf
   have HFIN:qH (findF n K t q s nn own st=(none,sx)):=qh (by
    rw[HFF.o,show 11-k=0 by omega]
    rfl)
   go_wp2_with fail
   go_ret2
   exact⟨by rw[HFIN.o];rfl,by rw[HFIN.o];exact W1.o.fin⟩):P:=h
theorem MW1 {P:Prop}(h:P:=by
 clear x0 x1 x2
 obtain⟨x0,x1,x2⟩:=W6.o.h0.three
 obtain⟨y0,y1,y2⟩:=Y5.o.three
 clear W5
 obtain⟨v,hv⟩:∃ v,getV n K (getS n K sy (pageI t q s ((l:Int)-1) 0)) (pageI t q s ((l:Int)-1) 2)=v:=⟨_,rfl⟩
 have hv32:v<2^32:=by rw[<- hv];exact qXU W6.o _
 have HV:=qh hv
 have HLK2:qH (lookF n K t q s nn Q l0 s0=lookF n K t q s nn (Q-(m+1)) v (getS n K (getS n K sy (pageI t q s ((l:Int)-1) 0)) (pageI t q s ((l:Int)-1) 2))):=qh (by rw[HLK.o,qE7 n K t q s nn HPP.o HFT.o,HV.o,HJ.o])
 clear hv HLK HFT HI
 go_wp2_with fail
 refine(qFh t q s ((l:Int)-1) _).mono ?_;rintro e w7 ⟨rfl,hb⟩;have W7:=qh (W6.o.keep hb);clear hb W6
 go_wp2_with fail
 refine(rGetA hn _ W7.o.at_).mono ?_;rintro e w8 ⟨rfl,a1,a2⟩;have W8:=qh (W7.o.call a1 a2);clear a1 a2 W7;rw[HV.o]
 clear x0 x1 x2 y0 y1 y2
 go_wp2_with fail
 go_roundw
 case rel=>exact⟨m+1,v,_,qo,by go_num,by go_num,hv32,HLK2,W8⟩
 case measure=>simp[intOf];omega):P:=h
theorem MMp {P:Prop}(h:P:=by
 clear HFF HL1
 go_wp2_with fail
 go_roundw
 case rel=>exact⟨k+1,_,qo,qo,by go_num,HN2,W2⟩
 case measure=>simp[intOf];omega):P:=h
theorem Mch {P:Prop}(h:P:=by
 go_enter Tryz.func17,Tryz.ntmps17
 go_wp2
 go_ret
 exact⟨rfl,HB.o⟩):P:=h
theorem MJH {P:Prop}(h:P:=by
 clear hb HC HX x0 x1 x2 y0 y1 y2 y3 v0 v1 v2
 obtain⟨y0,y1,y2⟩:=HI.o.three
 go_wp2
 go_ret
 exact⟨rfl,HB.o⟩):P:=h
theorem MjC {P:Prop}(h:P:=by first|exact⟨y0,y1,y2,y3⟩|exact HS.o _ (Bnew (Bdrew HB.o) _)|exact HS.o _ HBq.o|exact hHeld):P:=h
end Go.Proofs.YtgifnhcknodekaaGreat
set_option linter.unusedVariables false
set_option linter.unusedSimpArgs false
set_option maxRecDepth 100000
set_option maxHeartbeats 25600000
namespace Go.Proofs.YtgifnhcknodekaaGreat
open Go.ChangeShapes Go.WideShapes Go.ChangeAt Go.RowKit Go.Maps
section
section
variable {base b n : Nat} {wh all : Bool} {K : Nat -> Option Nat} {st : Vst} {w w0 : World} {A G : Nat -> Prop} {t q s : Int}
theorem qHw (nn:Int)(h1:nn<1)(h:(rOb base b n all K).At w0 A G st w) :
  Calls Tryz.prog 75 #[.pointer (some ⟨b,0,none⟩),.agg #[.int .i64 t,.int .i64 q,.int .i64 s],.int .i64 nn] w fun e w'=>e = .returned (.tuple #[.int .i64 (foundI (((none:Option Nat),st)).1),.bool (((none:Option Nat),st)).1.isSome])/\(rOb base b n all K).At w0 A G (((none:Option Nat),st)).2 w'/\Stay G w w':=by
 have W0:=qh ((WL.start h).new 23 #[.int .i64 t,.int .i64 q,.int .i64 s])
 obtain⟨x0,x1,x2⟩:=W0.o.h0.three
 have t0:decide (nn<(1:Int))=true:=decide_eq_true h1
 clear h
 go_enter Tryz.func75,Tryz.ntmps75
 go_wp2
 go_ret2
 exact⟨rfl,W0.o.fin⟩
theorem qFc (nn:Int)(h1:1<=nn)(h2:q<nn)(h:(rOb base b n all K).At w0 A G st w) :
  Calls Tryz.prog 75 #[.pointer (some ⟨b,0,none⟩),.agg #[.int .i64 t,.int .i64 q,.int .i64 s],.int .i64 nn] w fun e w'=>e = .returned (.tuple #[.int .i64 (foundI (((none:Option Nat),st)).1),.bool (((none:Option Nat),st)).1.isSome])/\(rOb base b n all K).At w0 A G (((none:Option Nat),st)).2 w'/\Stay G w w':=by
 have W0:=qh ((WL.start h).new 23 #[.int .i64 t,.int .i64 q,.int .i64 s])
 obtain⟨x0,x1,x2⟩:=W0.o.h0.three
 have t0:decide (nn<(1:Int))=false:=qf
 have t1:decide (q<nn)=true:=decide_eq_true h2
 clear h
 go_enter Tryz.func75,Tryz.ntmps75
 go_wp2
 go_ret2
 exact⟨rfl,W0.o.fin⟩

theorem qSo (hn:n<2^40)(hq:q<=1024)(nn:Int)(own:Nat)(ho:ofI nn=(own:Int))(ho10:own<=10)(h1:1<=nn)(h2:nn<=q)(h:(rOb base b n all K).At w0 A G st w) :
  Calls Tryz.prog 75 #[.pointer (some ⟨b,0,none⟩),.agg #[.int .i64 t,.int .i64 q,.int .i64 s],.int .i64 nn] w fun e w'=>e = .returned (.tuple #[.int .i64 (foundI (findF n K t q s nn own st).1),.bool (findF n K t q s nn own st).1.isSome])/\(rOb base b n all K).At w0 A G (findF n K t q s nn own st).2 w'/\Stay G w w':=by
 have W0:=qh ((WL.start h).new 23 #[.int .i64 t,.int .i64 q,.int .i64 s])
 obtain⟨x0,x1,x2⟩:=W0.o.h0.three
 have t0:decide (nn<(1:Int))=false:=qf
 have t1:decide (q<nn)=false:=qf
 have HO:=qh ho
 obtain⟨Q,hQ⟩:∃ Q,q.toNat=Q:=⟨_,rfl⟩
 have hQ1:1<=Q/\Q<=1024:=qo
 have hqQ:∀ l:Nat,((l:Int)<q↔l<Q):=fun l=>by omega
 have hqL:∀ l:Nat,1<=l->((l:Int)<=q↔l<=Q):=fun l h1=>by omega
 obtain⟨hd0,hhd⟩:∃ hd:Nat,2+own=hd:=⟨_,rfl⟩
 have HB0:qH (nthI 2 11 1 (own:Int)=(hd0:Int)):=qh (by rw[qLq qo qo qo];omega)
 obtain⟨l0,hl0⟩:∃ l,getV n K st (hd0:Int)=l:=⟨_,rfl⟩
 have hl032:l0<2^32:=by rw[<- hl0];exact qBB h _
 have HL0:=qh hl0
 obtain⟨s0,hs0⟩:∃ s0,getS n K st (hd0:Int)=s0:=⟨_,rfl⟩
 have HS0:=qh hs0
 have HFF:qH (findF n K t q s nn own st=match (lookF n K t q s nn Q l0 s0).1 with
   | some p=>(some p,(lookF n K t q s nn Q l0 s0).2)
   | none=>nextF n K q (11-(own+1)) (own+1) (lookF n K t q s nn Q l0 s0).2):=qh (by unfold findF;rw[hhd,hl0,hs0,hQ];rfl)
 clear h ho hQ hhd hl0 hs0
 go_enter Tryz.func75,Tryz.ntmps75
 go_wp2_with fail
 refine(qT2 nn qo qo _).mono ?_
 rintro e w9 ⟨rfl,rfl⟩
 rw[HO.o]
 go_wp2_with fail
 refine(qSW (own:Int) _).mono ?_
 rintro e w9 ⟨rfl,rfl⟩
 rw[HB0.o]
 go_wp2_with fail
 refine(rGetA hn _ W0.o.at_).mono ?_
 rintro e w2 ⟨rfl,a1,a2⟩
 rw[HL0.o]
 have W2:=qh (W0.o.call a1 a2)
 rw[HS0.o] at W2
 clear a1 a2 W0 HL0 HS0 HB0
 clear x0 x1 x2
 obtain⟨x0,x1,x2⟩:=W2.o.h0.three
 go_wp2_with fail
 clear x0 x1 x2
 go_loopw [8,9,10] (fun u8 u9 _ wr=>∃ (m l:Nat) (sy:Vst),m<=Q/\u9 = .int .i64 (m:Int)/\u8 = .int .i64 (l:Int)/\l<2^32/\qH (lookF n K t q s nn Q l0 s0=lookF n K t q s nn (Q-m) l sy)/\qH (WL (rOb base b n all K) w0 A G w [⟨w.heap.size,23,#[.int .i64 t,.int .i64 q,.int .i64 s]⟩] sy wr)) (fun _ u9 _ _=>Q-(intOf u9).toNat)
 case atStart=>exact⟨0,l0,_,qo,by go_num,by go_num,hl032,qh rfl,W2⟩
 case round =>
  clear W2
  obtain⟨m,l,sy,hm,rfl,rfl,hl,HLK,W3⟩:=hrel
  obtain⟨x0,x1,x2⟩:=W3.o.h0.three
  by_cases hmQ:m<Q
  ·have t4:decide ((m:Int)<q)=true:=decide_eq_true ((hqQ m).2 hmQ)
   by_cases hp1:1<=l
   ·have t3:decide ((1:Int)<=(l:Int))=true:=qt
    by_cases hp2:l<=Q
    ·have t5:decide ((l:Int)<=q)=true:=decide_eq_true ((hqL l hp1).2 hp2)
     refine RTY ?_;clear HLK;intro j hj HJ HLK
     have HPP:qH (1<=l/\(l:Int)<=q):=qh ⟨hp1,(hqL l hp1).2 hp2⟩
     clear hj
     obtain⟨⟨kk,ll,cc,okk⟩,hI⟩:∃ x,infoOf n K t q s ((l:Int)-1) sy=x:=⟨_,rfl⟩
     have HI:=qh hI
     by_cases hk1:kk=1
     ·subst hk1
      by_cases hln:nn<=ll
      ·have HFT:qH (fitB nn (getV n K sy (pageI t q s ((l:Int)-1) 0))=true):=qh (by unfold infoOf at hI;unfold fitB;rw[hI];simp;omega)
       clear hI
       have t7:decide (nn<=ll)=true:=decide_eq_true hln
       go_wp2_with fail
       refine Rh2 ?_;clear W3;intro w5 W5 Y5 W6
       clear x0 x1 x2
       obtain⟨x0,x1,x2⟩:=W6.o.h0.three
       obtain⟨y0,y1,y2⟩:=Y5.o.three
       clear W5
       have HFIN:qH (findF n K t q s nn own st=(some (l-1),getS n K sy (pageI t q s ((l:Int)-1) 0))):=qh (by rw[HFF.o,HLK.o,qVy n K t q s nn HPP.o HFT.o])
       have HPL:qH (Value.int .i64 ((l:Int)-1)=Value.int .i64 ((l-1:Nat):Int)):=qh (by congr 1;omega)
       clear HFF HLK HFT HI
       go_wp2_with fail
       go_ret2
       exact⟨by rw[HFIN.o];show Ending.returned (.tuple #[.int .i64 ((l:Int)-1),.bool true])=_;rw[HPL.o];rfl,by rw[HFIN.o];exact W6.o.fin⟩
      ·have HFT:qH (fitB nn (getV n K sy (pageI t q s ((l:Int)-1) 0))=false):=qh (by unfold infoOf at hI;unfold fitB;rw[hI];simp;omega)
       clear hI
       have t7:decide (nn<=ll)=false:=decide_eq_false hln
       go_wp2_with fail
       refine Rh2 ?_;clear W3;intro w5 W5 Y5 W6
       exact MW1
     ·have HFT:qH (fitB nn (getV n K sy (pageI t q s ((l:Int)-1) 0))=false):=qh (by unfold infoOf at hI;unfold fitB;rw[hI];simp[hk1])
      clear hI
      have t6:(kk==1)=false:=by simpa using hk1
      go_wp2_with fail
      refine(qHu hn ((l:Int)-1) kk ll cc okk HI.o W3.o.at_).mono ?_;rintro e w5 ⟨rfl,a1,a2⟩;have W5:=qh (W3.o.call a1 a2);clear a1 a2 W3
      have Y5:=qh (Held.new w5 90 #[.int .i64 kk,.int .i64 ll,.int .i64 cc])
      have W6:=qh (W5.o.alloc (.cells #[.int .i64 kk,.int .i64 ll,.int .i64 cc] 90))
      exact MW1
    ·have t5:decide ((l:Int)<=q)=false:=decide_eq_false (fun h3=>hp2 ((hqL l hp1).1 h3))
     have HNX:qH (findF n K t q s nn own st=nextF n K q (11-(own+1)) (own+1) sy):=qh (by
      rw[HFF.o,HLK.o,qFQ n K t q s nn (fun h4=>hp2 ((hqL l h4.1).1 h4.2))]
      try rfl)
     exact Mwn
   ·have t3:decide ((1:Int)<=(l:Int))=false:=qf
    have HNX:qH (findF n K t q s nn own st=nextF n K q (11-(own+1)) (own+1) sy):=qh (by
     rw[HFF.o,HLK.o,qFQ n K t q s nn (fun h4=>hp1 h4.1)]
     try rfl)
    exact Mwn
  ·have t4:decide ((m:Int)<q)=false:=decide_eq_false (fun h3=>hmQ ((hqQ m).1 h3))
   have HNX:qH (findF n K t q s nn own st=nextF n K q (11-(own+1)) (own+1) sy):=qh (by
    rw[HFF.o,HLK.o,show Q-m=0 by omega]
    try rfl)
   exact Mwn

theorem qRA (hn:n<2^40)(hq:q<=1024)(nn:Int)(h:(rOb base b n all K).At w0 A G st w) :
  Calls Tryz.prog 75 #[.pointer (some ⟨b,0,none⟩),.agg #[.int .i64 t,.int .i64 q,.int .i64 s],.int .i64 nn] w fun e w'=>e = .returned (.tuple #[.int .i64 (foundI (findI n K t q s nn st).1),.bool (findI n K t q s nn st).1.isSome])/\(rOb base b n all K).At w0 A G (findI n K t q s nn st).2 w'/\Stay G w w':=by
 by_cases h1:nn<1
 ·rw[qYH qo];exact qHw nn h1 h
 ·by_cases h2:q<nn
  ·rw[qYH qo];exact qFc nn qo h2 h
  ·obtain⟨m,rfl⟩:=Int.eq_ofNat_of_zero_le (show 0<=nn by omega)
   obtain⟨own,ho,ho10,_⟩:=qIH (n:=m) qo qo
   rw[qSw ho qo qo]
   exact qSo hn hq (m:Int) own ho ho10 qo qo h
end
end
section
theorem qW4 {w:World}{base:Nat}{e:TypeId}{v:Value}{l:List Nat}(h:w.ownsRow base e 1 v l.length (ntVs l)):RowV w v ((l.map fun (i:Nat)=>(i:Int)).map (Value.int .i64)):=by
 have e0:ntVs l=(l.map fun (n:Nat)=>(n:Int)).map (Value.int .i64):=by unfold ntVs;rw[List.map_map];rfl
 rw[e0] at h
 refine RowV.of_own (base:=base) (e:=e) ?_
 simpa using h
theorem qWx {base b n:Nat}{all:Bool}{v:Nat->Value}{Kn:Nat->Option Nat}{s:Vst}(hlim:s.wr.length<2^40)(w:World)(h:IsRefV w base b n all v Kn s) :
  Calls Tryz.prog 39 #[.pointer (some ⟨b,0,none⟩)] w fun e w'=>∃ u,e = .returned u/\w'.ownsRow w.heap.size 86 2 u s.wr.length (prVs s.wr)/\Below w.heap.size w w':=by
 have hn:=h.nmax
 have HH:=qh h
 have HO:qH (w.ownsRow base 3 1 (v 5) s.wr.length (ntVs (s.wr.map (·.1)))):=qh (h.parts.own.rowAt qo rfl rfl rfl rfl)
 obtain⟨A,cr,hv5⟩:=qKK HO.o
 have HO5:qH (w.ownsRow base 3 1 (.slice A s.wr.length cr) s.wr.length (ntVs (s.wr.map (·.1)))):=qh (by have:=HO.o;rwa [hv5] at this)
 obtain⟨hqc,hcr⟩:=qNY HO5.o
 have hcr2:cr<=9223372036854775807:=hcr
 have HC6:qH (∀ w',Below w.heap.size w w'->w'.cell? ⟨b,6,none⟩=some (.slice A s.wr.length cr)):=qh (fun w' hb=>by
  have:=(h.keep hb).cells.2.2.2.2.2.2.1
  rwa [hv5] at this)
 obtain⟨q,hq⟩:∃ q,s.wr.length=q:=⟨_,rfl⟩
 have HQ:=qh hq
 have HP0:qH ((w.alloc (.cells #[] 86)).ownsRow w.heap.size 86 2 (.slice (some ⟨w.heap.size,0,none⟩) 0 0) 0 (prVs (s.wr.take 0))):=qh (World.ownsRow_made w #[] 0 (Nat.le_refl _) (Nat.zero_le _) (by simp))
 have HB0:=qh (Bnew (B0 w) (.cells #[] 86))
 obtain⟨j0,hjn,hjz0,hjz1,hjz2⟩:=info_parts pairInfo
 rw[hq] at HO5 HC6 hqc hlim ⊢
 clear h HO hv5 hq hcr
 go_enter Tryz.func39,Tryz.ntmps39
 go_wp2_with fail
 go_loopw [3,4] (fun u i wr=>∃ k:Nat,k<=q/\i = .int .i64 k/\qH (wr.ownsRow w.heap.size 86 2 u k (prVs (s.wr.take k)))/\qH (Below w.heap.size w wr)) (fun _ i _=>q-(intOf i).toNat)
 case atStart=>exact⟨0,qo,rfl,HP0,HB0⟩
 case round =>
  clear HP0 HB0
  obtain⟨k,hk,rfl,HP,HB⟩:=hrel
  have c6:=HC6.o _ HB.o
  by_cases hlt:k<q
  ·have hkl:k<s.wr.length:=by have:=HQ.o;omega
   have hcn:cellW s.wr k<n:=by
    have:=(HH.o.ok.wrLt s.wr[k] (List.getElem_mem _)).1
    simpa [cellW,List.getD,List.getElem?_eq_getElem hkl] using this
   obtain⟨g3,p3,hv3,hp3,hm3,hg3,hl3,hr3⟩:=HH.o.row (i:=3) qo qo
   have hto:toV s.wr (cellW s.wr k)=atW s.wr k:=by unfold toV;rw[HH.o.ok.wrNd k hkl]
   have d3:=(hr3 _ hcn).1.trans (rX_3 n Kn s hcn)
   rw[hto] at d3
   obtain⟨gw,cw,hvw,_,hgw⟩:=HO5.o.form qo
   injection hvw with hvw _ hcc
   subst hvw
   subst hcc
   have d5:w.cell? ⟨gw,k,none⟩=some (.int .i64 ((cellW s.wr k:Nat):Int)):=by
    rw[HO5.o.cellAt k qo]
    unfold ntVs
    rw[List.getElem?_map,List.getElem?_map,List.getElem?_eq_getElem hkl]
    simp[cellW,List.getD,List.getElem?_eq_getElem hkl]
   have HPS:qH (prVs (s.wr.take (k+1))=prVs (s.wr.take k) ++ [.int .i64 ((cellW s.wr k:Nat):Int),.int .u32 ((atW s.wr k:Nat):Int)]):=qh (by
    have e:s.wr.take (k+1)=s.wr.take k ++ [(cellW s.wr k,atW s.wr k)]:=by
     have e0:(cellW s.wr k,atW s.wr k)=s.wr[k]:=by simp[cellW,atW,List.getD,List.getElem?_eq_getElem hkl]
     rw[List.take_add_one,List.getElem?_eq_getElem hkl,e0]
     rfl
    rw[e,qEZ])
   have HS:qH (∀ w',Below w.heap.size w w'->w'.cell? ⟨b,6,none⟩=some (.slice (some ⟨gw,0,none⟩) q cr)/\w'.cell? ⟨gw,k,none⟩=some (.int .i64 ((cellW s.wr k:Nat):Int))/\w'.cell? ⟨b,4,none⟩=some (.slice (some ⟨g3,0,none⟩) n p3)/\w'.cell? ⟨g3,cellW s.wr k,none⟩=some (.int .u32 ((atW s.wr k:Nat):Int))):=qh (fun w' hb=>by
    refine⟨HC6.o _ hb,(hb.cell (p:=⟨gw,k,none⟩) hgw).trans d5,?_,(hb.cell (p:=⟨g3,cellW s.wr k,none⟩) hl3).trans d3⟩
    have:=(HH.o.keep hb).cells.2.2.2.2.1
    rwa [hv3] at this)
   obtain⟨y0,y1,y2,y3⟩:=HS.o _ HB.o
   clear hto d3 d5 hr3 hv3 hkl
   generalize cellW s.wr k=cx at *
   generalize atW s.wr k=ax at *
   go_wp2_with fail
   refine wp_region_held_drew (S:=(fun w'=>w'.cell? ⟨b,6,none⟩=some (.slice (some ⟨gw,0,none⟩) q cr)/\w'.cell? ⟨gw,k,none⟩=some (.int .i64 (cx:Int))/\w'.cell? ⟨b,4,none⟩=some (.slice (some ⟨g3,0,none⟩) n p3)/\w'.cell? ⟨g3,cx,none⟩=some (.int .u32 (ax:Int)))) qr ?_ (fun hHeld=>?_)
   ·(try dsimp only)
    exact MjC
   refine RLS ?_
   refine tkz 8 ?_
   refine tkz 9 ?_
   refine tkz 10 ?_
   refine tkz 11 ?_
   refine tkz 12 ?_
   refine tkz 13 ?_
   refine tkz 14 ?_
   refine tkz 15 ?_
   refine tkz 16 ?_
   refine tkz 17 ?_
   refine tkz 18 ?_
   refine tkz 19 ?_
   refine tkz 20 ?_
   refine tkz 21 ?_
   refine rdz 22 fun K hK=>?_
   go_simp
   skip
   refine qk ?_ (fun hHeld=>?_)
   ·exact MjC
   clear hK K
   refine rdz 23 fun K hK=>?_
   (refine step_append_lies _ (by rfl) _ _ 39 (by rfl) w.heap.size 86 j0 (.agg #[.int .i64 0,.int .u32 0]) 2 16 Tryz.underlying39 hjn hjz0 hjz1 hjz2 rfl (by decide) u3 k (prVs (s.wr.take k)) (by rfl) ((qEc HP.o (Bdrew (B0 _))).alloc _) ⟨_,0,none⟩ 1 1 [.int .i64 (cx:Int),.int .u32 (ax:Int)] (by rfl) rfl (fun j y hy=>World.news_of_block (w:=wr.alloc (.cells #[.int .i64 (cx:Int),.int .u32 (ax:Int)] 86)) (heap_alloc_new wr _) j y (by simpa using hy)) (by simp[Value.oneCell']) qo (by unfold maxLen;omega) qo (by have:=HB.o.size;simp;omega) _ rfl ?_;intro g cap w6 hown6 hgrow6 hat6 hlt6;have HBq:=qh ((Bnew HB.o (.cells #[.int .i64 (cx:Int),.int .u32 (ax:Int)] 86)).grown (w':=w6) ⟨hgrow6.os,hgrow6.tape,hgrow6.output,hgrow6.size,hgrow6.block⟩ (by have:=HB.o.size;simp;omega) (fun q' hq'=>(HP.o.lt q' hq').1));have HO6:=qh hown6;clear hown6 hgrow6 hat6 hlt6)
   refine qk ?_ (fun hHeld=>?_)
   ·exact MjC
   clear hK K
   refine tkz 24 ?_
   refine dnz ?_
   go_wp2
   go_roundw
   case rel=>exact⟨k+1,qo,by go_num,qh (by rw[HPS.o];exact HO6.o),HBq⟩
   case measure=>simp[intOf];omega
  ·obtain rfl:k=q:=qo
   have HPF:qH (wr.ownsRow w.heap.size 86 2 u3 k (prVs s.wr)):=qh (by
    have:=HP.o
    rwa [List.take_of_length_le (by have:=HQ.o;omega)] at this)
   go_wp2
   go_ret
   exact⟨u3,rfl,HPF.o,HB.o⟩

theorem qCG {base b n:Nat}{all:Bool}{v:Nat->Value}{Kn:Nat->Option Nat}{s:Vst}(h1:s.rd.length<2^40)(h2:s.wr.length<2^40)(u1 u2:Value)(w:World)(h:IsRefV w base b n all v Kn s)
  (HR:RowV w u1 ((s.rd.map fun (i:Nat)=>(i:Int)).map (Value.int .i64))) (HW:RowP w u2 s.wr) :
  Calls Tryz.prog 13 #[.pointer (some ⟨b,0,none⟩),u1,u2,.int .i64 (missI s)] w fun e w'=>e = .returned (.bool true)/\Below w.heap.size w w':=by
 have HH:=qh h
 have c5:=h.cells.2.2.2.2.2.1
 have HV:qH (RowV w (v 4) ((s.rd.map fun (i:Nat)=>(i:Int)).map (Value.int .i64))):=qh (qW4 (h.parts.own.rowAt qo rfl rfl rfl rfl))
 have HR:=qh HR
 have HW:=qh HW
 obtain⟨mi,hmi⟩:∃ mi,missI s=mi:=⟨_,rfl⟩
 have HMI:=qh hmi
 rw[hmi]
 clear h hmi
 go_enter Tryz.func13,Tryz.ntmps13
 go_wp2_with fail
 refine(qQG _ _ _ _ HR.o HV.o).mono ?_
 rintro e w1 ⟨rfl,j1,rfl⟩
 obtain⟨w2,hw2⟩:∃ w2,w.drewN j1=w2:=⟨_,rfl⟩
 have hb:=Bdraw (B0 w) j1
 rw[hw2] at hb ⊢
 have HH2:=qh (HH.o.keep hb)
 have HW2:=qh (HW.o.below hb)
 have HB2:=qh hb
 clear hb HH HW HR HV c5 hw2
 go_wp2_with fail
 refine(qWx h2 _ HH2.o).mono ?_
 rintro e w3 ⟨u3,rfl,ho,hb⟩
 have HP3:=qh (RowP.of_own ho)
 have HW3:=qh (HW2.o.below hb)
 have HH3:=qh (HH2.o.keep hb)
 have HB3:=qh (Bgo HB2.o hb)
 clear ho hb HH2 HW2 HB2
 go_wp2_with fail
 refine(qVp s.wr _ _ _ HW3.o HP3.o).mono ?_
 rintro e w4 ⟨rfl,j4,rfl⟩
 have c7:(w3.drewN j4).cell? ⟨b,7,none⟩=some (.int .i64 mi):=by
  have:=(HH3.o.keep (Bdraw (B0 w3) j4)).cells.2.2.2.2.2.2.2.1
  rwa [HMI.o] at this
 have HB4:=qh (Bdraw HB3.o j4)
 obtain⟨w5,hw5⟩:∃ w5,w3.drewN j4=w5:=⟨_,rfl⟩
 rw[hw5] at c7 HB4 ⊢
 clear hw5
 go_wp2
 go_ret
 exact⟨rfl,HB4.o⟩
end
section
structure Duo (W:World) (O1 O2:Ob) (A B G:Nat->Prop) (s1 s2:Vst) (w:World):Prop where
 i1:O1.I w s1 A
 i2:O2.I w s2 B
 ab:∀ i,A i->¬ B i
 aG:∀ g,G g->g<w.heap.size/\¬ A g/\¬ B g
 lo:∀ i,A i\/B i->W.heap.size<=i
 bel:Below W.heap.size W w
def noOb:Ob where
 I _ _ A:=∀ i,¬ A i
 lt h i hi:=absurd hi (h i)
 turns h _ _:=h

section
variable {W w w' : World} {O1 O2 : Ob} {A B G : Nat -> Prop} {s1 s2 s' : Vst}
theorem Duo.left1 (h:Duo W O1 O2 A B G s1 s2 w)(hl:O1.Left w A s' w'):∃ A',Duo W O1 O2 A' B G s' s2 w'/\Stay G w w':=by
 obtain⟨A',k1,k2,k3⟩:=hl
 have hs:=h.bel.size
 refine⟨A',⟨k1,O2.turns h.i2 k3 (fun i hi ha=>h.ab i ha hi),fun i hi hb=>?_,fun g hg=>⟨Nat.lt_of_lt_of_le (h.aG g hg).1 k3.size,fun x=>?_,(h.aG g hg).2.2⟩,fun i hi=>?_,k3.below h.bel (fun i hi=>h.lo i (.inl hi))⟩,⟨k3.size,fun g hg hl=>k3.block g hl (h.aG g hg).2.1⟩⟩
 ·rcases k2 i hi with h1|h1
  ·exact h.ab i h1 hb
  ·have:=O2.lt h.i2 i hb;omega
 ·rcases k2 g x with h1|h1
  ·exact(h.aG g hg).2.1 h1
  ·have:=(h.aG g hg).1;omega
 ·rcases hi with hi|hi
  ·rcases k2 i hi with h1|h1
   ·exact h.lo i (.inl h1)
   ·omega
  ·exact h.lo i (.inr hi)
theorem Duo.swap (h:Duo W O1 O2 A B G s1 s2 w):Duo W O2 O1 B A G s2 s1 w:=⟨h.i2,h.i1,fun i hb ha=>h.ab i ha hb,fun g hg=>⟨(h.aG g hg).1,(h.aG g hg).2.2,(h.aG g hg).2.1⟩,fun i hi=>h.lo i hi.symm,h.bel⟩
theorem Duo.left2 (h:Duo W O1 O2 A B G s1 s2 w)(hl:O2.Left w B s' w'):∃ B',Duo W O1 O2 A B' G s1 s' w'/\Stay G w w':=by
 obtain⟨B',h1,h2⟩:=h.swap.left1 hl
 exact⟨B',h1.swap,h2⟩
theorem Duo.keep (h:Duo W O1 O2 A B G s1 s2 w)(hb:Below w.heap.size w w'):Duo W O1 O2 A B G s1 s2 w' :=
 ⟨Ob.keep h.i1 hb,Ob.keep h.i2 hb,h.ab,fun g hg=>⟨Nat.lt_of_lt_of_le (h.aG g hg).1 hb.size,(h.aG g hg).2⟩,h.lo,Bgo h.bel hb⟩
theorem Duo.at1 (h:Duo W O1 O2 A B G s1 s2 w):O1.At w A (fun _=>False) s1 w:=Ob.At.start h.i1
theorem Duo.at2 (h:Duo W O1 O2 A B G s1 s2 w):O2.At w B (fun _=>False) s2 w:=Ob.At.start h.i2
theorem qAg {b n base:Nat}{wh:Bool}{o:VGeo}{K:Nat->Option Nat}{s:Vst}(hI:IsView w base b n wh o K s)(hb:W.heap.size<=base)(hB:Below W.heap.size W w)(hG:∀ g,G g->g<w.heap.size/\¬ o.A b g) :
  Duo W (vOb base b n wh K) noOb (o.A b) (fun _=>False) G s freshS w :=
 ⟨⟨o,hI,rfl⟩,fun _ x=>x,fun _ _ x=>x,fun g hg=>⟨(hG g hg).1,(hG g hg).2,fun x=>x⟩,fun i hi=>by
  rcases hi with hi|hi
  ·exact Nat.le_trans hb (hI.ge i hi)
  ·exact hi.elim,hB⟩
end
end
section
theorem qYU (t q s:Int)(w:World):Calls Tryz.prog 6 #[.agg #[.int .i64 t,.int .i64 q,.int .i64 s]] w fun e w'=>e = .returned (.bool (decide (q<=64)))/\Below w.heap.size w w':=by
 go_enter Tryz.func6,Tryz.ntmps6
 go_wp2
 go_ret
 exact⟨rfl,Bnew (B0 _) _⟩
theorem qSQ (w:World):(Instr.makeSlice 24 (.int .i64 82) (.int .i64 82)).run Tryz.prog w = .ok (.slice (some ⟨w.heap.size,0,none⟩) 82 82) (w.alloc (.cells (Array.replicate 82 (.int .u32 0)) 57)):=by kernel_rfl
def ex14L:List Nat:=((((List.replicate 82 0).set 0 8).set 5 1).set 34 129).set 77 1
def ex14C:Array Value:=((((Array.replicate 82 (Value.int .u32 0)).setIfInBounds 0 (.int .u32 8)).setIfInBounds 5 (.int .u32 1)).setIfInBounds 34 (.int .u32 129)).setIfInBounds 77 (.int .u32 1)
theorem qLh:ex14C.toList=valVs ex14L:=by
 unfold ex14C ex14L valVs
 simp only[Array.toList_setIfInBounds,Array.toList_replicate,List.map_set,List.map_replicate]
 rfl
def qEr:Nat->Option Nat:=fun i=>ex14L[i]?
theorem qGI (w:World):Calls Tryz.prog 27 #[] w fun e w'=>∃ g,e = .returned (.tuple #[.agg #[.int .i64 1,.int .i64 8,.int .i64 10],.slice (some ⟨g,0,none⟩) 82 82])/\Held w' g 57 ex14C/\Below w.heap.size w w':=by
 have hmk:=qSQ
 have HC:=(Held.new w 23 #[.int .i64 0,.int .i64 0,.int .i64 0]).alloc (.cells (Array.replicate 82 (.int .u32 0)) 57)
 have HG:=Held.new2 w (.cells #[.int .i64 0,.int .i64 0,.int .i64 0] 23) 57 (Array.replicate 82 (.int .u32 0))
 have g0:_=some (Value.int .u32 0):=(HG.cell 0).trans (by simp)
 have g1:_=some (Value.int .u32 0):=(HG.cell 5).trans (by simp)
 have g2:_=some (Value.int .u32 0):=(HG.cell 34).trans (by simp)
 have g3:_=some (Value.int .u32 0):=(HG.cell 77).trans (by simp)
 have f0:=HG.thawed
 obtain⟨c0,c1,c2⟩:=HC.three
 have f1:=HC.thawed
 clear HC HG
 go_enter Tryz.func27,Tryz.ntmps27
 go_wp2
 refine bodyPost_ret (v := .tuple #[.agg #[.int .i64 1,.int .i64 8,.int .i64 10],.slice (some ⟨w.heap.size+1,0,none⟩) 82 82]) (by simp[results,Tryz.results27,go_sem]) rfl ⟨w.heap.size+1,rfl,?_,?_⟩
 ·unfold ex14C
  exact Held.new2 w (.cells #[.int .i64 1,.int .i64 8,.int .i64 10] 23) 57 _
 ·exact Bnew (Bnew (B0 w) _) _
end
section
theorem qOo:ex14L.length=82:=by decide
theorem qDC:∀ x∈ex14L,x<2^32:=by decide
theorem qGe {w:World}{g:Nat}{t:TypeId}(h:Held w g t ex14C):∀ j u,(valVs ex14L)[j]?=some u->w.cell? ((⟨g,0,none⟩:Addr).add j)=some u:=by
 intro j u hu
 have e:(⟨g,0,none⟩:Addr).add j=⟨g,j,none⟩:=by
  unfold Addr.add
  by_cases hz:j=0
  ·rw[if_pos hz,hz]
  ·rw[if_neg hz];simp
 rw[e,h.cell j,<- hu,<- qLh]
 simp
end
section
theorem qQe {H:AuH}{m:Nat}(h:H.Told m true){p:Nat}(hp:p<H.p)(hk:H.K p≠0):p+H.ln p<=H.p:=by
 rcases h with ⟨_,_,h⟩|⟨h,_⟩
 ·have ht:H.Tiled:=h 1 qo
  exact((H.can_iff p).1 (ht.start hp hk).2).2.2
 ·cases h
end
section
def exA1:Vst:=(allocL 82 qEr 1 8 10 3 freshS).2
def exA2:Vst:=(resizeL 82 qEr 1 8 10 0 5 exA1).2
def exA3:Vst:=(resizeL 82 qEr 1 8 10 0 9 exA2).2
theorem qXh:allocL 82 qEr 1 8 10 3 freshS=(some 0,exA1):=by
 have h:(allocL 82 qEr 1 8 10 3 freshS).1=some 0:=by decide +kernel
 unfold exA1
 rw[<- h]
theorem qJ8:infoOf 82 qEr 1 8 10 ((0:Nat):Int) exA1=(2,((3:Nat):Int),0,true):=by decide +kernel
theorem qLk:resizeL 82 qEr 1 8 10 0 5 exA1=(true,exA2):=by
 have h:(resizeL 82 qEr 1 8 10 0 5 exA1).1=true:=by decide +kernel
 unfold exA2
 rw[<- h]
theorem qWe:infoOf 82 qEr 1 8 10 ((0:Nat):Int) exA2=(2,((5:Nat):Int),0,true):=by decide +kernel
theorem qG1:resizeL 82 qEr 1 8 10 0 9 exA2=(false,exA3):=by
 have h:(resizeL 82 qEr 1 8 10 0 9 exA2).1=false:=by decide +kernel
 unfold exA3
 rw[<- h]
theorem qBX:getV 82 qEr exA3 0=3:=by decide +kernel
theorem qBE:getV 82 qEr (getS 82 qEr exA3 0) 1=1:=by decide +kernel

theorem qVa (w:World):Calls Tryz.prog 8 #[] w fun e w'=>e = .returned (.bool true)/\Below w.heap.size w w':=by
 have HTK:=qh qXh
 have HI1:=qh qJ8
 have HI2:=qh qWe
 have HR5:=qh qLk
 have HR9:=qh qG1
 have H0:=qh qBX
 have H1:=qh qBE
 go_enter Tryz.func8,Tryz.ntmps8
 go_wp2_with fail
 refine(qGI _).mono ?_
 rintro e w1 ⟨g,rfl,hg,hb⟩
 have HG:=qh (hg.alloc (.cells #[.int .i64 1,.int .i64 8,.int .i64 10] 23))
 have HC:=qh (Held.new w1 23 #[.int .i64 1,.int .i64 8,.int .i64 10])
 have HB:=qh (Bnew hb (.cells #[.int .i64 1,.int .i64 8,.int .i64 10] 23))
 clear hg hb
 obtain⟨x0,x1,x2⟩:=HC.o.three
 go_wp2_with fail
 generalize hNC:w1.heap.size=NC at *
 generalize hW1:w1.alloc (.cells #[.int .i64 1,.int .i64 8,.int .i64 10] 23)=W1 at *
 clear hNC hW1
 refine(qWm (some ⟨g,0,none⟩) 82 ex14L 82 qOo qo qDC _ (fun _=>⟨_,rfl,qGe HG.o⟩)).mono ?_
 rintro e w3 ⟨b,o,rfl,hI,hB⟩
 have HD:=qh (qAg (W:=w) (G:=fun i=>i=NC) hI HB.o.size (Bgo HB.o hB) (fun i hi=>by
  have h1:=HC.o.lt
  have h3:=hB.size
  rcases hi with rfl
  exact⟨qo,fun x=>by have:=hI.ge _ x;omega⟩))
 replace HC:=qh (HC.o.keep hB)
 clear hI hB HB HG
 rw[show (fun i=>ex14L[i]?)=qEr from rfl] at HD
 clear x0 x1 x2
 obtain⟨x0,x1,x2⟩:=HC.o.three
 go_wp2_with fail
 refine(qHr (t:=1) (q:=8) (s:=10) qo qo 3 HD.o.at1).mono ?_
 rintro e w2 ⟨rfl,h1,_⟩
 obtain⟨A4,h2,h3⟩:=HD.o.left1 h1.left
 rw[HTK.o] at h2 ⊢
 dsimp only[foundI,Option.isSome] at h2 ⊢
 replace HC:=qh (h3.held rfl HC.o)
 replace HD:qH (Duo w (vOb _ b 82 true qEr) noOb A4 (fun _=>False) (fun i=>i=NC) exA1 freshS w2):=qh h2
 clear h1 h2 h3
 clear x0 x1 x2
 obtain⟨x0,x1,x2⟩:=HC.o.three
 go_wp2_with fail
 refine(qQF (t:=1) (q:=8) (s:=10) qo qo 0 3 5 2 0 true HI1.o qo HD.o.at1).mono ?_
 rintro e w2 ⟨rfl,h1,_⟩
 obtain⟨A4,h2,h3⟩:=HD.o.left1 h1.left
 rw[HR5.o] at h2 ⊢
 dsimp only at h2 ⊢
 replace HC:=qh (h3.held rfl HC.o)
 replace HD:qH (Duo w (vOb _ b 82 true qEr) noOb A4 (fun _=>False) (fun i=>i=NC) exA2 freshS w2):=qh h2
 clear h1 h2 h3
 clear x0 x1 x2
 obtain⟨x0,x1,x2⟩:=HC.o.three
 go_wp2_with fail
 refine(qQF (t:=1) (q:=8) (s:=10) qo qo 0 5 9 2 0 true HI2.o qo HD.o.at1).mono ?_
 rintro e w2 ⟨rfl,h1,_⟩
 obtain⟨A4,h2,h3⟩:=HD.o.left1 h1.left
 rw[HR9.o] at h2 ⊢
 dsimp only at h2 ⊢
 replace HC:=qh (h3.held rfl HC.o)
 replace HD:qH (Duo w (vOb _ b 82 true qEr) noOb A4 (fun _=>False) (fun i=>i=NC) exA3 freshS w2):=qh h2
 clear h1 h2 h3
 clear x0 x1 x2
 obtain⟨x0,x1,x2⟩:=HC.o.three
 go_wp2_with fail
 refine(vGetA qo 0 HD.o.at1).mono ?_
 rintro e w2 ⟨rfl,h1,_⟩
 obtain⟨A4,h2,h3⟩:=HD.o.left1 h1.left
 rw[H0.o]
 replace HC:=qh (h3.held rfl HC.o)
 replace HD:qH (Duo w (vOb _ b 82 true qEr) noOb A4 (fun _=>False) (fun i=>i=NC) (getS 82 qEr exA3 0) freshS w2):=qh h2
 clear h1 h2 h3
 clear x0 x1 x2
 obtain⟨x0,x1,x2⟩:=HC.o.three
 go_wp2_with fail
 refine(vGetA qo 1 HD.o.at1).mono ?_
 rintro e w2 ⟨rfl,h1,_⟩
 obtain⟨A4,h2,h3⟩:=HD.o.left1 h1.left
 rw[H1.o]
 replace HC:=qh (h3.held rfl HC.o)
 replace HD:qH (Duo w (vOb _ b 82 true qEr) noOb A4 (fun _=>False) (fun i=>i=NC) _ freshS w2):=qh h2
 clear h1 h2 h3
 clear x0 x1 x2
 obtain⟨x0,x1,x2⟩:=HC.o.three
 have HB:=qh HD.o.bel
 go_wp2
 go_ret
 exact⟨rfl,HB.o⟩

theorem qBo (t q s p:Int)(A:Option Addr)(n c:Nat)(h:p<0\/q<=p)(w:World) :
  Calls Tryz.prog 17 #[.agg #[.int .i64 t,.int .i64 q,.int .i64 s],.slice A n c,.int .i64 p] w fun e w'=>e = .returned (.int .i64 0)/\Below w.heap.size w w':=by
 have HB:=qh (Bnew (B0 w) (.cells #[.int .i64 t,.int .i64 q,.int .i64 s] 23))
 obtain⟨x0,x1,x2⟩:=(Held.new w 23 #[.int .i64 t,.int .i64 q,.int .i64 s]).three
 by_cases h0:p<0
 ·have t0:decide (p<(0:Int))=true:=decide_eq_true h0
  exact Mch
 ·refine R4Q ?_;intro t0 t1
  exact Mch
def usedN (H:AuH) (p:Nat):Nat:=if H.K p=2 then H.ln p else 0
theorem qHy {H:AuH}{n c:Nat}(HV:HeapV H n c)(ad:Addr){p:Nat}(hp:p<H.p)(w:World)(hv:IsVals w ad n H.V) :
  Calls Tryz.prog 17 #[.agg #[.int .i64 (H.t:Int),.int .i64 (H.p:Int),.int .i64 (H.s:Int)],.slice (some ad) n c,.int .i64 (p:Int)] w fun e w'=>e = .returned (.int .i64 (usedN H p:Int))/\Below w.heap.size w w':=by
 have t0:decide ((p:Int)<0)=false:=qf
 have t1:decide ((H.p:Int)<=(p:Int))=false:=qf
 have HVL:=qh hv
 have HC:=qh ((Held.new w 23 #[.int .i64 (H.t:Int),.int .i64 (H.p:Int),.int .i64 (H.s:Int)]).alloc (.cells #[.int .i64 (H.t:Int),.int .i64 (H.p:Int),.int .i64 (H.s:Int),.slice (some ad) n c] 88))
 have HX:=qh (Held.new2 w (.cells #[.int .i64 (H.t:Int),.int .i64 (H.p:Int),.int .i64 (H.s:Int)] 23) 88 #[.int .i64 (H.t:Int),.int .i64 (H.p:Int),.int .i64 (H.s:Int),.slice (some ad) n c])
 have HB:=qh (Bnew (Bnew (B0 w) (.cells #[.int .i64 (H.t:Int),.int .i64 (H.p:Int),.int .i64 (H.s:Int)] 23)) (.cells #[.int .i64 (H.t:Int),.int .i64 (H.p:Int),.int .i64 (H.s:Int),.slice (some ad) n c] 88))
 obtain⟨x0,x1,x2⟩:=HC.o.three
 obtain⟨v0,v1,v2⟩:=(Held.new w 23 #[.int .i64 (H.t:Int),.int .i64 (H.p:Int),.int .i64 (H.s:Int)]).three
 obtain⟨y0,y1,y2,y3⟩:=HX.o.four
 obtain⟨kk,hkk⟩:∃ kk,H.K p=kk:=⟨_,rfl⟩
 obtain⟨ll,hll⟩:∃ ll,H.ln p=ll:=⟨_,rfl⟩
 obtain⟨cc,hcc⟩:∃ cc,H.Cl p=cc:=⟨_,rfl⟩
 obtain⟨uu,huu⟩:∃ uu,usedN H p=uu:=⟨_,rfl⟩
 have HK:=qh hkk
 have HL:=qh hll
 have HCC:=qh hcc
 rw[huu]
 have hu:(kk=2/\uu=ll)\/(kk≠2/\uu=0):=by
  rw[<- huu,<- hkk,<- hll]
  unfold usedN
  by_cases h:H.K p=2
  ·exact .inl ⟨h,by rw[if_pos h]⟩
  ·exact .inr ⟨h,by rw[if_neg h]⟩
 clear hkk hll hcc hv huu
 rcases hu with ⟨rfl,rfl⟩|⟨hne,rfl⟩
 ·skip
  skip
  go_enter Tryz.func17,Tryz.ntmps17
  go_wp2_with fail
  refine(qMU HV ad hp _ (HVL.o.below HB.o)).mono ?_
  rintro e w4 ⟨rfl,hb⟩
  rw[HK.o,HL.o,HCC.o]
  have HI:=qh (Held.new w4 90 #[.int .i64 2,.int .i64 (uu:Int),.int .i64 cc])
  replace HB:=qh (Bnew (Bgo HB.o hb) (.cells #[.int .i64 2,.int .i64 (uu:Int),.int .i64 cc] 90))
  exact MJH
 ·have t2:(kk != 2)=true:=by simpa using hne
  clear hne
  go_enter Tryz.func17,Tryz.ntmps17
  go_wp2_with fail
  refine(qMU HV ad hp _ (HVL.o.below HB.o)).mono ?_
  rintro e w4 ⟨rfl,hb⟩
  rw[HK.o,HL.o,HCC.o]
  have HI:=qh (Held.new w4 90 #[.int .i64 kk,.int .i64 (ll:Int),.int .i64 cc])
  replace HB:=qh (Bnew (Bgo HB.o hb) (.cells #[.int .i64 kk,.int .i64 (ll:Int),.int .i64 cc] 90))
  exact MJH
end
end Go.Proofs.YtgifnhcknodekaaGreat
