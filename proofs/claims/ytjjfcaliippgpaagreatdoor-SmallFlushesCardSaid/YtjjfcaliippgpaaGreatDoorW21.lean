/-
  Pockets that hold the same are the same for the document's answer. Written by pocket/gen_same.py.
-/
import Derived.Test.YtjjfcaliippgpaaGreatDoorW01
import Derived.Test.YtjjfcaliippgpaaGreatDoorW04
import Derived.Test.YtjjfcaliippgpaaGreatDoorW20
import Derived.Test.YtjjfcaliippgpaaGreatDoorW17
import Derived.Test.YtjjfcaliippgpaaGreatDoorW08
import Derived.Test.YtjjfcaliippgpaaGreatDoorW16
import Derived.Test.YtjjfcaliippgpaaGreatDoorW19
import Derived.Test.YtjjfcaliippgpaaGreatDoorW12
import Derived.Test.YtjjfcaliippgpaaGreatDoorW09
import Derived.Test.YtjjfcaliippgpaaGreatDoorW03
import Derived.OwnWalk
namespace Go.Proofs.YtjjfcaliippgpaaGreatDoor
theorem Rjz {P Q:Prop}(kq:Q)(h:HQ Q->P:=by
 intro kq
 replace HC:=qh (HC.o.keep (Bdrew (B0 _)))
 replace HO:=qh (qEc HO.o (Bdrew (B0 _)))
 replace HLH:=qh (HLH.o.below (Bdrew (B0 _)))
 replace HB:=qh (Bgo HB.o (Bdrew (B0 _)))
 refine wp_region_held_drew (S:=(fun w'=>(w'.cell? ⟨w.heap.size,0,none⟩=some (.int .i64 (H.t:Int))/\w'.cell? ⟨w.heap.size,1,none⟩=some (.int .i64 (H.p:Int))/\w'.cell? ⟨w.heap.size,2,none⟩=some (.int .i64 (H.s:Int)))/\w'.cell? ⟨g,i*3,none⟩=some (.int .i64 xk)/\w'.cell? ⟨g,i*3+1,none⟩=some (.int .i64 xa)/\w'.cell? ⟨g,i*3+2,none⟩=some (.int .i64 xz))) qr ?_ (fun hHeld=>?_)
 ·exact MDK
 refine tkz 0 ?_
 refine tkz 1 ?_
 refine tkz 2 ?_
 refine tkz 3 ?_
 refine tkz 4 ?_
 refine tkz 5 ?_
 refine tkz 6 ?_
 revert HC HO HLH HB hHeld
 exact kq.o):P:=h ⟨kq⟩
theorem RYq {P Q:Prop}(kq:Q)(h:HQ Q->P:=by
 intro kq
 have HC:=qh ((Held.new W 23 #[.int .i64 t,.int .i64 q,.int .i64 s]).alloc (.cells #[.slice A2 T c2,.int .i64 t0,.int .i64 k0,.int .i64 pg,.int .i64 sl] 27))
 have HX:=qh (Held.new2 W (.cells #[.int .i64 t,.int .i64 q,.int .i64 s] 23) 27 #[.slice A2 T c2,.int .i64 t0,.int .i64 k0,.int .i64 pg,.int .i64 sl])
 have HB:=qh (Bnew (Bnew (B0 W) (.cells #[.int .i64 t,.int .i64 q,.int .i64 s] 23)) (.cells #[.slice A2 T c2,.int .i64 t0,.int .i64 k0,.int .i64 pg,.int .i64 sl] 27))
 revert HC HX HB
 exact kq.o):P:=h ⟨kq⟩
theorem RMZ {P Q:Prop}(kq:Q)(h:HQ Q->P:=by
 intro kq
 refine tkz 7 ?_
 refine tkz 8 ?_
 refine tkz 9 ?_
 refine tkz 10 ?_
 refine tkz 11 ?_
 refine tkz 12 ?_
 refine tkz 13 ?_
 refine tkz 14 ?_
 refine rdz 15 fun K hK=>?_
 go_simp
 refine(qOB (H.s:Int) (k:Int) qo qo _).mono ?_
 rintro e w9 ⟨rfl,hb⟩
 rw[HSZ.o]
 replace HC:=qh (HC.o.keep hb)
 replace HO:=qh (qEc HO.o hb)
 replace HLH:=qh (HLH.o.below hb)
 replace HB:=qh (Bgo HB.o hb)
 clear hb
 refine qk ?_ (fun hHeld=>?_)
 ·exact Mij
 clear hK K
 refine tkz 16 ?_
 revert w9 HC HO HLH HB hHeld
 exact kq.o):P:=h ⟨kq⟩
theorem RZx {P Q:Prop}(kq:Q)(h:HQ Q->P:=by
 intro kq
 obtain⟨x0',x1',x2'⟩:=HC.o.three
 obtain⟨y0',y1',y2',y3',y4'⟩:=HX.o.five'
 revert x0' x1' x2' y0' y1' y2' y3' y4'
 exact kq.o):P:=h ⟨kq⟩
theorem R2K {P Q:Prop}(kq:Q)(h:HQ Q->P:=by
 intro kq
 have t2:decide (q<=(64:Int))=true:=qt
 have t3:decide ((T:Int)<=(16:Int))=true:=qt
 have t3n:decide (T<=16)=true:=qt
 revert t2 t3 t3n
 exact kq.o):P:=h ⟨kq⟩
theorem RXO {P Q:Prop}(kq:Q)(h:HQ Q->P:=by
 intro kq
 replace HC:=qh (HC.o.keep hb)
 replace HX:=qh (HX.o.keep hb)
 replace HB:=qh (Bgo HB.o hb)
 revert HC HX HB
 exact kq.o):P:=h ⟨kq⟩
theorem MrY {P:Prop}(h:P:=by
 refine RYq ?_;intro HC HX HB
 refine RZx ?_;intro x0' x1' x2' y0' y1' y2' y3' y4'
 go_enter Tryz.func7,Tryz.ntmps7
 go_wp2_with fail
 refine(qYU t q s _).mono ?_
 rintro e w1 ⟨rfl,hb⟩
 rw[t2]
 refine RXO ?_;clear HC HX HB hb;intro HC HX HB
 clear x0' x1' x2' y0' y1' y2' y3' y4'
 refine RZx ?_;intro x0' x1' x2' y0' y1' y2' y3' y4'
 go_wp2
 go_ret
 exact⟨rfl,HB.o⟩):P:=h
theorem Mr2 {P:Prop}(h:P:=by
 refine tkz 17 ?_
 refine dnz ?_
 go_wp2_with fail
 go_roundw
 case rel=>exact⟨i+1,v,qo,by go_num,rfl,qh (by rw[HPK.o];exact HV0.o),qh (fun a ha=>by rw[HPK.o] at ha;exact HQ.o a ha),HC,HO,HLH,HB⟩
 case measure=>simp[intOf];omega):P:=h
theorem MDK {P:Prop}(h:P:=by
 (try dsimp only)
 exact Mij):P:=h
theorem Mij {P:Prop}(h:P:=by first|exact⟨HC.o.three,HXC.o _ HO.o⟩|exact hHeld):P:=h
end Go.Proofs.YtjjfcaliippgpaaGreatDoor
set_option linter.unusedVariables false
set_option linter.unusedSimpArgs false
set_option maxRecDepth 100000
set_option maxHeartbeats 25600000
namespace Go.Proofs.YtjjfcaliippgpaaGreatDoor
open Go.ChangeShapes Go.WideShapes Go.ChangeAt Go.RowKit Go.Maps
section
theorem qHi (l:List Int)(v u:Value)(w:World)(h1:LongsAt w v l)(h2:LongsAt w u l) :
  Calls Tryz.prog 33 #[v,u] w fun e w'=>e = .returned (.bool true)/\∃ n,w'=w.drewN n:=by
 obtain⟨A,c,rfl,hlc,hcm,_,hno,hcl⟩:=h1
 obtain⟨B,d,rfl,hld,hdm,_,hnp,hdl⟩:=h2
 obtain⟨n,hn⟩:∃ n,l.length=n:=⟨_,rfl⟩
 have hm:n<=9223372036854775807:=by rw[hn] at hlc;unfold maxLen at hcm;omega
 have HN:=qh hn
 have HC:=qh hcl
 have HD:=qh hdl
 have HNO:=qh hno
 have HNP:=qh hnp
 rw[hn]
 clear hcl hdl hno hnp hn
 go_enter Tryz.func33,Tryz.ntmps33
 go_wp2
 go_loopw [5] (fun i wr=>∃ k m:Nat,k<=n/\i = .int .i64 k/\wr=w.drewN m) (fun i _=>n-(intOf i).toNat)
 case atStart=>exact⟨0,0,qo,rfl,rfl⟩
 case round =>
  obtain⟨k,m,hk,rfl,rfl⟩:=hrel
  by_cases hlt:k<n
  ·obtain⟨x,hx⟩:∃ x,l[k]?=some x:=⟨_,List.getElem?_eq_getElem (by rw[HN.o];exact hlt)⟩
   cases A with
   | none=>exact absurd HN.o (by rw[(HNO.o rfl).1];simp;omega)
   | some ad =>
    cases B with
    | none=>exact absurd HN.o (by rw[(HNP.o rfl).1];simp;omega)
    | some bd =>
     have c1:=(HC.o ad rfl).2 k x hx
     have c2:=(HD.o bd rfl).2 k x hx
     clear hx
     go_wp2
     go_quiet (fail)
     go_wp2
     go_roundw
     case rel=>exact⟨k+1,_,qo,by go_num,rfl⟩
     case measure=>simp[intOf];omega
  ·go_wp2
   go_ret
   exact⟨rfl,m,rfl⟩
theorem qJ2 (U V:Nat->Sl)(Z:Nat->List Int)(w:World)(hU:PkV w U Z)(hV:PkV w V Z) :
  Calls Tryz.prog 13 #[.agg (pkC U),.agg (pkC V)] w fun e w'=>e = .returned (.bool true)/\Below w.heap.size w w':=by
 have HG:=qh ((Held.new w 36 (pkC U)).alloc (.cells (pkC V) 36))
 have HR:=qh (Held.new2 w (.cells (pkC U) 36) 36 (pkC V))
 have HB:=qh (Bnew (Bnew (B0 w) (.cells (pkC U) 36)) (.cells (pkC V) 36))
 have HPU:=qh hU
 have HPV:=qh hV
 clear hU hV
 go_enter Tryz.func13,Tryz.ntmps13
 go_wp2
 go_loopw [5] (fun u5 wr=>∃ k:Nat,k<=9/\u5 = .int .i64 (k:Int)/\qH (Held wr w.heap.size 36 (pkC U))/\qH (Held wr (w.heap.size+1) 36 (pkC V))/\qH (Below w.heap.size w wr)) (fun u5 _=>9-(intOf u5).toNat)
 case atStart=>exact⟨0,qo,rfl,HG,HR,HB⟩
 case round =>
  clear HG HR HB
  obtain⟨k,hk,rfl,HG,HR,HB⟩:=hrel
  by_cases hlt:k<9
  ·have hki:(k:Int)<9:=qo
   go_wp2_with fail
   replace HG:=qh (HG.o.keep (Bdrew (B0 _)))
   replace HR:=qh (HR.o.keep (Bdrew (B0 _)))
   replace HB:=qh (Bgo HB.o (Bdrew (B0 _)))
   refine wp_region_held_drew (S:=(fun w'=>w'.cell? ⟨w.heap.size,k,none⟩=some (.slice (U k).a (U k).n (U k).c)/\w'.cell? ⟨w.heap.size+1,k,none⟩=some (.slice (V k).a (V k).n (V k).c))) qr ?_ (fun hHeld=>?_)
   ·(try dsimp only)
    first|exact⟨HG.o.pk hlt,HR.o.pk hlt⟩|exact hHeld
   refine Ro3 ?_
   refine tkz 3 ?_
   refine tkz 4 ?_
   refine tkz 5 ?_
   refine rdz 6 fun K hK=>?_
   go_simp
   refine(qHi (Z k) (U k).v (V k).v _ ((HPU.o k hlt).below HB.o) ((HPV.o k hlt).below HB.o)).mono ?_
   rintro e w9 ⟨rfl,m9,hw9⟩
   replace HG:=qh (HG.o.keep (show Below _ _ w9 by rw[hw9];exact Bdraw (B0 _) m9))
   replace HR:=qh (HR.o.keep (show Below _ _ w9 by rw[hw9];exact Bdraw (B0 _) m9))
   replace HB:=qh (Bgo HB.o (show Below _ _ w9 by rw[hw9];exact Bdraw (B0 _) m9))
   clear hw9
   refine qk ?_ (fun hHeld=>?_)
   ·first|exact⟨HG.o.pk hlt,HR.o.pk hlt⟩|exact hHeld
   clear hK K
   refine tkz 7 ?_
   refine dnz ?_
   go_wp2_with fail
   go_roundw
   case rel=>exact⟨k+1,qo,by go_num,HG,HR,HB⟩
   case measure=>simp[intOf];omega
  ·obtain rfl:k=9:=qo
   go_wp2
   go_ret
   exact⟨rfl,HB.o⟩
end
section
def exA:Vst:=(allocI 82 qEr 1 8 10 0 [] freshS).2
def exB:Vst:=(allocI 82 qEr 1 8 10 0 [1120,1088,1056] exA).2
theorem qZn:allocI 82 qEr 1 8 10 0 [] freshS=(some (1024,[1120,1088,1056]),exA):=by
 have h:(allocI 82 qEr 1 8 10 0 [] freshS).1=some (1024,[1120,1088,1056]):=by decide +kernel
 unfold exA
 rw[<- h]
theorem qZw:allocI 82 qEr 1 8 10 0 [1120,1088,1056] exA=(some (1056,[1120,1088]),exB):=by
 have h:(allocI 82 qEr 1 8 10 0 [1120,1088,1056] exA).1=some (1056,[1120,1088]):=by decide +kernel
 unfold exB
 rw[<- h]
theorem qNt:AlOk 82 qEr 1 8 10 0 [] freshS where
 few:=Nat.zero_le _
 spot a h:=by simp at h
 pick p m h:=by
  have e:(pickI 82 qEr 1 8 10 0 4 freshS).1=some (0,[0,1,2,3]):=by decide +kernel
  rw[e] at h
  injection h with h
  injection h with h1 h2
  subst h2
  exact⟨by decide,by decide,by decide⟩
theorem qGq:AlOk 82 qEr 1 8 10 0 [1120,1088,1056] exA where
 few:=by decide
 spot a h:=by
  have h:some 1056=some a:=h
  injection h with h
  subst h
  exact⟨by decide +kernel,by decide +kernel,0,1,by decide +kernel,by decide +kernel,by decide⟩
 pick p m h:=by
  obtain⟨x,hx⟩:∃ x,(pickI 82 qEr 1 8 10 0 4 exA).1=x:=⟨_,rfl⟩
  have e:(match (pickI 82 qEr 1 8 10 0 4 exA).1 with|some (_,l)=>decide (1<=l.length)&&decide (l.length<=4)&&l.all (fun i=>decide (i<32))|none=>true)=true:=by decide +kernel
  rw[h] at e
  simp only[Bool.and_eq_true,decide_eq_true_eq,List.all_eq_true] at e
  exact⟨e.1.1,e.1.2,fun i hi=>by simpa using e.2 i hi⟩
theorem qO4 (w:World):PkV w zeroU (fun _ => []):=fun k hk=>⟨none,0,rfl,Nat.le_refl _,Nat.zero_le _,fun z hz=>by simp at hz,fun _=>⟨rfl,rfl⟩,fun ad e=>by cases e⟩
theorem qKo (w:World)(hT:SlotsLaid w):Calls Tryz.prog 8 #[] w fun e w'=>e = .returned (.bool true)/\Below w.heap.size w w':=by
 have HTL:=qh hT
 have HXA:=qh qZn
 have HXB:=qh qZw
 have HOA:=qh qNt
 have HOB:=qh qGq
 clear hT
 go_enter Tryz.func8,Tryz.ntmps8
 go_wp2_with fail
 refine(qGI _).mono ?_
 rintro e w1 ⟨g,rfl,hg,hb⟩
 have HG:=qh (hg.alloc (.cells #[.int .i64 1,.int .i64 8,.int .i64 10] 23))
 have HC:=qh (Held.new w1 23 #[.int .i64 1,.int .i64 8,.int .i64 10])
 have HB:=qh (Bnew hb (.cells #[.int .i64 1,.int .i64 8,.int .i64 10] 23))
 clear hg hb
 obtain⟨x0,x1,x2⟩:=HC.o.three
 go_wp2_with fail
 generalize hNC:w1.heap.size=NC at *
 generalize hW1:w1.alloc (.cells #[.int .i64 1,.int .i64 8,.int .i64 10] 23)=W1 at *
 clear hNC hW1
 refine(qWm (some ⟨g,0,none⟩) 82 ex14L 82 qOo qo qDC _ (fun _=>⟨_,rfl,qGe HG.o⟩)).mono ?_
 rintro e w3 ⟨b,o,rfl,hI,hB⟩
 have HD:=qh (qAg (W:=w) (G:=fun i=>i=NC) hI HB.o.size (Bgo HB.o hB) (fun i hi=>by
  have h1:=HC.o.lt
  have h3:=hB.size
  rcases hi with rfl
  exact⟨qo,fun x=>by have:=hI.ge _ x;omega⟩))
 replace HC:=qh (HC.o.keep hB)
 rw[show (fun i=>ex14L[i]?)=qEr from rfl] at HD
 clear hI hB HB HG
 clear x0 x1 x2
 obtain⟨x0,x1,x2⟩:=HC.o.three
 go_wp2_with fail
 refine(qLs (t:=1) (q:=8) (s:=10) qo qo 0 qo qo (fun _=>HOA.o) (HD.o.slots HTL.o).1 (HD.o.slots HTL.o).2.1 (U:=zeroU) (Z:=fun _ => []) (qO4 _) (fun i hi=>by obtain⟨_,_,_,_,hz,_⟩:=hi;exact absurd rfl hz) HD.o.i1).mono ?_
 rintro e w4 ⟨V,rfl,hl,_⟩
 rw[HXA.o] at hl ⊢
 dsimp only[alV,alZ,Option.isSome] at hl ⊢
 obtain⟨A4,hD4,hV,hS⟩:=HD.o.pkt1 (qO4 _) (fun i hi=>by obtain⟨_,_,_,_,hz,_⟩:=hi;exact absurd rfl hz) hl
 replace HC:=qh (hS.held rfl HC.o)
 have HV:=qh hV
 obtain⟨Y,hY⟩:∃ Y:Nat->List Int,updF (fun _ => []) (0:Int).toNat [1120,1088,1056]=Y:=⟨_,rfl⟩
 have hY0:Y 0 = [1120,1088,1056]:=by rw[<- hY];rfl
 rw[hY] at hD4 HV
 have HY0:=qh hY0
 clear hl hV hS x0 x1 x2 hY hY0 HD
 have HD:=qh (hD4.keep2 (G':=fun i=>(i=NC\/PB V Y i)\/i=w4.heap.size) (Bnew (B0 w4) (.cells (pkC V) 36)) (fun i x=>by
  rcases x with x|x
  ·exact .inl x
  ·subst x;exact .inr ⟨Nat.le_refl _,by simp⟩))
 have HP:=qh (Held.new w4 36 (pkC V))
 replace HV:=qh (HV.o.below (Bnew (B0 w4) (.cells (pkC V) 36)))
 replace HC:=qh (HC.o.alloc (.cells (pkC V) 36))
 obtain⟨x0,x1,x2⟩:=HC.o.three
 obtain⟨p0,p1,p2,p3,p4,p5,p6,p7,p8⟩:=HP.o.nineP
 clear hD4
 go_wp2_with fail
 generalize hNP:w4.heap.size=NP at *
 generalize hW5:w4.alloc (.cells (pkC V) 36)=w5 at *
 clear hNP hW5
 refine(qLs (t:=1) (q:=8) (s:=10) qo qo 0 qo qo (fun _=>by show AlOk _ _ _ _ _ _ (Y 0) _;rw[HY0.o];exact HOB.o) (HD.o.slots HTL.o).1 (HD.o.slots HTL.o).2.1 HV.o (fun i hi=>(HD.o.aG i (.inl (.inr hi))).2.1) HD.o.i1).mono ?_
 rintro e w6 ⟨V2,rfl,hl,_⟩
 rw[show Y (0:Int).toNat = [1120,1088,1056] from HY0.o,HXB.o] at hl ⊢
 dsimp only[alV,alZ,Option.isSome] at hl ⊢
 obtain⟨A6,hD6,hV2,hS⟩:=HD.o.pkt1 HV.o (fun i hi => .inl (.inr hi)) hl
 replace HP:=qh (hS.held (.inr rfl) HP.o)
 have HV6:=qh (HV.o.stay hS.1 (fun i hi=>hS.2 i (.inl (.inr hi)) (hi.lt HV.o)))
 have HB:=qh hD6.bel
 clear hl hV2 hS x0 x1 x2 p0 p1 p2 p3 p4 p5 p6 p7 p8 hD6 HD HV HC
 have HP2:=qh (HP.o.alloc (.cells (pkC V2) 36))
 have HV7:=qh (HV6.o.below (Bnew (B0 w6) (.cells (pkC V2) 36)))
 obtain⟨p0,p1,p2,p3,p4,p5,p6,p7,p8⟩:=HP2.o.nineP
 have t9:((1056:Int)==1056)=true:=rfl
 have t10:((1024:Int)==1024)=true:=rfl
 go_wp2_with fail
 have hL1:LongsAt ((w6.alloc (.cells (pkC V2) 36)).alloc (.cells #[.int .i64 1120,.int .i64 1088,.int .i64 1056] 2)) (V 0).v [1120,1088,1056]:=by
  have:=(HV7.o 0 qo).below (Bnew (B0 _) (.cells #[.int .i64 1120,.int .i64 1088,.int .i64 1056] 2))
  rw[HY0.o] at this
  exact this
 have hL2:LongsAt ((w6.alloc (.cells (pkC V2) 36)).alloc (.cells #[.int .i64 1120,.int .i64 1088,.int .i64 1056] 2)) (.slice (some ⟨w6.heap.size+1,0,none⟩) 3 3) [1120,1088,1056]:=by
  have hn:=Held.new2 w6 (.cells (pkC V2) 36) 2 #[.int .i64 1120,.int .i64 1088,.int .i64 1056]
  refine⟨some ⟨w6.heap.size+1,0,none⟩,3,rfl,by decide,by unfold maxLen;omega,by simp,(fun e=>by cases e),fun ad e=>?_⟩
  injection e with e
  subst e
  refine⟨fun _=>hn.lt,fun i z hz=>?_⟩
  match i,hz with
  | 0,hz=>injection hz with hz;subst hz;exact hn.cell 0
  | 1,hz=>injection hz with hz;subst hz;exact hn.cell 1
  | 2,hz=>injection hz with hz;subst hz;exact hn.cell 2
  | i+3,hz=>simp at hz
 refine(qHi [1120,1088,1056] _ _ _ hL1 hL2).mono ?_
 rintro e w7 ⟨rfl,n7,hw7⟩
 have HB7:qH (Below w.heap.size w w7):=qh (by rw[hw7];exact Bdraw (Bnew (Bnew HB.o _) _) n7)
 clear hw7 hL1 hL2 HB HP HP2 HV6 HV7
 go_wp2
 go_ret
 exact⟨rfl,HB7.o⟩
end
section
theorem qXP {parts:List (Int × Int × Int)}{i:Nat}{x:Int × Int × Int}(z:Int)(hx:parts[i]?=some x):pkA (parts.take (i+1)) z=pkA (parts.take i) z++if x.1=4/\x.2.2=z then [x.2.1] else []:=by
 rw[List.take_add_one,hx]
 unfold pkA
 show List.map _ (List.filter _ (parts.take i ++ [x]))=_
 rw[List.filter_append,List.map_append]
 congr 1
 by_cases h:x.1=4/\x.2.2=z
 ·rw[if_pos h,List.filter_cons_of_pos (by simp[h.1,h.2])];rfl
 ·rw[if_neg h,List.filter_cons_of_neg (by simp only[Bool.and_eq_true,decide_eq_true_eq];exact h)];rfl
theorem qRd {Z:Nat->Nat->List Int}{k B:Nat}:∀ {T:Nat},(∀ t,t<T->(Z t k).length<=B)->(haveT Z k T).length<=T*B
 | 0,_=>Nat.zero_le _
 | T+1,h=>by
  unfold haveT
  rw[List.length_append,Nat.add_mul,Nat.one_mul]
  have:=qRd (T:=T) (fun t ht=>h t qo)
  have:=h T qo
  omega
theorem qWf {Z:Nat->Nat->List Int}{k:Nat}{a:Int}:∀ {T:Nat},a∈haveT Z k T->∃ t,t<T/\a∈Z t k
 | 0,h=>by simp[haveT] at h
 | T+1,h=>by
  unfold haveT at h
  rcases List.mem_append.1 h with h|h
  ·obtain⟨t,h1,h2⟩:=qWf h
   exact⟨t,qo,h2⟩
  ·exact⟨T,qo,h⟩
theorem qEb {l:List (Int × Int × Int)}{i:Nat}{xk xa xz z:Int}(hx:l[i]?=some (xk,xa,xz))(h4:xk=4)(hz:xz=z):xa∈pkA l z:=by
 unfold pkA
 exact List.mem_map.2 ⟨_,List.mem_filter.2 ⟨List.mem_of_getElem? hx,by simp[h4,hz]⟩,rfl⟩
theorem qJ9 (l:List (Int × Int × Int))(z:Int):(pkA l z).length<=l.length:=by unfold pkA;rw[List.length_map];exact List.length_filter_le _ _
theorem qCb {parts:List (Int × Int × Int)}{sz:Nat->Int}{T B:Nat}{Z:Nat->Nat->List Int}{m:Nat}(h:∀ k,k<m->(haveT Z k T).length<=B):∀ j:Nat,j<=m -> -((j:Int)*parts.length)<=overN parts sz T Z j/\overN parts sz T Z j<=(j:Int)*B
 | 0,_=>by unfold overN;simp
 | j+1,hj=>by
  obtain⟨h1,h2⟩:=qCb (sz:=sz) h j qo
  have h3:=h j qo
  have h4:=qJ9 parts (sz j)
  unfold overN
  have e1:((j+1:Nat):Int)*(parts.length:Int)=(j:Int)*parts.length+parts.length:=by push_cast;rw[Int.add_mul];omega
  have e2:((j+1:Nat):Int)*(B:Int)=(j:Int)*B+B:=by push_cast;rw[Int.add_mul];omega
  rw[e1,e2]
  generalize (j:Int)*(parts.length:Int)=x1 at *
  generalize (j:Int)*(B:Int)=x2 at *
  omega
theorem qFW (t q s:Int)(A:Option Addr)(n c m:Nat)(A2:Option Addr)(T c2:Nat)(w:World)(hX:XCheckIs w t q s A n c m false) :
  Calls Tryz.prog 26 #[.agg #[.int .i64 t,.int .i64 q,.int .i64 s],.slice A n c,.slice A2 T c2] w fun e w'=>e = .returned (.bool false)/\Below w.heap.size w w':=by
 have HC:=qh (Held.new w 23 #[.int .i64 t,.int .i64 q,.int .i64 s])
 have HB:=qh (Bnew (B0 w) (.cells #[.int .i64 t,.int .i64 q,.int .i64 s] 23))
 have HXX:=qh hX
 clear hX
 obtain⟨x0,x1,x2⟩:=HC.o.three
 go_enter Tryz.func26,Tryz.ntmps26
 go_wp2_with fail
 refine(qHm t q s A n c m false _ (HXX.o.grown HB.o)).mono ?_
 rintro e w2 ⟨rfl,hb⟩
 replace HB:=qh (Bgo HB.o hb)
 clear hb
 go_wp2
 go_ret
 exact⟨rfl,HB.o⟩
theorem qJP (t q s:Int)(A:Option Addr)(n c m:Nat)(A2:Option Addr)(T c2:Nat)(hT:(T:Int)≠t)(w:World)(hX:XCheckIs w t q s A n c m true) :
  Calls Tryz.prog 26 #[.agg #[.int .i64 t,.int .i64 q,.int .i64 s],.slice A n c,.slice A2 T c2] w fun e w'=>e = .returned (.bool false)/\Below w.heap.size w w':=by
 have HC:=qh (Held.new w 23 #[.int .i64 t,.int .i64 q,.int .i64 s])
 have HB:=qh (Bnew (B0 w) (.cells #[.int .i64 t,.int .i64 q,.int .i64 s] 23))
 have HXX:=qh hX
 have t0:((T:Int) != t)=true:=bne_iff_ne.2 hT
 clear hX
 obtain⟨x0,x1,x2⟩:=HC.o.three
 go_enter Tryz.func26,Tryz.ntmps26
 go_wp2_with fail
 refine(qHm t q s A n c m true _ (HXX.o.grown HB.o)).mono ?_
 rintro e w2 ⟨rfl,hb⟩
 replace HC:=qh (HC.o.keep hb)
 replace HB:=qh (Bgo HB.o hb)
 clear hb x0 x1 x2
 obtain⟨x0,x1,x2⟩:=HC.o.three
 go_wp2
 go_ret
 exact⟨rfl,HB.o⟩
theorem qME {H:AuH}{n c:Nat}(HV:HeapV H n c)(ad:Addr)(m:Nat)(A2:Option Addr)(c2:Nat)(U:Nat->Nat->Sl)(Z:Nat->Nat->List Int)(hTc:H.t<=c2)(hc2:c2<=maxLen)
  (sz:Nat->Int) (hsz:∀ k:Nat,k<9->((sizeN (H.s:Int) (k:Int):Nat):Int)=sz k) (hnd:∀ k,k<9->(pkA H.parts (sz k)).Nodup) (b:Bool) (hb:b=true↔FitsP H.parts sz H.t Z)
  (w:World) (hv:IsVals w ad n H.V) (hX:XCheckIs w H.t H.p H.s (some ad) n c m true) (hP:PksAt w A2 H.t U Z) :
  Calls Tryz.prog 26 #[.agg #[.int .i64 (H.t:Int),.int .i64 (H.p:Int),.int .i64 (H.s:Int)],.slice (some ad) n c,.slice A2 H.t c2] w fun e w'=>e = .returned (.bool b)/\Below w.heap.size w w':=by
 have HNO:qH (∀ k,k<9->¬ OnceP H.parts sz H.t Z k->b=false):=qh (fun k hk h=>by
  cases b with
  | false=>rfl
  | true=>exact absurd (((qWH hnd).2 (hb.1 rfl)).1 k hk) h)
 have HYES:qH ((∀ k,k<9->OnceP H.parts sz H.t Z k)->b=(overN H.parts sz H.t Z 9==0)):=qh (fun h=>by
  by_cases h0:overN H.parts sz H.t Z 9=0
  ·rw[hb.2 ((qWH hnd).1 ⟨h,h0⟩),h0];rfl
  ·cases b with
   | false=>symm;simpa using h0
   | true=>exact absurd ((qWH hnd).2 (hb.1 rfl)).2 h0)
 have HC:=qh (Held.new w 23 #[.int .i64 (H.t:Int),.int .i64 (H.p:Int),.int .i64 (H.s:Int)])
 have HB:=qh (Bnew (B0 w) (.cells #[.int .i64 (H.t:Int),.int .i64 (H.p:Int),.int .i64 (H.s:Int)] 23))
 have HXX:=qh hX
 have HVL:=qh hv
 have HPP:=qh hP
 have HSZA:=qh hsz
 obtain⟨l,hpl⟩:∃ l,H.parts=l:=⟨_,rfl⟩
 obtain⟨nl,hnl⟩:∃ nl,l.length=nl:=⟨_,rfl⟩
 have hnum:=HV.nums
 have hT16:H.t<=16:=qo
 have hnb:nl<=60000:=by
  have h2:H.parts.length<=H.p*33:=AuH.parts_len H.p
  rw[hpl,hnl] at h2
  omega
 have HPL:=qh hpl
 have HNL:=qh hnl
 rw[hpl] at HNO HYES
 have t0:((H.t:Int) != (H.t:Int))=false:=by simp
 have s0 : -9223372036854775808<=(H.s:Int):=qo
 clear hb hX hv hP hsz hnl hpl hnd
 obtain⟨x0,x1,x2⟩:=HC.o.three
 go_enter Tryz.func26,Tryz.ntmps26
 go_wp2_with fail
 refine(qHm H.t H.p H.s (some ad) n c m true _ (HXX.o.grown HB.o)).mono ?_
 rintro e w2 ⟨rfl,hb⟩
 replace HC:=qh (HC.o.keep hb)
 replace HB:=qh (Bgo HB.o hb)
 clear hb x0 x1 x2
 obtain⟨x0,x1,x2⟩:=HC.o.three
 go_wp2_with fail
 refine(qAK HV ad m _ (HVL.o.below HB.o) (HXX.o.grown HB.o)).mono ?_
 rintro e w3 ⟨u3,rfl,ho,hb⟩
 rw[HPL.o,HNL.o] at ho
 obtain⟨A1,c1,hu⟩:=qKK ho
 subst hu
 have hcc:=qIZ ho
 generalize w2.heap.size=bs at ho
 have HO:=qh ho
 replace HC:=qh (HC.o.keep hb)
 replace HB:=qh (Bgo HB.o hb)
 clear ho hb x0 x1 x2
 have HIB:qH (∀ k,k<9->∀ z∈haveT Z k H.t,-9223372036854775808<=z/\z<=9223372036854775807):=qh (fun k hk z hz=>by
  obtain⟨t,ht,hz⟩:=qWf hz
  obtain⟨_,_,_,hcs⟩:=HPP.o t ht
  obtain⟨_,_,_,_,_,hb,_⟩:=(hcs k hk).2
  exact hb z hz)
 go_wp2_with fail
 go_loopw [8,9] (fun u8 u9 wr=>∃ (k:Nat) (ov:Int),k<=9/\u9 = .int .i64 (k:Int)/\u8 = .int .i64 ov/\qH (overN l sz H.t Z k=ov)/\qH (∀ j,j<k->OnceP l sz H.t Z j)/\qH (Held wr w.heap.size 23 #[.int .i64 (H.t:Int),.int .i64 (H.p:Int),.int .i64 (H.s:Int)])/\qH (wr.ownsRow bs 128 3 (.slice A1 nl c1) nl (ptVs l))/\qH (Below w.heap.size w wr)) (fun _ u9 _=>9-(intOf u9).toNat)
 case atStart=>exact⟨0,0,qo,rfl,rfl,qh rfl,qh (fun j hj=>absurd hj (Nat.not_lt_zero _)),HC,HO,HB⟩
 case round =>
  clear HC HO HB
  obtain⟨k,ov,hk,rfl,rfl,HOV,HON,HC,HO,HB⟩:=hrel
  by_cases hk9:k<9
  ·go_wp2_with fail
   go_loopw [10] (fun u10 wr2=>∃ t:Nat,t<=H.t/\u10 = .int .i64 (t:Int)/\wr2=wr/\qH (∀ t',t'<t->(Z t' k).length<=4)) (fun u10 _=>H.t-(intOf u10).toNat)
   case atStart=>exact⟨0,qo,rfl,rfl,qh (fun j hj=>absurd hj (Nat.not_lt_zero _))⟩
   case round =>
    obtain⟨t,ht,rfl,rfl,HF4⟩:=hrel
    by_cases htT:t<H.t
    ·obtain⟨ad2,e2,_,hcs⟩:=HPP.o.below HB.o t htT
     obtain⟨hc0,hL⟩:=hcs k hk9
     obtain⟨A3,c3,hu,hlc,hcm2,_,_,_⟩:=hL
     rw[hu] at hc0
     have hc1:=hc0
     rw[<- qUN] at hc1
     obtain⟨n1,hn1⟩:∃ n1,(Z t k).length=n1:=⟨_,rfl⟩
     have HN1:=qh hn1
     have hz:(Z t k).length<=9223372036854775807:=Nat.le_trans hlc (by unfold maxLen at hcm2;omega)
     rw[hn1] at hc0 hc1 hlc hz
     clear hu hn1 hcs
     by_cases h4:n1<=4
     ·have t1:decide ((4:Int)<(n1:Int))=false:=qf
      have t1n:decide (4<n1)=false:=qf
      subst e2
      go_wp2_with fail
      go_roundw
      case rel=>exact⟨t+1,qo,by go_num,by first|rfl|trivial,qh (fun t' h'=>by
       by_cases e:t'=t
       ·subst e;rw[HN1.o];exact h4
       ·exact HF4.o t' qo)⟩
      case measure=>simp[intOf];omega
     ·have t1:decide ((4:Int)<(n1:Int))=true:=qt
      have t1n:decide (4<n1)=true:=qt
      have hf:=HNO.o k hk9 (fun h=>h4 (by rw[<- HN1.o];exact h.1 t htT))
      subst hf
      subst e2
      go_wp2_with fail
      go_ret
      exact⟨rfl,HB.o⟩
    ·obtain rfl:t=H.t:=qo
     go_wp2_with fail
     refine(qXy A2 H.t c2 k U Z qo hk9 (fun t' h'=>Nat.le_trans (HF4.o t' h') qo) hTc hc2 _ (HPP.o.below HB.o)).mono ?_
     rintro e w4 ⟨u4,rfl,ho,hb⟩
     obtain⟨nh,hnh⟩:∃ nh,(haveT Z k H.t).length=nh:=⟨_,rfl⟩
     have hhl:=qRd (Z:=Z) (k:=k) (B:=1000) (T:=H.t) (fun t' ht'=>Nat.le_trans (HF4.o t' ht') qo)
     have HLH:=qh (qUL ho (HIB.o k hk9))
     rw[hnh] at ho hhl
     obtain⟨A4,c4,hu⟩:=qKK ho
     subst hu
     have hcc4:=qIZ ho
     have HV1:=qh ho
     have HNH:=qh hnh
     replace HC:=qh (HC.o.keep hb)
     replace HO:=qh (qEc HO.o hb)
     replace HB:=qh (Bgo HB.o hb)
     have hbd:=qCb (parts:=l) (sz:=sz) (T:=H.t) (B:=16000) (Z:=Z) (m:=k) (fun j hj=>by
      have h5:=qRd (Z:=Z) (k:=j) (B:=1000) (T:=H.t) (fun t ht=>Nat.le_trans ((HON.o j hj).1 t ht) qo)
      omega) k (Nat.le_refl _)
     rw[HNL.o,HOV.o] at hbd
     have hbd1 : -540000<=ov/\ov<=144000:=by
      have g1:(k:Int)*(nl:Int)<=9*60000:=by
       have:k*nl<=9*60000:=Nat.mul_le_mul hk hnb
       omega
      omega
     have v1:IntKind.i64.wrap (ov+(nh:Int))=ov+(nh:Int):=qIv qo qo
     obtain⟨zk,hzk⟩:∃ zk,sz k=zk:=⟨_,rfl⟩
     have HSZ:qH (((sizeN (H.s:Int) (k:Int):Nat):Int)=zk):=qh (by rw[HSZA.o k hk9,hzk])
     have HZK:=qh hzk
     clear ho hb hnh hbd hzk
     go_wp2_with fail
     go_loopw [8,12] (fun u8 u12 wr=>∃ (i:Nat) (v:Int),i<=nl/\u12 = .int .i64 (i:Int)/\u8 = .int .i64 v/\qH (v=ov+(nh:Int)-((pkA (l.take i) zk).length:Int))/\qH (∀ a∈pkA (l.take i) zk,(haveT Z k H.t).count a=1)/\qH (Held wr w.heap.size 23 #[.int .i64 (H.t:Int),.int .i64 (H.p:Int),.int .i64 (H.s:Int)])/\qH (wr.ownsRow bs 128 3 (.slice A1 nl c1) nl (ptVs l))/\qH (LongsAt wr (.slice A4 nh c4) (haveT Z k H.t))/\qH (Below w.heap.size w wr)) (fun _ u12 _=>nl-(intOf u12).toNat)
     case atStart=>exact⟨0,ov+(nh:Int),qo,rfl,rfl,qh (by simp[pkA]),qh (fun a ha=>by simp[pkA] at ha),HC,HO,HLH,HB⟩
     case round =>
      clear HC HO HB HLH HV1
      obtain⟨i,v,hi,rfl,rfl,HV0,HQ,HC,HO,HLH,HB⟩:=hrel
      by_cases hlt:i<nl
      ·obtain⟨x,hx⟩:∃ x,l[i]?=some x:=⟨_,List.getElem?_eq_getElem (by rw[HNL.o];exact hlt)⟩
       obtain⟨xk,xa,xz⟩:=x
       obtain⟨g,c9,hg,_⟩:=HO.o.form qo
       injection hg with hg3 _ hg4
       subst hg3
       clear hg4
       have HXC:=qh (fun (w':World) (ho:w'.ownsRow bs 128 3 (.slice (some ⟨g,0,none⟩) nl c1) nl (ptVs l))=>(show w'.cell? ⟨g,i*3,none⟩=some (.int .i64 xk)/\w'.cell? ⟨g,i*3+1,none⟩=some (.int .i64 xa)/\w'.cell? ⟨g,i*3+2,none⟩=some (.int .i64 xz) from
        ⟨by rw[ho.cellAt (i*3) qo];exact(qPO l i _ hx).1,by rw[ho.cellAt (i*3+1) qo];exact(qPO l i _ hx).2.1,by rw[ho.cellAt (i*3+2) qo];exact(qPO l i _ hx).2.2⟩))
       have HPK:=qh (qXP zk hx)
       have hpl:=qJ9 (l.take i) zk
       rw[List.length_take] at hpl
       have hv0:=HV0.o
       have hvb : -700000<=v/\v<=700000:=qo
       have HME:qH (xk=4->xz=zk->xa∈pkA l zk):=qh (fun e1 e2=>qEb hx e1 e2)
       obtain⟨cn,hcn⟩:∃ cn,(haveT Z k H.t).count xa=cn:=⟨_,rfl⟩
       have HCT:=qh hcn
       have hcb:cn<=nh:=by rw[<- hcn,<- HNH.o];exact List.count_le_length
       clear hx hv0 hpl hcn
       obtain⟨x0,x1,x2⟩:=HC.o.three
       by_cases h4:xk=4
       ·have t4:(xk==4)=true:=by simpa using h4
        by_cases h5:xz=zk
        ·have t5:(xz==zk)=true:=by simpa using h5
         rw[if_pos ⟨h4,h5⟩] at HPK
         have HMM:=qh (HME.o h4 h5)
         clear h4 h5
         by_cases h6:cn=1
         ·have t6:((cn:Int) != 1)=false:=by rw[bne_eq_false_iff_eq];omega
          have t6n:(cn != 1)=false:=by rw[bne_eq_false_iff_eq];exact h6
          have v2:IntKind.i64.wrap (v-1)=v-1:=qIv qo qo
          have HC1:qH ((haveT Z k H.t).count xa=1):=qh (by rw[HCT.o];exact h6)
          clear h6
          go_wp2_with fail
          refine Rjz ?_;clear HC HO HLH HB;intro HC HO HLH HB hHeld
          refine RMZ ?_;clear HC HO HLH HB;intro w9 HC HO HLH HB hHeld
          refine tkz 17 ?_
          refine dnz ?_
          clear x0 x1 x2
          obtain⟨x0,x1,x2⟩:=HC.o.three
          obtain⟨y0,y1,y2⟩:=HXC.o _ HO.o
          go_wp2_with fail
          refine(qBi (.slice A4 nh c4) (haveT Z k H.t) xa nh HNH.o qo _ HLH.o).mono ?_
          rintro e w8 ⟨rfl,rfl⟩
          rw[HCT.o]
          go_wp2_with fail
          go_roundw
          case rel=>exact⟨i+1,v-1,qo,by go_num,rfl,qh (by rw[HPK.o,List.length_append,HV0.o];simp only[List.length_cons,List.length_nil];omega),qh (fun a ha=>by
           rw[HPK.o] at ha
           rcases List.mem_append.1 ha with ha|ha
           ·exact HQ.o a ha
           ·rw[List.mem_singleton] at ha;rw[ha];exact HC1.o),HC,HO,HLH,HB⟩
          case measure=>simp[intOf];omega
         ·have t6:((cn:Int) != 1)=true:=by rw[bne_iff_ne];omega
          have t6n:(cn != 1)=true:=by rw[bne_iff_ne];exact h6
          have hf:=HNO.o k hk9 (fun h=>h6 (by rw[<- HCT.o];exact h.2 xa (by rw[HZK.o];exact HMM.o)))
          subst hf
          clear h6
          go_wp2_with fail
          refine Rjz ?_;clear HC HO HLH HB;intro HC HO HLH HB hHeld
          refine RMZ ?_;clear HC HO HLH HB;intro w9 HC HO HLH HB hHeld
          refine tkz 17 ?_
          refine dnz ?_
          clear x0 x1 x2
          obtain⟨x0,x1,x2⟩:=HC.o.three
          obtain⟨y0,y1,y2⟩:=HXC.o _ HO.o
          go_wp2_with fail
          refine(qBi (.slice A4 nh c4) (haveT Z k H.t) xa nh HNH.o qo _ HLH.o).mono ?_
          rintro e w8 ⟨rfl,rfl⟩
          rw[HCT.o]
          go_wp2_with fail
          go_ret
          exact⟨rfl,HB.o⟩
        ·have t5:(xz==zk)=false:=by simpa using h5
         rw[if_neg (fun h=>h5 h.2),List.append_nil] at HPK
         clear h4 h5
         go_wp2_with fail
         refine Rjz ?_;clear HC HO HLH HB;intro HC HO HLH HB hHeld
         refine RMZ ?_;clear HC HO HLH HB;intro w9 HC HO HLH HB hHeld
         exact Mr2
       ·have t4:(xk==4)=false:=by simpa using h4
        rw[if_neg (fun h=>h4 h.1),List.append_nil] at HPK
        clear h4
        go_wp2_with fail
        refine Rjz ?_;clear HC HO HLH HB;intro HC HO HLH HB hHeld
        refine skz 7 ?_
        refine skz 8 ?_
        refine skz 9 ?_
        refine RKv ?_
        refine skz 15 ?_
        refine skz 16 ?_
        exact Mr2
      ·obtain rfl:i=nl:=qo
       have HE:qH (l.take i=l):=qh (List.take_of_length_le (by rw[HNL.o];exact Nat.le_refl _))
       go_wp2_with fail
       go_roundw
       case rel=>exact⟨k+1,v,qo,by go_num,rfl,qh (by
        show overN l sz H.t Z k+((haveT Z k H.t).length:Int)-((pkA l (sz k)).length:Int)=v
        rw[HV0.o,HE.o,HOV.o,HNH.o,HZK.o]),qh (fun j hj=>by
        by_cases e:j=k
        ·subst e
         exact⟨HF4.o,fun a ha=>HQ.o a (by rw[HE.o];rw[HZK.o] at ha;exact ha)⟩
        ·exact HON.o j qo),HC,HO,HB⟩
       case measure=>simp[intOf];omega
  ·obtain rfl:k=9:=qo
   have hf:=HYES.o HON.o
   rw[HOV.o] at hf
   subst hf
   go_wp2
   go_ret
   exact⟨rfl,HB.o⟩
end
section
theorem qJp (t q s:Int)(A:Option Addr)(n c:Nat)(A2:Option Addr)(T c2:Nat)(t0 k0 pg sl:Int)(h:64<q)(W:World):Calls Tryz.prog 7 #[.agg #[.int .i64 t,.int .i64 q,.int .i64 s],.slice A n c,.agg #[.slice A2 T c2,.int .i64 t0,.int .i64 k0,.int .i64 pg,.int .i64 sl]] W (fun e w'=>e = .returned (.bool false)/\Below W.heap.size W w'):=by
 have t2:decide (q<=(64:Int))=false:=qf
 exact MrY
theorem qKs (t q s:Int)(A:Option Addr)(n c:Nat)(A2:Option Addr)(T c2:Nat)(t0 k0 pg sl:Int)(h1:q<=64)(hc:T<=9223372036854775807)(h:16<T)(W:World):Calls Tryz.prog 7 #[.agg #[.int .i64 t,.int .i64 q,.int .i64 s],.slice A n c,.agg #[.slice A2 T c2,.int .i64 t0,.int .i64 k0,.int .i64 pg,.int .i64 sl]] W (fun e w'=>e = .returned (.bool false)/\Below W.heap.size W w'):=by
 have t2:decide (q<=(64:Int))=true:=qt
 have t3:decide ((T:Int)<=(16:Int))=false:=qf
 have t3n:decide (T<=16)=false:=qf
 exact MrY
theorem qKG (t q s:Int)(A:Option Addr)(n c:Nat)(A2:Option Addr)(T c2:Nat)(t0 k0 pg sl:Int)(h1:q<=64)(h2:T<=16)(h:t0<0)(W:World):Calls Tryz.prog 7 #[.agg #[.int .i64 t,.int .i64 q,.int .i64 s],.slice A n c,.agg #[.slice A2 T c2,.int .i64 t0,.int .i64 k0,.int .i64 pg,.int .i64 sl]] W (fun e w'=>e = .returned (.bool false)/\Below W.heap.size W w'):=by
 refine R2K ?_;intro t2 t3 t3n
 have t4:decide ((0:Int)<=t0)=false:=qf
 exact MrY
theorem qHQ (t q s:Int)(A:Option Addr)(n c:Nat)(A2:Option Addr)(T c2:Nat)(t0 k0 pg sl:Int)(h1:q<=64)(h2:T<=16)(h3:0<=t0)(h:(T:Int)<=t0)(W:World):Calls Tryz.prog 7 #[.agg #[.int .i64 t,.int .i64 q,.int .i64 s],.slice A n c,.agg #[.slice A2 T c2,.int .i64 t0,.int .i64 k0,.int .i64 pg,.int .i64 sl]] W (fun e w'=>e = .returned (.bool false)/\Below W.heap.size W w'):=by
 refine R2K ?_;intro t2 t3 t3n
 have t4:decide ((0:Int)<=t0)=true:=qt
 have t5:decide (t0<(T:Int))=false:=qf
 exact MrY
theorem qOw (t q s:Int)(A:Option Addr)(n c:Nat)(A2:Option Addr)(T c2:Nat)(t0 k0 pg sl:Int)(W:World)(h1:q<=64)(h2:T<=16)(h3:0<=t0)(h4:t0<(T:Int))(b:Bool)(HF:∀ w,Below W.heap.size W w->Calls Tryz.prog 26 #[.agg #[.int .i64 t,.int .i64 q,.int .i64 s],.slice A n c,.slice A2 T c2] w fun e w'=>e = .returned (.bool b)/\Below w.heap.size w w')  : Calls Tryz.prog 7 #[.agg #[.int .i64 t,.int .i64 q,.int .i64 s],.slice A n c,.agg #[.slice A2 T c2,.int .i64 t0,.int .i64 k0,.int .i64 pg,.int .i64 sl]] W (fun e w'=>e = .returned (.bool b)/\Below W.heap.size W w'):=by
 refine R2K ?_;intro t2 t3 t3n
 have t4:decide ((0:Int)<=t0)=true:=qt
 have t5:decide (t0<(T:Int))=true:=qt
 have HG:=qh HF
 clear HF
 refine RYq ?_;intro HC HX HB
 refine RZx ?_;intro x0' x1' x2' y0' y1' y2' y3' y4'
 go_enter Tryz.func7,Tryz.ntmps7
 go_wp2_with fail
 refine(qYU t q s _).mono ?_
 rintro e w1 ⟨rfl,hb⟩
 rw[t2]
 refine RXO ?_;clear HC HX HB hb;intro HC HX HB
 clear x0' x1' x2' y0' y1' y2' y3' y4'
 refine RZx ?_;intro x0' x1' x2' y0' y1' y2' y3' y4'
 go_wp2_with fail
 refine(HG.o _ HB.o).mono ?_
 rintro e w2 ⟨rfl,hb⟩
 refine RXO ?_;clear HC HX HB hb;intro HC HX HB
 clear x0' x1' x2' y0' y1' y2' y3' y4'
 refine RZx ?_;intro x0' x1' x2' y0' y1' y2' y3' y4'
 cases b
 ·go_wp2
  go_ret
  exact⟨rfl,HB.o⟩
 go_wp2
 go_ret
 exact⟨rfl,HB.o⟩
theorem qOg (t q s:Int)(A:Option Addr)(c:Nat)(vals:List Nat)(hnc:vals.length<=c)(hcm:c<=maxLen)(h32:∀ x∈vals,x<2^32)(A2:Option Addr)(T c2:Nat)(t0 k0 pg sl:Int)(U:Nat->Nat->Sl)(Z:Nat->Nat->List Int)(hTc:T<=c2)(hc2:c2<=maxLen)(W:World)(HP:PksAt W A2 T U Z)(HR:Reads W W.heap.size 1 A vals.length (valVs vals)) :
  (∀ w,Below W.heap.size W w->Calls Tryz.prog 7 #[.agg #[.int .i64 t,.int .i64 q,.int .i64 s],.slice A vals.length c,.agg #[.slice A2 T c2,.int .i64 t0,.int .i64 k0,.int .i64 pg,.int .i64 sl]] w fun e w'=>e = .returned (.bool false)/\Below w.heap.size w w') \/
  ∃ (H:AuH) (ad:Addr) (m i0:Nat) (L:Nat->List Nat),t=H.t/\q=H.p/\s=H.s/\A=some ad/\t0=(i0:Int)/\T=H.t/\i0<H.t/\H.p<=64/\(∀ i,H.V i=vals.getD i 0)/\HeapV H vals.length c/\IsVals W ad vals.length H.V/\(∀ i,i<10->H.rule i)/\H.Ok L/\XCheckIs W H.t H.p H.s (some ad) vals.length c m true/\FitsP H.parts (szH H) H.t Z /\
   ∀ w,Below W.heap.size W w->Calls Tryz.prog 7 #[.agg #[.int .i64 t,.int .i64 q,.int .i64 s],.slice A vals.length c,.agg #[.slice A2 T c2,.int .i64 t0,.int .i64 k0,.int .i64 pg,.int .i64 sl]] w fun e w'=>e = .returned (.bool true)/\Below w.heap.size w w':=by
 have hc3:T<=9223372036854775807:=by unfold maxLen at hc2;omega
 by_cases hq:64<q
 ·exact .inl fun w _=>qJp t q s A _ c A2 T c2 t0 k0 pg sl hq w
 by_cases hT:16<T
 ·exact .inl fun w _=>qKs t q s A _ c A2 T c2 t0 k0 pg sl qo hc3 hT w
 by_cases h3:t0<0
 ·exact .inl fun w _=>qKG t q s A _ c A2 T c2 t0 k0 pg sl qo qo h3 w
 by_cases h4:(T:Int)<=t0
 ·exact .inl fun w _=>qHQ t q s A _ c A2 T c2 t0 k0 pg sl qo qo qo h4 w
 have go:∀ b:Bool,(∀ w,Below W.heap.size W w->Calls Tryz.prog 26 #[.agg #[.int .i64 t,.int .i64 q,.int .i64 s],.slice A vals.length c,.slice A2 T c2] w fun e w'=>e = .returned (.bool b)/\Below w.heap.size w w') ->
   ∀ w,Below W.heap.size W w->Calls Tryz.prog 7 #[.agg #[.int .i64 t,.int .i64 q,.int .i64 s],.slice A vals.length c,.agg #[.slice A2 T c2,.int .i64 t0,.int .i64 k0,.int .i64 pg,.int .i64 sl]] w fun e w'=>e = .returned (.bool b)/\Below w.heap.size w w':=fun b hF w hb =>
  qOw t q s A _ c A2 T c2 t0 k0 pg sl w qo qo qo qo b fun w' hb'=>hF w' (Bgo hb hb')
 rcases qXV W t q s A c vals hnc hcm h32 HR with ⟨m,hX⟩|⟨H,ad,m,rfl,rfl,rfl,rfl,hV,HV,hv,hto,hX⟩
 ·exact .inl (go false fun w hb=>qFW t q s A _ c m A2 T c2 w (hX.grown hb))
 ·by_cases hTt:T=H.t
  ·subst hTt
   have ht:H.Tiled:=qAW hto 1 qo
   have hcon:=AuH.parts_contig HV ht
   have hnd:∀ k:Nat,k<9->(pkA H.parts (szH H k)).Nodup:=fun k _=>qEy hcon _
   by_cases hF:FitsP H.parts (szH H) H.t Z
   ·obtain⟨L,hok⟩:=AuH.okL_of (by have:=HV.nums;omega) (qAW hto)
    obtain⟨i0,rfl⟩:=Int.eq_ofNat_of_zero_le (show 0<=t0 by omega)
    exact .inr ⟨H,ad,m,i0,L,rfl,rfl,rfl,rfl,rfl,rfl,qo,qo,hV,HV,hv,qAW hto,hok,hX,hF,go true fun w hb=>qME HV ad m A2 c2 U Z hTc hc2 (szH H) (fun _ _=>rfl) hnd true ⟨fun _=>hF,fun _=>rfl⟩ w (hv.below hb) (hX.grown hb) (HP.below hb)⟩
   ·exact .inl (go false fun w hb=>qME HV ad m A2 c2 U Z hTc hc2 (szH H) (fun _ _=>rfl) hnd false ⟨(fun h=>by cases h),fun h=>absurd h hF⟩ w (hv.below hb) (hX.grown hb) (HP.below hb))
  ·exact .inl (go false fun w hb=>qJP H.t H.p H.s (some ad) _ c m A2 T c2 qo w (hX.grown hb))
end
section
section
variable {n c : Nat} {K : Nat -> Option Nat} {p k : Nat}
theorem qRx (h32:∀ i x,K i=some x->x<2^32):∀ (r:List Nat) (m:Nat) {H:AuH} {st:Vst} {L:Nat->List Nat},HeapV H n c->H.Ok L->Work H.t H.p H.s n K st L H.V->(∀ j∈r,H.hand p j)->H.Cl p=(k:Int)->r.Nodup->m<r.length ->
  (∀ j,1<=j->j<=m->VOk n (gives n K H.t H.p H.s p (r.take j) st))->(infoOf n K H.t H.p H.s p (gives n K H.t H.p H.s p (r.take m) st)).2.2.1=(k:Int)
 | [],m,H,st,L,HV,h,W,hh,hc,hnd,hm,hvs=>absurd hm (Nat.not_lt_zero _)
 | i :: r,0,H,st,L,HV,h,W,hh,hc,hnd,hm,hvs=>by
  have h0:=hh i (List.mem_cons_self ..)
  obtain⟨e,_⟩:=qIY HV h W (qCi h0.1 h0.2.1 h0.2.2.2.1 h0.2.2.2.2)
  show (infoOf n K H.t H.p H.s p st).2.2.1=(k:Int)
  rw[e]
  exact hc
 | i :: r,m+1,H,st,L,HV,h,W,hh,hc,hnd,hm,hvs=>by
  have h0:=hh i (List.mem_cons_self ..)
  have hnd2:=List.nodup_cons.1 hnd
  obtain⟨_,L1,w1,P,g1,W1⟩:=qIY HV h W (qCi h0.1 h0.2.1 h0.2.2.2.1 h0.2.2.2.2)
  have hv1:VOk n (giveS n K H.t H.p H.s p i st):=hvs 1 (Nat.le_refl _) qo
  have HV1:=qN5 HV hv1 h32 HV.cap HV.max
  have hh1:∀ x∈r,(nowH H n K (giveS n K H.t H.p H.s p i st)).hand p x:=fun x hx=>by
   exact MZ3
  have hm2:m<r.length:=by simpa using hm
  have hne:∃ x,x∈r:=by
   cases r with
   | nil=>simp at hm2
   | cons x r=>exact⟨x,List.mem_cons_self ..⟩
  obtain⟨x0,hx0⟩:=hne
  have hcl:=(P.cls_ p h0.1 h0.2.1 (hh1 x0 hx0).2.1).1
  have hc1:(nowH H n K (giveS n K H.t H.p H.s p i st)).Cl p=(k:Int):=hcl.trans hc
  have W1':Work (nowH H n K (giveS n K H.t H.p H.s p i st)).t (nowH H n K (giveS n K H.t H.p H.s p i st)).p (nowH H n K (giveS n K H.t H.p H.s p i st)).s n K (giveS n K H.t H.p H.s p i st) L1 (nowH H n K (giveS n K H.t H.p H.s p i st)).V:=W1.again
  have:=qRx h32 r m HV1 P.ok W1' hh1 hc1 hnd2.2 hm2 (fun j j1 j2=>by
   have:=hvs (j+1) qo qo
   exact this)
  exact this
end
section
variable {H : AuH} {n c : Nat} {K : Nat -> Option Nat} {st : Vst} {L : Nat -> List Nat} {T t0 k p i : Nat} {Z : Nat -> Nat -> List Int} {a : Int}
theorem qM9 (HV:HeapV H n c)(F:FitsP H.parts (szH H) T Z)(ht:t0<T)(hk:k<9){b:Int}(hb:b∈Z t0 k) :
  spotB H.t H.p H.s b=true/\slotB H.t H.p H.s (k:Int) (spotO H.t H.p H.s b)=true/\∃ p i:Nat,spotP H.t H.p H.s b=(p:Int)/\slotR H.t H.p H.s (k:Int) (spotO H.t H.p H.s b)=(i:Int)/\i<32/\p<H.p:=by
 obtain⟨q,i,hq,hc,e⟩:=qQm HV F ht hk hb
 have A:=qQ7 HV hq
 subst e
 have h1:=A.isB
 have h2:=A.slot
 rw[hc] at h1 h2
 exact⟨A.spot,h1,q,i,A.page,h2,Nat.lt_of_lt_of_le hq.2.2.1 (qWU _),hq.1⟩
theorem qP8 (HV:HeapV H n c)(h:H.Ok L)(W:Work H.t H.p H.s n K st L H.V)(h32:∀ i x,K i=some x->x<2^32)(F:FitsP H.parts (szH H) T Z)(ht:t0<T)(hk:k<9)(ha:(Z t0 k).getLast?=some a) :
  ∃ p,FlOk n K H.t H.p H.s (k:Int) (Z t0 k) a p (isF H.t H.p H.s (k:Int) (Z t0 k) p) st:=by
 obtain⟨p,i,r,hp,ep,em,hh,hc,hnd,eon,hperm⟩:=qZo HV h F ht hk rfl ha
 have hP:=HV.fit.nums
 have em':isF H.t H.p H.s (k:Int) (Z t0 k) p=i :: r:=em
 refine⟨p,ha,Nat.le_trans (F.few k hk t0 ht) qo,ep,qo,fun b hb=>?_,by rw[eon];simp,by rw[em',eon,List.length_map],fun j b hb=>?_,fun m hm hv=>?_⟩
 ·obtain⟨g1,g2,_⟩:=qM9 HV F ht hk hb
  exact⟨g1,g2⟩
 ·obtain⟨hb1,hb2⟩:=List.mem_filter.1 (List.mem_of_getElem? hb)
  obtain⟨g1,g2,p',i',g3,g4,g5,_⟩:=qM9 HV F ht hk hb1
  unfold onPg at hb2
  rw[Bool.and_eq_true,decide_eq_true_eq] at hb2
  refine⟨hb2.2,i',?_,g4,g5⟩
  unfold isF
  rw[List.getElem?_map,hb]
  show some (slotR H.t H.p H.s (k:Int) (spotO H.t H.p H.s b)).toNat=some i'
  rw[g4,Int.toNat_natCast]
 ·rw[em'] at hm hv ⊢
  have:=qRx h32 (i :: r) m HV h W hh hc hnd hm hv
  omega
end
end
section
section
variable {W w w' : World} {O1 O2 : Ob} {A B G : Nat -> Prop} {s1 s2 s' : Vst} {U V : Nat -> Sl} {Z Y : Nat -> List Int}
theorem Duo.put (h:Duo W O1 O2 A B G s1 s2 w){i:Nat}(hi:G i)(hw:W.heap.size<=i)(k:Nat)(v:Value):Duo W O1 O2 A B G s1 s2 (w.setCell ⟨i,k,none⟩ v):=by
 have ht:Turns (fun j=>j=i) w (w.setCell ⟨i,k,none⟩ v):=(Turns.of_below (B0 w) (fun j=>j=i)).put (p:=⟨i,k,none⟩) rfl v
 exact⟨O1.turns h.i1 ht (fun j hj e=>(h.aG i hi).2.1 (e ▸ hj)),O2.turns h.i2 ht (fun j hj e=>(h.aG i hi).2.2 (e ▸ hj)),h.ab,fun g hg=>⟨Nat.lt_of_lt_of_le (h.aG g hg).1 ht.size,(h.aG g hg).2⟩,h.lo,ht.below h.bel (fun j e=>by omega)⟩
theorem Duo.putP (h:Duo W O1 O2 A B G s1 s2 w){i:Nat}(hi:G i)(hw:W.heap.size<=i)(V:Nat->Sl):Duo W O1 O2 A B G s1 s2 (setP w i V) :=
 ((((((((h.put hi hw 0 _).put hi hw 1 _).put hi hw 2 _).put hi hw 3 _).put hi hw 4 _).put hi hw 5 _).put hi hw 6 _).put hi hw 7 _).put hi hw 8 _
theorem sizeP (w:World)(g:Nat)(V:Nat->Sl):(setP w g V).heap.size=w.heap.size:=by
 unfold setP
 simp
theorem PkV.putP (h:PkV w U Z){i:Nat}(hi:¬ PB U Z i)(V:Nat->Sl):PkV (setP w i V) U Z :=
 h.stay (by rw[sizeP];exact Nat.le_refl _) fun j hj=>qDL (fun e=>by subst e;exact hi hj) V
def NineAt (w:World) (ad:Addr) (t:Nat) (u:Nat->Sl):Prop :=
 w.cell? (ad.add (t*9))=some (u 0).v/\w.cell? ⟨(ad.add (t*9)).block,(ad.add (t*9)).off+1,none⟩=some (u 1).v/\w.cell? ⟨(ad.add (t*9)).block,(ad.add (t*9)).off+2,none⟩=some (u 2).v/\w.cell? ⟨(ad.add (t*9)).block,(ad.add (t*9)).off+3,none⟩=some (u 3).v/\w.cell? ⟨(ad.add (t*9)).block,(ad.add (t*9)).off+4,none⟩=some (u 4).v/\w.cell? ⟨(ad.add (t*9)).block,(ad.add (t*9)).off+5,none⟩=some (u 5).v/\w.cell? ⟨(ad.add (t*9)).block,(ad.add (t*9)).off+6,none⟩=some (u 6).v/\w.cell? ⟨(ad.add (t*9)).block,(ad.add (t*9)).off+7,none⟩=some (u 7).v/\w.cell? ⟨(ad.add (t*9)).block,(ad.add (t*9)).off+8,none⟩=some (u 8).v
end
section
variable {W w : World} {ad : Addr} {T t : Nat} {U : Nat -> Nat -> Sl} {Z : Nat -> Nat -> List Int}
theorem PksAt.nine (h:PksAt w (some ad) T U Z)(ht:t<T):NineAt w ad t (U t):=by
 obtain⟨ad',e,_,hc⟩:=h t ht
 injection e with e
 subst e
 have g:∀ k,k<9->w.cell? ((ad.add (t*9)).add k)=some (U t k).v:=fun k hk=>by rw[qUN];exact(hc k hk).1
 exact⟨g 0 qo,g 1 qo,g 2 qo,g 3 qo,g 4 qo,g 5 qo,g 6 qo,g 7 qo,g 8 qo⟩
theorem PksAt.pk {A:Option Addr}(h:PksAt w A T U Z)(ht:t<T):PkV w (U t) (Z t):=fun k hk=>by
 obtain⟨ad',e,_,hc⟩:=h t ht
 exact(hc k hk).2
end
end
section
theorem pksInfo:(Tryz.prog.info? 36).map (fun i=>(i.zero,i.size,i.bytes))=some (some (.agg #[.slice none 0 0,.slice none 0 0,.slice none 0 0,.slice none 0 0,.slice none 0 0,.slice none 0 0,.slice none 0 0,.slice none 0 0,.slice none 0 0]),9,216):=by kernel_rfl
def allC (U:Nat->Nat->Sl) (T:Nat):List Value:=(List.range (T*9)).map fun j=>(U (j / 9) (j%9)).v
theorem qOc (U:Nat->Nat->Sl)(T:Nat):(allC U T).length=T*9:=by simp[allC]
theorem qCp (U:Nat->Nat->Sl){T j:Nat}(h:j<T*9):(allC U T)[j]?=some (U (j / 9) (j%9)).v:=by simp[allC,h]
def setL (cs:Array Value) (o:Nat):List Value->Array Value
 | []=>cs
 | v :: l=>setL (cs.setIfInBounds o v) (o+1) l
theorem qNT:∀ (l:List Value) (cs:Array Value) (o j:Nat),o+l.length<=cs.size->(setL cs o l)[j]?=if o<=j/\j<o+l.length then l[j-o]? else cs[j]?
 | [],cs,o,j,h=>by
  unfold setL
  rw[if_neg (by rintro ⟨h1,h2⟩;simp at h2;omega)]
 | v :: l,cs,o,j,h=>by
  have hl:o+1+l.length<=(cs.setIfInBounds o v).size:=by simp at h ⊢;omega
  unfold setL
  rw[qNT l _ (o+1) j hl,List.length_cons]
  rcases Nat.lt_trichotomy j o with h1|h1|h1
  ·rw[if_neg qo,if_neg qo,Array.getElem?_setIfInBounds,if_neg qo]
  ·subst h1
   rw[if_neg qo,if_pos qo,Array.getElem?_setIfInBounds,if_pos rfl,if_pos (by simp at h;omega),Nat.sub_self]
   rfl
  ·by_cases h2:j<o+1+l.length
   ·rw[if_pos qo,if_pos qo]
    obtain⟨d,rfl⟩:∃ d,j=o+1+d:=⟨j-(o+1),qo⟩
    rw[show o+1+d-(o+1)=d by omega,show o+1+d-o=d+1 by omega]
    rfl
   ·rw[if_neg qo,if_neg qo,Array.getElem?_setIfInBounds,if_neg qo]
def setW (w:World) (g o:Nat):List Value->World
 | []=>w
 | v :: l=>setW (w.setCell ⟨g,o,none⟩ v) g (o+1) l
theorem Held.setW {t:TypeId}{g:Nat}:∀ (l:List Value) {w:World} {cs:Array Value} (o:Nat),Held w g t cs->Held (setW w g o l) g t (setL cs o l)
 | [],w,cs,o,h=>h
 | v :: l,w,cs,o,h=>Held.setW l (o+1) (h.put o v)
theorem belowW {g:Nat}{w0:World}(hg:w0.heap.size<=g):∀ (l:List Value) {w:World} (o:Nat),Below w0.heap.size w0 w->Below w0.heap.size w0 (setW w g o l)
 | [],w,o,h=>h
 | v :: l,w,o,h=>belowW hg l (o+1) (Bput h hg v)
theorem qSf (g j:Nat):(⟨g,0,none⟩:Addr).add j=⟨g,j,none⟩:=by
 unfold Addr.add
 by_cases h0:j=0 <;> simp[h0]
abbrev nineL (V:Nat->Sl):List Value := [(V 0).v,(V 1).v,(V 2).v,(V 3).v,(V 4).v,(V 5).v,(V 6).v,(V 7).v,(V 8).v]
theorem qO8 (V:Nat->Sl){k:Nat}(hk:k<9):(nineL V)[k]?=some (V k).v:=by
 rcases(by omega:k=0\/k=1\/k=2\/k=3\/k=4\/k=5\/k=6\/k=7\/k=8) with rfl|rfl|rfl|rfl|rfl|rfl|rfl|rfl|rfl <;> rfl
theorem qKx {w':World}{A:Option Addr}{T i g:Nat}{U:Nat->Nat->Sl}{Z:Nat->Nat->List Int}{V:Nat->Sl}{Y:Nat->List Int}{cs:Array Value}{t:TypeId}(hP:PksAt w' A T U Z)(hV:PkV w' V Y)(hi:i<T)(hh:Held w' g t (setL cs (i*9) (nineL V)))(hs:T*9<=cs.size)(hc:∀ j,j<T*9->cs[j]?=some (U (j / 9) (j%9)).v) :
  PksAt w' (some ⟨g,0,none⟩) T (updF U i V) (updF Z i Y):=fun t' ht=>by
 refine⟨_,rfl,hh.lt,fun k hk=>?_⟩
 rw[qSf,hh.cell,qNT _ _ _ _ (by show i*9+9<=cs.size;omega)]
 by_cases e:t'=i
 ·subst e
  rw[if_pos (by show t'*9<=t'*9+k/\t'*9+k<t'*9+9;omega),qJN,qJN,show t'*9+k-t'*9=k by omega]
  exact⟨qO8 V hk,hV k hk⟩
 ·obtain⟨_,_,_,h3⟩:=hP t' ht
  rw[if_neg (by show ¬ (i*9<=t'*9+k/\t'*9+k<i*9+9);omega),qR2 _ _ e,qR2 _ _ e,hc _ qo,show (t'*9+k) / 9=t' by omega,show (t'*9+k)%9=k by omega]
  exact⟨rfl,(h3 k hk).2⟩
theorem qJF {T:Nat}(hT:T<=16)(ad2:Addr)(c2:Nat)(hTc:T<=c2)(hc2:c2<=maxLen)(i:Nat)(hi:i<T)(k0 pg sl:Int){U:Nat->Nat->Sl}{Z:Nat->Nat->List Int}{V:Nat->Sl}{Y:Nat->List Int}(w:World)(hP:PksAt w (some ad2) T U Z)(hV:PkV w V Y) :
    Calls Tryz.prog 27 #[.agg #[.slice (some ad2) T c2,.int .i64 (i:Int),.int .i64 k0,.int .i64 pg,.int .i64 sl],.agg (pkC V)] w fun e w'=>∃ g c',e = .returned (.slice (some ⟨g,0,none⟩) T c')/\T<=c'/\c'<=maxLen/\PksAt w' (some ⟨g,0,none⟩) T (updF U i V) (updF Z i Y)/\Below w.heap.size w w':=by
  obtain⟨i0,hi0,hz0,hz1,hz2⟩:=info_parts pksInfo
  have HX:=qh ((Held.new w 27 #[.slice (some ad2) T c2,.int .i64 (i:Int),.int .i64 k0,.int .i64 pg,.int .i64 sl]).alloc (.cells (pkC V) 36))
  have HN:=qh (Held.new2 w (.cells #[.slice (some ad2) T c2,.int .i64 (i:Int),.int .i64 k0,.int .i64 pg,.int .i64 sl] 27) 36 (pkC V))
  have HB:=qh (Bnew (Bnew (B0 w) (.cells #[.slice (some ad2) T c2,.int .i64 (i:Int),.int .i64 k0,.int .i64 pg,.int .i64 sl] 27)) (.cells (pkC V) 36))
  have HP:=qh hP
  have HV:=qh hV
  have hc3:c2<=9223372036854775807:=hc2
  have HA:qH (∀ j u,(allC U T)[j]?=some u->w.cell? (ad2.add j)=some u):=qh (fun j u hu=>by
    have hj:j<T*9:=by have:=(List.getElem?_eq_some_iff.1 hu).1;rw[qOc] at this;exact this
    rw[qCp U hj] at hu
    injection hu with hu
    subst hu
    obtain⟨ad,e,_,h3⟩:=HP.o (j / 9) qo
    injection e with e
    subst e
    have:=(h3 (j%9) qo).1
    rw[show j / 9*9+j%9=j by omega] at this
    exact this)
  have HM:qH (World.ownsRow (((w.alloc (.cells #[.slice (some ad2) T c2,.int .i64 (i:Int),.int .i64 k0,.int .i64 pg,.int .i64 sl] 27)).alloc (.cells (pkC V) 36)).alloc (.cells #[] 36)) (w.heap.size+1+1) 36 9 (.slice (some ⟨w.heap.size+1+1,0,none⟩) 0 0) 0 []):=qh (by
    have h:=World.ownsRow_made (base:=w.heap.size+1+1) (size:=9) (e := 36) ((w.alloc (.cells #[.slice (some ad2) T c2,.int .i64 (i:Int),.int .i64 k0,.int .i64 pg,.int .i64 sl] 27)).alloc (.cells (pkC V) 36)) #[] 0 (by simp) (Nat.zero_le _) (by simp)
    rw[show ((w.alloc (.cells #[.slice (some ad2) T c2,.int .i64 (i:Int),.int .i64 k0,.int .i64 pg,.int .i64 sl] 27)).alloc (.cells (pkC V) 36)).heap.size=w.heap.size+1+1 by simp] at h
    exact h)
  clear hP hV
  obtain⟨x0,x1,x2,x3,x4⟩:=HX.o.five'
  obtain⟨y0,y1,y2,y3,y4,y5,y6,y7,y8⟩:=HN.o.nineP
  go_enter Tryz.func27,Tryz.ntmps27
  go_wp2_with (at_builtin
               refine wpList_append_own _ rfl _ _ 25 rfl (w.heap.size+1+1) 36 i0 (.agg #[.slice none 0 0,.slice none 0 0,.slice none 0 0,.slice none 0 0,.slice none 0 0,.slice none 0 0,.slice none 0 0,.slice none 0 0,.slice none 0 0]) 9 216 Tryz.underlying25 hi0 hz0 hz1 hz2 rfl (by decide) _ 0 [] rfl HM.o ad2 T c2 (allC U T) rfl ?c1 ?c2 ?c3 ?c4 ?c5 ?c6 ?_)
  case c1=>exact qOc U T
  case c2=>exact fun j u hj=>Lib.cell?_alloc_some _ (Lib.cell?_alloc_some _ (Lib.cell?_alloc_some _ (HA.o j u hj)))
  case c3=>intro u hu;unfold allC at hu;obtain⟨j,_,rfl⟩:=List.mem_map.1 hu;rfl
  case c4=>rw[Nat.zero_add];unfold maxLen;omega
  case c5=>rw[Nat.zero_add];omega
  case c6=>simp
  intro v' w1 hown hgrow hnil
  have HB1:=qh ((Bnew HB.o (.cells #[] 36)).grown hgrow qs (by intro k hk;simp[Value.ownBlock] at hk;omega))
  have hk1:∀ {g:Nat} {t:TypeId} {cs:Array Value},g<w.heap.size+2->Held ((w.alloc (.cells #[.slice (some ad2) T c2,.int .i64 (i:Int),.int .i64 k0,.int .i64 pg,.int .i64 sl] 27)).alloc (.cells (pkC V) 36)) g t cs->Held w1 g t cs:=fun hg h=>(hgrow.block _ qs (by simp[Value.ownBlock];omega)).trans (h.alloc (.cells #[] 36))
  replace HX:=qh (hk1 qo HX.o)
  replace HN:=qh (hk1 qo HN.o)
  rcases hown.2 with ⟨h1,_⟩|⟨g,cap,cur,rfl,hbg,hg,hnc,hcm,hcs,ht⟩
  · exact absurd h1 hnil
  have HR:qH (Held w1 g 36 cur):=qh hg
  have HCS:=qh hcs
  have HTK:=qh ht
  have HBG:=qh hbg
  have hcap:cap<=9223372036854775807:=hcm
  have hsz:i*9+9<=cur.size:=by rw[hcs];omega
  have HNG:qH (w.heap.size+1+1<=g):=qh hbg
  obtain⟨o0,ho0⟩:∃ o,cur[i*9]?=some o:=⟨_,Array.getElem?_eq_getElem qo⟩
  have d0:=(HR.o.cell (i*9)).trans ho0
  have f0:=HR.o.thawed (i*9)
  obtain⟨o1,ho1⟩:∃ o,cur[i*9+1]?=some o:=⟨_,Array.getElem?_eq_getElem qo⟩
  have d1:=(HR.o.cell (i*9+1)).trans ho1
  have f1:=HR.o.thawed (i*9+1)
  obtain⟨o2,ho2⟩:∃ o,cur[i*9+2]?=some o:=⟨_,Array.getElem?_eq_getElem qo⟩
  have d2:=(HR.o.cell (i*9+2)).trans ho2
  have f2:=HR.o.thawed (i*9+2)
  obtain⟨o3,ho3⟩:∃ o,cur[i*9+3]?=some o:=⟨_,Array.getElem?_eq_getElem qo⟩
  have d3:=(HR.o.cell (i*9+3)).trans ho3
  have f3:=HR.o.thawed (i*9+3)
  obtain⟨o4,ho4⟩:∃ o,cur[i*9+4]?=some o:=⟨_,Array.getElem?_eq_getElem qo⟩
  have d4:=(HR.o.cell (i*9+4)).trans ho4
  have f4:=HR.o.thawed (i*9+4)
  obtain⟨o5,ho5⟩:∃ o,cur[i*9+5]?=some o:=⟨_,Array.getElem?_eq_getElem qo⟩
  have d5:=(HR.o.cell (i*9+5)).trans ho5
  have f5:=HR.o.thawed (i*9+5)
  obtain⟨o6,ho6⟩:∃ o,cur[i*9+6]?=some o:=⟨_,Array.getElem?_eq_getElem qo⟩
  have d6:=(HR.o.cell (i*9+6)).trans ho6
  have f6:=HR.o.thawed (i*9+6)
  obtain⟨o7,ho7⟩:∃ o,cur[i*9+7]?=some o:=⟨_,Array.getElem?_eq_getElem qo⟩
  have d7:=(HR.o.cell (i*9+7)).trans ho7
  have f7:=HR.o.thawed (i*9+7)
  obtain⟨o8,ho8⟩:∃ o,cur[i*9+8]?=some o:=⟨_,Array.getElem?_eq_getElem qo⟩
  have d8:=(HR.o.cell (i*9+8)).trans ho8
  have f8:=HR.o.thawed (i*9+8)
  clear hown hgrow hnil hg hcs ht hbg hk1 HM x0 x1 x2 x3 x4 y0 y1 y2 y3 y4 y5 y6 y7 y8 ho0 ho1 ho2 ho3 ho4 ho5 ho6 ho7 ho8
  obtain⟨x0,x1,x2,x3,x4⟩:=HX.o.five'
  obtain⟨y0,y1,y2,y3,y4,y5,y6,y7,y8⟩:=HN.o.nineP
  go_wp2_with fail
  have e:(((((((((w1.setCell ⟨g,i*9,none⟩ (V 0).v).setCell ⟨g,i*9+1,none⟩ (V 1).v).setCell ⟨g,i*9+2,none⟩ (V 2).v).setCell ⟨g,i*9+3,none⟩ (V 3).v).setCell ⟨g,i*9+4,none⟩ (V 4).v).setCell ⟨g,i*9+5,none⟩ (V 5).v).setCell ⟨g,i*9+6,none⟩ (V 6).v).setCell ⟨g,i*9+7,none⟩ (V 7).v).setCell ⟨g,i*9+8,none⟩ (V 8).v)=setW w1 g (i*9) (nineL V):=rfl
  rw[e]
  clear e
  have HW:=qh (Held.setW (nineL V) (i*9) HR.o)
  have HBW:=qh (belowW (g:=g) (by have:=HNG.o;omega) (nineL V) (i*9) HB1.o)
  generalize setW w1 g (i*9) (nineL V)=WF at *
  go_wp2
  go_ret
  exact⟨g,cap,rfl,hnc,hcm,qKx (HP.o.below HBW.o) (HV.o.below HBW.o) hi HW.o (by rw[HCS.o];omega) (fun j hj=>by
    have h1:(cur.toList.take (T*9))[j]?=(allC U T)[j]?:=by rw[HTK.o]
    rw[List.getElem?_take,if_pos qo,qCp U hj] at h1
    rw[<- Array.getElem?_toList,h1]),HBW.o⟩
end
end Go.Proofs.YtjjfcaliippgpaaGreatDoor
