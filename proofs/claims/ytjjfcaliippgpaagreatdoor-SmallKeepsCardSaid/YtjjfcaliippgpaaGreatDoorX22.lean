/-
  What the document's Fits tells: of a heap, whether pockets fit it. Written by pocket/gen_rfits.py.
-/
import Derived.Test.YtjjfcaliippgpaaGreatDoorX01
import Derived.Test.YtjjfcaliippgpaaGreatDoorX18
import Derived.Test.YtjjfcaliippgpaaGreatDoorX08
import Derived.Test.YtjjfcaliippgpaaGreatDoorX17
import Derived.Test.YtjjfcaliippgpaaGreatDoorX04
import Derived.Test.YtjjfcaliippgpaaGreatDoorX20
import Derived.Test.YtjjfcaliippgpaaGreatDoorX21
import Derived.Test.YtjjfcaliippgpaaGreatDoorX12
import Derived.Test.YtjjfcaliippgpaaGreatDoorX09
import Derived.Test.YtjjfcaliippgpaaGreatDoorX03
import Derived.OwnWalk
import Derived.Test.YtjjfcaliippgpaaGreatDoorX15
import Derived.Test.YtjjfcaliippgpaaGreatDoorXSpanRelease
import Derived.Test.YtjjfcaliippgpaaGreatDoorX11
import Derived.Test.YtjjfcaliippgpaaGreatDoorX06
namespace Go.Proofs.YtjjfcaliippgpaaGreatDoor
theorem RJp {P Q:Prop}(kq:Q)(h:HQ Q->P:=by
 intro kq
 replace HC:=qh (HC.o.keep (Bdrew (B0 _)))
 replace HO:=qh (qEc HO.o (Bdrew (B0 _)))
 replace HLH:=qh (HLH.o.below (Bdrew (B0 _)))
 replace HB:=qh (Bgo HB.o (Bdrew (B0 _)))
 refine wp_region_held_drew (S:=(fun w'=>(w'.cell? ⟨w.heap.size,0,none⟩=some (.int .i64 (H.t:Int))/\w'.cell? ⟨w.heap.size,1,none⟩=some (.int .i64 (H.p:Int))/\w'.cell? ⟨w.heap.size,2,none⟩=some (.int .i64 (H.s:Int)))/\w'.cell? ⟨g,i*3,none⟩=some (.int .i64 xk)/\w'.cell? ⟨g,i*3+1,none⟩=some (.int .i64 xa)/\w'.cell? ⟨g,i*3+2,none⟩=some (.int .i64 xz))) qr ?_ (fun hHeld=>?_)
 ·exact MDK
 revert HC HO HLH HB hHeld
 exact kq.o):P:=h ⟨kq⟩
theorem RYq {P Q:Prop}(kq:Q)(h:HQ Q->P:=by
 intro kq
 have HC:=qh ((Held.new W 23 #[.int .i64 t,.int .i64 q,.int .i64 s]).alloc (.cells #[.slice A2 T c2,.int .i64 t0,.int .i64 k0,.int .i64 pg,.int .i64 sl] 27))
 have HX:=qh (Held.new2 W (.cells #[.int .i64 t,.int .i64 q,.int .i64 s] 23) 27 #[.slice A2 T c2,.int .i64 t0,.int .i64 k0,.int .i64 pg,.int .i64 sl])
 have HB:=qh (Bnew (Bnew (B0 W) (.cells #[.int .i64 t,.int .i64 q,.int .i64 s] 23)) (.cells #[.slice A2 T c2,.int .i64 t0,.int .i64 k0,.int .i64 pg,.int .i64 sl] 27))
 revert HC HX HB
 exact kq.o):P:=h ⟨kq⟩
theorem RZx {P Q:Prop}(kq:Q)(h:HQ Q->P:=by
 intro kq
 obtain⟨x0',x1',x2'⟩:=HC.o.three
 obtain⟨y0',y1',y2',y3',y4'⟩:=HX.o.five'
 revert x0' x1' x2' y0' y1' y2' y3' y4'
 exact kq.o):P:=h ⟨kq⟩
theorem R1L {P Q:Prop}(kq:Q)(h:HQ Q->P:=by
 intro kq
 refine(qBj (H.s:Int) (k:Int) qo qo _).mono ?_
 rintro e w9 ⟨rfl,hb⟩
 rw[HSZ.o]
 replace HC:=qh (HC.o.keep hb)
 replace HO:=qh (qEc HO.o hb)
 replace HLH:=qh (HLH.o.below hb)
 replace HB:=qh (Bgo HB.o hb)
 clear hb
 refine qk ?_ (fun hHeld=>?_)
 ·exact Mij
 refine tkz 16 ?_
 revert w9 HC HO HLH HB hHeld
 exact kq.o):P:=h ⟨kq⟩
theorem RGg {P Q:Prop}(kq:Q)(h:HQ Q->P:=by
 intro kq
 have t2:decide (q<=(64:Int))=true:=qt
 have t3:decide ((T:Int)<=(16:Int))=true:=qt
 have t3n:decide (T<=16)=true:=qt
 revert t2 t3 t3n
 exact kq.o):P:=h ⟨kq⟩
theorem RXO {P Q:Prop}(kq:Q)(h:HQ Q->P:=by
 intro kq
 replace HC:=qh (HC.o.keep hb)
 replace HX:=qh (HX.o.keep hb)
 replace HB:=qh (Bgo HB.o hb)
 revert HC HX HB
 exact kq.o):P:=h ⟨kq⟩
theorem MrY {P:Prop}(h:P:=by
 refine RYq ?_;intro HC HX HB
 refine RZx ?_;intro x0' x1' x2' y0' y1' y2' y3' y4'
 go_enter Tryz.func7,Tryz.ntmps7
 go_wp2_with fail
 refine(qYU t q s _).mono ?_
 rintro e w1 ⟨rfl,hb⟩
 rw[t2]
 refine RXO ?_;clear HC HX HB hb;intro HC HX HB
 clear x0' x1' x2' y0' y1' y2' y3' y4'
 refine RZx ?_;intro x0' x1' x2' y0' y1' y2' y3' y4'
 go_wp2
 go_ret
 exact⟨rfl,HB.o⟩):P:=h
theorem Mr2 {P:Prop}(h:P:=by
 refine tkz 17 ?_
 refine dnz ?_
 go_wp2_with fail
 go_roundw
 case rel=>exact⟨i+1,v,qo,by go_num,rfl,qh (by rw[HPK.o];exact HV0.o),qh (fun a ha=>by rw[HPK.o] at ha;exact HQ.o a ha),HC,HO,HLH,HB⟩
 case measure=>simp[intOf];omega):P:=h
theorem MDK {P:Prop}(h:P:=by
 (try dsimp only)
 exact Mij):P:=h
theorem Mij {P:Prop}(h:P:=by first|exact⟨HC.o.three,HXC.o _ HO.o⟩|exact hHeld):P:=h
end Go.Proofs.YtjjfcaliippgpaaGreatDoor
set_option linter.unusedVariables false
set_option linter.unusedSimpArgs false
set_option maxRecDepth 100000
set_option maxHeartbeats 25600000
namespace Go.Proofs.YtjjfcaliippgpaaGreatDoor
open Go.ChangeShapes Go.WideShapes Go.ChangeAt Go.RowKit Go.Maps
section
theorem qXP {parts:List (Int × Int × Int)}{i:Nat}{x:Int × Int × Int}(z:Int)(hx:parts[i]?=some x):pkA (parts.take (i+1)) z=pkA (parts.take i) z++if x.1=4/\x.2.2=z then [x.2.1] else []:=by
 rw[List.take_add_one,hx]
 unfold pkA
 show List.map _ (List.filter _ (parts.take i ++ [x]))=_
 rw[List.filter_append,List.map_append]
 congr 1
 by_cases h:x.1=4/\x.2.2=z
 ·rw[if_pos h,List.filter_cons_of_pos (by simp[h.1,h.2])];rfl
 ·rw[if_neg h,List.filter_cons_of_neg (by simp only[Bool.and_eq_true,decide_eq_true_eq];exact h)];rfl
theorem qRd {Z:Nat->Nat->List Int}{k B:Nat}:∀ {T:Nat},(∀ t,t<T->(Z t k).length<=B)->(haveT Z k T).length<=T*B
 | 0,_=>Nat.zero_le _
 | T+1,h=>by
  unfold haveT
  rw[List.length_append,Nat.add_mul,Nat.one_mul]
  have:=qRd (T:=T) (fun t ht=>h t qo)
  have:=h T qo
  omega
theorem qWf {Z:Nat->Nat->List Int}{k:Nat}{a:Int}:∀ {T:Nat},a∈haveT Z k T->∃ t,t<T/\a∈Z t k
 | 0,h=>by simp[haveT] at h
 | T+1,h=>by
  unfold haveT at h
  rcases List.mem_append.1 h with h|h
  ·obtain⟨t,h1,h2⟩:=qWf h
   exact⟨t,qo,h2⟩
  ·exact⟨T,qo,h⟩
theorem qEb {l:List (Int × Int × Int)}{i:Nat}{xk xa xz z:Int}(hx:l[i]?=some (xk,xa,xz))(h4:xk=4)(hz:xz=z):xa∈pkA l z:=by
 unfold pkA
 exact List.mem_map.2 ⟨_,List.mem_filter.2 ⟨List.mem_of_getElem? hx,by simp[h4,hz]⟩,rfl⟩
theorem qJ9 (l:List (Int × Int × Int))(z:Int):(pkA l z).length<=l.length:=by unfold pkA;rw[List.length_map];exact List.length_filter_le _ _
theorem qCb {parts:List (Int × Int × Int)}{sz:Nat->Int}{T B:Nat}{Z:Nat->Nat->List Int}{m:Nat}(h:∀ k,k<m->(haveT Z k T).length<=B):∀ j:Nat,j<=m -> -((j:Int)*parts.length)<=overN parts sz T Z j/\overN parts sz T Z j<=(j:Int)*B
 | 0,_=>by unfold overN;simp
 | j+1,hj=>by
  obtain⟨h1,h2⟩:=qCb (sz:=sz) h j qo
  have h3:=h j qo
  have h4:=qJ9 parts (sz j)
  unfold overN
  have e1:((j+1:Nat):Int)*(parts.length:Int)=(j:Int)*parts.length+parts.length:=by push_cast;rw[Int.add_mul];omega
  have e2:((j+1:Nat):Int)*(B:Int)=(j:Int)*B+B:=by push_cast;rw[Int.add_mul];omega
  rw[e1,e2]
  generalize (j:Int)*(parts.length:Int)=x1 at *
  generalize (j:Int)*(B:Int)=x2 at *
  omega
theorem qFW (t q s:Int)(A:Option Addr)(n c m:Nat)(A2:Option Addr)(T c2:Nat)(w:World)(hX:XCheckIs w t q s A n c m false) :
  Calls Tryz.prog 26 #[.agg #[.int .i64 t,.int .i64 q,.int .i64 s],.slice A n c,.slice A2 T c2] w fun e w'=>e = .returned (.bool false)/\Below w.heap.size w w':=by
 have HC:=qh (Held.new w 23 #[.int .i64 t,.int .i64 q,.int .i64 s])
 have HB:=qh (Bnew (B0 w) (.cells #[.int .i64 t,.int .i64 q,.int .i64 s] 23))
 have HXX:=qh hX
 clear hX
 obtain⟨x0,x1,x2⟩:=HC.o.three
 go_enter Tryz.func26,Tryz.ntmps26
 go_wp2_with fail
 refine(qHm t q s A n c m false _ (HXX.o.grown HB.o)).mono ?_
 rintro e w2 ⟨rfl,hb⟩
 replace HB:=qh (Bgo HB.o hb)
 clear hb
 go_wp2
 go_ret
 exact⟨rfl,HB.o⟩
theorem qJP (t q s:Int)(A:Option Addr)(n c m:Nat)(A2:Option Addr)(T c2:Nat)(hT:(T:Int)≠t)(w:World)(hX:XCheckIs w t q s A n c m true) :
  Calls Tryz.prog 26 #[.agg #[.int .i64 t,.int .i64 q,.int .i64 s],.slice A n c,.slice A2 T c2] w fun e w'=>e = .returned (.bool false)/\Below w.heap.size w w':=by
 have HC:=qh (Held.new w 23 #[.int .i64 t,.int .i64 q,.int .i64 s])
 have HB:=qh (Bnew (B0 w) (.cells #[.int .i64 t,.int .i64 q,.int .i64 s] 23))
 have HXX:=qh hX
 have t0:((T:Int) != t)=true:=bne_iff_ne.2 hT
 clear hX
 obtain⟨x0,x1,x2⟩:=HC.o.three
 go_enter Tryz.func26,Tryz.ntmps26
 go_wp2_with fail
 refine(qHm t q s A n c m true _ (HXX.o.grown HB.o)).mono ?_
 rintro e w2 ⟨rfl,hb⟩
 replace HC:=qh (HC.o.keep hb)
 replace HB:=qh (Bgo HB.o hb)
 clear hb x0 x1 x2
 obtain⟨x0,x1,x2⟩:=HC.o.three
 go_wp2
 go_ret
 exact⟨rfl,HB.o⟩
theorem qME {H:AuH}{n c:Nat}(HV:HeapV H n c)(ad:Addr)(m:Nat)(A2:Option Addr)(c2:Nat)(U:Nat->Nat->Sl)(Z:Nat->Nat->List Int)(hTc:H.t<=c2)(hc2:c2<=maxLen)
  (sz:Nat->Int) (hsz:∀ k:Nat,k<9->((sizeN (H.s:Int) (k:Int):Nat):Int)=sz k) (hnd:∀ k,k<9->(pkA H.parts (sz k)).Nodup) (b:Bool) (hb:b=true↔FitsP H.parts sz H.t Z)
  (w:World) (hv:IsVals w ad n H.V) (hX:XCheckIs w H.t H.p H.s (some ad) n c m true) (hP:PksAt w A2 H.t U Z) :
  Calls Tryz.prog 26 #[.agg #[.int .i64 (H.t:Int),.int .i64 (H.p:Int),.int .i64 (H.s:Int)],.slice (some ad) n c,.slice A2 H.t c2] w fun e w'=>e = .returned (.bool b)/\Below w.heap.size w w':=by
 have HNO:qH (∀ k,k<9->¬ OnceP H.parts sz H.t Z k->b=false):=qh (fun k hk h=>by
  cases b with
  | false=>rfl
  | true=>exact absurd (((qWH hnd).2 (hb.1 rfl)).1 k hk) h)
 have HYES:qH ((∀ k,k<9->OnceP H.parts sz H.t Z k)->b=(overN H.parts sz H.t Z 9==0)):=qh (fun h=>by
  by_cases h0:overN H.parts sz H.t Z 9=0
  ·rw[hb.2 ((qWH hnd).1 ⟨h,h0⟩),h0];rfl
  ·cases b with
   | false=>symm;simpa using h0
   | true=>exact absurd ((qWH hnd).2 (hb.1 rfl)).2 h0)
 have HC:=qh (Held.new w 23 #[.int .i64 (H.t:Int),.int .i64 (H.p:Int),.int .i64 (H.s:Int)])
 have HB:=qh (Bnew (B0 w) (.cells #[.int .i64 (H.t:Int),.int .i64 (H.p:Int),.int .i64 (H.s:Int)] 23))
 have HXX:=qh hX
 have HVL:=qh hv
 have HPP:=qh hP
 have HSZA:=qh hsz
 obtain⟨l,hpl⟩:∃ l,H.parts=l:=⟨_,rfl⟩
 obtain⟨nl,hnl⟩:∃ nl,l.length=nl:=⟨_,rfl⟩
 have hnum:=HV.nums
 have hT16:H.t<=16:=qo
 have hnb:nl<=60000:=by
  have h2:H.parts.length<=H.p*33:=AuH.parts_len H.p
  rw[hpl,hnl] at h2
  omega
 have HPL:=qh hpl
 have HNL:=qh hnl
 rw[hpl] at HNO HYES
 have t0:((H.t:Int) != (H.t:Int))=false:=by simp
 have s0 : -9223372036854775808<=(H.s:Int):=qo
 clear hb hX hv hP hsz hnl hpl hnd
 obtain⟨x0,x1,x2⟩:=HC.o.three
 go_enter Tryz.func26,Tryz.ntmps26
 go_wp2_with fail
 refine(qHm H.t H.p H.s (some ad) n c m true _ (HXX.o.grown HB.o)).mono ?_
 rintro e w2 ⟨rfl,hb⟩
 replace HC:=qh (HC.o.keep hb)
 replace HB:=qh (Bgo HB.o hb)
 clear hb x0 x1 x2
 obtain⟨x0,x1,x2⟩:=HC.o.three
 go_wp2_with fail
 refine(qAK HV ad m _ (HVL.o.below HB.o) (HXX.o.grown HB.o)).mono ?_
 rintro e w3 ⟨u3,rfl,ho,hb⟩
 rw[HPL.o,HNL.o] at ho
 obtain⟨A1,c1,hu⟩:=qKK ho
 subst hu
 have hcc:=qON ho
 generalize w2.heap.size=bs at ho
 have HO:=qh ho
 replace HC:=qh (HC.o.keep hb)
 replace HB:=qh (Bgo HB.o hb)
 clear ho hb x0 x1 x2
 have HIB:qH (∀ k,k<9->∀ z∈haveT Z k H.t,-9223372036854775808<=z/\z<=9223372036854775807):=qh (fun k hk z hz=>by
  obtain⟨t,ht,hz⟩:=qWf hz
  obtain⟨_,_,_,hcs⟩:=HPP.o t ht
  obtain⟨_,_,_,_,_,hb,_⟩:=(hcs k hk).2
  exact hb z hz)
 go_wp2_with fail
 go_loopw [8,9] (fun u8 u9 wr=>∃ (k:Nat) (ov:Int),k<=9/\u9 = .int .i64 (k:Int)/\u8 = .int .i64 ov/\qH (overN l sz H.t Z k=ov)/\qH (∀ j,j<k->OnceP l sz H.t Z j)/\qH (Held wr w.heap.size 23 #[.int .i64 (H.t:Int),.int .i64 (H.p:Int),.int .i64 (H.s:Int)])/\qH (wr.ownsRow bs 128 3 (.slice A1 nl c1) nl (ptVs l))/\qH (Below w.heap.size w wr)) (fun _ u9 _=>9-(intOf u9).toNat)
 case atStart=>exact⟨0,0,qo,rfl,rfl,qh rfl,qh (fun j hj=>absurd hj (Nat.not_lt_zero _)),HC,HO,HB⟩
 case round =>
  clear HC HO HB
  obtain⟨k,ov,hk,rfl,rfl,HOV,HON,HC,HO,HB⟩:=hrel
  by_cases hk9:k<9
  ·go_wp2_with fail
   go_loopw [10] (fun u10 wr2=>∃ t:Nat,t<=H.t/\u10 = .int .i64 (t:Int)/\wr2=wr/\qH (∀ t',t'<t->(Z t' k).length<=4)) (fun u10 _=>H.t-(intOf u10).toNat)
   case atStart=>exact⟨0,qo,rfl,rfl,qh (fun j hj=>absurd hj (Nat.not_lt_zero _))⟩
   case round =>
    obtain⟨t,ht,rfl,rfl,HF4⟩:=hrel
    by_cases htT:t<H.t
    ·obtain⟨ad2,e2,_,hcs⟩:=HPP.o.below HB.o t htT
     obtain⟨hc0,hL⟩:=hcs k hk9
     obtain⟨A3,c3,hu,hlc,hcm2,_,_,_⟩:=hL
     rw[hu] at hc0
     have hc1:=hc0
     rw[<- qUN] at hc1
     obtain⟨n1,hn1⟩:∃ n1,(Z t k).length=n1:=⟨_,rfl⟩
     have HN1:=qh hn1
     have hz:(Z t k).length<=9223372036854775807:=Nat.le_trans hlc (by unfold maxLen at hcm2;omega)
     rw[hn1] at hc0 hc1 hlc hz
     clear hu hn1 hcs
     by_cases h4:n1<=4
     ·have t1:decide ((4:Int)<(n1:Int))=false:=qf
      have t1n:decide (4<n1)=false:=qf
      subst e2
      go_wp2_with fail
      go_roundw
      case rel=>exact⟨t+1,qo,by go_num,by first|rfl|trivial,qh (fun t' h'=>by
       by_cases e:t'=t
       ·subst e;rw[HN1.o];exact h4
       ·exact HF4.o t' qo)⟩
      case measure=>simp[intOf];omega
     ·have t1:decide ((4:Int)<(n1:Int))=true:=qt
      have t1n:decide (4<n1)=true:=qt
      have hf:=HNO.o k hk9 (fun h=>h4 (by rw[<- HN1.o];exact h.1 t htT))
      subst hf
      subst e2
      go_wp2_with fail
      go_ret
      exact⟨rfl,HB.o⟩
    ·obtain rfl:t=H.t:=qo
     go_wp2_with fail
     refine(qXy A2 H.t c2 k U Z qo hk9 (fun t' h'=>Nat.le_trans (HF4.o t' h') qo) hTc hc2 _ (HPP.o.below HB.o)).mono ?_
     rintro e w4 ⟨u4,rfl,ho,hb⟩
     obtain⟨nh,hnh⟩:∃ nh,(haveT Z k H.t).length=nh:=⟨_,rfl⟩
     have hhl:=qRd (Z:=Z) (k:=k) (B:=1000) (T:=H.t) (fun t' ht'=>Nat.le_trans (HF4.o t' ht') qo)
     have HLH:=qh (qUL ho (HIB.o k hk9))
     rw[hnh] at ho hhl
     obtain⟨A4,c4,hu⟩:=qKK ho
     subst hu
     have hcc4:=qON ho
     have HV1:=qh ho
     have HNH:=qh hnh
     replace HC:=qh (HC.o.keep hb)
     replace HO:=qh (qEc HO.o hb)
     replace HB:=qh (Bgo HB.o hb)
     have hbd:=qCb (parts:=l) (sz:=sz) (T:=H.t) (B:=16000) (Z:=Z) (m:=k) (fun j hj=>by
      have h5:=qRd (Z:=Z) (k:=j) (B:=1000) (T:=H.t) (fun t ht=>Nat.le_trans ((HON.o j hj).1 t ht) qo)
      omega) k (Nat.le_refl _)
     rw[HNL.o,HOV.o] at hbd
     have hbd1 : -540000<=ov/\ov<=144000:=by
      have g1:(k:Int)*(nl:Int)<=9*60000:=by
       have:k*nl<=9*60000:=Nat.mul_le_mul hk hnb
       omega
      omega
     have v1:IntKind.i64.wrap (ov+(nh:Int))=ov+(nh:Int):=qIv qo qo
     obtain⟨zk,hzk⟩:∃ zk,sz k=zk:=⟨_,rfl⟩
     have HSZ:qH (((sizeN (H.s:Int) (k:Int):Nat):Int)=zk):=qh (by rw[HSZA.o k hk9,hzk])
     have HZK:=qh hzk
     clear ho hb hnh hbd hzk
     go_wp2_with fail
     go_loopw [8,12] (fun u8 u12 wr=>∃ (i:Nat) (v:Int),i<=nl/\u12 = .int .i64 (i:Int)/\u8 = .int .i64 v/\qH (v=ov+(nh:Int)-((pkA (l.take i) zk).length:Int))/\qH (∀ a∈pkA (l.take i) zk,(haveT Z k H.t).count a=1)/\qH (Held wr w.heap.size 23 #[.int .i64 (H.t:Int),.int .i64 (H.p:Int),.int .i64 (H.s:Int)])/\qH (wr.ownsRow bs 128 3 (.slice A1 nl c1) nl (ptVs l))/\qH (LongsAt wr (.slice A4 nh c4) (haveT Z k H.t))/\qH (Below w.heap.size w wr)) (fun _ u12 _=>nl-(intOf u12).toNat)
     case atStart=>exact⟨0,ov+(nh:Int),qo,rfl,rfl,qh (by simp[pkA]),qh (fun a ha=>by simp[pkA] at ha),HC,HO,HLH,HB⟩
     case round =>
      clear HC HO HB HLH HV1
      obtain⟨i,v,hi,rfl,rfl,HV0,HQ,HC,HO,HLH,HB⟩:=hrel
      by_cases hlt:i<nl
      ·obtain⟨x,hx⟩:∃ x,l[i]?=some x:=⟨_,List.getElem?_eq_getElem (by rw[HNL.o];exact hlt)⟩
       obtain⟨xk,xa,xz⟩:=x
       obtain⟨g,c9,hg,_⟩:=HO.o.form qo
       injection hg with hg3 _ hg4
       subst hg3
       clear hg4
       have HXC:=qh (fun (w':World) (ho:w'.ownsRow bs 128 3 (.slice (some ⟨g,0,none⟩) nl c1) nl (ptVs l))=>(show w'.cell? ⟨g,i*3,none⟩=some (.int .i64 xk)/\w'.cell? ⟨g,i*3+1,none⟩=some (.int .i64 xa)/\w'.cell? ⟨g,i*3+2,none⟩=some (.int .i64 xz) from
        ⟨by rw[ho.cellAt (i*3) qo];exact(qPO l i _ hx).1,by rw[ho.cellAt (i*3+1) qo];exact(qPO l i _ hx).2.1,by rw[ho.cellAt (i*3+2) qo];exact(qPO l i _ hx).2.2⟩))
       have HPK:=qh (qXP zk hx)
       have hpl:=qJ9 (l.take i) zk
       rw[List.length_take] at hpl
       have hv0:=HV0.o
       have hvb : -700000<=v/\v<=700000:=qo
       have HME:qH (xk=4->xz=zk->xa∈pkA l zk):=qh (fun e1 e2=>qEb hx e1 e2)
       obtain⟨cn,hcn⟩:∃ cn,(haveT Z k H.t).count xa=cn:=⟨_,rfl⟩
       have HCT:=qh hcn
       have hcb:cn<=nh:=by rw[<- hcn,<- HNH.o];exact List.count_le_length
       clear hx hv0 hpl hcn
       obtain⟨x0,x1,x2⟩:=HC.o.three
       by_cases h4:xk=4
       ·have t4:(xk==4)=true:=by simpa using h4
        by_cases h5:xz=zk
        ·have t5:(xz==zk)=true:=by simpa using h5
         rw[if_pos ⟨h4,h5⟩] at HPK
         have HMM:=qh (HME.o h4 h5)
         clear h4 h5
         by_cases h6:cn=1
         ·have t6:((cn:Int) != 1)=false:=by rw[bne_eq_false_iff_eq];omega
          have t6n:(cn != 1)=false:=by rw[bne_eq_false_iff_eq];exact h6
          have v2:IntKind.i64.wrap (v-1)=v-1:=qIv qo qo
          have HC1:qH ((haveT Z k H.t).count xa=1):=qh (by rw[HCT.o];exact h6)
          clear h6
          go_wp2_with fail
          refine RJp ?_;clear HC HO HLH HB;intro HC HO HLH HB hHeld
          refine Rbo ?_
          refine tkz 5 ?_
          refine ROY ?_;intro K hK
          refine R1L ?_;clear HC HO HLH HB hK K;intro w9 HC HO HLH HB hHeld
          refine tkz 17 ?_
          refine dnz ?_
          clear x0 x1 x2
          obtain⟨x0,x1,x2⟩:=HC.o.three
          obtain⟨y0,y1,y2⟩:=HXC.o _ HO.o
          go_wp2_with fail
          refine(qBi (.slice A4 nh c4) (haveT Z k H.t) xa nh HNH.o qo _ HLH.o).mono ?_
          rintro e w8 ⟨rfl,rfl⟩
          rw[HCT.o]
          go_wp2_with fail
          go_roundw
          case rel=>exact⟨i+1,v-1,qo,by go_num,rfl,qh (by rw[HPK.o,List.length_append,HV0.o];simp only[List.length_cons,List.length_nil];omega),qh (fun a ha=>by
           rw[HPK.o] at ha
           rcases List.mem_append.1 ha with ha|ha
           ·exact HQ.o a ha
           ·rw[List.mem_singleton] at ha;rw[ha];exact HC1.o),HC,HO,HLH,HB⟩
          case measure=>simp[intOf];omega
         ·have t6:((cn:Int) != 1)=true:=by rw[bne_iff_ne];omega
          have t6n:(cn != 1)=true:=by rw[bne_iff_ne];exact h6
          have hf:=HNO.o k hk9 (fun h=>h6 (by rw[<- HCT.o];exact h.2 xa (by rw[HZK.o];exact HMM.o)))
          subst hf
          clear h6
          go_wp2_with fail
          refine RJp ?_;clear HC HO HLH HB;intro HC HO HLH HB hHeld
          refine Rbo ?_
          refine tkz 5 ?_
          refine ROY ?_;intro K hK
          refine R1L ?_;clear HC HO HLH HB hK K;intro w9 HC HO HLH HB hHeld
          refine tkz 17 ?_
          refine dnz ?_
          clear x0 x1 x2
          obtain⟨x0,x1,x2⟩:=HC.o.three
          obtain⟨y0,y1,y2⟩:=HXC.o _ HO.o
          go_wp2_with fail
          refine(qBi (.slice A4 nh c4) (haveT Z k H.t) xa nh HNH.o qo _ HLH.o).mono ?_
          rintro e w8 ⟨rfl,rfl⟩
          rw[HCT.o]
          go_wp2_with fail
          go_ret
          exact⟨rfl,HB.o⟩
        ·have t5:(xz==zk)=false:=by simpa using h5
         rw[if_neg (fun h=>h5 h.2),List.append_nil] at HPK
         clear h4 h5
         go_wp2_with fail
         refine RJp ?_;clear HC HO HLH HB;intro HC HO HLH HB hHeld
         refine Rbo ?_
         refine tkz 5 ?_
         refine ROY ?_;intro K hK
         refine R1L ?_;clear HC HO HLH HB hK K;intro w9 HC HO HLH HB hHeld
         exact Mr2
       ·have t4:(xk==4)=false:=by simpa using h4
        rw[if_neg (fun h=>h4 h.1),List.append_nil] at HPK
        clear h4
        go_wp2_with fail
        refine RJp ?_;clear HC HO HLH HB;intro HC HO HLH HB hHeld
        refine Rbo ?_
        refine tkz 5 ?_
        refine tkz 6 ?_
        refine skz 7 ?_
        refine skz 8 ?_
        refine skz 9 ?_
        refine RKv ?_
        refine skz 15 ?_
        refine skz 16 ?_
        exact Mr2
      ·obtain rfl:i=nl:=qo
       have HE:qH (l.take i=l):=qh (List.take_of_length_le (by rw[HNL.o];exact Nat.le_refl _))
       go_wp2_with fail
       go_roundw
       case rel=>exact⟨k+1,v,qo,by go_num,rfl,qh (by
        show overN l sz H.t Z k+((haveT Z k H.t).length:Int)-((pkA l (sz k)).length:Int)=v
        rw[HV0.o,HE.o,HOV.o,HNH.o,HZK.o]),qh (fun j hj=>by
        by_cases e:j=k
        ·subst e
         exact⟨HF4.o,fun a ha=>HQ.o a (by rw[HE.o];rw[HZK.o] at ha;exact ha)⟩
        ·exact HON.o j qo),HC,HO,HB⟩
       case measure=>simp[intOf];omega
  ·obtain rfl:k=9:=qo
   have hf:=HYES.o HON.o
   rw[HOV.o] at hf
   subst hf
   go_wp2
   go_ret
   exact⟨rfl,HB.o⟩
end
section
theorem qJp (t q s:Int)(A:Option Addr)(n c:Nat)(A2:Option Addr)(T c2:Nat)(t0 k0 pg sl:Int)(h:64<q)(W:World):Calls Tryz.prog 7 #[.agg #[.int .i64 t,.int .i64 q,.int .i64 s],.slice A n c,.agg #[.slice A2 T c2,.int .i64 t0,.int .i64 k0,.int .i64 pg,.int .i64 sl]] W (fun e w'=>e = .returned (.bool false)/\Below W.heap.size W w'):=by
 have t2:decide (q<=(64:Int))=false:=qf
 exact MrY
theorem qKs (t q s:Int)(A:Option Addr)(n c:Nat)(A2:Option Addr)(T c2:Nat)(t0 k0 pg sl:Int)(h1:q<=64)(hc:T<=9223372036854775807)(h:16<T)(W:World):Calls Tryz.prog 7 #[.agg #[.int .i64 t,.int .i64 q,.int .i64 s],.slice A n c,.agg #[.slice A2 T c2,.int .i64 t0,.int .i64 k0,.int .i64 pg,.int .i64 sl]] W (fun e w'=>e = .returned (.bool false)/\Below W.heap.size W w'):=by
 have t2:decide (q<=(64:Int))=true:=qt
 have t3:decide ((T:Int)<=(16:Int))=false:=qf
 have t3n:decide (T<=16)=false:=qf
 exact MrY
theorem qKG (t q s:Int)(A:Option Addr)(n c:Nat)(A2:Option Addr)(T c2:Nat)(t0 k0 pg sl:Int)(h1:q<=64)(h2:T<=16)(h:t0<0)(W:World):Calls Tryz.prog 7 #[.agg #[.int .i64 t,.int .i64 q,.int .i64 s],.slice A n c,.agg #[.slice A2 T c2,.int .i64 t0,.int .i64 k0,.int .i64 pg,.int .i64 sl]] W (fun e w'=>e = .returned (.bool false)/\Below W.heap.size W w'):=by
 refine RGg ?_;intro t2 t3 t3n
 have t4:decide ((0:Int)<=t0)=false:=qf
 exact MrY
theorem qCi (t q s:Int)(A:Option Addr)(n c:Nat)(A2:Option Addr)(T c2:Nat)(t0 k0 pg sl:Int)(h1:q<=64)(h2:T<=16)(h3:0<=t0)(h:(T:Int)<=t0)(W:World):Calls Tryz.prog 7 #[.agg #[.int .i64 t,.int .i64 q,.int .i64 s],.slice A n c,.agg #[.slice A2 T c2,.int .i64 t0,.int .i64 k0,.int .i64 pg,.int .i64 sl]] W (fun e w'=>e = .returned (.bool false)/\Below W.heap.size W w'):=by
 refine RGg ?_;intro t2 t3 t3n
 have t4:decide ((0:Int)<=t0)=true:=qt
 have t5:decide (t0<(T:Int))=false:=qf
 exact MrY
theorem qOw (t q s:Int)(A:Option Addr)(n c:Nat)(A2:Option Addr)(T c2:Nat)(t0 k0 pg sl:Int)(W:World)(h1:q<=64)(h2:T<=16)(h3:0<=t0)(h4:t0<(T:Int))(b:Bool)(HF:∀ w,Below W.heap.size W w->Calls Tryz.prog 26 #[.agg #[.int .i64 t,.int .i64 q,.int .i64 s],.slice A n c,.slice A2 T c2] w fun e w'=>e = .returned (.bool b)/\Below w.heap.size w w')  : Calls Tryz.prog 7 #[.agg #[.int .i64 t,.int .i64 q,.int .i64 s],.slice A n c,.agg #[.slice A2 T c2,.int .i64 t0,.int .i64 k0,.int .i64 pg,.int .i64 sl]] W (fun e w'=>e = .returned (.bool b)/\Below W.heap.size W w'):=by
 refine RGg ?_;intro t2 t3 t3n
 have t4:decide ((0:Int)<=t0)=true:=qt
 have t5:decide (t0<(T:Int))=true:=qt
 have HG:=qh HF
 clear HF
 refine RYq ?_;intro HC HX HB
 refine RZx ?_;intro x0' x1' x2' y0' y1' y2' y3' y4'
 go_enter Tryz.func7,Tryz.ntmps7
 go_wp2_with fail
 refine(qYU t q s _).mono ?_
 rintro e w1 ⟨rfl,hb⟩
 rw[t2]
 refine RXO ?_;clear HC HX HB hb;intro HC HX HB
 clear x0' x1' x2' y0' y1' y2' y3' y4'
 refine RZx ?_;intro x0' x1' x2' y0' y1' y2' y3' y4'
 go_wp2_with fail
 refine(HG.o _ HB.o).mono ?_
 rintro e w2 ⟨rfl,hb⟩
 refine RXO ?_;clear HC HX HB hb;intro HC HX HB
 clear x0' x1' x2' y0' y1' y2' y3' y4'
 refine RZx ?_;intro x0' x1' x2' y0' y1' y2' y3' y4'
 cases b
 ·go_wp2
  go_ret
  exact⟨rfl,HB.o⟩
 go_wp2
 go_ret
 exact⟨rfl,HB.o⟩
theorem qOg (t q s:Int)(A:Option Addr)(c:Nat)(vals:List Nat)(hnc:vals.length<=c)(hcm:c<=maxLen)(h32:∀ x∈vals,x<2^32)(A2:Option Addr)(T c2:Nat)(t0 k0 pg sl:Int)(U:Nat->Nat->Sl)(Z:Nat->Nat->List Int)(hTc:T<=c2)(hc2:c2<=maxLen)(W:World)(HP:PksAt W A2 T U Z)(HR:Reads W W.heap.size 1 A vals.length (valVs vals)) :
  (∀ w,Below W.heap.size W w->Calls Tryz.prog 7 #[.agg #[.int .i64 t,.int .i64 q,.int .i64 s],.slice A vals.length c,.agg #[.slice A2 T c2,.int .i64 t0,.int .i64 k0,.int .i64 pg,.int .i64 sl]] w fun e w'=>e = .returned (.bool false)/\Below w.heap.size w w') \/
  ∃ (H:AuH) (ad:Addr) (m i0:Nat) (L:Nat->List Nat),t=H.t/\q=H.p/\s=H.s/\A=some ad/\t0=(i0:Int)/\T=H.t/\i0<H.t/\H.p<=64/\(∀ i,H.V i=vals.getD i 0)/\HeapV H vals.length c/\IsVals W ad vals.length H.V/\(∀ i,i<10->H.rule i)/\H.Ok L/\XCheckIs W H.t H.p H.s (some ad) vals.length c m true/\FitsP H.parts (szH H) H.t Z /\
   ∀ w,Below W.heap.size W w->Calls Tryz.prog 7 #[.agg #[.int .i64 t,.int .i64 q,.int .i64 s],.slice A vals.length c,.agg #[.slice A2 T c2,.int .i64 t0,.int .i64 k0,.int .i64 pg,.int .i64 sl]] w fun e w'=>e = .returned (.bool true)/\Below w.heap.size w w':=by
 have hc3:T<=9223372036854775807:=by unfold maxLen at hc2;omega
 by_cases hq:64<q
 ·exact .inl fun w _=>qJp t q s A _ c A2 T c2 t0 k0 pg sl hq w
 by_cases hT:16<T
 ·exact .inl fun w _=>qKs t q s A _ c A2 T c2 t0 k0 pg sl qo hc3 hT w
 by_cases h3:t0<0
 ·exact .inl fun w _=>qKG t q s A _ c A2 T c2 t0 k0 pg sl qo qo h3 w
 by_cases h4:(T:Int)<=t0
 ·exact .inl fun w _=>qCi t q s A _ c A2 T c2 t0 k0 pg sl qo qo qo h4 w
 have go:∀ b:Bool,(∀ w,Below W.heap.size W w->Calls Tryz.prog 26 #[.agg #[.int .i64 t,.int .i64 q,.int .i64 s],.slice A vals.length c,.slice A2 T c2] w fun e w'=>e = .returned (.bool b)/\Below w.heap.size w w') ->
   ∀ w,Below W.heap.size W w->Calls Tryz.prog 7 #[.agg #[.int .i64 t,.int .i64 q,.int .i64 s],.slice A vals.length c,.agg #[.slice A2 T c2,.int .i64 t0,.int .i64 k0,.int .i64 pg,.int .i64 sl]] w fun e w'=>e = .returned (.bool b)/\Below w.heap.size w w':=fun b hF w hb =>
  qOw t q s A _ c A2 T c2 t0 k0 pg sl w qo qo qo qo b fun w' hb'=>hF w' (Bgo hb hb')
 rcases qXV W t q s A c vals hnc hcm h32 HR with ⟨m,hX⟩|⟨H,ad,m,rfl,rfl,rfl,rfl,hV,HV,hv,hto,hX⟩
 ·exact .inl (go false fun w hb=>qFW t q s A _ c m A2 T c2 w (hX.grown hb))
 ·by_cases hTt:T=H.t
  ·subst hTt
   have ht:H.Tiled:=qAW hto 1 qo
   have hcon:=AuH.parts_contig HV ht
   have hnd:∀ k:Nat,k<9->(pkA H.parts (szH H k)).Nodup:=fun k _=>qT6 hcon _
   by_cases hF:FitsP H.parts (szH H) H.t Z
   ·obtain⟨L,hok⟩:=AuH.okL_of (by have:=HV.nums;omega) (qAW hto)
    obtain⟨i0,rfl⟩:=Int.eq_ofNat_of_zero_le (show 0<=t0 by omega)
    exact .inr ⟨H,ad,m,i0,L,rfl,rfl,rfl,rfl,rfl,rfl,qo,qo,hV,HV,hv,qAW hto,hok,hX,hF,go true fun w hb=>qME HV ad m A2 c2 U Z hTc hc2 (szH H) (fun _ _=>rfl) hnd true ⟨fun _=>hF,fun _=>rfl⟩ w (hv.below hb) (hX.grown hb) (HP.below hb)⟩
   ·exact .inl (go false fun w hb=>qME HV ad m A2 c2 U Z hTc hc2 (szH H) (fun _ _=>rfl) hnd false ⟨(fun h=>by cases h),fun h=>absurd h hF⟩ w (hv.below hb) (hX.grown hb) (HP.below hb))
  ·exact .inl (go false fun w hb=>qJP H.t H.p H.s (some ad) _ c m A2 T c2 qo w (hX.grown hb))
end
section
section
variable {n c : Nat} {K : Nat -> Option Nat} {p k : Nat}
end
section
variable {H : AuH} {n c : Nat} {K : Nat -> Option Nat} {st : Vst} {L : Nat -> List Nat} {T t0 k p i : Nat} {Z : Nat -> Nat -> List Int} {a : Int}
theorem qM9 (HV:HeapV H n c)(F:FitsP H.parts (szH H) T Z)(ht:t0<T)(hk:k<9){b:Int}(hb:b∈Z t0 k) :
  spotB H.t H.p H.s b=true/\slotB H.t H.p H.s (k:Int) (spotO H.t H.p H.s b)=true/\∃ p i:Nat,spotP H.t H.p H.s b=(p:Int)/\slotR H.t H.p H.s (k:Int) (spotO H.t H.p H.s b)=(i:Int)/\i<32/\p<H.p:=by
 obtain⟨q,i,hq,hc,e⟩:=qQm HV F ht hk hb
 have A:=qQ7 HV hq
 subst e
 have h1:=A.isB
 have h2:=A.slot
 rw[hc] at h1 h2
 exact⟨A.spot,h1,q,i,A.page,h2,Nat.lt_of_lt_of_le hq.2.2.1 (qWU _),hq.1⟩
theorem qUe {t q s k:Int}{p w:Nat}{x:Nat × List Nat}(h:(pickAt n K t q s k p w st).1=some x):1<=x.2.length/\x.2.length<=w/\∀ i∈x.2,i<slotI k:=by
 unfold pickAt at h
 split at h
 ·cases h
 ·rename_i hne
  injection h with h
  subst h
  refine⟨?_,(qCK _ _ _).1,fun i hi=>(qR3 hi).1⟩
  have h2:=List.length_pos_iff.2 hne
  exact h2
theorem qJy {t q s k:Int}{w:Nat}{x:Nat × List Nat}(h:(pickI n K t q s k w st).1=some x):1<=x.2.length/\x.2.length<=w/\∀ i∈x.2,i<slotI k:=by
 unfold pickI at h
 split at h
 ·split at h
  ·exact qUe h
  ·cases h
 ·exact qUe h
theorem qSH (HV:HeapV H n c)(F:FitsP H.parts (szH H) T Z)(ht:t0<T)(hk:k<9):AlOk n K H.t H.p H.s (k:Int) (Z t0 k) st where
 few:=Nat.le_trans (F.few k hk t0 ht) qo
 spot a ha:=by
  obtain⟨g1,g2,p,i,g3,g4,g5,_⟩:=qM9 HV F ht hk (List.mem_of_getLast? ha)
  exact⟨g1,g2,p,i,g3,g4,g5⟩
 pick p m hm:=by
  obtain⟨h1,h2,h3⟩:=qJy hm
  exact⟨h1,h2,fun i hi=>Nat.lt_of_lt_of_le (h3 i hi) (qWU _)⟩
theorem qF4 (HV:HeapV H n c)(W:Work H.t H.p H.s n K st L H.V)(hp:p<H.p)(i:Nat):(infoOf n K H.t H.p H.s p st).2.2.1=H.Cl p/\(infoOf n K H.t H.p H.s p (offS n K H.t H.p H.s p i (getS n K st (pageI H.t H.p H.s p 0)))).2.2.1=H.Cl p:=by
 have hlen:=HV.len
 have W1:=W.get (pageI H.t H.p H.s p 0)
 obtain⟨_,_,W2⟩:=qYz HV W1 hp (clrB (getV n K (getS n K st (pageI H.t H.p H.s p 0)) (pageI H.t H.p H.s p 4)) i) (qS4 (getV n K (putS n (getS n K (getS n K st (pageI H.t H.p H.s p 0)) (pageI H.t H.p H.s p 4)) (pageI H.t H.p H.s p 4) (clrB (getV n K (getS n K st (pageI H.t H.p H.s p 0)) (pageI H.t H.p H.s p 4)) i)) 1))
 have e:pageI H.t H.p H.s p 0=((pc H.t p 0:Nat):Int):=HV.fit.inf hp
 have hf:¬ LinkCell H.t ((pc H.t p 0:Nat):Int):=qXR (t:=H.t) (q:=p) (b:=0) qo qo qo
 constructor
 ·have h1:=W.near (pc H.t p 0) (by unfold pc;omega) hf
  rw[<- e] at h1
  unfold infoOf
  rw[h1]
  rfl
 ·have h1:=W2.near (pc H.t p 0) (by unfold pc;omega) hf
  rw[<- e] at h1
  unfold infoOf offS
  rw[h1,e]
  rw[qR2 _ _ (by unfold pc;omega),qR2 _ _ (by unfold pc;omega)]
  rfl
end
end
section
section
variable {W w w' : World} {O1 O2 : Ob} {A B G : Nat -> Prop} {s1 s2 s' : Vst} {U V : Nat -> Sl} {Z Y : Nat -> List Int}
theorem Duo.put (h:Duo W O1 O2 A B G s1 s2 w){i:Nat}(hi:G i)(hw:W.heap.size<=i)(k:Nat)(v:Value):Duo W O1 O2 A B G s1 s2 (w.setCell ⟨i,k,none⟩ v):=by
 have ht:Turns (fun j=>j=i) w (w.setCell ⟨i,k,none⟩ v):=(Turns.of_below (B0 w) (fun j=>j=i)).put (p:=⟨i,k,none⟩) rfl v
 exact⟨O1.turns h.i1 ht (fun j hj e=>(h.aG i hi).2.1 (e ▸ hj)),O2.turns h.i2 ht (fun j hj e=>(h.aG i hi).2.2 (e ▸ hj)),h.ab,fun g hg=>⟨Nat.lt_of_lt_of_le (h.aG g hg).1 ht.size,(h.aG g hg).2⟩,h.lo,ht.below h.bel (fun j e=>by omega)⟩
theorem Duo.putP (h:Duo W O1 O2 A B G s1 s2 w){i:Nat}(hi:G i)(hw:W.heap.size<=i)(V:Nat->Sl):Duo W O1 O2 A B G s1 s2 (setP w i V) :=
 ((((((((h.put hi hw 0 _).put hi hw 1 _).put hi hw 2 _).put hi hw 3 _).put hi hw 4 _).put hi hw 5 _).put hi hw 6 _).put hi hw 7 _).put hi hw 8 _
theorem sizeP (w:World)(g:Nat)(V:Nat->Sl):(setP w g V).heap.size=w.heap.size:=by
 unfold setP
 simp
theorem PkV.putP (h:PkV w U Z){i:Nat}(hi:¬ PB U Z i)(V:Nat->Sl):PkV (setP w i V) U Z :=
 h.stay (by rw[sizeP];exact Nat.le_refl _) fun j hj=>qDL (fun e=>by subst e;exact hi hj) V
def NineAt (w:World) (ad:Addr) (t:Nat) (u:Nat->Sl):Prop :=
 w.cell? (ad.add (t*9))=some (u 0).v/\w.cell? ⟨(ad.add (t*9)).block,(ad.add (t*9)).off+1,none⟩=some (u 1).v/\w.cell? ⟨(ad.add (t*9)).block,(ad.add (t*9)).off+2,none⟩=some (u 2).v/\w.cell? ⟨(ad.add (t*9)).block,(ad.add (t*9)).off+3,none⟩=some (u 3).v/\w.cell? ⟨(ad.add (t*9)).block,(ad.add (t*9)).off+4,none⟩=some (u 4).v/\w.cell? ⟨(ad.add (t*9)).block,(ad.add (t*9)).off+5,none⟩=some (u 5).v/\w.cell? ⟨(ad.add (t*9)).block,(ad.add (t*9)).off+6,none⟩=some (u 6).v/\w.cell? ⟨(ad.add (t*9)).block,(ad.add (t*9)).off+7,none⟩=some (u 7).v/\w.cell? ⟨(ad.add (t*9)).block,(ad.add (t*9)).off+8,none⟩=some (u 8).v
end
section
variable {W w : World} {ad : Addr} {T t : Nat} {U : Nat -> Nat -> Sl} {Z : Nat -> Nat -> List Int}
theorem PksAt.nine (h:PksAt w (some ad) T U Z)(ht:t<T):NineAt w ad t (U t):=by
 obtain⟨ad',e,_,hc⟩:=h t ht
 injection e with e
 subst e
 have g:∀ k,k<9->w.cell? ((ad.add (t*9)).add k)=some (U t k).v:=fun k hk=>by rw[qUN];exact(hc k hk).1
 exact⟨g 0 qo,g 1 qo,g 2 qo,g 3 qo,g 4 qo,g 5 qo,g 6 qo,g 7 qo,g 8 qo⟩
theorem PksAt.pk {A:Option Addr}(h:PksAt w A T U Z)(ht:t<T):PkV w (U t) (Z t):=fun k hk=>by
 obtain⟨ad',e,_,hc⟩:=h t ht
 exact(hc k hk).2
end
end
section
theorem pksInfo:(Tryz.prog.info? 36).map (fun i=>(i.zero,i.size,i.bytes))=some (some (.agg #[.slice none 0 0,.slice none 0 0,.slice none 0 0,.slice none 0 0,.slice none 0 0,.slice none 0 0,.slice none 0 0,.slice none 0 0,.slice none 0 0]),9,216):=by kernel_rfl
def allC (U:Nat->Nat->Sl) (T:Nat):List Value:=(List.range (T*9)).map fun j=>(U (j / 9) (j%9)).v
theorem qOc (U:Nat->Nat->Sl)(T:Nat):(allC U T).length=T*9:=by simp[allC]
theorem qCp (U:Nat->Nat->Sl){T j:Nat}(h:j<T*9):(allC U T)[j]?=some (U (j / 9) (j%9)).v:=by simp[allC,h]
def setL (cs:Array Value) (o:Nat):List Value->Array Value
 | []=>cs
 | v :: l=>setL (cs.setIfInBounds o v) (o+1) l
theorem qNT:∀ (l:List Value) (cs:Array Value) (o j:Nat),o+l.length<=cs.size->(setL cs o l)[j]?=if o<=j/\j<o+l.length then l[j-o]? else cs[j]?
 | [],cs,o,j,h=>by
  unfold setL
  rw[if_neg (by rintro ⟨h1,h2⟩;simp at h2;omega)]
 | v :: l,cs,o,j,h=>by
  have hl:o+1+l.length<=(cs.setIfInBounds o v).size:=by simp at h ⊢;omega
  unfold setL
  rw[qNT l _ (o+1) j hl,List.length_cons]
  rcases Nat.lt_trichotomy j o with h1|h1|h1
  ·rw[if_neg qo,if_neg qo,Array.getElem?_setIfInBounds,if_neg qo]
  ·subst h1
   rw[if_neg qo,if_pos qo,Array.getElem?_setIfInBounds,if_pos rfl,if_pos (by simp at h;omega),Nat.sub_self]
   rfl
  ·by_cases h2:j<o+1+l.length
   ·rw[if_pos qo,if_pos qo]
    obtain⟨d,rfl⟩:∃ d,j=o+1+d:=⟨j-(o+1),qo⟩
    rw[show o+1+d-(o+1)=d by omega,show o+1+d-o=d+1 by omega]
    rfl
   ·rw[if_neg qo,if_neg qo,Array.getElem?_setIfInBounds,if_neg qo]
def setW (w:World) (g o:Nat):List Value->World
 | []=>w
 | v :: l=>setW (w.setCell ⟨g,o,none⟩ v) g (o+1) l
theorem Held.setW {t:TypeId}{g:Nat}:∀ (l:List Value) {w:World} {cs:Array Value} (o:Nat),Held w g t cs->Held (setW w g o l) g t (setL cs o l)
 | [],w,cs,o,h=>h
 | v :: l,w,cs,o,h=>Held.setW l (o+1) (h.put o v)
theorem belowW {g:Nat}{w0:World}(hg:w0.heap.size<=g):∀ (l:List Value) {w:World} (o:Nat),Below w0.heap.size w0 w->Below w0.heap.size w0 (setW w g o l)
 | [],w,o,h=>h
 | v :: l,w,o,h=>belowW hg l (o+1) (Bput h hg v)
theorem qSf (g j:Nat):(⟨g,0,none⟩:Addr).add j=⟨g,j,none⟩:=by
 unfold Addr.add
 by_cases h0:j=0 <;> simp[h0]
abbrev nineL (V:Nat->Sl):List Value := [(V 0).v,(V 1).v,(V 2).v,(V 3).v,(V 4).v,(V 5).v,(V 6).v,(V 7).v,(V 8).v]
theorem qO8 (V:Nat->Sl){k:Nat}(hk:k<9):(nineL V)[k]?=some (V k).v:=by
 rcases(by omega:k=0\/k=1\/k=2\/k=3\/k=4\/k=5\/k=6\/k=7\/k=8) with rfl|rfl|rfl|rfl|rfl|rfl|rfl|rfl|rfl <;> rfl
theorem qLA {w':World}{A:Option Addr}{T i g:Nat}{U:Nat->Nat->Sl}{Z:Nat->Nat->List Int}{V:Nat->Sl}{Y:Nat->List Int}{cs:Array Value}{t:TypeId}(hP:PksAt w' A T U Z)(hV:PkV w' V Y)(hi:i<T)(hh:Held w' g t (setL cs (i*9) (nineL V)))(hs:T*9<=cs.size)(hc:∀ j,j<T*9->cs[j]?=some (U (j / 9) (j%9)).v) :
  PksAt w' (some ⟨g,0,none⟩) T (updF U i V) (updF Z i Y):=fun t' ht=>by
 refine⟨_,rfl,hh.lt,fun k hk=>?_⟩
 rw[qSf,hh.cell,qNT _ _ _ _ (by show i*9+9<=cs.size;omega)]
 by_cases e:t'=i
 ·subst e
  rw[if_pos (by show t'*9<=t'*9+k/\t'*9+k<t'*9+9;omega),qJN,qJN,show t'*9+k-t'*9=k by omega]
  exact⟨qO8 V hk,hV k hk⟩
 ·obtain⟨_,_,_,h3⟩:=hP t' ht
  rw[if_neg (by show ¬ (i*9<=t'*9+k/\t'*9+k<i*9+9);omega),qR2 _ _ e,qR2 _ _ e,hc _ qo,show (t'*9+k) / 9=t' by omega,show (t'*9+k)%9=k by omega]
  exact⟨rfl,(h3 k hk).2⟩
theorem qJF {T:Nat}(hT:T<=16)(ad2:Addr)(c2:Nat)(hTc:T<=c2)(hc2:c2<=maxLen)(i:Nat)(hi:i<T)(k0 pg sl:Int){U:Nat->Nat->Sl}{Z:Nat->Nat->List Int}{V:Nat->Sl}{Y:Nat->List Int}(w:World)(hP:PksAt w (some ad2) T U Z)(hV:PkV w V Y) :
    Calls Tryz.prog 27 #[.agg #[.slice (some ad2) T c2,.int .i64 (i:Int),.int .i64 k0,.int .i64 pg,.int .i64 sl],.agg (pkC V)] w fun e w'=>∃ g c',e = .returned (.slice (some ⟨g,0,none⟩) T c')/\T<=c'/\c'<=maxLen/\PksAt w' (some ⟨g,0,none⟩) T (updF U i V) (updF Z i Y)/\Below w.heap.size w w':=by
  obtain⟨i0,hi0,hz0,hz1,hz2⟩:=info_parts pksInfo
  have HX:=qh ((Held.new w 27 #[.slice (some ad2) T c2,.int .i64 (i:Int),.int .i64 k0,.int .i64 pg,.int .i64 sl]).alloc (.cells (pkC V) 36))
  have HN:=qh (Held.new2 w (.cells #[.slice (some ad2) T c2,.int .i64 (i:Int),.int .i64 k0,.int .i64 pg,.int .i64 sl] 27) 36 (pkC V))
  have HB:=qh (Bnew (Bnew (B0 w) (.cells #[.slice (some ad2) T c2,.int .i64 (i:Int),.int .i64 k0,.int .i64 pg,.int .i64 sl] 27)) (.cells (pkC V) 36))
  have HP:=qh hP
  have HV:=qh hV
  have hc3:c2<=9223372036854775807:=hc2
  have HA:qH (∀ j u,(allC U T)[j]?=some u->w.cell? (ad2.add j)=some u):=qh (fun j u hu=>by
    have hj:j<T*9:=by have:=(List.getElem?_eq_some_iff.1 hu).1;rw[qOc] at this;exact this
    rw[qCp U hj] at hu
    injection hu with hu
    subst hu
    obtain⟨ad,e,_,h3⟩:=HP.o (j / 9) qo
    injection e with e
    subst e
    have:=(h3 (j%9) qo).1
    rw[show j / 9*9+j%9=j by omega] at this
    exact this)
  have HM:qH (World.ownsRow (((w.alloc (.cells #[.slice (some ad2) T c2,.int .i64 (i:Int),.int .i64 k0,.int .i64 pg,.int .i64 sl] 27)).alloc (.cells (pkC V) 36)).alloc (.cells #[] 36)) (w.heap.size+1+1) 36 9 (.slice (some ⟨w.heap.size+1+1,0,none⟩) 0 0) 0 []):=qh (by
    have h:=World.ownsRow_made (base:=w.heap.size+1+1) (size:=9) (e := 36) ((w.alloc (.cells #[.slice (some ad2) T c2,.int .i64 (i:Int),.int .i64 k0,.int .i64 pg,.int .i64 sl] 27)).alloc (.cells (pkC V) 36)) #[] 0 (by simp) (Nat.zero_le _) (by simp)
    rw[show ((w.alloc (.cells #[.slice (some ad2) T c2,.int .i64 (i:Int),.int .i64 k0,.int .i64 pg,.int .i64 sl] 27)).alloc (.cells (pkC V) 36)).heap.size=w.heap.size+1+1 by simp] at h
    exact h)
  clear hP hV
  obtain⟨x0,x1,x2,x3,x4⟩:=HX.o.five'
  obtain⟨y0,y1,y2,y3,y4,y5,y6,y7,y8⟩:=HN.o.nineP
  go_enter Tryz.func27,Tryz.ntmps27
  go_wp2_with (at_builtin
               refine wpList_append_own _ rfl _ _ 25 rfl (w.heap.size+1+1) 36 i0 (.agg #[.slice none 0 0,.slice none 0 0,.slice none 0 0,.slice none 0 0,.slice none 0 0,.slice none 0 0,.slice none 0 0,.slice none 0 0,.slice none 0 0]) 9 216 Tryz.underlying25 hi0 hz0 hz1 hz2 rfl (by decide) _ 0 [] rfl HM.o ad2 T c2 (allC U T) rfl ?c1 ?c2 ?c3 ?c4 ?c5 ?c6 ?_)
  case c1=>exact qOc U T
  case c2=>exact fun j u hj=>Lib.cell?_alloc_some _ (Lib.cell?_alloc_some _ (Lib.cell?_alloc_some _ (HA.o j u hj)))
  case c3=>intro u hu;unfold allC at hu;obtain⟨j,_,rfl⟩:=List.mem_map.1 hu;rfl
  case c4=>rw[Nat.zero_add];unfold maxLen;omega
  case c5=>rw[Nat.zero_add];omega
  case c6=>simp
  intro v' w1 hown hgrow hnil
  have HB1:=qh ((Bnew HB.o (.cells #[] 36)).grown hgrow qs (by intro k hk;simp[Value.ownBlock] at hk;omega))
  have hk1:∀ {g:Nat} {t:TypeId} {cs:Array Value},g<w.heap.size+2->Held ((w.alloc (.cells #[.slice (some ad2) T c2,.int .i64 (i:Int),.int .i64 k0,.int .i64 pg,.int .i64 sl] 27)).alloc (.cells (pkC V) 36)) g t cs->Held w1 g t cs:=fun hg h=>(hgrow.block _ qs (by simp[Value.ownBlock];omega)).trans (h.alloc (.cells #[] 36))
  replace HX:=qh (hk1 qo HX.o)
  replace HN:=qh (hk1 qo HN.o)
  rcases hown.2 with ⟨h1,_⟩|⟨g,cap,cur,rfl,hbg,hg,hnc,hcm,hcs,ht⟩
  · exact absurd h1 hnil
  have HR:qH (Held w1 g 36 cur):=qh hg
  have HCS:=qh hcs
  have HTK:=qh ht
  have HBG:=qh hbg
  have hcap:cap<=9223372036854775807:=hcm
  have hsz:i*9+9<=cur.size:=by rw[hcs];omega
  have HNG:qH (w.heap.size+1+1<=g):=qh hbg
  obtain⟨o0,ho0⟩:∃ o,cur[i*9]?=some o:=⟨_,Array.getElem?_eq_getElem qo⟩
  have d0:=(HR.o.cell (i*9)).trans ho0
  have f0:=HR.o.thawed (i*9)
  obtain⟨o1,ho1⟩:∃ o,cur[i*9+1]?=some o:=⟨_,Array.getElem?_eq_getElem qo⟩
  have d1:=(HR.o.cell (i*9+1)).trans ho1
  have f1:=HR.o.thawed (i*9+1)
  obtain⟨o2,ho2⟩:∃ o,cur[i*9+2]?=some o:=⟨_,Array.getElem?_eq_getElem qo⟩
  have d2:=(HR.o.cell (i*9+2)).trans ho2
  have f2:=HR.o.thawed (i*9+2)
  obtain⟨o3,ho3⟩:∃ o,cur[i*9+3]?=some o:=⟨_,Array.getElem?_eq_getElem qo⟩
  have d3:=(HR.o.cell (i*9+3)).trans ho3
  have f3:=HR.o.thawed (i*9+3)
  obtain⟨o4,ho4⟩:∃ o,cur[i*9+4]?=some o:=⟨_,Array.getElem?_eq_getElem qo⟩
  have d4:=(HR.o.cell (i*9+4)).trans ho4
  have f4:=HR.o.thawed (i*9+4)
  obtain⟨o5,ho5⟩:∃ o,cur[i*9+5]?=some o:=⟨_,Array.getElem?_eq_getElem qo⟩
  have d5:=(HR.o.cell (i*9+5)).trans ho5
  have f5:=HR.o.thawed (i*9+5)
  obtain⟨o6,ho6⟩:∃ o,cur[i*9+6]?=some o:=⟨_,Array.getElem?_eq_getElem qo⟩
  have d6:=(HR.o.cell (i*9+6)).trans ho6
  have f6:=HR.o.thawed (i*9+6)
  obtain⟨o7,ho7⟩:∃ o,cur[i*9+7]?=some o:=⟨_,Array.getElem?_eq_getElem qo⟩
  have d7:=(HR.o.cell (i*9+7)).trans ho7
  have f7:=HR.o.thawed (i*9+7)
  obtain⟨o8,ho8⟩:∃ o,cur[i*9+8]?=some o:=⟨_,Array.getElem?_eq_getElem qo⟩
  have d8:=(HR.o.cell (i*9+8)).trans ho8
  have f8:=HR.o.thawed (i*9+8)
  clear hown hgrow hnil hg hcs ht hbg hk1 HM x0 x1 x2 x3 x4 y0 y1 y2 y3 y4 y5 y6 y7 y8 ho0 ho1 ho2 ho3 ho4 ho5 ho6 ho7 ho8
  obtain⟨x0,x1,x2,x3,x4⟩:=HX.o.five'
  obtain⟨y0,y1,y2,y3,y4,y5,y6,y7,y8⟩:=HN.o.nineP
  go_wp2_with fail
  have e:(((((((((w1.setCell ⟨g,i*9,none⟩ (V 0).v).setCell ⟨g,i*9+1,none⟩ (V 1).v).setCell ⟨g,i*9+2,none⟩ (V 2).v).setCell ⟨g,i*9+3,none⟩ (V 3).v).setCell ⟨g,i*9+4,none⟩ (V 4).v).setCell ⟨g,i*9+5,none⟩ (V 5).v).setCell ⟨g,i*9+6,none⟩ (V 6).v).setCell ⟨g,i*9+7,none⟩ (V 7).v).setCell ⟨g,i*9+8,none⟩ (V 8).v)=setW w1 g (i*9) (nineL V):=rfl
  rw[e]
  clear e
  have HW:=qh (Held.setW (nineL V) (i*9) HR.o)
  have HBW:=qh (belowW (g:=g) (by have:=HNG.o;omega) (nineL V) (i*9) HB1.o)
  generalize setW w1 g (i*9) (nineL V)=WF at *
  go_wp2
  go_ret
  exact⟨g,cap,rfl,hnc,hcm,qLA (HP.o.below HBW.o) (HV.o.below HBW.o) hi HW.o (by rw[HCS.o];omega) (fun j hj=>by
    have h1:(cur.toList.take (T*9))[j]?=(allC U T)[j]?:=by rw[HTK.o]
    rw[List.getElem?_take,if_pos qo,qCp U hj] at h1
    rw[<- Array.getElem?_toList,h1]),HBW.o⟩
end
section
section
variable {H : AuH} {n c : Nat} {K : Nat -> Option Nat} {st : Vst} {L : Nat -> List Nat} {B : List (Int × Int)} {Z : Nat -> Nat -> List Int} {Y : Nat -> List Int} {i0 k : Nat} {a : Int}
structure FlInv (H:AuH) (n:Nat) (K:Nat->Option Nat) (Z:Nat->Nat->List Int) (i0:Nat) (B:List (Int × Int)) (Y:Nat->List Int) (st:Vst):Prop where
 vw:VW n K st
 heap:∃ L,(nowH H n K st).Ok L/\∃ g,Work H.t H.p H.s n K st L g
 roots:∀ i,i<8->(nowH H n K st).V (22+i)=H.V (22+i)
 blocks:blocksOf (nowH H n K st).parts=B
 fits:FitsP (nowH H n K st).parts (szH H) H.t (updF Z i0 Y)
theorem qOz (l:List Int):updF Z i0 (updF Y k l)=putZ (updF Z i0 Y) i0 k l:=by
 funext t j
 unfold putZ updF
 by_cases h1:t=i0
 ·subst h1
  by_cases h2:j=k
  ·simp[h2]
  ·simp[h2]
 ·simp[h1]
theorem qZE (h:Y=Z i0):updF Z i0 Y=Z:=by
 subst h
 funext t
 unfold updF
 split
 ·rename_i e;subst e;rfl
 ·rfl
end
structure PkH (w:World) (g:Nat) (V:Nat->Sl) (Y:Nat->List Int):Prop where
 held:Held w g 36 (pkC V)
 pk:PkV w V Y
 bare:¬ PB V Y g
section
variable {w w' WF : World} {g N : Nat} {V : Nat -> Sl} {Y : Nat -> List Int}
theorem PkH.lt (h:PkH w g V Y):g<w.heap.size:=h.held.lt
theorem PkH.keep (h:PkH w g V Y)(hb:Below w.heap.size w w'):PkH w' g V Y:=⟨h.held.keep hb,h.pk.below hb,h.bare⟩
theorem PkH.drw (h:PkH w g V Y):PkH w.drew g V Y:=h.keep (Bdrew (B0 _))
theorem PkH.fresh (h:PkH w g V Y):¬ PB V Y w.heap.size:=fun x=>Nat.lt_irrefl _ (x.lt h.pk)
theorem PkH.far9 {u:Value}{r0 r1 r2 r3 r4 r5 r6 r7:Nat}(h:PkH w g V Y)(hw:wr9 w N u r0 r1 r2 r3 r4 r5 r6 r7=WF)(hne:g≠N)(hb:¬ PB V Y N):PkH WF g V Y:=by
 refine⟨_root_.Go.Proofs.YtjjfcaliippgpaaGreatDoor.far9 hw hne h.held,?_,h.bare⟩
 subst hw
 refine h.pk.stay (by unfold wr9 set9;simp) fun i hi=>?_
 exact qMB (fun e=>hb (by rw[<- e];exact hi)) _ _ _ _ _ _ _ _ _
theorem qQV {base size n:Nat}{e:TypeId}{v:Value}{xs:List Value}(h:w.ownsRow base e size v n xs)(hg:∀ j,v.ownBlock=some j->j≠g)(U:Nat->Sl):(setP w g U).ownsRow base e size v n xs :=
 qWQ h fun j hj=>qDL (hg j hj) U
end
theorem qQC {H:AuH}{n c:Nat}{K:Nat->Option Nat}{st:Vst}{L:Nat->List Nat}(HV:HeapV H n c)(hok:VOk n st)(h32:∀ i x,K i=some x->x<2^32)(hvw:VW n K st)(h:(nowH H n K st).Ok L){Z:Nat->Nat->List Int}(F:FitsP (nowH H n K st).parts (szH H) H.t Z)(w:World)(g cp:Nat)(hrow:RowF w g 76 n cp (valF (nowV K st.wr)))
  (A2:Option Addr) (c2:Nat) (U:Nat->Nat->Sl) (hTc:H.t<=c2) (hc2:c2<=maxLen) (hP:PksAt w A2 H.t U Z) :
  Calls Tryz.prog 26 #[.agg #[.int .i64 (H.t:Int),.int .i64 (H.p:Int),.int .i64 (H.s:Int)],.slice (some ⟨g,0,none⟩) n cp,.slice A2 H.t c2] w fun e w'=>e = .returned (.bool true)/\Below w.heap.size w w':=by
 obtain⟨HV',hv'⟩:=qGu HV hok h32 hvw hrow
 have hC:=qZU HV' ⟨g,0,none⟩ w hv' (m:=0) (b:=true) (.inl ⟨rfl,rfl,h.rules⟩)
 exact qME HV' ⟨g,0,none⟩ 0 A2 c2 U Z hTc hc2 (szH H) (fun _ _=>rfl) (fun k hk=>qAC HV' h _) true ⟨fun _=>F,fun _=>rfl⟩ w hv' hC hP
end
section
structure AlMath (H:AuH) (n:Nat) (K:Nat->Option Nat) (Z:Nat->Nat->List Int) (i0 k:Nat) (B:List (Int × Int)) (a:Int) (l:List Int) (st:Vst) (LB:List (Int × Int)) (p i:Nat):Prop where
 inv:FlInv H n K Z i0 LB (updF (Z i0) k l) st
 blocks:∃ X Y,B=X++Y/\LB=X ++ [(a,szH H k)]++Y/\(∀ x∈X,x.1<a)/\∀ y∈Y,a<y.1
 page:spotP H.t H.p H.s a=(p:Int)
 slot:slotR H.t H.p H.s (k:Int) (spotO H.t H.p H.s a)=(i:Int)
 pp:p<H.p
 i32:i<32
 low : -9223372036854775808<=a
 high:a<=9223372036854775807
 info1:(infoOf n K H.t H.p H.s p st).2.2.1=(k:Int)
 info2:(infoOf n K H.t H.p H.s p (offS n K H.t H.p H.s p i (getS n K st (pageI H.t H.p H.s p 0)))).2.2.1=(k:Int)
 back:VOk n (freeI n K H.t H.p H.s p i l st)->FlInv H n K Z i0 B (freeZ H.t H.p H.s k p i (updF (Z i0) k l)) (freeI n K H.t H.p H.s p i l st)
theorem qSV {H:AuH}{n c:Nat}{K:Nat->Option Nat}{L:Nat->List Nat}{B:List (Int × Int)}{Z:Nat->Nat->List Int}{i0 k:Nat}{a:Int}{l:List Int}(HV:HeapV H n c)(hok:H.Ok L)(hK:∀ i,i<n->K i=some (H.V i))(h32:∀ i x,K i=some x->x<2^32)(hk:k<9)(F:FitsP H.parts (szH H) H.t Z)(hi:i0<H.t)(hB:blocksOf H.parts=B)
  (hx:(allocI n K H.t H.p H.s (k:Int) (Z i0 k) freshS).1=some (a,l)) (hv1:Z i0 k = []->VOk n (pickI n K H.t H.p H.s (k:Int) 4 freshS).2) (hv2:VOk n (allocI n K H.t H.p H.s (k:Int) (Z i0 k) freshS).2) :
  ∃ LB p i,AlMath H n K Z i0 k B a l (allocI n K H.t H.p H.s (k:Int) (Z i0 k) freshS).2 LB p i:=by
 have W:=Work.of_ok hok HV hK
 rcases qBf HV hok W h32 hk F hi rfl hv1 hv2 with ⟨e,_⟩|⟨a',l2,p,i,L',e,vw,⟨g,W1⟩,A⟩
 ·rw[hx] at e;cases e
 rw[hx] at e
 injection e with e
 injection e with e1 e2
 subst e1 e2
 generalize (allocI n K H.t H.p H.s (k:Int) (Z i0 k) freshS).2=st at *
 have HV1:=qN5 HV hv2 h32 HV.cap HV.max
 have W1':Work (nowH H n K st).t (nowH H n K st).p (nowH H n K st).s n K st L' (nowH H n K st).V:=W1.again
 have S:=qQD HV1 A.at_ A.kind (i:=i) (by rw[A.cls];exact A.slot)
 have hZ:updF Z i0 (updF (Z i0) k l)=putZ Z i0 k l:=by rw[qOz,qZE rfl]
 obtain⟨g1,g2⟩:=qF4 HV1 W1' A.at_ i
 have ea:=A.addr
 have hat:=S.atI_
 rw[ea,A.cls] at hat
 have hbd:=qBv H.t H.p H.s (k:Int) (p:Int) (i:Int)
 have hat':atI H.t H.p H.s (k:Int) (p:Int) (i:Int)=a:=hat
 rw[hat'] at hbd
 refine⟨_,p,i,⟨vw,⟨L',A.ok,g,W1⟩,A.roots,rfl,by rw[hZ];exact A.fits⟩,?_,?_,?_,A.at_,Nat.lt_of_lt_of_le A.slot (qWU _),hbd.1,hbd.2,g1.trans A.cls,g2.trans A.cls,fun hv=>?_⟩
 ·obtain⟨X,Y,b1,b2,b3,b4⟩:=A.blocks
  exact⟨X,Y,by rw[<- hB];exact b1,b2,b3,b4⟩
 ·have:=S.page
  rw[ea] at this
  exact this
 ·have:=S.slot
  rw[ea,A.cls] at this
  exact this
 ·have e1:freeI n K H.t H.p H.s p i l st=offS n K H.t H.p H.s p i (getS n K st (pageI H.t H.p H.s p 0)):=by unfold freeI;rw[if_pos A.few]
  have e2:freeZ H.t H.p H.s k p i (updF (Z i0) k l)=updF (updF (Z i0) k l) k (l ++ [a]):=by
   unfold freeZ
   rw[qJN,if_pos A.few,hat']
  rw[e1] at hv ⊢
  rw[e2]
  obtain⟨_,vw2,⟨g2,W2⟩,O,_,hf⟩:=qOr HV1 A.ok W1' h32 A.at_ A.kind A.cls hk A.slot A.bit A.bare hv
  have hf:=hf (Z:=putZ Z i0 k l) A.fits hi (by rw[qYc];exact A.few)
  have O:LiveOff (nowH H n K st) (nowH (nowH H n K st) n K (offS n K H.t H.p H.s p i (getS n K st (pageI H.t H.p H.s p 0)))) L' p i:=O
  have hf:FitsP (nowH (nowH H n K st) n K (offS n K H.t H.p H.s p i (getS n K st (pageI H.t H.p H.s p 0)))).parts (szH H) H.t (putZ (putZ Z i0 k l) i0 k (putZ Z i0 k l i0 k ++ [(nowH H n K st).slotA p i])):=hf
  rw[qVJ] at O hf
  rw[qYc,ea] at hf
  refine⟨vw2,⟨L',O.ok,g2,W2⟩,fun j hj=>(O.roots j hj).trans (A.roots j hj),?_,by rw[qOz,hZ];exact hf⟩
  have h2:=O.blocks
  rw[ea] at h2
  rw[<- hB]
  exact qXS A.blocks h2
theorem qND {B LB X Y:List (Int × Int)}{a z:Int}(h1:B=X++Y)(h2:LB=X ++ [(a,z)]++Y)(h3:∀ x∈X,x.1<a)(h4:∀ y∈Y,a<y.1) :
  LB.length=B.length+1/\(∃ x∈LB,x.1=a)/\(¬ ∃ x∈B,x.1=a)/\∀ x∈LB,(x.1=a->x.2=z)/\(x.1≠a->∃ y∈B,y.1=x.1):=by
 subst h1 h2
 refine⟨by simp;omega,⟨(a,z),by simp,rfl⟩,fun ⟨x,hx,e⟩=>?_,fun x hx=>⟨fun e=>?_,fun e=>?_⟩⟩
 ·rcases List.mem_append.1 hx with h|h
  ·have:=h3 x h;omega
  ·have:=h4 x h;omega
 ·simp only[List.append_assoc,List.mem_append,List.mem_cons,List.mem_nil_iff,or_false,List.not_mem_nil] at hx
  rcases hx with h|h|h
  ·have:=h3 x h;omega
  ·rw[h]
  ·have:=h4 x h;omega
 ·simp only[List.append_assoc,List.mem_append,List.mem_cons,List.mem_nil_iff,or_false,List.not_mem_nil] at hx
  rcases hx with h|h|h
  ·exact⟨x,List.mem_append_left _ h,rfl⟩
  ·rw[h] at e;exact absurd rfl e
  ·exact⟨x,List.mem_append_right _ h,rfl⟩
end
section
theorem qIq (t q s k a:Int)(hk0 : -9223372036854775808<=k)(hk1:k<=9223372036854775807)(h0 : -9223372036854775808<=a)(h1:a<=9223372036854775807)(w:World) :
  Calls Tryz.prog 29 #[.agg #[.int .i64 t,.int .i64 q,.int .i64 s],.int .i64 k,.int .i64 a] w fun e w'=>e = .returned (.tuple #[.int .i64 (spotP t q s a),.int .i64 (slotR t q s k (spotO t q s a))])/\Below w.heap.size w w':=by
 have HC:=qh (Held.new w 23 #[.int .i64 t,.int .i64 q,.int .i64 s])
 have HB:=qh (Bnew (B0 w) (.cells #[.int .i64 t,.int .i64 q,.int .i64 s] 23))
 obtain⟨x0,x1,x2⟩:=HC.o.three
 obtain⟨o,ho⟩:∃ o,spotO t q s a=o:=⟨_,rfl⟩
 rw[ho]
 have HO:=qh ho
 clear ho
 go_enter Tryz.func29,Tryz.ntmps29
 go_wp2_with fail
 refine(qRm t q s a h0 h1 _).mono ?_
 rintro e w2 ⟨rfl,hb⟩
 replace HC:=qh (HC.o.keep hb)
 replace HB:=qh (Bgo HB.o hb)
 clear hb x0 x1 x2
 obtain⟨x0,x1,x2⟩:=HC.o.three
 rw[HO.o]
 go_wp2_with fail
 refine(qJf t q s k o hk0 hk1 _).mono ?_
 rintro e w3 ⟨rfl,hb⟩
 replace HB:=qh (Bgo HB.o hb)
 clear hb x0 x1 x2
 go_wp2
 go_ret2
 exact⟨rfl,HB.o⟩
end
section
section
variable {O : Ob} {w0 w w' : World} {A Q G : Nat -> Prop} {U V : Nat -> Sl} {Z Y : Nat -> List Int} {s s' : Vst}
theorem Held.farP {g2 g:Nat}{t:TypeId}{cs:Array Value}(h:Held w g2 t cs)(hne:g2≠g)(V:Nat->Sl):Held (_root_.Go.Proofs.YtjjfcaliippgpaaGreatDoor.setP w g V) g2 t cs:=(qDL hne V).trans h
end

section
variable {base b n : Nat} {all : Bool} {K : Nat -> Option Nat} {st : Vst} {w : World} {A : Nat -> Prop} {t q s : Int} {U : Nat -> Sl} {Z : Nat -> List Int}

end
end
end Go.Proofs.YtjjfcaliippgpaaGreatDoor
