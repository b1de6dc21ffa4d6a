/-
  What the document's Fits tells: of a heap, whether pockets fit it. Written by pocket/gen_rfits.py.
-/
import Derived.Test.YtjjfcaliippgpaaGreatDoorV01
import Derived.Test.YtjjfcaliippgpaaGreatDoorV19
import Derived.Test.YtjjfcaliippgpaaGreatDoorV09
import Derived.Test.YtjjfcaliippgpaaGreatDoorV18
import Derived.Test.YtjjfcaliippgpaaGreatDoorV06
import Derived.Test.YtjjfcaliippgpaaGreatDoorV21
import Derived.Test.YtjjfcaliippgpaaGreatDoorV23
import Derived.Test.YtjjfcaliippgpaaGreatDoorV13
import Derived.Test.YtjjfcaliippgpaaGreatDoorV10
import Derived.Test.YtjjfcaliippgpaaGreatDoorV04
namespace Go.Proofs.YtjjfcaliippgpaaGreatDoor
theorem RJp {P Q:Prop}(kq:Q)(h:HQ Q->P:=by
 intro kq
 replace HC:=qh (HC.o.keep (Bdrew (B0 _)))
 replace HO:=qh (qEc HO.o (Bdrew (B0 _)))
 replace HLH:=qh (HLH.o.below (Bdrew (B0 _)))
 replace HB:=qh (Bgo HB.o (Bdrew (B0 _)))
 refine wp_region_held_drew (S:=(fun w'=>(w'.cell? ⟨w.heap.size,0,none⟩=some (.int .i64 (H.t:Int))/\w'.cell? ⟨w.heap.size,1,none⟩=some (.int .i64 (H.p:Int))/\w'.cell? ⟨w.heap.size,2,none⟩=some (.int .i64 (H.s:Int)))/\w'.cell? ⟨g,i*3,none⟩=some (.int .i64 xk)/\w'.cell? ⟨g,i*3+1,none⟩=some (.int .i64 xa)/\w'.cell? ⟨g,i*3+2,none⟩=some (.int .i64 xz))) qr ?_ (fun hHeld=>?_)
 ·exact MDK
 revert HC HO HLH HB hHeld
 exact kq.o):P:=h ⟨kq⟩
theorem RYq {P Q:Prop}(kq:Q)(h:HQ Q->P:=by
 intro kq
 have HC:=qh ((Held.new W 23 #[.int .i64 t,.int .i64 q,.int .i64 s]).alloc (.cells #[.slice A2 T c2,.int .i64 t0,.int .i64 k0,.int .i64 pg,.int .i64 sl] 27))
 have HX:=qh (Held.new2 W (.cells #[.int .i64 t,.int .i64 q,.int .i64 s] 23) 27 #[.slice A2 T c2,.int .i64 t0,.int .i64 k0,.int .i64 pg,.int .i64 sl])
 have HB:=qh (Bnew (Bnew (B0 W) (.cells #[.int .i64 t,.int .i64 q,.int .i64 s] 23)) (.cells #[.slice A2 T c2,.int .i64 t0,.int .i64 k0,.int .i64 pg,.int .i64 sl] 27))
 revert HC HX HB
 exact kq.o):P:=h ⟨kq⟩
theorem R1L {P Q:Prop}(kq:Q)(h:HQ Q->P:=by
 intro kq
 refine(qBj (H.s:Int) (k:Int) qo qo _).mono ?_
 rintro e w9 ⟨rfl,hb⟩
 rw[HSZ.o]
 replace HC:=qh (HC.o.keep hb)
 replace HO:=qh (qEc HO.o hb)
 replace HLH:=qh (HLH.o.below hb)
 replace HB:=qh (Bgo HB.o hb)
 clear hb
 refine qk ?_ (fun hHeld=>?_)
 ·exact Mij
 refine tkz 16 ?_
 revert w9 HC HO HLH HB hHeld
 exact kq.o):P:=h ⟨kq⟩
theorem RZx {P Q:Prop}(kq:Q)(h:HQ Q->P:=by
 intro kq
 obtain⟨x0',x1',x2'⟩:=HC.o.three
 obtain⟨y0',y1',y2',y3',y4'⟩:=HX.o.five'
 revert x0' x1' x2' y0' y1' y2' y3' y4'
 exact kq.o):P:=h ⟨kq⟩
theorem R2t {P Q:Prop}(kq:Q)(h:HQ Q->P:=by
 intro kq
 replace HC:=qh (HC.o.keep hb)
 replace HX:=qh (HX.o.keep hb)
 revert HC HX
 exact kq.o):P:=h ⟨kq⟩
theorem R2K {P Q:Prop}(kq:Q)(h:HQ Q->P:=by
 intro kq
 have t2:decide (q<=(64:Int))=true:=qt
 have t3:decide ((T:Int)<=(16:Int))=true:=qt
 have t3n:decide (T<=16)=true:=qt
 revert t2 t3 t3n
 exact kq.o):P:=h ⟨kq⟩
theorem MrY {P:Prop}(h:P:=by
 refine RYq ?_;intro HC HX HB
 refine RZx ?_;intro x0' x1' x2' y0' y1' y2' y3' y4'
 go_enter Tryz.func7,Tryz.ntmps7
 go_wp2_with fail
 refine(qYU t q s _).mono ?_
 rintro e w1 ⟨rfl,hb⟩
 rw[t2]
 refine R2t ?_;clear HC HX;intro HC HX
 replace HB:=qh (Bgo HB.o hb)
 clear hb
 clear x0' x1' x2' y0' y1' y2' y3' y4'
 refine RZx ?_;intro x0' x1' x2' y0' y1' y2' y3' y4'
 go_wp2
 go_ret
 exact⟨rfl,HB.o⟩):P:=h
theorem McD {P:Prop}(h:P:=by
 have HC:=qh (Held.new W 23 #[.int .i64 t,.int .i64 q,.int .i64 s])
 have HB:=qh (Bnew (B0 W) (.cells #[.int .i64 t,.int .i64 q,.int .i64 s] 23))
 obtain⟨x0',x1',x2'⟩:=HC.o.three
 go_enter Tryz.func20,Tryz.ntmps20
 go_wp2
 go_ret
 exact⟨rfl,HB.o⟩):P:=h
theorem Mr2 {P:Prop}(h:P:=by
 refine tkz 17 ?_
 refine dnz ?_
 go_wp2_with fail
 go_roundw
 case rel=>exact⟨i+1,v,qo,by go_num,rfl,qh (by rw[HPK.o];exact HV0.o),qh (fun a ha=>by rw[HPK.o] at ha;exact HQ.o a ha),HC,HO,HLH,HB⟩
 case measure=>simp[intOf];omega):P:=h
theorem MDK {P:Prop}(h:P:=by
 (try dsimp only)
 exact Mij):P:=h
theorem Mij {P:Prop}(h:P:=by first|exact⟨HC.o.three,HXC.o _ HO.o⟩|exact hHeld):P:=h
end Go.Proofs.YtjjfcaliippgpaaGreatDoor
set_option linter.unusedVariables false
set_option linter.unusedSimpArgs false
set_option maxRecDepth 100000
set_option maxHeartbeats 25600000
namespace Go.Proofs.YtjjfcaliippgpaaGreatDoor
open Go.ChangeShapes Go.WideShapes Go.ChangeAt Go.RowKit Go.Maps
section
theorem qXP {parts:List (Int × Int × Int)}{i:Nat}{x:Int × Int × Int}(z:Int)(hx:parts[i]?=some x):pkA (parts.take (i+1)) z=pkA (parts.take i) z++if x.1=4/\x.2.2=z then [x.2.1] else []:=by
 rw[List.take_add_one,hx]
 unfold pkA
 show List.map _ (List.filter _ (parts.take i ++ [x]))=_
 rw[List.filter_append,List.map_append]
 congr 1
 by_cases h:x.1=4/\x.2.2=z
 ·rw[if_pos h,List.filter_cons_of_pos (by simp[h.1,h.2])];rfl
 ·rw[if_neg h,List.filter_cons_of_neg (by simp only[Bool.and_eq_true,decide_eq_true_eq];exact h)];rfl
theorem qRd {Z:Nat->Nat->List Int}{k B:Nat}:∀ {T:Nat},(∀ t,t<T->(Z t k).length<=B)->(haveT Z k T).length<=T*B
 | 0,_=>Nat.zero_le _
 | T+1,h=>by
  unfold haveT
  rw[List.length_append,Nat.add_mul,Nat.one_mul]
  have:=qRd (T:=T) (fun t ht=>h t qo)
  have:=h T qo
  omega
theorem qWf {Z:Nat->Nat->List Int}{k:Nat}{a:Int}:∀ {T:Nat},a∈haveT Z k T->∃ t,t<T/\a∈Z t k
 | 0,h=>by simp[haveT] at h
 | T+1,h=>by
  unfold haveT at h
  rcases List.mem_append.1 h with h|h
  ·obtain⟨t,h1,h2⟩:=qWf h
   exact⟨t,qo,h2⟩
  ·exact⟨T,qo,h⟩
theorem qEb {l:List (Int × Int × Int)}{i:Nat}{xk xa xz z:Int}(hx:l[i]?=some (xk,xa,xz))(h4:xk=4)(hz:xz=z):xa∈pkA l z:=by
 unfold pkA
 exact List.mem_map.2 ⟨_,List.mem_filter.2 ⟨List.mem_of_getElem? hx,by simp[h4,hz]⟩,rfl⟩
theorem qJ9 (l:List (Int × Int × Int))(z:Int):(pkA l z).length<=l.length:=by unfold pkA;rw[List.length_map];exact List.length_filter_le _ _
theorem qCb {parts:List (Int × Int × Int)}{sz:Nat->Int}{T B:Nat}{Z:Nat->Nat->List Int}{m:Nat}(h:∀ k,k<m->(haveT Z k T).length<=B):∀ j:Nat,j<=m -> -((j:Int)*parts.length)<=overN parts sz T Z j/\overN parts sz T Z j<=(j:Int)*B
 | 0,_=>by unfold overN;simp
 | j+1,hj=>by
  obtain⟨h1,h2⟩:=qCb (sz:=sz) h j qo
  have h3:=h j qo
  have h4:=qJ9 parts (sz j)
  unfold overN
  have e1:((j+1:Nat):Int)*(parts.length:Int)=(j:Int)*parts.length+parts.length:=by push_cast;rw[Int.add_mul];omega
  have e2:((j+1:Nat):Int)*(B:Int)=(j:Int)*B+B:=by push_cast;rw[Int.add_mul];omega
  rw[e1,e2]
  generalize (j:Int)*(parts.length:Int)=x1 at *
  generalize (j:Int)*(B:Int)=x2 at *
  omega
theorem qFW (t q s:Int)(A:Option Addr)(n c m:Nat)(A2:Option Addr)(T c2:Nat)(w:World)(hX:XCheckIs w t q s A n c m false) :
  Calls Tryz.prog 26 #[.agg #[.int .i64 t,.int .i64 q,.int .i64 s],.slice A n c,.slice A2 T c2] w fun e w'=>e = .returned (.bool false)/\Below w.heap.size w w':=by
 have HC:=qh (Held.new w 23 #[.int .i64 t,.int .i64 q,.int .i64 s])
 have HB:=qh (Bnew (B0 w) (.cells #[.int .i64 t,.int .i64 q,.int .i64 s] 23))
 have HXX:=qh hX
 clear hX
 obtain⟨x0,x1,x2⟩:=HC.o.three
 go_enter Tryz.func26,Tryz.ntmps26
 go_wp2_with fail
 refine(qHm t q s A n c m false _ (HXX.o.grown HB.o)).mono ?_
 rintro e w2 ⟨rfl,hb⟩
 replace HB:=qh (Bgo HB.o hb)
 clear hb
 go_wp2
 go_ret
 exact⟨rfl,HB.o⟩
theorem qJP (t q s:Int)(A:Option Addr)(n c m:Nat)(A2:Option Addr)(T c2:Nat)(hT:(T:Int)≠t)(w:World)(hX:XCheckIs w t q s A n c m true) :
  Calls Tryz.prog 26 #[.agg #[.int .i64 t,.int .i64 q,.int .i64 s],.slice A n c,.slice A2 T c2] w fun e w'=>e = .returned (.bool false)/\Below w.heap.size w w':=by
 have HC:=qh (Held.new w 23 #[.int .i64 t,.int .i64 q,.int .i64 s])
 have HB:=qh (Bnew (B0 w) (.cells #[.int .i64 t,.int .i64 q,.int .i64 s] 23))
 have HXX:=qh hX
 have t0:((T:Int) != t)=true:=bne_iff_ne.2 hT
 clear hX
 obtain⟨x0,x1,x2⟩:=HC.o.three
 go_enter Tryz.func26,Tryz.ntmps26
 go_wp2_with fail
 refine(qHm t q s A n c m true _ (HXX.o.grown HB.o)).mono ?_
 rintro e w2 ⟨rfl,hb⟩
 replace HC:=qh (HC.o.keep hb)
 replace HB:=qh (Bgo HB.o hb)
 clear hb x0 x1 x2
 obtain⟨x0,x1,x2⟩:=HC.o.three
 go_wp2
 go_ret
 exact⟨rfl,HB.o⟩
theorem qWD {H:AuH}{n c:Nat}(HV:HeapV H n c)(ad:Addr)(m:Nat)(A2:Option Addr)(c2:Nat)(U:Nat->Nat->Sl)(Z:Nat->Nat->List Int)(hTc:H.t<=c2)(hc2:c2<=maxLen)
  (sz:Nat->Int) (hsz:∀ k:Nat,k<9->((sizeN (H.s:Int) (k:Int):Nat):Int)=sz k) (hnd:∀ k,k<9->(pkA H.parts (sz k)).Nodup) (b:Bool) (hb:b=true↔FitsP H.parts sz H.t Z)
  (w:World) (hv:IsVals w ad n H.V) (hX:XCheckIs w H.t H.p H.s (some ad) n c m true) (hP:PksAt w A2 H.t U Z) :
  Calls Tryz.prog 26 #[.agg #[.int .i64 (H.t:Int),.int .i64 (H.p:Int),.int .i64 (H.s:Int)],.slice (some ad) n c,.slice A2 H.t c2] w fun e w'=>e = .returned (.bool b)/\Below w.heap.size w w':=by
 have HNO:qH (∀ k,k<9->¬ OnceP H.parts sz H.t Z k->b=false):=qh (fun k hk h=>by
  cases b with
  | false=>rfl
  | true=>exact absurd (((qWH hnd).2 (hb.1 rfl)).1 k hk) h)
 have HYES:qH ((∀ k,k<9->OnceP H.parts sz H.t Z k)->b=(overN H.parts sz H.t Z 9==0)):=qh (fun h=>by
  by_cases h0:overN H.parts sz H.t Z 9=0
  ·rw[hb.2 ((qWH hnd).1 ⟨h,h0⟩),h0];rfl
  ·cases b with
   | false=>symm;simpa using h0
   | true=>exact absurd ((qWH hnd).2 (hb.1 rfl)).2 h0)
 have HC:=qh (Held.new w 23 #[.int .i64 (H.t:Int),.int .i64 (H.p:Int),.int .i64 (H.s:Int)])
 have HB:=qh (Bnew (B0 w) (.cells #[.int .i64 (H.t:Int),.int .i64 (H.p:Int),.int .i64 (H.s:Int)] 23))
 have HXX:=qh hX
 have HVL:=qh hv
 have HPP:=qh hP
 have HSZA:=qh hsz
 obtain⟨l,hpl⟩:∃ l,H.parts=l:=⟨_,rfl⟩
 obtain⟨nl,hnl⟩:∃ nl,l.length=nl:=⟨_,rfl⟩
 have hnum:=HV.nums
 have hT16:H.t<=16:=qo
 have hnb:nl<=60000:=by
  have h2:H.parts.length<=H.p*33:=AuH.parts_len H.p
  rw[hpl,hnl] at h2
  omega
 have HPL:=qh hpl
 have HNL:=qh hnl
 rw[hpl] at HNO HYES
 have t0:((H.t:Int) != (H.t:Int))=false:=by simp
 have s0 : -9223372036854775808<=(H.s:Int):=qo
 clear hb hX hv hP hsz hnl hpl hnd
 obtain⟨x0,x1,x2⟩:=HC.o.three
 go_enter Tryz.func26,Tryz.ntmps26
 go_wp2_with fail
 refine(qHm H.t H.p H.s (some ad) n c m true _ (HXX.o.grown HB.o)).mono ?_
 rintro e w2 ⟨rfl,hb⟩
 replace HC:=qh (HC.o.keep hb)
 replace HB:=qh (Bgo HB.o hb)
 clear hb x0 x1 x2
 obtain⟨x0,x1,x2⟩:=HC.o.three
 go_wp2_with fail
 refine(qAK HV ad m _ (HVL.o.below HB.o) (HXX.o.grown HB.o)).mono ?_
 rintro e w3 ⟨u3,rfl,ho,hb⟩
 rw[HPL.o,HNL.o] at ho
 obtain⟨A1,c1,hu⟩:=qKK ho
 subst hu
 have hcc:=qIZ ho
 generalize w2.heap.size=bs at ho
 have HO:=qh ho
 replace HC:=qh (HC.o.keep hb)
 replace HB:=qh (Bgo HB.o hb)
 clear ho hb x0 x1 x2
 have HIB:qH (∀ k,k<9->∀ z∈haveT Z k H.t,-9223372036854775808<=z/\z<=9223372036854775807):=qh (fun k hk z hz=>by
  obtain⟨t,ht,hz⟩:=qWf hz
  obtain⟨_,_,_,hcs⟩:=HPP.o t ht
  obtain⟨_,_,_,_,_,hb,_⟩:=(hcs k hk).2
  exact hb z hz)
 go_wp2_with fail
 go_loopw [8,9] (fun u8 u9 wr=>∃ (k:Nat) (ov:Int),k<=9/\u9 = .int .i64 (k:Int)/\u8 = .int .i64 ov/\qH (overN l sz H.t Z k=ov)/\qH (∀ j,j<k->OnceP l sz H.t Z j)/\qH (Held wr w.heap.size 23 #[.int .i64 (H.t:Int),.int .i64 (H.p:Int),.int .i64 (H.s:Int)])/\qH (wr.ownsRow bs 128 3 (.slice A1 nl c1) nl (ptVs l))/\qH (Below w.heap.size w wr)) (fun _ u9 _=>9-(intOf u9).toNat)
 case atStart=>exact⟨0,0,qo,rfl,rfl,qh rfl,qh (fun j hj=>absurd hj (Nat.not_lt_zero _)),HC,HO,HB⟩
 case round =>
  clear HC HO HB
  obtain⟨k,ov,hk,rfl,rfl,HOV,HON,HC,HO,HB⟩:=hrel
  by_cases hk9:k<9
  ·go_wp2_with fail
   go_loopw [10] (fun u10 wr2=>∃ t:Nat,t<=H.t/\u10 = .int .i64 (t:Int)/\wr2=wr/\qH (∀ t',t'<t->(Z t' k).length<=4)) (fun u10 _=>H.t-(intOf u10).toNat)
   case atStart=>exact⟨0,qo,rfl,rfl,qh (fun j hj=>absurd hj (Nat.not_lt_zero _))⟩
   case round =>
    obtain⟨t,ht,rfl,rfl,HF4⟩:=hrel
    by_cases htT:t<H.t
    ·obtain⟨ad2,e2,_,hcs⟩:=HPP.o.below HB.o t htT
     obtain⟨hc0,hL⟩:=hcs k hk9
     obtain⟨A3,c3,hu,hlc,hcm2,_,_,_⟩:=hL
     rw[hu] at hc0
     have hc1:=hc0
     rw[<- qUN] at hc1
     obtain⟨n1,hn1⟩:∃ n1,(Z t k).length=n1:=⟨_,rfl⟩
     have HN1:=qh hn1
     have hz:(Z t k).length<=9223372036854775807:=Nat.le_trans hlc (by unfold maxLen at hcm2;omega)
     rw[hn1] at hc0 hc1 hlc hz
     clear hu hn1 hcs
     by_cases h4:n1<=4
     ·have t1:decide ((4:Int)<(n1:Int))=false:=qf
      have t1n:decide (4<n1)=false:=qf
      subst e2
      go_wp2_with fail
      go_roundw
      case rel=>exact⟨t+1,qo,by go_num,by first|rfl|trivial,qh (fun t' h'=>by
       by_cases e:t'=t
       ·subst e;rw[HN1.o];exact h4
       ·exact HF4.o t' qo)⟩
      case measure=>simp[intOf];omega
     ·have t1:decide ((4:Int)<(n1:Int))=true:=qt
      have t1n:decide (4<n1)=true:=qt
      have hf:=HNO.o k hk9 (fun h=>h4 (by rw[<- HN1.o];exact h.1 t htT))
      subst hf
      subst e2
      go_wp2_with fail
      go_ret
      exact⟨rfl,HB.o⟩
    ·obtain rfl:t=H.t:=qo
     go_wp2_with fail
     refine(qXy A2 H.t c2 k U Z qo hk9 (fun t' h'=>Nat.le_trans (HF4.o t' h') qo) hTc hc2 _ (HPP.o.below HB.o)).mono ?_
     rintro e w4 ⟨u4,rfl,ho,hb⟩
     obtain⟨nh,hnh⟩:∃ nh,(haveT Z k H.t).length=nh:=⟨_,rfl⟩
     have hhl:=qRd (Z:=Z) (k:=k) (B:=1000) (T:=H.t) (fun t' ht'=>Nat.le_trans (HF4.o t' ht') qo)
     have HLH:=qh (qUL ho (HIB.o k hk9))
     rw[hnh] at ho hhl
     obtain⟨A4,c4,hu⟩:=qKK ho
     subst hu
     have hcc4:=qIZ ho
     have HV1:=qh ho
     have HNH:=qh hnh
     replace HC:=qh (HC.o.keep hb)
     replace HO:=qh (qEc HO.o hb)
     replace HB:=qh (Bgo HB.o hb)
     have hbd:=qCb (parts:=l) (sz:=sz) (T:=H.t) (B:=16000) (Z:=Z) (m:=k) (fun j hj=>by
      have h5:=qRd (Z:=Z) (k:=j) (B:=1000) (T:=H.t) (fun t ht=>Nat.le_trans ((HON.o j hj).1 t ht) qo)
      omega) k (Nat.le_refl _)
     rw[HNL.o,HOV.o] at hbd
     have hbd1 : -540000<=ov/\ov<=144000:=by
      have g1:(k:Int)*(nl:Int)<=9*60000:=by
       have:k*nl<=9*60000:=Nat.mul_le_mul hk hnb
       omega
      omega
     have v1:IntKind.i64.wrap (ov+(nh:Int))=ov+(nh:Int):=qIv qo qo
     obtain⟨zk,hzk⟩:∃ zk,sz k=zk:=⟨_,rfl⟩
     have HSZ:qH (((sizeN (H.s:Int) (k:Int):Nat):Int)=zk):=qh (by rw[HSZA.o k hk9,hzk])
     have HZK:=qh hzk
     clear ho hb hnh hbd hzk
     go_wp2_with fail
     go_loopw [8,12] (fun u8 u12 wr=>∃ (i:Nat) (v:Int),i<=nl/\u12 = .int .i64 (i:Int)/\u8 = .int .i64 v/\qH (v=ov+(nh:Int)-((pkA (l.take i) zk).length:Int))/\qH (∀ a∈pkA (l.take i) zk,(haveT Z k H.t).count a=1)/\qH (Held wr w.heap.size 23 #[.int .i64 (H.t:Int),.int .i64 (H.p:Int),.int .i64 (H.s:Int)])/\qH (wr.ownsRow bs 128 3 (.slice A1 nl c1) nl (ptVs l))/\qH (LongsAt wr (.slice A4 nh c4) (haveT Z k H.t))/\qH (Below w.heap.size w wr)) (fun _ u12 _=>nl-(intOf u12).toNat)
     case atStart=>exact⟨0,ov+(nh:Int),qo,rfl,rfl,qh (by simp[pkA]),qh (fun a ha=>by simp[pkA] at ha),HC,HO,HLH,HB⟩
     case round =>
      clear HC HO HB HLH HV1
      obtain⟨i,v,hi,rfl,rfl,HV0,HQ,HC,HO,HLH,HB⟩:=hrel
      by_cases hlt:i<nl
      ·obtain⟨x,hx⟩:∃ x,l[i]?=some x:=⟨_,List.getElem?_eq_getElem (by rw[HNL.o];exact hlt)⟩
       obtain⟨xk,xa,xz⟩:=x
       obtain⟨g,c9,hg,_⟩:=HO.o.form qo
       injection hg with hg3 _ hg4
       subst hg3
       clear hg4
       have HXC:=qh (fun (w':World) (ho:w'.ownsRow bs 128 3 (.slice (some ⟨g,0,none⟩) nl c1) nl (ptVs l))=>(show w'.cell? ⟨g,i*3,none⟩=some (.int .i64 xk)/\w'.cell? ⟨g,i*3+1,none⟩=some (.int .i64 xa)/\w'.cell? ⟨g,i*3+2,none⟩=some (.int .i64 xz) from
        ⟨by rw[ho.cellAt (i*3) qo];exact(qPO l i _ hx).1,by rw[ho.cellAt (i*3+1) qo];exact(qPO l i _ hx).2.1,by rw[ho.cellAt (i*3+2) qo];exact(qPO l i _ hx).2.2⟩))
       have HPK:=qh (qXP zk hx)
       have hpl:=qJ9 (l.take i) zk
       rw[List.length_take] at hpl
       have hv0:=HV0.o
       have hvb : -700000<=v/\v<=700000:=qo
       have HME:qH (xk=4->xz=zk->xa∈pkA l zk):=qh (fun e1 e2=>qEb hx e1 e2)
       obtain⟨cn,hcn⟩:∃ cn,(haveT Z k H.t).count xa=cn:=⟨_,rfl⟩
       have HCT:=qh hcn
       have hcb:cn<=nh:=by rw[<- hcn,<- HNH.o];exact List.count_le_length
       clear hx hv0 hpl hcn
       obtain⟨x0,x1,x2⟩:=HC.o.three
       by_cases h4:xk=4
       ·have t4:(xk==4)=true:=by simpa using h4
        by_cases h5:xz=zk
        ·have t5:(xz==zk)=true:=by simpa using h5
         rw[if_pos ⟨h4,h5⟩] at HPK
         have HMM:=qh (HME.o h4 h5)
         clear h4 h5
         by_cases h6:cn=1
         ·have t6:((cn:Int) != 1)=false:=by rw[bne_eq_false_iff_eq];omega
          have t6n:(cn != 1)=false:=by rw[bne_eq_false_iff_eq];exact h6
          have v2:IntKind.i64.wrap (v-1)=v-1:=qIv qo qo
          have HC1:qH ((haveT Z k H.t).count xa=1):=qh (by rw[HCT.o];exact h6)
          clear h6
          go_wp2_with fail
          refine RJp ?_;clear HC HO HLH HB;intro HC HO HLH HB hHeld
          refine Rbo ?_
          refine tkz 5 ?_
          refine ROY ?_;intro K hK
          refine R1L ?_;clear HC HO HLH HB hK K;intro w9 HC HO HLH HB hHeld
          refine tkz 17 ?_
          refine dnz ?_
          clear x0 x1 x2
          obtain⟨x0,x1,x2⟩:=HC.o.three
          obtain⟨y0,y1,y2⟩:=HXC.o _ HO.o
          go_wp2_with fail
          refine(qBi (.slice A4 nh c4) (haveT Z k H.t) xa nh HNH.o qo _ HLH.o).mono ?_
          rintro e w8 ⟨rfl,rfl⟩
          rw[HCT.o]
          go_wp2_with fail
          go_roundw
          case rel=>exact⟨i+1,v-1,qo,by go_num,rfl,qh (by rw[HPK.o,List.length_append,HV0.o];simp only[List.length_cons,List.length_nil];omega),qh (fun a ha=>by
           rw[HPK.o] at ha
           rcases List.mem_append.1 ha with ha|ha
           ·exact HQ.o a ha
           ·rw[List.mem_singleton] at ha;rw[ha];exact HC1.o),HC,HO,HLH,HB⟩
          case measure=>simp[intOf];omega
         ·have t6:((cn:Int) != 1)=true:=by rw[bne_iff_ne];omega
          have t6n:(cn != 1)=true:=by rw[bne_iff_ne];exact h6
          have hf:=HNO.o k hk9 (fun h=>h6 (by rw[<- HCT.o];exact h.2 xa (by rw[HZK.o];exact HMM.o)))
          subst hf
          clear h6
          go_wp2_with fail
          refine RJp ?_;clear HC HO HLH HB;intro HC HO HLH HB hHeld
          refine Rbo ?_
          refine tkz 5 ?_
          refine ROY ?_;intro K hK
          refine R1L ?_;clear HC HO HLH HB hK K;intro w9 HC HO HLH HB hHeld
          refine tkz 17 ?_
          refine dnz ?_
          clear x0 x1 x2
          obtain⟨x0,x1,x2⟩:=HC.o.three
          obtain⟨y0,y1,y2⟩:=HXC.o _ HO.o
          go_wp2_with fail
          refine(qBi (.slice A4 nh c4) (haveT Z k H.t) xa nh HNH.o qo _ HLH.o).mono ?_
          rintro e w8 ⟨rfl,rfl⟩
          rw[HCT.o]
          go_wp2_with fail
          go_ret
          exact⟨rfl,HB.o⟩
        ·have t5:(xz==zk)=false:=by simpa using h5
         rw[if_neg (fun h=>h5 h.2),List.append_nil] at HPK
         clear h4 h5
         go_wp2_with fail
         refine RJp ?_;clear HC HO HLH HB;intro HC HO HLH HB hHeld
         refine Rbo ?_
         refine tkz 5 ?_
         refine ROY ?_;intro K hK
         refine R1L ?_;clear HC HO HLH HB hK K;intro w9 HC HO HLH HB hHeld
         exact Mr2
       ·have t4:(xk==4)=false:=by simpa using h4
        rw[if_neg (fun h=>h4 h.1),List.append_nil] at HPK
        clear h4
        go_wp2_with fail
        refine RJp ?_;clear HC HO HLH HB;intro HC HO HLH HB hHeld
        refine Rbo ?_
        refine tkz 5 ?_
        refine tkz 6 ?_
        refine skz 7 ?_
        refine skz 8 ?_
        refine skz 9 ?_
        refine RKv ?_
        refine skz 15 ?_
        refine skz 16 ?_
        exact Mr2
      ·obtain rfl:i=nl:=qo
       have HE:qH (l.take i=l):=qh (List.take_of_length_le (by rw[HNL.o];exact Nat.le_refl _))
       go_wp2_with fail
       go_roundw
       case rel=>exact⟨k+1,v,qo,by go_num,rfl,qh (by
        show overN l sz H.t Z k+((haveT Z k H.t).length:Int)-((pkA l (sz k)).length:Int)=v
        rw[HV0.o,HE.o,HOV.o,HNH.o,HZK.o]),qh (fun j hj=>by
        by_cases e:j=k
        ·subst e
         exact⟨HF4.o,fun a ha=>HQ.o a (by rw[HE.o];rw[HZK.o] at ha;exact ha)⟩
        ·exact HON.o j qo),HC,HO,HB⟩
       case measure=>simp[intOf];omega
  ·obtain rfl:k=9:=qo
   have hf:=HYES.o HON.o
   rw[HOV.o] at hf
   subst hf
   go_wp2
   go_ret
   exact⟨rfl,HB.o⟩
end
section
theorem qJp (t q s:Int)(A:Option Addr)(n c:Nat)(A2:Option Addr)(T c2:Nat)(t0 k0 pg sl:Int)(h:64<q)(W:World):Calls Tryz.prog 7 #[.agg #[.int .i64 t,.int .i64 q,.int .i64 s],.slice A n c,.agg #[.slice A2 T c2,.int .i64 t0,.int .i64 k0,.int .i64 pg,.int .i64 sl]] W (fun e w'=>e = .returned (.bool false)/\Below W.heap.size W w'):=by
 have t2:decide (q<=(64:Int))=false:=qf
 exact MrY
theorem qKs (t q s:Int)(A:Option Addr)(n c:Nat)(A2:Option Addr)(T c2:Nat)(t0 k0 pg sl:Int)(h1:q<=64)(hc:T<=9223372036854775807)(h:16<T)(W:World):Calls Tryz.prog 7 #[.agg #[.int .i64 t,.int .i64 q,.int .i64 s],.slice A n c,.agg #[.slice A2 T c2,.int .i64 t0,.int .i64 k0,.int .i64 pg,.int .i64 sl]] W (fun e w'=>e = .returned (.bool false)/\Below W.heap.size W w'):=by
 have t2:decide (q<=(64:Int))=true:=qt
 have t3:decide ((T:Int)<=(16:Int))=false:=qf
 have t3n:decide (T<=16)=false:=qf
 exact MrY
theorem qYJ (t q s:Int)(A:Option Addr)(n c:Nat)(A2:Option Addr)(T c2:Nat)(t0 k0 pg sl:Int)(h1:q<=64)(h2:T<=16)(h:t0<0)(W:World):Calls Tryz.prog 7 #[.agg #[.int .i64 t,.int .i64 q,.int .i64 s],.slice A n c,.agg #[.slice A2 T c2,.int .i64 t0,.int .i64 k0,.int .i64 pg,.int .i64 sl]] W (fun e w'=>e = .returned (.bool false)/\Below W.heap.size W w'):=by
 refine R2K ?_;intro t2 t3 t3n
 have t4:decide ((0:Int)<=t0)=false:=qf
 exact MrY
theorem qHQ (t q s:Int)(A:Option Addr)(n c:Nat)(A2:Option Addr)(T c2:Nat)(t0 k0 pg sl:Int)(h1:q<=64)(h2:T<=16)(h3:0<=t0)(h:(T:Int)<=t0)(W:World):Calls Tryz.prog 7 #[.agg #[.int .i64 t,.int .i64 q,.int .i64 s],.slice A n c,.agg #[.slice A2 T c2,.int .i64 t0,.int .i64 k0,.int .i64 pg,.int .i64 sl]] W (fun e w'=>e = .returned (.bool false)/\Below W.heap.size W w'):=by
 refine R2K ?_;intro t2 t3 t3n
 have t4:decide ((0:Int)<=t0)=true:=qt
 have t5:decide (t0<(T:Int))=false:=qf
 exact MrY
theorem qOw (t q s:Int)(A:Option Addr)(n c:Nat)(A2:Option Addr)(T c2:Nat)(t0 k0 pg sl:Int)(W:World)(h1:q<=64)(h2:T<=16)(h3:0<=t0)(h4:t0<(T:Int))(b:Bool)(HF:∀ w,Below W.heap.size W w->Calls Tryz.prog 26 #[.agg #[.int .i64 t,.int .i64 q,.int .i64 s],.slice A n c,.slice A2 T c2] w fun e w'=>e = .returned (.bool b)/\Below w.heap.size w w')  : Calls Tryz.prog 7 #[.agg #[.int .i64 t,.int .i64 q,.int .i64 s],.slice A n c,.agg #[.slice A2 T c2,.int .i64 t0,.int .i64 k0,.int .i64 pg,.int .i64 sl]] W (fun e w'=>e = .returned (.bool b)/\Below W.heap.size W w'):=by
 refine R2K ?_;intro t2 t3 t3n
 have t4:decide ((0:Int)<=t0)=true:=qt
 have t5:decide (t0<(T:Int))=true:=qt
 have HG:=qh HF
 clear HF
 refine RYq ?_;intro HC HX HB
 refine RZx ?_;intro x0' x1' x2' y0' y1' y2' y3' y4'
 go_enter Tryz.func7,Tryz.ntmps7
 go_wp2_with fail
 refine(qYU t q s _).mono ?_
 rintro e w1 ⟨rfl,hb⟩
 rw[t2]
 refine R2t ?_;clear HC HX;intro HC HX
 replace HB:=qh (Bgo HB.o hb)
 clear hb
 clear x0' x1' x2' y0' y1' y2' y3' y4'
 refine RZx ?_;intro x0' x1' x2' y0' y1' y2' y3' y4'
 go_wp2_with fail
 refine(HG.o _ HB.o).mono ?_
 rintro e w2 ⟨rfl,hb⟩
 refine R2t ?_;clear HC HX;intro HC HX
 replace HB:=qh (Bgo HB.o hb)
 clear hb
 clear x0' x1' x2' y0' y1' y2' y3' y4'
 refine RZx ?_;intro x0' x1' x2' y0' y1' y2' y3' y4'
 cases b
 ·go_wp2
  go_ret
  exact⟨rfl,HB.o⟩
 go_wp2
 go_ret
 exact⟨rfl,HB.o⟩
theorem qOg (t q s:Int)(A:Option Addr)(c:Nat)(vals:List Nat)(hnc:vals.length<=c)(hcm:c<=maxLen)(h32:∀ x∈vals,x<2^32)(A2:Option Addr)(T c2:Nat)(t0 k0 pg sl:Int)(U:Nat->Nat->Sl)(Z:Nat->Nat->List Int)(hTc:T<=c2)(hc2:c2<=maxLen)(W:World)(HP:PksAt W A2 T U Z)(HR:Reads W W.heap.size 1 A vals.length (valVs vals)) :
  (∀ w,Below W.heap.size W w->Calls Tryz.prog 7 #[.agg #[.int .i64 t,.int .i64 q,.int .i64 s],.slice A vals.length c,.agg #[.slice A2 T c2,.int .i64 t0,.int .i64 k0,.int .i64 pg,.int .i64 sl]] w fun e w'=>e = .returned (.bool false)/\Below w.heap.size w w') \/
  ∃ (H:AuH) (ad:Addr) (m i0:Nat) (L:Nat->List Nat),t=H.t/\q=H.p/\s=H.s/\A=some ad/\t0=(i0:Int)/\T=H.t/\i0<H.t/\H.p<=64/\(∀ i,H.V i=vals.getD i 0)/\HeapV H vals.length c/\IsVals W ad vals.length H.V/\(∀ i,i<10->H.rule i)/\H.Ok L/\XCheckIs W H.t H.p H.s (some ad) vals.length c m true/\FitsP H.parts (szH H) H.t Z /\
   ∀ w,Below W.heap.size W w->Calls Tryz.prog 7 #[.agg #[.int .i64 t,.int .i64 q,.int .i64 s],.slice A vals.length c,.agg #[.slice A2 T c2,.int .i64 t0,.int .i64 k0,.int .i64 pg,.int .i64 sl]] w fun e w'=>e = .returned (.bool true)/\Below w.heap.size w w':=by
 have hc3:T<=9223372036854775807:=by unfold maxLen at hc2;omega
 by_cases hq:64<q
 ·exact .inl fun w _=>qJp t q s A _ c A2 T c2 t0 k0 pg sl hq w
 by_cases hT:16<T
 ·exact .inl fun w _=>qKs t q s A _ c A2 T c2 t0 k0 pg sl qo hc3 hT w
 by_cases h3:t0<0
 ·exact .inl fun w _=>qYJ t q s A _ c A2 T c2 t0 k0 pg sl qo qo h3 w
 by_cases h4:(T:Int)<=t0
 ·exact .inl fun w _=>qHQ t q s A _ c A2 T c2 t0 k0 pg sl qo qo qo h4 w
 have go:∀ b:Bool,(∀ w,Below W.heap.size W w->Calls Tryz.prog 26 #[.agg #[.int .i64 t,.int .i64 q,.int .i64 s],.slice A vals.length c,.slice A2 T c2] w fun e w'=>e = .returned (.bool b)/\Below w.heap.size w w') ->
   ∀ w,Below W.heap.size W w->Calls Tryz.prog 7 #[.agg #[.int .i64 t,.int .i64 q,.int .i64 s],.slice A vals.length c,.agg #[.slice A2 T c2,.int .i64 t0,.int .i64 k0,.int .i64 pg,.int .i64 sl]] w fun e w'=>e = .returned (.bool b)/\Below w.heap.size w w':=fun b hF w hb =>
  qOw t q s A _ c A2 T c2 t0 k0 pg sl w qo qo qo qo b fun w' hb'=>hF w' (Bgo hb hb')
 rcases qXV W t q s A c vals hnc hcm h32 HR with ⟨m,hX⟩|⟨H,ad,m,rfl,rfl,rfl,rfl,hV,HV,hv,hto,hX⟩
 ·exact .inl (go false fun w hb=>qFW t q s A _ c m A2 T c2 w (hX.grown hb))
 ·by_cases hTt:T=H.t
  ·subst hTt
   have ht:H.Tiled:=qAW hto 1 qo
   have hcon:=AuH.parts_contig HV ht
   have hnd:∀ k:Nat,k<9->(pkA H.parts (szH H k)).Nodup:=fun k _=>qEy hcon _
   by_cases hF:FitsP H.parts (szH H) H.t Z
   ·obtain⟨L,hok⟩:=AuH.okL_of (by have:=HV.nums;omega) (qAW hto)
    obtain⟨i0,rfl⟩:=Int.eq_ofNat_of_zero_le (show 0<=t0 by omega)
    exact .inr ⟨H,ad,m,i0,L,rfl,rfl,rfl,rfl,rfl,rfl,qo,qo,hV,HV,hv,qAW hto,hok,hX,hF,go true fun w hb=>qWD HV ad m A2 c2 U Z hTc hc2 (szH H) (fun _ _=>rfl) hnd true ⟨fun _=>hF,fun _=>rfl⟩ w (hv.below hb) (hX.grown hb) (HP.below hb)⟩
   ·exact .inl (go false fun w hb=>qWD HV ad m A2 c2 U Z hTc hc2 (szH H) (fun _ _=>rfl) hnd false ⟨(fun h=>by cases h),fun h=>absurd h hF⟩ w (hv.below hb) (hX.grown hb) (HP.below hb))
  ·exact .inl (go false fun w hb=>qJP H.t H.p H.s (some ad) _ c m A2 T c2 qo w (hX.grown hb))
theorem qQ9 (t q s p i:Int)(A:Option Addr)(n c:Nat)(h:p<0\/q<=p\/i<0\/31<i)(W:World):Calls Tryz.prog 20 #[.agg #[.int .i64 t,.int .i64 q,.int .i64 s],.slice A n c,.int .i64 p,.int .i64 i] W (fun e w'=>e = .returned (.bool false)/\Below W.heap.size W w'):=by
 by_cases h1:p<0
 ·have u1:decide (p<(0:Int))=true:=qt
  exact McD
 by_cases h2:q<=p
 ·have u1:decide (p<(0:Int))=false:=qf
  have u2:decide (q<=p)=true:=qt
  exact McD
 by_cases h3:i<0
 ·have u1:decide (p<(0:Int))=false:=qf
  have u2:decide (q<=p)=false:=qf
  have u3:decide (i<(0:Int))=true:=qt
  exact McD
 have u1:decide (p<(0:Int))=false:=qf
 have u2:decide (q<=p)=false:=qf
 have u3:decide (i<(0:Int))=false:=qf
 have u4:decide ((31:Int)<i)=true:=qt
 exact McD
theorem qMK {H:AuH}{n c:Nat}(HV:HeapV H n c)(ad:Addr){p i:Nat}(hp:p<H.p)(hi:i<32)(b:Bool)(hb:(H.cel p 4).testBit i=b)(W:World)(hv:IsVals W ad n H.V):Calls Tryz.prog 20 #[.agg #[.int .i64 (H.t:Int),.int .i64 (H.p:Int),.int .i64 (H.s:Int)],.slice (some ad) n c,.int .i64 (p:Int),.int .i64 (i:Int)] W (fun e w'=>e = .returned (.bool b)/\Below W.heap.size W w'):=by
 have u1:decide ((p:Int)<(0:Int))=false:=qf
 have u2:decide ((H.p:Int)<=(p:Int))=false:=qf
 have u3:decide ((i:Int)<(0:Int))=false:=qf
 have u4:decide ((31:Int)<(i:Int))=false:=qf
 have h32:=HV.cel_lt hp (show 4<6 by omega)
 have HVL:=qh hv
 have HBT:=qh (fun (w:World)=>qA0 (H.cel p 4) (i:Int) b h32 qo qo (by simpa using hb) w)
 clear hv hb h32
 have HC:=qh (Held.new W 23 #[.int .i64 (H.t:Int),.int .i64 (H.p:Int),.int .i64 (H.s:Int)])
 have HB:=qh (Bnew (B0 W) (.cells #[.int .i64 (H.t:Int),.int .i64 (H.p:Int),.int .i64 (H.s:Int)] 23))
 obtain⟨x0',x1',x2'⟩:=HC.o.three
 go_enter Tryz.func20,Tryz.ntmps20
 go_wp2_with fail
 refine(qVC HV ad hp _ (HVL.o.below (Bnew HB.o _))).mono ?_
 rintro e w2 ⟨rfl,hb⟩
 replace HB:=qh (Bgo (Bnew HB.o (.cells #[.int .i64 (H.t:Int),.int .i64 (H.p:Int),.int .i64 (H.s:Int),.slice (some ad) n c] 114)) hb)
 clear hb x0' x1' x2'
 go_wp2_with fail
 refine(HBT.o _).mono ?_
 rintro e w3 ⟨rfl,rfl⟩
 go_wp2
 go_ret
 exact⟨rfl,HB.o⟩
theorem qDW {H:AuH}{n c:Nat}{L:Nat->List Nat}(HV:HeapV H n c)(h:H.Ok L){p i:Nat}(hp:p<H.p)(hi:i<32)(h4:(H.cel p 4).testBit i=true):H.K p=3/\i<slotI (H.Cl p)/\∃ k:Nat,k<9/\H.Cl p=(k:Int):=by
 have h5:=h.slots p hp
 have hk:H.K p=3:=by
  by_cases hk:H.K p=3
  ·exact hk
  ·have h6:=h5.2 hk
   simp_all
 obtain⟨_,h2,h3⟩:=qVa h hp hk
 obtain⟨c0,c8⟩:=qMe hk
 refine⟨hk,?_,(H.Cl p).toNat,qo,qo⟩
 have h7:(H.cel p 5).testBit i=true:=h3 i hi h4
 rcases Nat.lt_or_ge i (slotI (H.Cl p)) with h8|h8
 ·exact h8
 ·rw[Nat.testBit_lt_two_pow (Nat.lt_of_lt_of_le h2 (Nat.pow_le_pow_right qo h8))] at h7
  cases h7
end
section
section
variable {n c : Nat} {K : Nat -> Option Nat} {p k : Nat}
theorem qRx (h32:∀ i x,K i=some x->x<2^32):∀ (r:List Nat) (m:Nat) {H:AuH} {st:Vst} {L:Nat->List Nat},HeapV H n c->H.Ok L->Work H.t H.p H.s n K st L H.V->(∀ j∈r,H.hand p j)->H.Cl p=(k:Int)->r.Nodup->m<r.length ->
  (∀ j,1<=j->j<=m->VOk n (gives n K H.t H.p H.s p (r.take j) st))->(infoOf n K H.t H.p H.s p (gives n K H.t H.p H.s p (r.take m) st)).2.2.1=(k:Int)
 | [],m,H,st,L,HV,h,W,hh,hc,hnd,hm,hvs=>absurd hm (Nat.not_lt_zero _)
 | i :: r,0,H,st,L,HV,h,W,hh,hc,hnd,hm,hvs=>by
  have h0:=hh i (List.mem_cons_self ..)
  obtain⟨e,_⟩:=qIY HV h W (qCi h0.1 h0.2.1 h0.2.2.2.1 h0.2.2.2.2)
  show (infoOf n K H.t H.p H.s p st).2.2.1=(k:Int)
  rw[e]
  exact hc
 | i :: r,m+1,H,st,L,HV,h,W,hh,hc,hnd,hm,hvs=>by
  have h0:=hh i (List.mem_cons_self ..)
  have hnd2:=List.nodup_cons.1 hnd
  obtain⟨_,L1,w1,P,g1,W1⟩:=qIY HV h W (qCi h0.1 h0.2.1 h0.2.2.2.1 h0.2.2.2.2)
  have hv1:VOk n (giveS n K H.t H.p H.s p i st):=hvs 1 (Nat.le_refl _) qo
  have HV1:=qN5 HV hv1 h32 HV.cap HV.max
  have hh1:∀ x∈r,(nowH H n K (giveS n K H.t H.p H.s p i st)).hand p x:=fun x hx=>by
   rcases(P.hand p x).1 (hh x (List.mem_cons_of_mem _ hx)) with h1|⟨_,h1⟩
   ·exact h1
   ·subst h1;exact absurd hx hnd2.1
  have hm2:m<r.length:=by simpa using hm
  have hne:∃ x,x∈r:=by
   cases r with
   | nil=>simp at hm2
   | cons x r=>exact⟨x,List.mem_cons_self ..⟩
  obtain⟨x0,hx0⟩:=hne
  have hcl:=(P.cls_ p h0.1 h0.2.1 (hh1 x0 hx0).2.1).1
  have hc1:(nowH H n K (giveS n K H.t H.p H.s p i st)).Cl p=(k:Int):=hcl.trans hc
  have W1':Work (nowH H n K (giveS n K H.t H.p H.s p i st)).t (nowH H n K (giveS n K H.t H.p H.s p i st)).p (nowH H n K (giveS n K H.t H.p H.s p i st)).s n K (giveS n K H.t H.p H.s p i st) L1 (nowH H n K (giveS n K H.t H.p H.s p i st)).V:=W1.again
  have:=qRx h32 r m HV1 P.ok W1' hh1 hc1 hnd2.2 hm2 (fun j j1 j2=>by
   have:=hvs (j+1) qo qo
   exact this)
  exact this
end
section
variable {H : AuH} {n c : Nat} {K : Nat -> Option Nat} {st : Vst} {L : Nat -> List Nat} {T t0 k p i : Nat} {Z : Nat -> Nat -> List Int} {a : Int}
theorem qM9 (HV:HeapV H n c)(F:FitsP H.parts (szH H) T Z)(ht:t0<T)(hk:k<9){b:Int}(hb:b∈Z t0 k) :
  spotB H.t H.p H.s b=true/\slotB H.t H.p H.s (k:Int) (spotO H.t H.p H.s b)=true/\∃ p i:Nat,spotP H.t H.p H.s b=(p:Int)/\slotR H.t H.p H.s (k:Int) (spotO H.t H.p H.s b)=(i:Int)/\i<32/\p<H.p:=by
 obtain⟨q,i,hq,hc,e⟩:=qQm HV F ht hk hb
 have A:=qQ7 HV hq
 subst e
 have h1:=A.isB
 have h2:=A.slot
 rw[hc] at h1 h2
 exact⟨A.spot,h1,q,i,A.page,h2,Nat.lt_of_lt_of_le hq.2.2.1 (qWU _),hq.1⟩
theorem qP8 (HV:HeapV H n c)(h:H.Ok L)(W:Work H.t H.p H.s n K st L H.V)(h32:∀ i x,K i=some x->x<2^32)(F:FitsP H.parts (szH H) T Z)(ht:t0<T)(hk:k<9)(ha:(Z t0 k).getLast?=some a) :
  ∃ p,FlOk n K H.t H.p H.s (k:Int) (Z t0 k) a p (isF H.t H.p H.s (k:Int) (Z t0 k) p) st:=by
 obtain⟨p,i,r,hp,ep,em,hh,hc,hnd,eon,hperm⟩:=qZo HV h F ht hk rfl ha
 have hP:=HV.fit.nums
 have em':isF H.t H.p H.s (k:Int) (Z t0 k) p=i :: r:=em
 refine⟨p,ha,Nat.le_trans (F.few k hk t0 ht) qo,ep,qo,fun b hb=>?_,by rw[eon];simp,by rw[em',eon,List.length_map],fun j b hb=>?_,fun m hm hv=>?_⟩
 ·obtain⟨g1,g2,_⟩:=qM9 HV F ht hk hb
  exact⟨g1,g2⟩
 ·obtain⟨hb1,hb2⟩:=List.mem_filter.1 (List.mem_of_getElem? hb)
  obtain⟨g1,g2,p',i',g3,g4,g5,_⟩:=qM9 HV F ht hk hb1
  unfold onPg at hb2
  rw[Bool.and_eq_true,decide_eq_true_eq] at hb2
  refine⟨hb2.2,i',?_,g4,g5⟩
  unfold isF
  rw[List.getElem?_map,hb]
  show some (slotR H.t H.p H.s (k:Int) (spotO H.t H.p H.s b)).toNat=some i'
  rw[g4,Int.toNat_natCast]
 ·rw[em'] at hm hv ⊢
  have:=qRx h32 (i :: r) m HV h W hh hc hnd hm hv
  omega
theorem qGf (HV:HeapV H n c)(W:Work H.t H.p H.s n K st L H.V)(hp:p<H.p)(i:Nat):(infoOf n K H.t H.p H.s p st).2.2.1=H.Cl p/\(infoOf n K H.t H.p H.s p (offS n K H.t H.p H.s p i (getS n K st (pageI H.t H.p H.s p 0)))).2.2.1=H.Cl p:=by
 have hlen:=HV.len
 have W1:=W.get (pageI H.t H.p H.s p 0)
 obtain⟨_,_,W2⟩:=qYz HV W1 hp (clrB (getV n K (getS n K st (pageI H.t H.p H.s p 0)) (pageI H.t H.p H.s p 4)) i) (qS4 (getV n K (putS n (getS n K (getS n K st (pageI H.t H.p H.s p 0)) (pageI H.t H.p H.s p 4)) (pageI H.t H.p H.s p 4) (clrB (getV n K (getS n K st (pageI H.t H.p H.s p 0)) (pageI H.t H.p H.s p 4)) i)) 1))
 have e:pageI H.t H.p H.s p 0=((pc H.t p 0:Nat):Int):=HV.fit.inf hp
 have hf:¬ LinkCell H.t ((pc H.t p 0:Nat):Int):=qXR (t:=H.t) (q:=p) (b:=0) qo qo qo
 constructor
 ·have h1:=W.near (pc H.t p 0) (by unfold pc;omega) hf
  rw[<- e] at h1
  unfold infoOf
  rw[h1]
  rfl
 ·have h1:=W2.near (pc H.t p 0) (by unfold pc;omega) hf
  rw[<- e] at h1
  unfold infoOf offS
  rw[h1,e]
  rw[qR2 _ _ (by unfold pc;omega),qR2 _ _ (by unfold pc;omega)]
  rfl
end
end
section
section
variable {W w w' : World} {O1 O2 : Ob} {A B G : Nat -> Prop} {s1 s2 s' : Vst} {U V : Nat -> Sl} {Z Y : Nat -> List Int}
theorem Duo.put (h:Duo W O1 O2 A B G s1 s2 w){i:Nat}(hi:G i)(hw:W.heap.size<=i)(k:Nat)(v:Value):Duo W O1 O2 A B G s1 s2 (w.setCell ⟨i,k,none⟩ v):=by
 have ht:Turns (fun j=>j=i) w (w.setCell ⟨i,k,none⟩ v):=(Turns.of_below (B0 w) (fun j=>j=i)).put (p:=⟨i,k,none⟩) rfl v
 exact⟨O1.turns h.i1 ht (fun j hj e=>(h.aG i hi).2.1 (e ▸ hj)),O2.turns h.i2 ht (fun j hj e=>(h.aG i hi).2.2 (e ▸ hj)),h.ab,fun g hg=>⟨Nat.lt_of_lt_of_le (h.aG g hg).1 ht.size,(h.aG g hg).2⟩,h.lo,ht.below h.bel (fun j e=>by omega)⟩
theorem Duo.putP (h:Duo W O1 O2 A B G s1 s2 w){i:Nat}(hi:G i)(hw:W.heap.size<=i)(V:Nat->Sl):Duo W O1 O2 A B G s1 s2 (setP w i V) :=
 ((((((((h.put hi hw 0 _).put hi hw 1 _).put hi hw 2 _).put hi hw 3 _).put hi hw 4 _).put hi hw 5 _).put hi hw 6 _).put hi hw 7 _).put hi hw 8 _
theorem sizeP (w:World)(g:Nat)(V:Nat->Sl):(setP w g V).heap.size=w.heap.size:=by
 unfold setP
 simp
theorem PkV.putP (h:PkV w U Z){i:Nat}(hi:¬ PB U Z i)(V:Nat->Sl):PkV (setP w i V) U Z :=
 h.stay (by rw[sizeP];exact Nat.le_refl _) fun j hj=>qDL (fun e=>by subst e;exact hi hj) V
def NineAt (w:World) (ad:Addr) (t:Nat) (u:Nat->Sl):Prop :=
 w.cell? (ad.add (t*9))=some (u 0).v/\w.cell? ⟨(ad.add (t*9)).block,(ad.add (t*9)).off+1,none⟩=some (u 1).v/\w.cell? ⟨(ad.add (t*9)).block,(ad.add (t*9)).off+2,none⟩=some (u 2).v/\w.cell? ⟨(ad.add (t*9)).block,(ad.add (t*9)).off+3,none⟩=some (u 3).v/\w.cell? ⟨(ad.add (t*9)).block,(ad.add (t*9)).off+4,none⟩=some (u 4).v/\w.cell? ⟨(ad.add (t*9)).block,(ad.add (t*9)).off+5,none⟩=some (u 5).v/\w.cell? ⟨(ad.add (t*9)).block,(ad.add (t*9)).off+6,none⟩=some (u 6).v/\w.cell? ⟨(ad.add (t*9)).block,(ad.add (t*9)).off+7,none⟩=some (u 7).v/\w.cell? ⟨(ad.add (t*9)).block,(ad.add (t*9)).off+8,none⟩=some (u 8).v
end
section
variable {W w : World} {ad : Addr} {T t : Nat} {U : Nat -> Nat -> Sl} {Z : Nat -> Nat -> List Int}
theorem PksAt.nine (h:PksAt w (some ad) T U Z)(ht:t<T):NineAt w ad t (U t):=by
 obtain⟨ad',e,_,hc⟩:=h t ht
 injection e with e
 subst e
 have g:∀ k,k<9->w.cell? ((ad.add (t*9)).add k)=some (U t k).v:=fun k hk=>by rw[qUN];exact(hc k hk).1
 exact⟨g 0 qo,g 1 qo,g 2 qo,g 3 qo,g 4 qo,g 5 qo,g 6 qo,g 7 qo,g 8 qo⟩
theorem PksAt.pk {A:Option Addr}(h:PksAt w A T U Z)(ht:t<T):PkV w (U t) (Z t):=fun k hk=>by
 obtain⟨ad',e,_,hc⟩:=h t ht
 exact(hc k hk).2
end
end
end Go.Proofs.YtjjfcaliippgpaaGreatDoor
