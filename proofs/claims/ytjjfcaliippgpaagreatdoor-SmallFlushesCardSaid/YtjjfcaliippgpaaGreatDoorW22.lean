/-
  A heap, and pockets that fit it, while pockets are flushed one behind the other; Fits of what a View has now. No program is named here but for the Views', and the document's Fits.
-/
import Derived.Test.YtjjfcaliippgpaaGreatDoorW21
import Derived.Test.YtjjfcaliippgpaaGreatDoorW18
import Derived.Test.YtjjfcaliippgpaaGreatDoorW20
import Derived.Test.YtjjfcaliippgpaaGreatDoorW12
import Derived.Test.YtjjfcaliippgpaaGreatDoorWSpanRelease
import Derived.Test.YtjjfcaliippgpaaGreatDoorW09
import Derived.Test.YtjjfcaliippgpaaGreatDoorW11
import Derived.Test.YtjjfcaliippgpaaGreatDoorW15
import Derived.Test.YtjjfcaliippgpaaGreatDoorW17
import Derived.Test.YtjjfcaliippgpaaGreatDoorW01
set_option linter.unusedVariables false
set_option linter.unusedSimpArgs false
set_option maxRecDepth 100000
set_option maxHeartbeats 25600000
namespace Go.Proofs.YtjjfcaliippgpaaGreatDoor
open Go.ChangeShapes Go.WideShapes Go.ChangeAt Go.RowKit Go.Maps
section
section
variable {H : AuH} {n c : Nat} {K : Nat -> Option Nat} {st : Vst} {L : Nat -> List Nat} {B : List (Int × Int)} {Z : Nat -> Nat -> List Int} {Y : Nat -> List Int} {i0 k : Nat} {a : Int}
theorem qEv (hK:∀ i,i<n->K i=some (H.V i)):VW n K freshS:=⟨fun i hi=>⟨_,hK i hi⟩,rfl⟩
theorem qSi (hK:∀ i,i<n->K i=some (H.V i)):nowH H n K freshS=H:=by
 unfold nowH AuH.re
 have:curV n (getV n K freshS) H.V=H.V:=by
  funext i
  unfold curV
  split
  ·rename_i h
   rw[(qEv hK).at_ h,hK i h]
   rfl
  ·rfl
 rw[this]
structure FlInv (H:AuH) (n:Nat) (K:Nat->Option Nat) (Z:Nat->Nat->List Int) (i0:Nat) (B:List (Int × Int)) (Y:Nat->List Int) (st:Vst):Prop where
 vw:VW n K st
 heap:∃ L,(nowH H n K st).Ok L/\∃ g,Work H.t H.p H.s n K st L g
 roots:∀ i,i<8->(nowH H n K st).V (22+i)=H.V (22+i)
 blocks:blocksOf (nowH H n K st).parts=B
 fits:FitsP (nowH H n K st).parts (szH H) H.t (updF Z i0 Y)
theorem qOz (l:List Int):updF Z i0 (updF Y k l)=putZ (updF Z i0 Y) i0 k l:=by
 funext t j
 unfold putZ updF
 by_cases h1:t=i0
 ·subst h1
  by_cases h2:j=k
  ·simp[h2]
  ·simp[h2]
 ·simp[h1]
theorem qZE (h:Y=Z i0):updF Z i0 Y=Z:=by
 subst h
 funext t
 unfold updF
 split
 ·rename_i e;subst e;rfl
 ·rfl
theorem FlInv.ok (I:FlInv H n K Z i0 B Y st)(HV:HeapV H n c)(hok:VOk n st)(h32:∀ i x,K i=some x->x<2^32)(hi:i0<H.t)(hk:k<9)(ha:lastP Y (k:Int)=some a) :
  ∃ p,FlOk n K H.t H.p H.s (k:Int) (Y (k:Int).toNat) a p (isF H.t H.p H.s (k:Int) (Y (k:Int).toNat) p) st:=by
 obtain⟨L,h,g,W⟩:=I.heap
 have HV1:=qN5 HV hok h32 HV.cap HV.max
 have W1:Work (nowH H n K st).t (nowH H n K st).p (nowH H n K st).s n K st L (nowH H n K st).V:=W.again
 rw[qUw hk] at ha
 rw[Int.toNat_natCast]
 have e:updF Z i0 Y i0=Y:=qJN ..
 have:=qP8 (a:=a) HV1 h W1 h32 I.fits hi hk (by rw[e];exact ha)
 rw[e] at this
 exact this
theorem FlInv.step (I:FlInv H n K Z i0 B Y st)(HV:HeapV H n c)(hok:VOk n st)(h32:∀ i x,K i=some x->x<2^32)(hi:i0<H.t)(hk:k<9)(hne:Y k ≠ [])
  (hvs:∀ a,lastP Y (k:Int)=some a->∀ j,1<=j->j<=((Y (k:Int).toNat).filter (onPg H.t H.p H.s (spotP H.t H.p H.s a))).length->VOk n (gives n K H.t H.p H.s (spotP H.t H.p H.s a).toNat ((((Y (k:Int).toNat).filter (onPg H.t H.p H.s (spotP H.t H.p H.s a))).map fun b=>(slotR H.t H.p H.s (k:Int) (spotO H.t H.p H.s b)).toNat).take j) st)) :
  1<=(flX n K H.t H.p H.s (k:Int) Y st).1.1/\((flX n K H.t H.p H.s (k:Int) Y st).1.2 k).length+(flX n K H.t H.p H.s (k:Int) Y st).1.1=(Y k).length /\
   FlInv H n K Z i0 B (flX n K H.t H.p H.s (k:Int) Y st).1.2 (flX n K H.t H.p H.s (k:Int) Y st).2:=by
 obtain⟨L,h,g,W⟩:=I.heap
 have HV1:=qN5 HV hok h32 HV.cap HV.max
 have W1:Work (nowH H n K st).t (nowH H n K st).p (nowH H n K st).s n K st L (nowH H n K st).V:=W.again
 obtain⟨a,ha⟩:∃ a,(Y k).getLast?=some a:=by
  cases hg:(Y k).getLast? with
  | some a=>exact⟨a,rfl⟩
  | none=>exact absurd (List.getLast?_eq_none_iff.1 hg) hne
 have hl:lastP Y (k:Int)=some a:=by rw[qUw hk];exact ha
 have e:updF Z i0 Y i0=Y:=qJN ..
 have hv:=hvs a hl
 rw[Int.toNat_natCast] at hv
 obtain⟨g1,g2,g3,L',⟨g',g4⟩,Q⟩:=qH3 (l:=Y k) HV1 h W1 h32 hk I.fits hi (by rw[e]) ha hv
 have ex:flX n K H.t H.p H.s (k:Int) Y st=(((flushI n K H.t H.p H.s (k:Int) (Y k) st).1.1,updF Y k (flushI n K H.t H.p H.s (k:Int) (Y k) st).1.2),(flushI n K H.t H.p H.s (k:Int) (Y k) st).2):=by
  unfold flX
  rw[if_neg (by rw[hl];simp),Int.toNat_natCast]
 have Q:Flushed (nowH H n K st) (nowH (nowH H n K st) n K (flushI n K H.t H.p H.s (k:Int) (Y k) st).2) L' H.t (updF Z i0 Y) i0 k (flushI n K H.t H.p H.s (k:Int) (Y k) st).1.2:=Q
 rw[qVJ] at Q
 rw[ex]
 refine⟨g1,?_,g3,⟨L',Q.ok,g',g4⟩,fun i hi=>(Q.roots i hi).trans (I.roots i hi),Q.blocks.trans I.blocks,?_⟩
 ·show (updF Y k _ k).length+_=_
  rw[qJN]
  exact g2
 ·show FitsP _ _ _ (updF Z i0 (updF Y k _))
  rw[qOz]
  exact Q.fits
theorem FlInv.few (I:FlInv H n K Z i0 B Y st)(hi:i0<H.t)(hk:k<9):(Y k).length<=4:=by
 have:=I.fits.few k hk i0 hi
 rw[qJN] at this
 exact this
theorem FlInv.start (HV:HeapV H n c)(hK:∀ i,i<n->K i=some (H.V i))(h:H.Ok L)(F:FitsP H.parts (szH H) H.t Z)(hB:blocksOf H.parts=B):FlInv H n K Z i0 B (Z i0) freshS:=by
 have W:=Work.of_ok h HV hK
 have e:=qSi hK
 refine⟨?_,⟨L,by rw[e];exact h,_,W⟩,fun i _=>by rw[e],by rw[e];exact hB,by rw[e,qZE rfl];exact F⟩
 exact qEv hK
end
theorem qMR {w:World}{U:Nat->Sl}{Z:Nat->List Int}{k:Nat}(h:PkV w U Z)(hk:k<9):∃ A c,(U k).v = .slice A (Z k).length c/\(Z k).length<=c/\c<=maxLen:=by
 obtain⟨A,c,h1,h2,h3,_⟩:=h k hk
 exact⟨A,c,h1,h2,h3⟩
structure PkH (w:World) (g:Nat) (V:Nat->Sl) (Y:Nat->List Int):Prop where
 held:Held w g 36 (pkC V)
 pk:PkV w V Y
 bare:¬ PB V Y g
section
variable {w w' WF : World} {g N : Nat} {V : Nat -> Sl} {Y : Nat -> List Int}
theorem PkH.lt (h:PkH w g V Y):g<w.heap.size:=h.held.lt
theorem PkH.keep (h:PkH w g V Y)(hb:Below w.heap.size w w'):PkH w' g V Y:=⟨h.held.keep hb,h.pk.below hb,h.bare⟩
theorem PkH.drw (h:PkH w g V Y):PkH w.drew g V Y:=h.keep (Bdrew (B0 _))
theorem PkH.fresh (h:PkH w g V Y):¬ PB V Y w.heap.size:=fun x=>Nat.lt_irrefl _ (x.lt h.pk)
theorem PkH.far9 {u:Value}{r0 r1 r2 r3 r4 r5 r6 r7:Nat}(h:PkH w g V Y)(hw:wr9 w N u r0 r1 r2 r3 r4 r5 r6 r7=WF)(hne:g≠N)(hb:¬ PB V Y N):PkH WF g V Y:=by
 refine⟨_root_.Go.Proofs.YtjjfcaliippgpaaGreatDoor.far9 hw hne h.held,?_,h.bare⟩
 subst hw
 refine h.pk.stay (by unfold wr9 set9;simp) fun i hi=>?_
 exact qMB (fun e=>hb (by rw[<- e];exact hi)) _ _ _ _ _ _ _ _ _
theorem qKU {base size n:Nat}{e:TypeId}{v:Value}{xs:List Value}(h:w.ownsRow base e size v n xs)(hg:∀ j,v.ownBlock=some j->j≠g)(U:Nat->Sl):(setP w g U).ownsRow base e size v n xs :=
 qWQ h fun j hj=>qDL (hg j hj) U
end
theorem Duo.add {W w:World}{O1 O2:Ob}{A B G G':Nat->Prop}{s1 s2:Vst}(h:Duo W O1 O2 A B G s1 s2 w)(hg:∀ g,G' g->G g\/(g<w.heap.size/\¬ A g/\¬ B g)):Duo W O1 O2 A B G' s1 s2 w :=
 ⟨h.i1,h.i2,h.ab,fun g x=>by
  rcases hg g x with h1|h1
  ·exact h.aG g h1
  ·exact h1,h.lo,h.bel⟩
theorem qGu {n:Nat}{K:Nat->Option Nat}{t q s:Int}{k:Nat}(hk:k<9){Y:Nat->List Int}(h:Y k = [])(st:Vst):flX n K t q s (k:Int) Y st=((0,Y),st):=by
 unfold flX
 rw[if_pos (by rw[qUw hk,h];rfl)]
theorem qQC {H:AuH}{n c:Nat}{K:Nat->Option Nat}{st:Vst}{L:Nat->List Nat}(HV:HeapV H n c)(hok:VOk n st)(h32:∀ i x,K i=some x->x<2^32)(hvw:VW n K st)(h:(nowH H n K st).Ok L){Z:Nat->Nat->List Int}(F:FitsP (nowH H n K st).parts (szH H) H.t Z)(w:World)(g cp:Nat)(hrow:RowF w g 76 n cp (valF (nowV K st.wr)))
  (A2:Option Addr) (c2:Nat) (U:Nat->Nat->Sl) (hTc:H.t<=c2) (hc2:c2<=maxLen) (hP:PksAt w A2 H.t U Z) :
  Calls Tryz.prog 26 #[.agg #[.int .i64 (H.t:Int),.int .i64 (H.p:Int),.int .i64 (H.s:Int)],.slice (some ⟨g,0,none⟩) n cp,.slice A2 H.t c2] w fun e w'=>e = .returned (.bool true)/\Below w.heap.size w w':=by
 obtain⟨HV',hv'⟩:=qXT HV hok h32 hvw hrow
 have hC:=qZU HV' ⟨g,0,none⟩ w hv' (m:=0) (b:=true) (.inl ⟨rfl,rfl,h.rules⟩)
 exact qME HV' ⟨g,0,none⟩ 0 A2 c2 U Z hTc hc2 (szH H) (fun _ _=>rfl) (fun k hk=>qAC HV' h _) true ⟨fun _=>F,fun _=>rfl⟩ w hv' hC hP
end
section
section
variable {O : Ob} {w0 w w' : World} {A Q G : Nat -> Prop} {U V : Nat -> Sl} {Z Y : Nat -> List Int} {s s' : Vst}
theorem Held.farP {g2 g:Nat}{t:TypeId}{cs:Array Value}(h:Held w g2 t cs)(hne:g2≠g)(V:Nat->Sl):Held (_root_.Go.Proofs.YtjjfcaliippgpaaGreatDoor.setP w g V) g2 t cs:=(qDL hne V).trans h
end

section
variable {base b n : Nat} {all : Bool} {K : Nat -> Option Nat} {st : Vst} {w : World} {A : Nat -> Prop} {t q s : Int} {U : Nat -> Sl} {Z : Nat -> List Int}

end
end
end Go.Proofs.YtjjfcaliippgpaaGreatDoor
