/-
  What small.Alloc, small.Free and small.Flush do. Written by small/gen_top.py.
-/
import Derived.Test.YtjjfcaliippgpaaGreatDoorX20
import Derived.Test.YtjjfcaliippgpaaGreatDoorX19
import Derived.Maps.AppendAt
import Derived.Test.YtjjfcaliippgpaaGreatDoorX10
import Derived.Test.YtjjfcaliippgpaaGreatDoorX09
import Derived.Test.YtjjfcaliippgpaaGreatDoorX03
import Derived.Test.YtjjfcaliippgpaaGreatDoorX07
import Derived.Test.YtjjfcaliippgpaaGreatDoorX17
import Derived.Test.YtjjfcaliippgpaaGreatDoorX11
import Derived.Test.YtjjfcaliippgpaaGreatDoorX12
import Derived.Test.YtjjfcaliippgpaaGreatDoorX01
import Derived.Test.YtjjfcaliippgpaaGreatDoorX04
namespace Go.Proofs.YtjjfcaliippgpaaGreatDoor
theorem Ran {P Q:Prop}(kq:Q)(h:HQ Q->P:=by
 intro kq
 have:=Held.new (((w.alloc (.cells #[.int .i64 t,.int .i64 q,.int .i64 s] 23)).alloc (.cells (pkC U) 36)).alloc (.cells #[.slice none 0 0,.slice none 0 0,.slice none 0 0,.slice none 0 0,.slice none 0 0,.slice none 0 0,.slice none 0 0,.slice none 0 0,.slice none 0 0] 36)) 83 #[.pointer (some ⟨b,0,none⟩),.int .i64 t,.int .i64 q,.int .i64 s,(U 0).v,(U 1).v,(U 2).v,(U 3).v,(U 4).v,(U 5).v,(U 6).v,(U 7).v,(U 8).v]
 have e:(((w.alloc (.cells #[.int .i64 t,.int .i64 q,.int .i64 s] 23)).alloc (.cells (pkC U) 36)).alloc (.cells #[.slice none 0 0,.slice none 0 0,.slice none 0 0,.slice none 0 0,.slice none 0 0,.slice none 0 0,.slice none 0 0,.slice none 0 0,.slice none 0 0] 36)).heap.size=w.heap.size+3:=by simp
 rw[e] at this
 revert this e
 exact kq.o):P:=h ⟨kq⟩
theorem R2l {P Q:Prop}(kq:Q)(h:HQ Q->P:=by
 intro kq
 have:=Held.new ((w.alloc (.cells #[.int .i64 t,.int .i64 q,.int .i64 s] 23)).alloc (.cells (pkC U) 36)) 36 #[.slice none 0 0,.slice none 0 0,.slice none 0 0,.slice none 0 0,.slice none 0 0,.slice none 0 0,.slice none 0 0,.slice none 0 0,.slice none 0 0]
 have e:((w.alloc (.cells #[.int .i64 t,.int .i64 q,.int .i64 s] 23)).alloc (.cells (pkC U) 36)).heap.size=w.heap.size+2:=by simp
 rw[e] at this
 revert this e
 exact kq.o):P:=h ⟨kq⟩
end Go.Proofs.YtjjfcaliippgpaaGreatDoor
set_option linter.unusedVariables false
set_option linter.unusedSimpArgs false
set_option maxRecDepth 100000
set_option maxHeartbeats 25600000
namespace Go.Proofs.YtjjfcaliippgpaaGreatDoor
open Go.ChangeShapes Go.WideShapes Go.ChangeAt Go.RowKit Go.Maps
section
theorem Hnd.make {O:Ob}{w w':World}{A G:Nat->Prop}{g b:Nat}{t q s:Int}{U:Nat->Sl}{Z:Nat->List Int}{st:Vst}(h:O.I w st A)(hp:PkV w U Z)(hf:∀ i,PB U Z i->¬ A i)(hb:Below w.heap.size w w')(hg:w.heap.size<=g)(hH:Held w' g 83 (hdC b t q s U))
  (hG:∀ i,G i->w.heap.size<=i/\i<w'.heap.size/\i≠g):Hnd O w A (PB U Z) G w' g b t q s U Z st w' :=
 ⟨(Pkt.start h hp hf).keep2 hb fun i x=>by
  rcases x with x|x
  ·exact .inr ⟨(hG i x).1,(hG i x).2.1⟩
  ·subst x;exact .inr ⟨hg,hH.lt⟩,hH,Stay.of_below (B0 _) _,fun x=>(hG g x).2.2 rfl,fun x=>by have:=x.lt hp;omega⟩
structure AlOk (n:Nat) (K:Nat->Option Nat) (t q s:Int) (k:Int) (l:List Int) (st:Vst):Prop where
 few:l.length<=1000
 spot:∀ a,l.getLast?=some a->spotB t q s a=true/\slotB t q s k (spotO t q s a)=true/\∃ p i:Nat,spotP t q s a=(p:Int)/\slotR t q s k (spotO t q s a)=(i:Int)/\i<32
 pick:∀ p m,(pickI n K t q s k 4 st).1=some (p,m)->1<=m.length/\m.length<=4/\∀ i∈m,i<32
def alV (x:Option (Int × List Int)):Int:=match x with
 | some (a,_)=>a
 | none=>0
def alZ (x:Option (Int × List Int)) (Z:Nat->List Int) (k:Int):Nat->List Int:=match x with
 | some (_,l)=>updF Z k.toNat l
 | none=>Z
def AlEnd (O:Ob) (w:World) (A:Nat->Prop) (n:Nat) (K:Nat->Option Nat) (t q s:Int) (k:Int) (U:Nat->Sl) (Z:Nat->List Int) (st:Vst) (e:Ending) (w':World):Prop :=
 ∃ V,e = .returned (.tuple #[.int .i64 (alV (allocI n K t q s k (Z k.toNat) st).1),.agg (pkC V),.bool (allocI n K t q s k (Z k.toNat) st).1.isSome]) /\
  PkLeft O w A (PB U Z) V (alZ (allocI n K t q s k (Z k.toNat) st).1 Z k) (allocI n K t q s k (Z k.toNat) st).2 w'/\(0<=k/\k<=8->Z k.toNat = []->VOk n (pickI n K t q s k 4 st).2)
theorem qBv (t q s k p i:Int) : -9223372036854775808<=atI t q s k p i/\atI t q s k p i<=9223372036854775807:=by
 unfold atI
 split
 ·rename_i h
  unfold atB at h
  rw[Bool.and_eq_true] at h
  have:=qNk h.2
  omega
 ·omega
theorem qWD {n:Nat}{K:Nat->Option Nat}{t q s:Int}{k:Nat}(hk:k<9){ys:List Int}{a:Int}{p i:Nat}{st:Vst}(hp:spotP t q s a=(p:Int))(hi:slotR t q s (k:Int) (spotO t q s a)=(i:Int)) :
  allocI n K t q s (k:Int) (ys ++ [a]) st=(some (a,ys),onS n K t q s (p:Int).toNat i st):=by
 unfold allocI
 rw[if_neg qo,show (ys ++ [a]).getLast?=some a by simp]
 simp only[hp,hi,Int.toNat_natCast]
 rw[show (ys ++ [a]).dropLast=ys by simp]
section
variable {base b n : Nat} {wh : Bool} {K : Nat -> Option Nat} {st : Vst} {w : World} {A : Nat -> Prop} {t q s : Int} {U : Nat -> Sl} {Z : Nat -> List Int}

theorem Stay.mk_ {w w':World}(hz:w.heap.size<=w'.heap.size)(G:Nat->Prop)(h:∀ j,G j->w.heap.size<=j):Stay G w w':=⟨hz,fun j hj hl=>by have:=h j hj;omega⟩
theorem Hnd.putP {O:Ob}{w0 ws w:World}{A Q G:Nat->Prop}{g b:Nat}{t q s:Int}{U:Nat->Sl}{Z:Nat->List Int}{st:Vst}(h:Hnd O w0 A Q G ws g b t q s U Z st w){i:Nat}(hi:G i)(hn:¬ PB U Z i)(V:Nat->Sl):Hnd O w0 A Q G w0 g b t q s U Z st (setP w i V):=by
 have hz:=h.p.at_.size
 have hio:=(h.p.own (.inl hi)).1
 have h:=Hnd.mk h.p h.held (Stay.mk_ hz G (fun j hj=>by have:=(h.p.own (.inl hj)).1;omega)) h.ng h.npb
 exact((((((((h.put hi hn hio 0 _).put hi hn hio 1 _).put hi hn hio 2 _).put hi hn hio 3 _).put hi hn hio 4 _).put hi hn hio 5 _).put hi hn hio 6 _).put hi hn hio 7 _).put hi hn hio 8 _

theorem qPV (hn:n<2^40)(k:Nat)(hk:k<9)(ys:List Int)(a:Int)(hz:Z k=ys ++ [a])(h4:ys.length<=1000000)(hs:spotB t q s a=true)(hr:slotB t q s (k:Int) (spotO t q s a)=true)(p i:Nat)(hp:spotP t q s a=(p:Int))(hi:slotR t q s (k:Int) (spotO t q s a)=(i:Int))(hi32:i<32)(hT:SlotsLaid w)(hA:¬ A 0)(hP:PkV w U Z)(hF:∀ i,PB U Z i->¬ A i)(h:(vOb base b n wh K).I w st A) :
  Calls Tryz.prog 11 #[.pointer (some ⟨b,0,none⟩),.agg #[.int .i64 t,.int .i64 q,.int .i64 s],.agg (pkC U),.int .i64 (k:Int)] w fun e w'=>∃ V,e = .returned (.tuple #[.int .i64 a,.agg (pkC V),.bool true])/\PkLeft (vOb base b n wh K) w A (PB U Z) V (updF Z k ys) (onS n K t q s p i st) w':=by
 have HBA:=qh (Bnew (Bnew (Bnew (Bnew (B0 w) (.cells #[.int .i64 t,.int .i64 q,.int .i64 s] 23)) (.cells (pkC U) 36)) (.cells #[.slice none 0 0,.slice none 0 0,.slice none 0 0,.slice none 0 0,.slice none 0 0,.slice none 0 0,.slice none 0 0,.slice none 0 0,.slice none 0 0] 36)) (.cells #[.pointer (some ⟨b,0,none⟩),.int .i64 t,.int .i64 q,.int .i64 s,(U 0).v,(U 1).v,(U 2).v,(U 3).v,(U 4).v,(U 5).v,(U 6).v,(U 7).v,(U 8).v] 83))
 have HC0:=qh ((Held.new w 23 #[.int .i64 t,.int .i64 q,.int .i64 s]).alloc (.cells (pkC U) 36))
 have HPB:=qh (((Held.new2 w (.cells #[.int .i64 t,.int .i64 q,.int .i64 s] 23) 36 (pkC U)).alloc (.cells #[.slice none 0 0,.slice none 0 0,.slice none 0 0,.slice none 0 0,.slice none 0 0,.slice none 0 0,.slice none 0 0,.slice none 0 0,.slice none 0 0] 36)).alloc (.cells #[.pointer (some ⟨b,0,none⟩),.int .i64 t,.int .i64 q,.int .i64 s,(U 0).v,(U 1).v,(U 2).v,(U 3).v,(U 4).v,(U 5).v,(U 6).v,(U 7).v,(U 8).v] 83))
 have HP0:=qh ((Held.new2 w (.cells #[.int .i64 t,.int .i64 q,.int .i64 s] 23) 36 (pkC U)).alloc (.cells #[.slice none 0 0,.slice none 0 0,.slice none 0 0,.slice none 0 0,.slice none 0 0,.slice none 0 0,.slice none 0 0,.slice none 0 0,.slice none 0 0] 36))
 have HRB:qH (Held ((((w.alloc (.cells #[.int .i64 t,.int .i64 q,.int .i64 s] 23)).alloc (.cells (pkC U) 36)).alloc (.cells #[.slice none 0 0,.slice none 0 0,.slice none 0 0,.slice none 0 0,.slice none 0 0,.slice none 0 0,.slice none 0 0,.slice none 0 0,.slice none 0 0] 36)).alloc (.cells #[.pointer (some ⟨b,0,none⟩),.int .i64 t,.int .i64 q,.int .i64 s,(U 0).v,(U 1).v,(U 2).v,(U 3).v,(U 4).v,(U 5).v,(U 6).v,(U 7).v,(U 8).v] 83)) (w.heap.size+2) 36 (pkC zeroU)):=qh ((show Held (((w.alloc (.cells #[.int .i64 t,.int .i64 q,.int .i64 s] 23)).alloc (.cells (pkC U) 36)).alloc (.cells #[.slice none 0 0,.slice none 0 0,.slice none 0 0,.slice none 0 0,.slice none 0 0,.slice none 0 0,.slice none 0 0,.slice none 0 0,.slice none 0 0] 36)) (w.heap.size+2) 36 (pkC zeroU) from by
  refine R2l ?_;intro this e
  exact this).alloc (.cells #[.pointer (some ⟨b,0,none⟩),.int .i64 t,.int .i64 q,.int .i64 s,(U 0).v,(U 1).v,(U 2).v,(U 3).v,(U 4).v,(U 5).v,(U 6).v,(U 7).v,(U 8).v] 83))
 have HHD:qH (Held ((((w.alloc (.cells #[.int .i64 t,.int .i64 q,.int .i64 s] 23)).alloc (.cells (pkC U) 36)).alloc (.cells #[.slice none 0 0,.slice none 0 0,.slice none 0 0,.slice none 0 0,.slice none 0 0,.slice none 0 0,.slice none 0 0,.slice none 0 0,.slice none 0 0] 36)).alloc (.cells #[.pointer (some ⟨b,0,none⟩),.int .i64 t,.int .i64 q,.int .i64 s,(U 0).v,(U 1).v,(U 2).v,(U 3).v,(U 4).v,(U 5).v,(U 6).v,(U 7).v,(U 8).v] 83)) (w.heap.size+3) 83 (hdC b t q s U)):=qh (by
  refine Ran ?_;intro this e
  exact this)
 have HSZ:qH (((((w.alloc (.cells #[.int .i64 t,.int .i64 q,.int .i64 s] 23)).alloc (.cells (pkC U) 36)).alloc (.cells #[.slice none 0 0,.slice none 0 0,.slice none 0 0,.slice none 0 0,.slice none 0 0,.slice none 0 0,.slice none 0 0,.slice none 0 0,.slice none 0 0] 36)).alloc (.cells #[.pointer (some ⟨b,0,none⟩),.int .i64 t,.int .i64 q,.int .i64 s,(U 0).v,(U 1).v,(U 2).v,(U 3).v,(U 4).v,(U 5).v,(U 6).v,(U 7).v,(U 8).v] 83)).heap.size=w.heap.size+4):=qh (by simp)
 have HN:=qh (Hnd.make (G:=fun i=>i=w.heap.size+1\/i=w.heap.size+2) (t:=t) (q:=q) (s:=s) h hP hF HBA.o (by omega:w.heap.size<=w.heap.size+3) HHD.o (fun i x=>by
  have:=HSZ.o
  rcases x with x|x <;> omega))
 have HPL:qH (∀ i,PB U Z i->i<w.heap.size):=qh (fun i hi=>hi.lt hP)
 have HTL:=qh hT
 have HNA:=qh hA
 obtain⟨cc0,cc1,cc2⟩:=(HC0.o.alloc (.cells #[.slice none 0 0,.slice none 0 0,.slice none 0 0,.slice none 0 0,.slice none 0 0,.slice none 0 0,.slice none 0 0,.slice none 0 0,.slice none 0 0] 36)).three
 obtain⟨p0,p1,p2,p3,p4,p5,p6,p7,p8⟩:=HP0.o.nineP
 go_enter Tryz.func11,Tryz.ntmps11
 go_wp2_with fail
 generalize hW4:((((w.alloc (.cells #[.int .i64 t,.int .i64 q,.int .i64 s] 23)).alloc (.cells (pkC U) 36)).alloc (.cells #[.slice none 0 0,.slice none 0 0,.slice none 0 0,.slice none 0 0,.slice none 0 0,.slice none 0 0,.slice none 0 0,.slice none 0 0,.slice none 0 0] 36)).alloc (.cells #[.pointer (some ⟨b,0,none⟩),.int .i64 t,.int .i64 q,.int .i64 s,(U 0).v,(U 1).v,(U 2).v,(U 3).v,(U 4).v,(U 5).v,(U 6).v,(U 7).v,(U 8).v] 83))=W4 at *
 clear hW4 HHD HC0 HP0
 refine(qAM hn k hk ys a hz h4 hs hr (p:Int) i hp hi hi32 HTL.o HNA.o HN.o).mono ?_
 rintro e w5 ⟨rfl,x,hx,hn⟩
 have HPV:qH (∀ i,PB (updF U k x) (updF Z k ys) i->i<w.heap.size\/w.heap.size+4<=i):=qh (fun i hi=>by
  have:=HSZ.o
  rcases hi.turn_new (w:=W4) hx with h1|h1
  ·exact .inl (HPL.o i h1)
  ·exact .inr qo)
 obtain⟨V,hV⟩:∃ V,updF U k x=V:=⟨_,rfl⟩
 rw[hV] at hn HPV
 have HPB:=qh (hn.stay.held (.inl rfl) HPB.o)
 have HRB:=qh (hn.stay.held (.inr rfl) HRB.o)
 replace HN:=qh (HN.o.then_ hn)
 clear hn
 clear hV hx
 go_wp2_with fail
 refine(qP9 hn HG.hand HN.o.held HN.o.at_).mono ?_
 rintro e w7 ⟨rfl,h1,h2⟩
 replace HRB:=qh (h2.held (.inl (.inl (.inr rfl))) HRB.o)
 replace HN:=qh (HN.o.call h1 h2)
 clear h1 h2
 obtain⟨c0,c1,c2,c3⟩:=HN.o.held.hd4
 obtain⟨u0,u1,u2,u3,u4,u5,u6,u7,u8⟩:=HN.o.held.hdU
 obtain⟨z0,z1,z2,z3,z4,z5,z6,z7,z8⟩:=HRB.o.nineP
 obtain⟨f0,f1,f2,f3,f4,f5,f6,f7,f8⟩:=HRB.o.thawP
 go_wp2_with fail
 go_region
 obtain⟨WF,hWF⟩:∃ WF,setP w7 (w.heap.size+2) V=WF:=⟨_,rfl⟩
 have zz:=qh (Held.setP HRB.o V)
 have HNF:=qh (HN.o.putP (i:=w.heap.size+2) (.inr rfl) (fun x=>by have:=HPV.o _ x;omega) V)
 rw[hWF] at zz HNF
 unfold setP at hWF
 rw[hWF]
 replace zz:=qh (zz.o.keep (Bdrew (B0 _)))
 replace HNF:=qh HNF.o.drew
 obtain⟨y0,y1,y2,y3,y4,y5,y6,y7,y8⟩:=zz.o.nineP
 clear c0 c1 c2 c3 u0 u1 u2 u3 u4 u5 u6 u7 u8 z0 z1 z2 z3 z4 z5 z6 z7 z8 f0 f1 f2 f3 f4 f5 f6 f7 f8 HN HRB hWF
 go_wp2
 refine bodyPost_ret (v := .tuple #[.int .i64 a,.agg (pkC V),.bool true]) (by simp[results,Tryz.results11,go_sem,y0,y1,y2,y3,y4,y5,y6,y7,y8]) rfl ?_
 exact⟨V,rfl,HNF.o.p.fin⟩

theorem qAd (hn:n<2^40)(hq:q<=1024)(k:Nat)(hk:k<9)(s2:Vst)(p:Nat)(l:List Nat)(hx:pickI n K t q s (k:Int) 4 st=(some (p,l),s2))(nl:Nat)(hl:l.length=nl)(hl1:1<=nl)(hl4:nl<=4)(hl32:∀ i,i<nl->l.getD i 0<32)(hZ:Z k = [])(hT:SlotsLaid w)(hA:¬ A 0)(hP:PkV w U Z)(hF:∀ i,PB U Z i->¬ A i)(h:(vOb base b n wh K).I w st A) :
  Calls Tryz.prog 11 #[.pointer (some ⟨b,0,none⟩),.agg #[.int .i64 t,.int .i64 q,.int .i64 s],.agg (pkC U),.int .i64 (k:Int)] w fun e w'=>∃ V,e = .returned (.tuple #[.int .i64 (atI t q s (k:Int) (p:Int) ((l.getD 0 0:Nat):Int)),.agg (pkC V),.bool true])/\PkLeft (vOb base b n wh K) w A (PB U Z) V (updF Z k ((l.drop 1).reverse.map fun (i:Nat)=>atI t q s (k:Int) (p:Int) (i:Int))) (onS n K t q s p (l.getD 0 0) s2) w'/\VOk n s2:=by
 have hk0 : -9223372036854775808<=(k:Int):=qo
 have hk1:(k:Int)<=9223372036854775807:=qo
 have HLP:qH (lastP Z (k:Int)=none):=qh (by rw[qUw hk,hZ];rfl)
 have HBA:=qh (Bnew (Bnew (Bnew (Bnew (B0 w) (.cells #[.int .i64 t,.int .i64 q,.int .i64 s] 23)) (.cells (pkC U) 36)) (.cells #[.slice none 0 0,.slice none 0 0,.slice none 0 0,.slice none 0 0,.slice none 0 0,.slice none 0 0,.slice none 0 0,.slice none 0 0,.slice none 0 0] 36)) (.cells #[.pointer (some ⟨b,0,none⟩),.int .i64 t,.int .i64 q,.int .i64 s,(U 0).v,(U 1).v,(U 2).v,(U 3).v,(U 4).v,(U 5).v,(U 6).v,(U 7).v,(U 8).v] 83))
 have HC0:=qh ((Held.new w 23 #[.int .i64 t,.int .i64 q,.int .i64 s]).alloc (.cells (pkC U) 36))
 have HPB:=qh (((Held.new2 w (.cells #[.int .i64 t,.int .i64 q,.int .i64 s] 23) 36 (pkC U)).alloc (.cells #[.slice none 0 0,.slice none 0 0,.slice none 0 0,.slice none 0 0,.slice none 0 0,.slice none 0 0,.slice none 0 0,.slice none 0 0,.slice none 0 0] 36)).alloc (.cells #[.pointer (some ⟨b,0,none⟩),.int .i64 t,.int .i64 q,.int .i64 s,(U 0).v,(U 1).v,(U 2).v,(U 3).v,(U 4).v,(U 5).v,(U 6).v,(U 7).v,(U 8).v] 83))
 have HP0:=qh ((Held.new2 w (.cells #[.int .i64 t,.int .i64 q,.int .i64 s] 23) 36 (pkC U)).alloc (.cells #[.slice none 0 0,.slice none 0 0,.slice none 0 0,.slice none 0 0,.slice none 0 0,.slice none 0 0,.slice none 0 0,.slice none 0 0,.slice none 0 0] 36))
 have HRB:qH (Held ((((w.alloc (.cells #[.int .i64 t,.int .i64 q,.int .i64 s] 23)).alloc (.cells (pkC U) 36)).alloc (.cells #[.slice none 0 0,.slice none 0 0,.slice none 0 0,.slice none 0 0,.slice none 0 0,.slice none 0 0,.slice none 0 0,.slice none 0 0,.slice none 0 0] 36)).alloc (.cells #[.pointer (some ⟨b,0,none⟩),.int .i64 t,.int .i64 q,.int .i64 s,(U 0).v,(U 1).v,(U 2).v,(U 3).v,(U 4).v,(U 5).v,(U 6).v,(U 7).v,(U 8).v] 83)) (w.heap.size+2) 36 (pkC zeroU)):=qh ((show Held (((w.alloc (.cells #[.int .i64 t,.int .i64 q,.int .i64 s] 23)).alloc (.cells (pkC U) 36)).alloc (.cells #[.slice none 0 0,.slice none 0 0,.slice none 0 0,.slice none 0 0,.slice none 0 0,.slice none 0 0,.slice none 0 0,.slice none 0 0,.slice none 0 0] 36)) (w.heap.size+2) 36 (pkC zeroU) from by
  refine R2l ?_;intro this e
  exact this).alloc (.cells #[.pointer (some ⟨b,0,none⟩),.int .i64 t,.int .i64 q,.int .i64 s,(U 0).v,(U 1).v,(U 2).v,(U 3).v,(U 4).v,(U 5).v,(U 6).v,(U 7).v,(U 8).v] 83))
 have HHD:qH (Held ((((w.alloc (.cells #[.int .i64 t,.int .i64 q,.int .i64 s] 23)).alloc (.cells (pkC U) 36)).alloc (.cells #[.slice none 0 0,.slice none 0 0,.slice none 0 0,.slice none 0 0,.slice none 0 0,.slice none 0 0,.slice none 0 0,.slice none 0 0,.slice none 0 0] 36)).alloc (.cells #[.pointer (some ⟨b,0,none⟩),.int .i64 t,.int .i64 q,.int .i64 s,(U 0).v,(U 1).v,(U 2).v,(U 3).v,(U 4).v,(U 5).v,(U 6).v,(U 7).v,(U 8).v] 83)) (w.heap.size+3) 83 (hdC b t q s U)):=qh (by
  refine Ran ?_;intro this e
  exact this)
 have HSZ:qH (((((w.alloc (.cells #[.int .i64 t,.int .i64 q,.int .i64 s] 23)).alloc (.cells (pkC U) 36)).alloc (.cells #[.slice none 0 0,.slice none 0 0,.slice none 0 0,.slice none 0 0,.slice none 0 0,.slice none 0 0,.slice none 0 0,.slice none 0 0,.slice none 0 0] 36)).alloc (.cells #[.pointer (some ⟨b,0,none⟩),.int .i64 t,.int .i64 q,.int .i64 s,(U 0).v,(U 1).v,(U 2).v,(U 3).v,(U 4).v,(U 5).v,(U 6).v,(U 7).v,(U 8).v] 83)).heap.size=w.heap.size+4):=qh (by simp)
 have HN:=qh (Hnd.make (G:=fun i=>i=w.heap.size+1\/i=w.heap.size+2) (t:=t) (q:=q) (s:=s) h hP hF HBA.o (by omega:w.heap.size<=w.heap.size+3) HHD.o (fun i x=>by
  have:=HSZ.o
  rcases x with x|x <;> omega))
 have HPL:qH (∀ i,PB U Z i->i<w.heap.size):=qh (fun i hi=>hi.lt hP)
 have HTL:=qh hT
 have HNA:=qh hA
 obtain⟨cc0,cc1,cc2⟩:=(HC0.o.alloc (.cells #[.slice none 0 0,.slice none 0 0,.slice none 0 0,.slice none 0 0,.slice none 0 0,.slice none 0 0,.slice none 0 0,.slice none 0 0,.slice none 0 0] 36)).three
 obtain⟨p0,p1,p2,p3,p4,p5,p6,p7,p8⟩:=HP0.o.nineP
 go_enter Tryz.func11,Tryz.ntmps11
 go_wp2_with fail
 generalize hW4:((((w.alloc (.cells #[.int .i64 t,.int .i64 q,.int .i64 s] 23)).alloc (.cells (pkC U) 36)).alloc (.cells #[.slice none 0 0,.slice none 0 0,.slice none 0 0,.slice none 0 0,.slice none 0 0,.slice none 0 0,.slice none 0 0,.slice none 0 0,.slice none 0 0] 36)).alloc (.cells #[.pointer (some ⟨b,0,none⟩),.int .i64 t,.int .i64 q,.int .i64 s,(U 0).v,(U 1).v,(U 2).v,(U 3).v,(U 4).v,(U 5).v,(U 6).v,(U 7).v,(U 8).v] 83))=W4 at *
 clear hW4 HHD HC0 HP0
 refine(qJY (k:Int) hk0 hk1 HLP.o (HTL.o.at_ HNA.o HN.o.at_) HN.o).mono ?_
 rintro e w5 ⟨rfl,hn⟩
 have HS5:=qh hn.stay.1
 have HPB:=qh (hn.stay.held (.inl rfl) HPB.o)
 have HRB:=qh (hn.stay.held (.inr rfl) HRB.o)
 replace HN:=qh (HN.o.then_ hn)
 clear hn
 go_wp2_with fail
 refine(qLT hn hq k hk s2 p l ((qDo qo qo qo qo:pickZ n K t q s (k:Int) ((4:Nat):Int) st=_).trans hx) nl hl hl1 hl4 hl32 hZ (fun i=>atI t q s (k:Int) (p:Int) (i:Int)) (fun i hi=>rfl) (fun i hi=>qBv _ _ _ _ _ _) HTL.o HNA.o HN.o.begin_).mono ?_
 rintro e w6 ⟨rfl,hok,V,hVn,hn⟩
 have HOK:=qh hok
 have HPV:qH (∀ i,PB V (updF Z k ((l.drop 1).reverse.map fun (i:Nat)=>atI t q s (k:Int) (p:Int) (i:Int))) i->i<w.heap.size\/w.heap.size+4<=i):=qh (fun i hi=>by
  have:=HSZ.o
  have:=HS5.o
  rcases hVn i hi with h1|h1
  ·exact .inl (HPL.o i h1)
  ·exact .inr qo)
 have HPB:=qh (hn.stay.held (.inl rfl) HPB.o)
 have HRB:=qh (hn.stay.held (.inr rfl) HRB.o)
 replace HN:=qh (HN.o.then_ hn)
 clear hn
 clear hVn hok
 go_wp2_with fail
 refine(qP9 hn HG.hand HN.o.held HN.o.at_).mono ?_
 rintro e w7 ⟨rfl,h1,h2⟩
 replace HRB:=qh (h2.held (.inl (.inl (.inr rfl))) HRB.o)
 replace HN:=qh (HN.o.call h1 h2)
 clear h1 h2
 obtain⟨c0,c1,c2,c3⟩:=HN.o.held.hd4
 obtain⟨u0,u1,u2,u3,u4,u5,u6,u7,u8⟩:=HN.o.held.hdU
 obtain⟨z0,z1,z2,z3,z4,z5,z6,z7,z8⟩:=HRB.o.nineP
 obtain⟨f0,f1,f2,f3,f4,f5,f6,f7,f8⟩:=HRB.o.thawP
 go_wp2_with fail
 go_region
 obtain⟨WF,hWF⟩:∃ WF,setP w7 (w.heap.size+2) V=WF:=⟨_,rfl⟩
 have zz:=qh (Held.setP HRB.o V)
 have HNF:=qh (HN.o.putP (i:=w.heap.size+2) (.inr rfl) (fun x=>by have:=HPV.o _ x;omega) V)
 rw[hWF] at zz HNF
 unfold setP at hWF
 rw[hWF]
 replace zz:=qh (zz.o.keep (Bdrew (B0 _)))
 replace HNF:=qh HNF.o.drew
 obtain⟨y0,y1,y2,y3,y4,y5,y6,y7,y8⟩:=zz.o.nineP
 clear c0 c1 c2 c3 u0 u1 u2 u3 u4 u5 u6 u7 u8 z0 z1 z2 z3 z4 z5 z6 z7 z8 f0 f1 f2 f3 f4 f5 f6 f7 f8 HN HRB hWF
 go_wp2
 refine bodyPost_ret (v := .tuple #[.int .i64 (atI t q s (k:Int) (p:Int) ((l.getD 0 0:Nat):Int)),.agg (pkC V),.bool true]) (by simp[results,Tryz.results11,go_sem,y0,y1,y2,y3,y4,y5,y6,y7,y8]) rfl ?_
 exact⟨V,rfl,HNF.o.p.fin,HOK.o⟩
theorem qFb (hn:n<2^40)(hq:q<=1024)(k:Int)(hk0 : -9223372036854775808<=k)(hk1:k<=9223372036854775807)(s2:Vst)(hx:pickZ n K t q s k 4 st=(none,s2))(hl:lastP Z k=none)(hT:SlotsLaid w)(hA:¬ A 0)(hP:PkV w U Z)(hF:∀ i,PB U Z i->¬ A i)(h:(vOb base b n wh K).I w st A) :
  Calls Tryz.prog 11 #[.pointer (some ⟨b,0,none⟩),.agg #[.int .i64 t,.int .i64 q,.int .i64 s],.agg (pkC U),.int .i64 k] w fun e w'=>e = .returned (.tuple #[.int .i64 0,.agg (pkC U),.bool false])/\PkLeft (vOb base b n wh K) w A (PB U Z) U Z s2 w':=by
 have HLP:=qh hl
 have HBA:=qh (Bnew (Bnew (Bnew (Bnew (B0 w) (.cells #[.int .i64 t,.int .i64 q,.int .i64 s] 23)) (.cells (pkC U) 36)) (.cells #[.slice none 0 0,.slice none 0 0,.slice none 0 0,.slice none 0 0,.slice none 0 0,.slice none 0 0,.slice none 0 0,.slice none 0 0,.slice none 0 0] 36)) (.cells #[.pointer (some ⟨b,0,none⟩),.int .i64 t,.int .i64 q,.int .i64 s,(U 0).v,(U 1).v,(U 2).v,(U 3).v,(U 4).v,(U 5).v,(U 6).v,(U 7).v,(U 8).v] 83))
 have HC0:=qh ((Held.new w 23 #[.int .i64 t,.int .i64 q,.int .i64 s]).alloc (.cells (pkC U) 36))
 have HPB:=qh (((Held.new2 w (.cells #[.int .i64 t,.int .i64 q,.int .i64 s] 23) 36 (pkC U)).alloc (.cells #[.slice none 0 0,.slice none 0 0,.slice none 0 0,.slice none 0 0,.slice none 0 0,.slice none 0 0,.slice none 0 0,.slice none 0 0,.slice none 0 0] 36)).alloc (.cells #[.pointer (some ⟨b,0,none⟩),.int .i64 t,.int .i64 q,.int .i64 s,(U 0).v,(U 1).v,(U 2).v,(U 3).v,(U 4).v,(U 5).v,(U 6).v,(U 7).v,(U 8).v] 83))
 have HP0:=qh ((Held.new2 w (.cells #[.int .i64 t,.int .i64 q,.int .i64 s] 23) 36 (pkC U)).alloc (.cells #[.slice none 0 0,.slice none 0 0,.slice none 0 0,.slice none 0 0,.slice none 0 0,.slice none 0 0,.slice none 0 0,.slice none 0 0,.slice none 0 0] 36))
 have HRB:qH (Held ((((w.alloc (.cells #[.int .i64 t,.int .i64 q,.int .i64 s] 23)).alloc (.cells (pkC U) 36)).alloc (.cells #[.slice none 0 0,.slice none 0 0,.slice none 0 0,.slice none 0 0,.slice none 0 0,.slice none 0 0,.slice none 0 0,.slice none 0 0,.slice none 0 0] 36)).alloc (.cells #[.pointer (some ⟨b,0,none⟩),.int .i64 t,.int .i64 q,.int .i64 s,(U 0).v,(U 1).v,(U 2).v,(U 3).v,(U 4).v,(U 5).v,(U 6).v,(U 7).v,(U 8).v] 83)) (w.heap.size+2) 36 (pkC zeroU)):=qh ((show Held (((w.alloc (.cells #[.int .i64 t,.int .i64 q,.int .i64 s] 23)).alloc (.cells (pkC U) 36)).alloc (.cells #[.slice none 0 0,.slice none 0 0,.slice none 0 0,.slice none 0 0,.slice none 0 0,.slice none 0 0,.slice none 0 0,.slice none 0 0,.slice none 0 0] 36)) (w.heap.size+2) 36 (pkC zeroU) from by
  refine R2l ?_;intro this e
  exact this).alloc (.cells #[.pointer (some ⟨b,0,none⟩),.int .i64 t,.int .i64 q,.int .i64 s,(U 0).v,(U 1).v,(U 2).v,(U 3).v,(U 4).v,(U 5).v,(U 6).v,(U 7).v,(U 8).v] 83))
 have HHD:qH (Held ((((w.alloc (.cells #[.int .i64 t,.int .i64 q,.int .i64 s] 23)).alloc (.cells (pkC U) 36)).alloc (.cells #[.slice none 0 0,.slice none 0 0,.slice none 0 0,.slice none 0 0,.slice none 0 0,.slice none 0 0,.slice none 0 0,.slice none 0 0,.slice none 0 0] 36)).alloc (.cells #[.pointer (some ⟨b,0,none⟩),.int .i64 t,.int .i64 q,.int .i64 s,(U 0).v,(U 1).v,(U 2).v,(U 3).v,(U 4).v,(U 5).v,(U 6).v,(U 7).v,(U 8).v] 83)) (w.heap.size+3) 83 (hdC b t q s U)):=qh (by
  refine Ran ?_;intro this e
  exact this)
 have HSZ:qH (((((w.alloc (.cells #[.int .i64 t,.int .i64 q,.int .i64 s] 23)).alloc (.cells (pkC U) 36)).alloc (.cells #[.slice none 0 0,.slice none 0 0,.slice none 0 0,.slice none 0 0,.slice none 0 0,.slice none 0 0,.slice none 0 0,.slice none 0 0,.slice none 0 0] 36)).alloc (.cells #[.pointer (some ⟨b,0,none⟩),.int .i64 t,.int .i64 q,.int .i64 s,(U 0).v,(U 1).v,(U 2).v,(U 3).v,(U 4).v,(U 5).v,(U 6).v,(U 7).v,(U 8).v] 83)).heap.size=w.heap.size+4):=qh (by simp)
 have HN:=qh (Hnd.make (G:=fun i=>i=w.heap.size+1\/i=w.heap.size+2) (t:=t) (q:=q) (s:=s) h hP hF HBA.o (by omega:w.heap.size<=w.heap.size+3) HHD.o (fun i x=>by
  have:=HSZ.o
  rcases x with x|x <;> omega))
 have HPL:qH (∀ i,PB U Z i->i<w.heap.size):=qh (fun i hi=>hi.lt hP)
 have HTL:=qh hT
 have HNA:=qh hA
 obtain⟨cc0,cc1,cc2⟩:=(HC0.o.alloc (.cells #[.slice none 0 0,.slice none 0 0,.slice none 0 0,.slice none 0 0,.slice none 0 0,.slice none 0 0,.slice none 0 0,.slice none 0 0,.slice none 0 0] 36)).three
 obtain⟨p0,p1,p2,p3,p4,p5,p6,p7,p8⟩:=HP0.o.nineP
 go_enter Tryz.func11,Tryz.ntmps11
 go_wp2_with fail
 generalize hW4:((((w.alloc (.cells #[.int .i64 t,.int .i64 q,.int .i64 s] 23)).alloc (.cells (pkC U) 36)).alloc (.cells #[.slice none 0 0,.slice none 0 0,.slice none 0 0,.slice none 0 0,.slice none 0 0,.slice none 0 0,.slice none 0 0,.slice none 0 0,.slice none 0 0] 36)).alloc (.cells #[.pointer (some ⟨b,0,none⟩),.int .i64 t,.int .i64 q,.int .i64 s,(U 0).v,(U 1).v,(U 2).v,(U 3).v,(U 4).v,(U 5).v,(U 6).v,(U 7).v,(U 8).v] 83))=W4 at *
 clear hW4 HHD HC0 HP0
 refine(qJY k hk0 hk1 HLP.o (HTL.o.at_ HNA.o HN.o.at_) HN.o).mono ?_
 rintro e w5 ⟨rfl,hn⟩
 have HS5:=qh hn.stay.1
 have HPB:=qh (hn.stay.held (.inl rfl) HPB.o)
 have HRB:=qh (hn.stay.held (.inr rfl) HRB.o)
 replace HN:=qh (HN.o.then_ hn)
 clear hn
 go_wp2_with fail
 refine(qMq hn hq k hk0 hk1 s2 hx HTL.o HNA.o HN.o.begin_).mono ?_
 rintro e w6 ⟨rfl,hn⟩
 have HPB:=qh (hn.stay.held (.inl rfl) HPB.o)
 have HRB:=qh (hn.stay.held (.inr rfl) HRB.o)
 replace HN:=qh (HN.o.then_ hn)
 clear hn
 go_wp2_with fail
 obtain⟨p0,p1,p2,p3,p4,p5,p6,p7,p8⟩:=HPB.o.nineP
 obtain⟨z0,z1,z2,z3,z4,z5,z6,z7,z8⟩:=HRB.o.nineP
 obtain⟨f0,f1,f2,f3,f4,f5,f6,f7,f8⟩:=HRB.o.thawP
 go_wp2_with fail
 go_region
 obtain⟨WF,hWF⟩:∃ WF,setP w6 (w.heap.size+2) U=WF:=⟨_,rfl⟩
 have zz:=qh (Held.setP HRB.o U)
 have HNF:=qh (HN.o.putP (i:=w.heap.size+2) (.inr rfl) (fun x=>by have:=HPL.o _ x;omega) U)
 rw[hWF] at zz HNF
 unfold setP at hWF
 rw[hWF]
 replace zz:=qh (zz.o.keep (Bdrew (B0 _)))
 replace HNF:=qh HNF.o.drew
 obtain⟨y0,y1,y2,y3,y4,y5,y6,y7,y8⟩:=zz.o.nineP
 clear p0 p1 p2 p3 p4 p5 p6 p7 p8 z0 z1 z2 z3 z4 z5 z6 z7 z8 f0 f1 f2 f3 f4 f5 f6 f7 f8 HN HRB HPB hWF
 go_wp2
 refine bodyPost_ret (v := .tuple #[.int .i64 0,.agg (pkC U),.bool false]) (by simp[results,Tryz.results11,go_sem,y0,y1,y2,y3,y4,y5,y6,y7,y8]) rfl ?_
 exact⟨rfl,HNF.o.p.fin⟩
theorem qLs (hn:n<2^40)(hq:q<=1024)(k:Int)(hk0 : -9223372036854775808<=k)(hk1:k<=9223372036854775807)(hok:0<=k/\k<=8->AlOk n K t q s k (Z k.toNat) st)(hT:SlotsLaid w)(hA:¬ A 0)(hP:PkV w U Z)(hF:∀ i,PB U Z i->¬ A i)(h:(vOb base b n wh K).I w st A) :
  Calls Tryz.prog 11 #[.pointer (some ⟨b,0,none⟩),.agg #[.int .i64 t,.int .i64 q,.int .i64 s],.agg (pkC U),.int .i64 k] w (AlEnd (vOb base b n wh K) w A n K t q s k U Z st):=by
 by_cases hk:0<=k/\k<=8
 ·obtain⟨k,rfl⟩:=Int.eq_ofNat_of_zero_le hk.1
  have hk9:k<9:=qo
  have ok:=hok hk
  unfold AlEnd
  rw[Int.toNat_natCast] at ok ⊢
  rcases List.eq_nil_or_concat (Z k) with hz|⟨ys,a,hz⟩
  ·rw[hz] at ok
   have e1:allocI n K t q s (k:Int) [] st=(match (pickI n K t q s (k:Int) 4 st).1 with
    | some (p,m)=>(some (atI t q s (k:Int) (p:Int) ((m.getD 0 0:Nat):Int),(m.drop 1).reverse.map fun (i:Nat)=>atI t q s (k:Int) (p:Int) (i:Int)),onS n K t q s p (m.getD 0 0) (pickI n K t q s (k:Int) 4 st).2)
    | none=>(none,(pickI n K t q s (k:Int) 4 st).2)):=by
    unfold allocI
    rw[if_neg qo]
    rfl
   rw[hz,e1]
   obtain⟨⟨x,s2⟩,hx⟩:∃ y,pickI n K t q s (k:Int) 4 st=y:=⟨_,rfl⟩
   rw[hx]
   cases x with
   | none =>
    refine(qFb hn hq (k:Int) hk0 hk1 s2 ((qDo qo qo qo qo:pickZ n K t q s (k:Int) ((4:Nat):Int) st=_).trans hx) (by rw[qUw hk9,hz];rfl) hT hA hP hF h).mono ?_
    rintro e w' ⟨rfl,hl⟩
    have hv:VOk n s2:=by obtain⟨⟨A',⟨o,hI,_⟩,_⟩,_,_⟩:=hl;exact hI.ok
    exact⟨U,rfl,hl,fun _ _=>hv⟩
   | some y =>
    obtain⟨p,l⟩:=y
    obtain⟨g1,g2,g3⟩:=ok.pick p l (by rw[hx])
    refine(qAd hn hq k hk9 s2 p l hx l.length rfl g1 g2 (fun i hi=>by
     rw[show l.getD i 0=l[i]'hi by simp[List.getD,List.getElem?_eq_getElem hi]]
     exact g3 _ (List.getElem_mem _)) hz hT hA hP hF h).mono ?_
    rintro e w' ⟨V,rfl,hl,hv⟩
    exact⟨V,rfl,hl,fun _ _=>hv⟩
  ·rw[List.concat_eq_append] at hz
   obtain⟨g1,g2,p,i,g3,g4,g5⟩:=ok.spot a (by rw[hz];simp)
   rw[hz,qWD hk9 g3 g4]
   refine(qPV hn k hk9 ys a hz (by have:=ok.few;rw[hz,List.length_append] at this;omega) g1 g2 p i g3 g4 g5 hT hA hP hF h).mono ?_
   rintro e w' ⟨V,rfl,hl⟩
   refine⟨V,rfl,hl,fun _ hc=>?_⟩
   simp at hc
 ·have e1:allocI n K t q s k (Z k.toNat) st=(none,st):=by unfold allocI;rw[if_pos qo]
  unfold AlEnd
  rw[e1]
  refine(qFb hn hq k hk0 hk1 st (qKl (fun x=>hk x.1)) (qYq qo) hT hA hP hF h).mono ?_
  rintro e w' ⟨rfl,hl⟩
  exact⟨U,rfl,hl,fun x=>absurd x hk⟩

end
end
section
def freeI (n:Nat) (K:Nat->Option Nat) (t q s:Int) (p i:Nat) (l:List Int) (st:Vst):Vst :=
 if l.length<=3 then offS n K t q s p i (getS n K st (pageI t q s p 0)) else giveS n K t q s p i (offS n K t q s p i (getS n K st (pageI t q s p 0)))
def freeZ (t q s:Int) (k:Nat) (p i:Nat) (Z:Nat->List Int):Nat->List Int:=if (Z k).length<=3 then updF Z k (Z k ++ [atI t q s (k:Int) (p:Int) (i:Int)]) else Z
section
variable {base b n : Nat} {wh : Bool} {K : Nat -> Option Nat} {st : Vst} {w : World} {A : Nat -> Prop} {t q s : Int} {U : Nat -> Sl} {Z : Nat -> List Int}

theorem qTL (hn:n<2^40)(hq:q<=1024)(k:Nat)(hk:k<9)(p i:Nat)(hp:p<=1024)(hi:i<32)(kk l:Int)(ok:Bool)(hI:infoOf n K t q s p st=(kk,l,(k:Int),ok))(h3:(Z k).length<=3)(hT:SlotsLaid w)(hA:¬ A 0)(hP:PkV w U Z)(hF:∀ i,PB U Z i->¬ A i)(h:(vOb base b n wh K).I w st A) :
  Calls Tryz.prog 21 #[.pointer (some ⟨b,0,none⟩),.agg #[.int .i64 t,.int .i64 q,.int .i64 s],.agg (pkC U),.int .i64 (p:Int),.int .i64 (i:Int)] w fun e w'=>∃ V,e = .returned (.agg (pkC V))/\PkLeft (vOb base b n wh K) w A (PB U Z) V (updF Z k (Z k ++ [atI t q s (k:Int) (p:Int) (i:Int)])) (offS n K t q s p i (getS n K st (pageI t q s (p:Int) 0))) w':=by
 have t0:decide ((i:Int)<0)=false:=qf
 have t1:decide ((32:Int)<=(i:Int))=false:=qf
 have t1n:decide (32<=i)=false:=qf
 skip
 have HBA:=qh (Bnew (Bnew (Bnew (Bnew (B0 w) (.cells #[.int .i64 t,.int .i64 q,.int .i64 s] 23)) (.cells (pkC U) 36)) (.cells #[.slice none 0 0,.slice none 0 0,.slice none 0 0,.slice none 0 0,.slice none 0 0,.slice none 0 0,.slice none 0 0,.slice none 0 0,.slice none 0 0] 36)) (.cells #[.pointer (some ⟨b,0,none⟩),.int .i64 t,.int .i64 q,.int .i64 s,(U 0).v,(U 1).v,(U 2).v,(U 3).v,(U 4).v,(U 5).v,(U 6).v,(U 7).v,(U 8).v] 83))
 have HCF:=qh ((Held.new w 23 #[.int .i64 t,.int .i64 q,.int .i64 s]).alloc (.cells (pkC U) 36))
 have HPB:=qh (((Held.new2 w (.cells #[.int .i64 t,.int .i64 q,.int .i64 s] 23) 36 (pkC U)).alloc (.cells #[.slice none 0 0,.slice none 0 0,.slice none 0 0,.slice none 0 0,.slice none 0 0,.slice none 0 0,.slice none 0 0,.slice none 0 0,.slice none 0 0] 36)).alloc (.cells #[.pointer (some ⟨b,0,none⟩),.int .i64 t,.int .i64 q,.int .i64 s,(U 0).v,(U 1).v,(U 2).v,(U 3).v,(U 4).v,(U 5).v,(U 6).v,(U 7).v,(U 8).v] 83))
 have HP0:=qh ((Held.new2 w (.cells #[.int .i64 t,.int .i64 q,.int .i64 s] 23) 36 (pkC U)).alloc (.cells #[.slice none 0 0,.slice none 0 0,.slice none 0 0,.slice none 0 0,.slice none 0 0,.slice none 0 0,.slice none 0 0,.slice none 0 0,.slice none 0 0] 36))
 have HRB:qH (Held ((((w.alloc (.cells #[.int .i64 t,.int .i64 q,.int .i64 s] 23)).alloc (.cells (pkC U) 36)).alloc (.cells #[.slice none 0 0,.slice none 0 0,.slice none 0 0,.slice none 0 0,.slice none 0 0,.slice none 0 0,.slice none 0 0,.slice none 0 0,.slice none 0 0] 36)).alloc (.cells #[.pointer (some ⟨b,0,none⟩),.int .i64 t,.int .i64 q,.int .i64 s,(U 0).v,(U 1).v,(U 2).v,(U 3).v,(U 4).v,(U 5).v,(U 6).v,(U 7).v,(U 8).v] 83)) (w.heap.size+2) 36 (pkC zeroU)):=qh ((show Held (((w.alloc (.cells #[.int .i64 t,.int .i64 q,.int .i64 s] 23)).alloc (.cells (pkC U) 36)).alloc (.cells #[.slice none 0 0,.slice none 0 0,.slice none 0 0,.slice none 0 0,.slice none 0 0,.slice none 0 0,.slice none 0 0,.slice none 0 0,.slice none 0 0] 36)) (w.heap.size+2) 36 (pkC zeroU) from by
  refine R2l ?_;intro this e
  exact this).alloc (.cells #[.pointer (some ⟨b,0,none⟩),.int .i64 t,.int .i64 q,.int .i64 s,(U 0).v,(U 1).v,(U 2).v,(U 3).v,(U 4).v,(U 5).v,(U 6).v,(U 7).v,(U 8).v] 83))
 have HHD:qH (Held ((((w.alloc (.cells #[.int .i64 t,.int .i64 q,.int .i64 s] 23)).alloc (.cells (pkC U) 36)).alloc (.cells #[.slice none 0 0,.slice none 0 0,.slice none 0 0,.slice none 0 0,.slice none 0 0,.slice none 0 0,.slice none 0 0,.slice none 0 0,.slice none 0 0] 36)).alloc (.cells #[.pointer (some ⟨b,0,none⟩),.int .i64 t,.int .i64 q,.int .i64 s,(U 0).v,(U 1).v,(U 2).v,(U 3).v,(U 4).v,(U 5).v,(U 6).v,(U 7).v,(U 8).v] 83)) (w.heap.size+3) 83 (hdC b t q s U)):=qh (by
  refine Ran ?_;intro this e
  exact this)
 have HSZ:qH (((((w.alloc (.cells #[.int .i64 t,.int .i64 q,.int .i64 s] 23)).alloc (.cells (pkC U) 36)).alloc (.cells #[.slice none 0 0,.slice none 0 0,.slice none 0 0,.slice none 0 0,.slice none 0 0,.slice none 0 0,.slice none 0 0,.slice none 0 0,.slice none 0 0] 36)).alloc (.cells #[.pointer (some ⟨b,0,none⟩),.int .i64 t,.int .i64 q,.int .i64 s,(U 0).v,(U 1).v,(U 2).v,(U 3).v,(U 4).v,(U 5).v,(U 6).v,(U 7).v,(U 8).v] 83)).heap.size=w.heap.size+4):=qh (by simp)
 have HN:=qh (Hnd.make (G:=fun i=>i=w.heap.size+1\/i=w.heap.size+2) (t:=t) (q:=q) (s:=s) h hP hF HBA.o (by omega:w.heap.size<=w.heap.size+3) HHD.o (fun i x=>by
  have:=HSZ.o
  rcases x with x|x <;> omega))
 have HPL:qH (∀ i,PB U Z i->i<w.heap.size):=qh (fun i hi=>hi.lt hP)
 have HTL:=qh hT
 have HNA:=qh hA
 obtain⟨cc0,cc1,cc2⟩:=(HCF.o.alloc (.cells #[.slice none 0 0,.slice none 0 0,.slice none 0 0,.slice none 0 0,.slice none 0 0,.slice none 0 0,.slice none 0 0,.slice none 0 0,.slice none 0 0] 36)).three
 obtain⟨p0,p1,p2,p3,p4,p5,p6,p7,p8⟩:=HP0.o.nineP
 go_enter Tryz.func21,Tryz.ntmps21
 go_wp2_with fail
 generalize hW4:((((w.alloc (.cells #[.int .i64 t,.int .i64 q,.int .i64 s] 23)).alloc (.cells (pkC U) 36)).alloc (.cells #[.slice none 0 0,.slice none 0 0,.slice none 0 0,.slice none 0 0,.slice none 0 0,.slice none 0 0,.slice none 0 0,.slice none 0 0,.slice none 0 0] 36)).alloc (.cells #[.pointer (some ⟨b,0,none⟩),.int .i64 t,.int .i64 q,.int .i64 s,(U 0).v,(U 1).v,(U 2).v,(U 3).v,(U 4).v,(U 5).v,(U 6).v,(U 7).v,(U 8).v] 83))=W4 at *
 clear hW4 HHD HCF HP0
 refine(qHo hn (p:Int) kk l (k:Int) ok hI HG.hand HN.o.held HN.o.at_).mono ?_
 rintro e w5 ⟨rfl,h1,h2⟩
 replace HRB:=qh (h2.held (.inl (.inl (.inr rfl))) HRB.o)
 replace HN:=qh (HN.o.call h1 h2)
 clear h1 h2
 go_wp2_with fail
 refine(qRk hn (p:Int) i hi HG.hand HN.o.held HN.o.at_).mono ?_
 rintro e w6 ⟨rfl,h1,h2⟩
 replace HRB:=qh (h2.held (.inl (.inl (.inr rfl))) HRB.o)
 replace HN:=qh (HN.o.call h1 h2)
 clear h1 h2
 go_wp2_with fail
 refine(qR9 hn HG.hand HN.o.held HN.o.at_).mono ?_
 rintro e w7 ⟨rfl,h1,h2⟩
 replace HRB:=qh (h2.held (.inl (.inl (.inr rfl))) HRB.o)
 replace HN:=qh (HN.o.call h1 h2)
 clear h1 h2
 go_wp2_with fail
 refine(qIu k hk (p:Int) (i:Int) _ rfl (qBv _ _ _ _ _ _) h3 (HTL.o.at_ HNA.o HN.o.at_) HN.o.begin_).mono ?_
 rintro e w8 ⟨rfl,x,hx,ht,hn⟩
 have HS5:=qh HN.o.stay.1
 have HPV:qH (∀ j,PB (updF U k x) (updF Z k (Z k ++ [atI t q s (k:Int) (p:Int) (i:Int)])) j->j<w.heap.size\/w.heap.size+4<=j):=qh (fun j hj=>by
  have:=HSZ.o
  have:=HS5.o
  rcases hj.turn_new (w:=w7) hx with h1|h1
  ·exact .inl (HPL.o j h1)
  ·exact .inr qo)
 obtain⟨V,hV⟩:∃ V,updF U k x=V:=⟨_,rfl⟩
 rw[hV] at hn HPV
 replace HRB:=qh (hn.stay.held (.inr rfl) HRB.o)
 replace HN:=qh (HN.o.then_ hn)
 clear hn ht hx hV
 obtain⟨c0,c1,c2,c3⟩:=HN.o.held.hd4
 obtain⟨u0,u1,u2,u3,u4,u5,u6,u7,u8⟩:=HN.o.held.hdU
 obtain⟨z0,z1,z2,z3,z4,z5,z6,z7,z8⟩:=HRB.o.nineP
 obtain⟨f0,f1,f2,f3,f4,f5,f6,f7,f8⟩:=HRB.o.thawP
 go_wp2_with fail
 skip
 obtain⟨WF,hWF⟩:∃ WF,setP w8 (w.heap.size+2) V=WF:=⟨_,rfl⟩
 have zz:=qh (Held.setP HRB.o V)
 have HNF:=qh (HN.o.putP (i:=w.heap.size+2) (.inr rfl) (fun x=>by have:=HPV.o _ x;omega) V)
 rw[hWF] at zz HNF
 unfold setP at hWF
 rw[hWF]
 obtain⟨y0,y1,y2,y3,y4,y5,y6,y7,y8⟩:=zz.o.nineP
 clear c0 c1 c2 c3 u0 u1 u2 u3 u4 u5 u6 u7 u8 z0 z1 z2 z3 z4 z5 z6 z7 z8 f0 f1 f2 f3 f4 f5 f6 f7 f8 HN HRB hWF
 skip
 refine bodyPost_ret (v := .agg (pkC V)) (by simp[results,Tryz.results21,go_sem,y0,y1,y2,y3,y4,y5,y6,y7,y8]) rfl ?_
 exact⟨V,rfl,HNF.o.p.fin⟩

theorem qC4 (hn:n<2^40)(hq:q<=1024)(k:Nat)(hk:k<9)(p i:Nat)(hp:p<=1024)(hi:i<32)(kk l:Int)(ok:Bool)(hI:infoOf n K t q s p st=(kk,l,(k:Int),ok))(h3:¬ (Z k).length<=3)(c0:0<=(infoOf n K t q s p (offS n K t q s p i (getS n K st (pageI t q s p 0)))).2.2.1)(c8:(infoOf n K t q s p (offS n K t q s p i (getS n K st (pageI t q s p 0)))).2.2.1<=8)(hT:SlotsLaid w)(hA:¬ A 0)(hP:PkV w U Z)(hF:∀ i,PB U Z i->¬ A i)(h:(vOb base b n wh K).I w st A) :
  Calls Tryz.prog 21 #[.pointer (some ⟨b,0,none⟩),.agg #[.int .i64 t,.int .i64 q,.int .i64 s],.agg (pkC U),.int .i64 (p:Int),.int .i64 (i:Int)] w fun e w'=>∃ V,e = .returned (.agg (pkC V))/\PkLeft (vOb base b n wh K) w A (PB U Z) V Z (giveS n K t q s p i (offS n K t q s p i (getS n K st (pageI t q s (p:Int) 0)))) w':=by
 have t0:decide ((i:Int)<0)=false:=qf
 have t1:decide ((32:Int)<=(i:Int))=false:=qf
 have t1n:decide (32<=i)=false:=qf
 have HC0:=qh c0
 have HC8:=qh c8
 have HBA:=qh (Bnew (Bnew (Bnew (Bnew (B0 w) (.cells #[.int .i64 t,.int .i64 q,.int .i64 s] 23)) (.cells (pkC U) 36)) (.cells #[.slice none 0 0,.slice none 0 0,.slice none 0 0,.slice none 0 0,.slice none 0 0,.slice none 0 0,.slice none 0 0,.slice none 0 0,.slice none 0 0] 36)) (.cells #[.pointer (some ⟨b,0,none⟩),.int .i64 t,.int .i64 q,.int .i64 s,(U 0).v,(U 1).v,(U 2).v,(U 3).v,(U 4).v,(U 5).v,(U 6).v,(U 7).v,(U 8).v] 83))
 have HCF:=qh ((Held.new w 23 #[.int .i64 t,.int .i64 q,.int .i64 s]).alloc (.cells (pkC U) 36))
 have HPB:=qh (((Held.new2 w (.cells #[.int .i64 t,.int .i64 q,.int .i64 s] 23) 36 (pkC U)).alloc (.cells #[.slice none 0 0,.slice none 0 0,.slice none 0 0,.slice none 0 0,.slice none 0 0,.slice none 0 0,.slice none 0 0,.slice none 0 0,.slice none 0 0] 36)).alloc (.cells #[.pointer (some ⟨b,0,none⟩),.int .i64 t,.int .i64 q,.int .i64 s,(U 0).v,(U 1).v,(U 2).v,(U 3).v,(U 4).v,(U 5).v,(U 6).v,(U 7).v,(U 8).v] 83))
 have HP0:=qh ((Held.new2 w (.cells #[.int .i64 t,.int .i64 q,.int .i64 s] 23) 36 (pkC U)).alloc (.cells #[.slice none 0 0,.slice none 0 0,.slice none 0 0,.slice none 0 0,.slice none 0 0,.slice none 0 0,.slice none 0 0,.slice none 0 0,.slice none 0 0] 36))
 have HRB:qH (Held ((((w.alloc (.cells #[.int .i64 t,.int .i64 q,.int .i64 s] 23)).alloc (.cells (pkC U) 36)).alloc (.cells #[.slice none 0 0,.slice none 0 0,.slice none 0 0,.slice none 0 0,.slice none 0 0,.slice none 0 0,.slice none 0 0,.slice none 0 0,.slice none 0 0] 36)).alloc (.cells #[.pointer (some ⟨b,0,none⟩),.int .i64 t,.int .i64 q,.int .i64 s,(U 0).v,(U 1).v,(U 2).v,(U 3).v,(U 4).v,(U 5).v,(U 6).v,(U 7).v,(U 8).v] 83)) (w.heap.size+2) 36 (pkC zeroU)):=qh ((show Held (((w.alloc (.cells #[.int .i64 t,.int .i64 q,.int .i64 s] 23)).alloc (.cells (pkC U) 36)).alloc (.cells #[.slice none 0 0,.slice none 0 0,.slice none 0 0,.slice none 0 0,.slice none 0 0,.slice none 0 0,.slice none 0 0,.slice none 0 0,.slice none 0 0] 36)) (w.heap.size+2) 36 (pkC zeroU) from by
  refine R2l ?_;intro this e
  exact this).alloc (.cells #[.pointer (some ⟨b,0,none⟩),.int .i64 t,.int .i64 q,.int .i64 s,(U 0).v,(U 1).v,(U 2).v,(U 3).v,(U 4).v,(U 5).v,(U 6).v,(U 7).v,(U 8).v] 83))
 have HHD:qH (Held ((((w.alloc (.cells #[.int .i64 t,.int .i64 q,.int .i64 s] 23)).alloc (.cells (pkC U) 36)).alloc (.cells #[.slice none 0 0,.slice none 0 0,.slice none 0 0,.slice none 0 0,.slice none 0 0,.slice none 0 0,.slice none 0 0,.slice none 0 0,.slice none 0 0] 36)).alloc (.cells #[.pointer (some ⟨b,0,none⟩),.int .i64 t,.int .i64 q,.int .i64 s,(U 0).v,(U 1).v,(U 2).v,(U 3).v,(U 4).v,(U 5).v,(U 6).v,(U 7).v,(U 8).v] 83)) (w.heap.size+3) 83 (hdC b t q s U)):=qh (by
  refine Ran ?_;intro this e
  exact this)
 have HSZ:qH (((((w.alloc (.cells #[.int .i64 t,.int .i64 q,.int .i64 s] 23)).alloc (.cells (pkC U) 36)).alloc (.cells #[.slice none 0 0,.slice none 0 0,.slice none 0 0,.slice none 0 0,.slice none 0 0,.slice none 0 0,.slice none 0 0,.slice none 0 0,.slice none 0 0] 36)).alloc (.cells #[.pointer (some ⟨b,0,none⟩),.int .i64 t,.int .i64 q,.int .i64 s,(U 0).v,(U 1).v,(U 2).v,(U 3).v,(U 4).v,(U 5).v,(U 6).v,(U 7).v,(U 8).v] 83)).heap.size=w.heap.size+4):=qh (by simp)
 have HN:=qh (Hnd.make (G:=fun i=>i=w.heap.size+1\/i=w.heap.size+2) (t:=t) (q:=q) (s:=s) h hP hF HBA.o (by omega:w.heap.size<=w.heap.size+3) HHD.o (fun i x=>by
  have:=HSZ.o
  rcases x with x|x <;> omega))
 have HPL:qH (∀ i,PB U Z i->i<w.heap.size):=qh (fun i hi=>hi.lt hP)
 have HTL:=qh hT
 have HNA:=qh hA
 obtain⟨cc0,cc1,cc2⟩:=(HCF.o.alloc (.cells #[.slice none 0 0,.slice none 0 0,.slice none 0 0,.slice none 0 0,.slice none 0 0,.slice none 0 0,.slice none 0 0,.slice none 0 0,.slice none 0 0] 36)).three
 obtain⟨p0,p1,p2,p3,p4,p5,p6,p7,p8⟩:=HP0.o.nineP
 go_enter Tryz.func21,Tryz.ntmps21
 go_wp2_with fail
 generalize hW4:((((w.alloc (.cells #[.int .i64 t,.int .i64 q,.int .i64 s] 23)).alloc (.cells (pkC U) 36)).alloc (.cells #[.slice none 0 0,.slice none 0 0,.slice none 0 0,.slice none 0 0,.slice none 0 0,.slice none 0 0,.slice none 0 0,.slice none 0 0,.slice none 0 0] 36)).alloc (.cells #[.pointer (some ⟨b,0,none⟩),.int .i64 t,.int .i64 q,.int .i64 s,(U 0).v,(U 1).v,(U 2).v,(U 3).v,(U 4).v,(U 5).v,(U 6).v,(U 7).v,(U 8).v] 83))=W4 at *
 clear hW4 HHD HCF HP0
 refine(qHo hn (p:Int) kk l (k:Int) ok hI HG.hand HN.o.held HN.o.at_).mono ?_
 rintro e w5 ⟨rfl,h1,h2⟩
 replace HRB:=qh (h2.held (.inl (.inl (.inr rfl))) HRB.o)
 replace HN:=qh (HN.o.call h1 h2)
 clear h1 h2
 go_wp2_with fail
 refine(qRk hn (p:Int) i hi HG.hand HN.o.held HN.o.at_).mono ?_
 rintro e w6 ⟨rfl,h1,h2⟩
 replace HRB:=qh (h2.held (.inl (.inl (.inr rfl))) HRB.o)
 replace HN:=qh (HN.o.call h1 h2)
 clear h1 h2
 go_wp2_with fail
 refine(qR9 hn HG.hand HN.o.held HN.o.at_).mono ?_
 rintro e w7 ⟨rfl,h1,h2⟩
 replace HRB:=qh (h2.held (.inl (.inl (.inr rfl))) HRB.o)
 replace HN:=qh (HN.o.call h1 h2)
 clear h1 h2
 go_wp2_with fail
 refine(qHY k hk (p:Int) (i:Int) _ rfl (qBv _ _ _ _ _ _) qo (HTL.o.at_ HNA.o HN.o.at_) HN.o.begin_).mono ?_
 rintro e w8 ⟨rfl,hn⟩
 have HPV:qH (∀ i,PB U Z i->i<w.heap.size\/w.heap.size+4<=i):=qh (fun i hi => .inl (HPL.o i hi))
 replace HRB:=qh (hn.stay.held (.inr rfl) HRB.o)
 replace HN:=qh (HN.o.then_ hn)
 clear hn
 go_wp2_with fail
 refine(qCN hn hq p i hp hi HTL.o HNA.o HC0.o HC8.o HG.hand HN.o.held HN.o.at_).mono ?_
 rintro e w9 ⟨rfl,h1,h2⟩
 replace HRB:=qh (h2.held (.inl (.inl (.inr rfl))) HRB.o)
 replace HN:=qh (HN.o.call h1 h2)
 clear h1 h2
 obtain⟨c0,c1,c2,c3⟩:=HN.o.held.hd4
 obtain⟨u0,u1,u2,u3,u4,u5,u6,u7,u8⟩:=HN.o.held.hdU
 obtain⟨z0,z1,z2,z3,z4,z5,z6,z7,z8⟩:=HRB.o.nineP
 obtain⟨f0,f1,f2,f3,f4,f5,f6,f7,f8⟩:=HRB.o.thawP
 go_wp2_with fail
 skip
 obtain⟨WF,hWF⟩:∃ WF,setP w9 (w.heap.size+2) U=WF:=⟨_,rfl⟩
 have zz:=qh (Held.setP HRB.o U)
 have HNF:=qh (HN.o.putP (i:=w.heap.size+2) (.inr rfl) (fun x=>by have:=HPV.o _ x;omega) U)
 rw[hWF] at zz HNF
 unfold setP at hWF
 rw[hWF]
 obtain⟨y0,y1,y2,y3,y4,y5,y6,y7,y8⟩:=zz.o.nineP
 clear c0 c1 c2 c3 u0 u1 u2 u3 u4 u5 u6 u7 u8 z0 z1 z2 z3 z4 z5 z6 z7 z8 f0 f1 f2 f3 f4 f5 f6 f7 f8 HN HRB hWF
 skip
 refine bodyPost_ret (v := .agg (pkC U)) (by simp[results,Tryz.results21,go_sem,y0,y1,y2,y3,y4,y5,y6,y7,y8]) rfl ?_
 exact⟨U,rfl,HNF.o.p.fin⟩

theorem qEO (hn:n<2^40)(hq:q<=1024)(k:Nat)(hk:k<9)(p i:Nat)(hp:p<=1024)(hi:i<32)(hI:(infoOf n K t q s p st).2.2.1=(k:Int))(hI2:(infoOf n K t q s p (offS n K t q s p i (getS n K st (pageI t q s p 0)))).2.2.1=(k:Int))(hT:SlotsLaid w)(hA:¬ A 0)(hP:PkV w U Z)(hF:∀ i,PB U Z i->¬ A i)(h:(vOb base b n wh K).I w st A) :
  Calls Tryz.prog 21 #[.pointer (some ⟨b,0,none⟩),.agg #[.int .i64 t,.int .i64 q,.int .i64 s],.agg (pkC U),.int .i64 (p:Int),.int .i64 (i:Int)] w fun e w'=>∃ V,e = .returned (.agg (pkC V))/\PkLeft (vOb base b n wh K) w A (PB U Z) V (freeZ t q s k p i Z) (freeI n K t q s p i (Z k) st) w':=by
 obtain⟨⟨kk,l,c,ok⟩,hI'⟩:∃ x,infoOf n K t q s p st=x:=⟨_,rfl⟩
 rw[hI'] at hI
 have hI:c=(k:Int):=hI
 subst hI
 unfold freeZ freeI
 by_cases h3:(Z k).length<=3
 ·rw[if_pos h3,if_pos h3]
  exact qTL hn hq k hk p i hp hi kk l ok hI' h3 hT hA hP hF h
 ·rw[if_neg h3,if_neg h3]
  exact qC4 hn hq k hk p i hp hi kk l ok hI' h3 (by rw[hI2];omega) (by rw[hI2];omega) hT hA hP hF h
end
end
section
theorem qYU (t q s:Int)(w:World):Calls Tryz.prog 31 #[.agg #[.int .i64 t,.int .i64 q,.int .i64 s]] w fun e w'=>e = .returned (.bool (decide (q<=64)))/\Below w.heap.size w w':=by
 go_enter Tryz.func31,Tryz.ntmps31
 go_wp2
 go_ret
 exact⟨rfl,Bnew (B0 _) _⟩
theorem qVl (w:World):(Instr.makeSlice 24 (.int .i64 82) (.int .i64 82)).run Tryz.prog w = .ok (.slice (some ⟨w.heap.size,0,none⟩) 82 82) (w.alloc (.cells (Array.replicate 82 (.int .u32 0)) 76)):=by kernel_rfl
def ex14L:List Nat:=((((List.replicate 82 0).set 0 8).set 5 1).set 34 129).set 77 1
def ex14C:Array Value:=((((Array.replicate 82 (Value.int .u32 0)).setIfInBounds 0 (.int .u32 8)).setIfInBounds 5 (.int .u32 1)).setIfInBounds 34 (.int .u32 129)).setIfInBounds 77 (.int .u32 1)
theorem qYQ:ex14C.toList=valVs ex14L:=by
 unfold ex14C ex14L valVs
 simp only[Array.toList_setIfInBounds,Array.toList_replicate,List.map_set,List.map_replicate]
 rfl
def qEr:Nat->Option Nat:=fun i=>ex14L[i]?
theorem qGI (w:World):Calls Tryz.prog 32 #[] w fun e w'=>∃ g,e = .returned (.tuple #[.agg #[.int .i64 1,.int .i64 8,.int .i64 10],.slice (some ⟨g,0,none⟩) 82 82])/\Held w' g 76 ex14C/\Below w.heap.size w w':=by
 have hmk:=qVl
 have HC:=(Held.new w 23 #[.int .i64 0,.int .i64 0,.int .i64 0]).alloc (.cells (Array.replicate 82 (.int .u32 0)) 76)
 have HG:=Held.new2 w (.cells #[.int .i64 0,.int .i64 0,.int .i64 0] 23) 76 (Array.replicate 82 (.int .u32 0))
 have g0:_=some (Value.int .u32 0):=(HG.cell 0).trans (by simp)
 have g1:_=some (Value.int .u32 0):=(HG.cell 5).trans (by simp)
 have g2:_=some (Value.int .u32 0):=(HG.cell 34).trans (by simp)
 have g3:_=some (Value.int .u32 0):=(HG.cell 77).trans (by simp)
 have f0:=HG.thawed
 obtain⟨c0,c1,c2⟩:=HC.three
 have f1:=HC.thawed
 clear HC HG
 go_enter Tryz.func32,Tryz.ntmps32
 go_wp2
 refine bodyPost_ret (v := .tuple #[.agg #[.int .i64 1,.int .i64 8,.int .i64 10],.slice (some ⟨w.heap.size+1,0,none⟩) 82 82]) (by simp[results,Tryz.results32,go_sem]) rfl ⟨w.heap.size+1,rfl,?_,?_⟩
 ·unfold ex14C
  exact Held.new2 w (.cells #[.int .i64 1,.int .i64 8,.int .i64 10] 23) 76 _
 ·exact Bnew (Bnew (B0 w) _) _
end
section
theorem qOo:ex14L.length=82:=by decide
theorem qDC:∀ x∈ex14L,x<2^32:=by decide
theorem qGe {w:World}{g:Nat}{t:TypeId}(h:Held w g t ex14C):∀ j u,(valVs ex14L)[j]?=some u->w.cell? ((⟨g,0,none⟩:Addr).add j)=some u:=by
 intro j u hu
 have e:(⟨g,0,none⟩:Addr).add j=⟨g,j,none⟩:=by
  unfold Addr.add
  by_cases hz:j=0
  ·rw[if_pos hz,hz]
  ·rw[if_neg hz];simp
 rw[e,h.cell j,<- hu,<- qYQ]
 simp
end
section
section
variable {W w w' : World} {O1 O2 : Ob} {A B G : Nat -> Prop} {s1 s2 s' : Vst}
theorem Duo.slots (h:Duo W O1 O2 A B G s1 s2 w)(hT:SlotsLaid W):SlotsLaid w/\¬ A 0 /\ ¬ B 0 := by
 have hl:(0 : Nat)<W.heap.size:=qY2 (hT 0 qo)
 exact⟨hT.below h.bel,fun x=>by have:=h.lo _ (.inl x);omega,fun x=>by have:=h.lo _ (.inr x);omega⟩
end
end
section
theorem qHi (l:List Int)(v u:Value)(w:World)(h1:LongsAt w v l)(h2:LongsAt w u l) :
  Calls Tryz.prog 33 #[v,u] w fun e w'=>e = .returned (.bool true)/\∃ n,w'=w.drewN n:=by
 obtain⟨A,c,rfl,hlc,hcm,_,hno,hcl⟩:=h1
 obtain⟨B,d,rfl,hld,hdm,_,hnp,hdl⟩:=h2
 obtain⟨n,hn⟩:∃ n,l.length=n:=⟨_,rfl⟩
 have hm:n<=9223372036854775807:=by rw[hn] at hlc;unfold maxLen at hcm;omega
 have HN:=qh hn
 have HC:=qh hcl
 have HD:=qh hdl
 have HNO:=qh hno
 have HNP:=qh hnp
 rw[hn]
 clear hcl hdl hno hnp hn
 go_enter Tryz.func33,Tryz.ntmps33
 go_wp2
 go_loopw [5] (fun i wr=>∃ k m:Nat,k<=n/\i = .int .i64 k/\wr=w.drewN m) (fun i _=>n-(intOf i).toNat)
 case atStart=>exact⟨0,0,qo,rfl,rfl⟩
 case round =>
  obtain⟨k,m,hk,rfl,rfl⟩:=hrel
  by_cases hlt:k<n
  ·obtain⟨x,hx⟩:∃ x,l[k]?=some x:=⟨_,List.getElem?_eq_getElem (by rw[HN.o];exact hlt)⟩
   cases A with
   | none=>exact absurd HN.o (by rw[(HNO.o rfl).1];simp;omega)
   | some ad =>
    cases B with
    | none=>exact absurd HN.o (by rw[(HNP.o rfl).1];simp;omega)
    | some bd =>
     have c1:=(HC.o ad rfl).2 k x hx
     have c2:=(HD.o bd rfl).2 k x hx
     clear hx
     go_wp2
     go_quiet (fail)
     go_wp2
     go_roundw
     case rel=>exact⟨k+1,_,qo,by go_num,rfl⟩
     case measure=>simp[intOf];omega
  ·go_wp2
   go_ret
   exact⟨rfl,m,rfl⟩
theorem qZG (U V:Nat->Sl)(Z:Nat->List Int)(w:World)(hU:PkV w U Z)(hV:PkV w V Z) :
  Calls Tryz.prog 13 #[.agg (pkC U),.agg (pkC V)] w fun e w'=>e = .returned (.bool true)/\Below w.heap.size w w':=by
 have HG:=qh ((Held.new w 36 (pkC U)).alloc (.cells (pkC V) 36))
 have HR:=qh (Held.new2 w (.cells (pkC U) 36) 36 (pkC V))
 have HB:=qh (Bnew (Bnew (B0 w) (.cells (pkC U) 36)) (.cells (pkC V) 36))
 have HPU:=qh hU
 have HPV:=qh hV
 clear hU hV
 go_enter Tryz.func13,Tryz.ntmps13
 go_wp2
 go_loopw [5] (fun u5 wr=>∃ k:Nat,k<=9/\u5 = .int .i64 (k:Int)/\qH (Held wr w.heap.size 36 (pkC U))/\qH (Held wr (w.heap.size+1) 36 (pkC V))/\qH (Below w.heap.size w wr)) (fun u5 _=>9-(intOf u5).toNat)
 case atStart=>exact⟨0,qo,rfl,HG,HR,HB⟩
 case round =>
  clear HG HR HB
  obtain⟨k,hk,rfl,HG,HR,HB⟩:=hrel
  by_cases hlt:k<9
  ·have hki:(k:Int)<9:=qo
   go_wp2_with fail
   replace HG:=qh (HG.o.keep (Bdrew (B0 _)))
   replace HR:=qh (HR.o.keep (Bdrew (B0 _)))
   replace HB:=qh (Bgo HB.o (Bdrew (B0 _)))
   refine wp_region_held_drew (S:=(fun w'=>w'.cell? ⟨w.heap.size,k,none⟩=some (.slice (U k).a (U k).n (U k).c)/\w'.cell? ⟨w.heap.size+1,k,none⟩=some (.slice (V k).a (V k).n (V k).c))) qr ?_ (fun hHeld=>?_)
   ·(try dsimp only)
    first|exact⟨HG.o.pk hlt,HR.o.pk hlt⟩|exact hHeld
   refine Rbo ?_
   refine tkz 5 ?_
   refine rdz 6 fun K hK=>?_
   go_simp
   refine(qHi (Z k) (U k).v (V k).v _ ((HPU.o k hlt).below HB.o) ((HPV.o k hlt).below HB.o)).mono ?_
   rintro e w9 ⟨rfl,m9,hw9⟩
   replace HG:=qh (HG.o.keep (show Below _ _ w9 by rw[hw9];exact Bdraw (B0 _) m9))
   replace HR:=qh (HR.o.keep (show Below _ _ w9 by rw[hw9];exact Bdraw (B0 _) m9))
   replace HB:=qh (Bgo HB.o (show Below _ _ w9 by rw[hw9];exact Bdraw (B0 _) m9))
   clear hw9
   refine qk ?_ (fun hHeld=>?_)
   ·first|exact⟨HG.o.pk hlt,HR.o.pk hlt⟩|exact hHeld
   clear hK K
   refine tkz 7 ?_
   refine dnz ?_
   go_wp2_with fail
   go_roundw
   case rel=>exact⟨k+1,qo,by go_num,HG,HR,HB⟩
   case measure=>simp[intOf];omega
  ·obtain rfl:k=9:=qo
   go_wp2
   go_ret
   exact⟨rfl,HB.o⟩
end
section
def exA:Vst:=(allocI 82 qEr 1 8 10 0 [] freshS).2
def exB:Vst:=(allocI 82 qEr 1 8 10 0 [1120,1088,1056] exA).2
theorem qZn:allocI 82 qEr 1 8 10 0 [] freshS=(some (1024,[1120,1088,1056]),exA):=by
 have h:(allocI 82 qEr 1 8 10 0 [] freshS).1=some (1024,[1120,1088,1056]):=by decide +kernel
 unfold exA
 rw[<- h]
theorem qZw:allocI 82 qEr 1 8 10 0 [1120,1088,1056] exA=(some (1056,[1120,1088]),exB):=by
 have h:(allocI 82 qEr 1 8 10 0 [1120,1088,1056] exA).1=some (1056,[1120,1088]):=by decide +kernel
 unfold exB
 rw[<- h]
theorem qNt:AlOk 82 qEr 1 8 10 0 [] freshS where
 few:=Nat.zero_le _
 spot a h:=by simp at h
 pick p m h:=by
  have e:(pickI 82 qEr 1 8 10 0 4 freshS).1=some (0,[0,1,2,3]):=by decide +kernel
  rw[e] at h
  injection h with h
  injection h with h1 h2
  subst h2
  exact⟨by decide,by decide,by decide⟩
theorem qGq:AlOk 82 qEr 1 8 10 0 [1120,1088,1056] exA where
 few:=by decide
 spot a h:=by
  have h:some 1056=some a:=h
  injection h with h
  subst h
  exact⟨by decide +kernel,by decide +kernel,0,1,by decide +kernel,by decide +kernel,by decide⟩
 pick p m h:=by
  obtain⟨x,hx⟩:∃ x,(pickI 82 qEr 1 8 10 0 4 exA).1=x:=⟨_,rfl⟩
  have e:(match (pickI 82 qEr 1 8 10 0 4 exA).1 with|some (_,l)=>decide (1<=l.length)&&decide (l.length<=4)&&l.all (fun i=>decide (i<32))|none=>true)=true:=by decide +kernel
  rw[h] at e
  simp only[Bool.and_eq_true,decide_eq_true_eq,List.all_eq_true] at e
  exact⟨e.1.1,e.1.2,fun i hi=>by simpa using e.2 i hi⟩
theorem qO4 (w:World):PkV w zeroU (fun _ => []):=fun k hk=>⟨none,0,rfl,Nat.le_refl _,Nat.zero_le _,fun z hz=>by simp at hz,fun _=>⟨rfl,rfl⟩,fun ad e=>by cases e⟩
theorem qKo (w:World)(hT:SlotsLaid w):Calls Tryz.prog 8 #[] w fun e w'=>e = .returned (.bool true)/\Below w.heap.size w w':=by
 have HTL:=qh hT
 have HXA:=qh qZn
 have HXB:=qh qZw
 have HOA:=qh qNt
 have HOB:=qh qGq
 clear hT
 go_enter Tryz.func8,Tryz.ntmps8
 go_wp2_with fail
 refine(qGI _).mono ?_
 rintro e w1 ⟨g,rfl,hg,hb⟩
 have HG:=qh (hg.alloc (.cells #[.int .i64 1,.int .i64 8,.int .i64 10] 23))
 have HC:=qh (Held.new w1 23 #[.int .i64 1,.int .i64 8,.int .i64 10])
 have HB:=qh (Bnew hb (.cells #[.int .i64 1,.int .i64 8,.int .i64 10] 23))
 clear hg hb
 obtain⟨x0,x1,x2⟩:=HC.o.three
 go_wp2_with fail
 generalize hNC:w1.heap.size=NC at *
 generalize hW1:w1.alloc (.cells #[.int .i64 1,.int .i64 8,.int .i64 10] 23)=W1 at *
 clear hNC hW1
 refine(qWm (some ⟨g,0,none⟩) 82 ex14L 82 qOo qo qDC _ (fun _=>⟨_,rfl,qGe HG.o⟩)).mono ?_
 rintro e w3 ⟨b,o,rfl,hI,hB⟩
 have HD:=qh (qAg (W:=w) (G:=fun i=>i=NC) hI HB.o.size (Bgo HB.o hB) (fun i hi=>by
  have h1:=HC.o.lt
  have h3:=hB.size
  rcases hi with rfl
  exact⟨qo,fun x=>by have:=hI.ge _ x;omega⟩))
 replace HC:=qh (HC.o.keep hB)
 rw[show (fun i=>ex14L[i]?)=qEr from rfl] at HD
 clear hI hB HB HG
 clear x0 x1 x2
 obtain⟨x0,x1,x2⟩:=HC.o.three
 go_wp2_with fail
 refine(qLs (t:=1) (q:=8) (s:=10) qo qo 0 qo qo (fun _=>HOA.o) (HD.o.slots HTL.o).1 (HD.o.slots HTL.o).2.1 (U:=zeroU) (Z:=fun _ => []) (qO4 _) (fun i hi=>by obtain⟨_,_,_,_,hz,_⟩:=hi;exact absurd rfl hz) HD.o.i1).mono ?_
 rintro e w4 ⟨V,rfl,hl,_⟩
 rw[HXA.o] at hl ⊢
 dsimp only[alV,alZ,Option.isSome] at hl ⊢
 obtain⟨A4,hD4,hV,hS⟩:=HD.o.pkt1 (qO4 _) (fun i hi=>by obtain⟨_,_,_,_,hz,_⟩:=hi;exact absurd rfl hz) hl
 replace HC:=qh (hS.held rfl HC.o)
 have HV:=qh hV
 obtain⟨Y,hY⟩:∃ Y:Nat->List Int,updF (fun _ => []) (0:Int).toNat [1120,1088,1056]=Y:=⟨_,rfl⟩
 have hY0:Y 0 = [1120,1088,1056]:=by rw[<- hY];rfl
 rw[hY] at hD4 HV
 have HY0:=qh hY0
 clear hl hV hS x0 x1 x2 hY hY0 HD
 have HD:=qh (hD4.keep2 (G':=fun i=>(i=NC\/PB V Y i)\/i=w4.heap.size) (Bnew (B0 w4) (.cells (pkC V) 36)) (fun i x=>by
  rcases x with x|x
  ·exact .inl x
  ·subst x;exact .inr ⟨Nat.le_refl _,by simp⟩))
 have HP:=qh (Held.new w4 36 (pkC V))
 replace HV:=qh (HV.o.below (Bnew (B0 w4) (.cells (pkC V) 36)))
 replace HC:=qh (HC.o.alloc (.cells (pkC V) 36))
 obtain⟨x0,x1,x2⟩:=HC.o.three
 obtain⟨p0,p1,p2,p3,p4,p5,p6,p7,p8⟩:=HP.o.nineP
 clear hD4
 go_wp2_with fail
 generalize hNP:w4.heap.size=NP at *
 generalize hW5:w4.alloc (.cells (pkC V) 36)=w5 at *
 clear hNP hW5
 refine(qLs (t:=1) (q:=8) (s:=10) qo qo 0 qo qo (fun _=>by show AlOk _ _ _ _ _ _ (Y 0) _;rw[HY0.o];exact HOB.o) (HD.o.slots HTL.o).1 (HD.o.slots HTL.o).2.1 HV.o (fun i hi=>(HD.o.aG i (.inl (.inr hi))).2.1) HD.o.i1).mono ?_
 rintro e w6 ⟨V2,rfl,hl,_⟩
 rw[show Y (0:Int).toNat = [1120,1088,1056] from HY0.o,HXB.o] at hl ⊢
 dsimp only[alV,alZ,Option.isSome] at hl ⊢
 obtain⟨A6,hD6,hV2,hS⟩:=HD.o.pkt1 HV.o (fun i hi => .inl (.inr hi)) hl
 replace HP:=qh (hS.held (.inr rfl) HP.o)
 have HV6:=qh (HV.o.stay hS.1 (fun i hi=>hS.2 i (.inl (.inr hi)) (hi.lt HV.o)))
 have HB:=qh hD6.bel
 clear hl hV2 hS x0 x1 x2 p0 p1 p2 p3 p4 p5 p6 p7 p8 hD6 HD HV HC
 have HP2:=qh (HP.o.alloc (.cells (pkC V2) 36))
 have HV7:=qh (HV6.o.below (Bnew (B0 w6) (.cells (pkC V2) 36)))
 obtain⟨p0,p1,p2,p3,p4,p5,p6,p7,p8⟩:=HP2.o.nineP
 have t9:((1056:Int)==1056)=true:=rfl
 have t10:((1024:Int)==1024)=true:=rfl
 go_wp2_with fail
 have hL1:LongsAt ((w6.alloc (.cells (pkC V2) 36)).alloc (.cells #[.int .i64 1120,.int .i64 1088,.int .i64 1056] 2)) (V 0).v [1120,1088,1056]:=by
  have:=(HV7.o 0 qo).below (Bnew (B0 _) (.cells #[.int .i64 1120,.int .i64 1088,.int .i64 1056] 2))
  rw[HY0.o] at this
  exact this
 have hL2:LongsAt ((w6.alloc (.cells (pkC V2) 36)).alloc (.cells #[.int .i64 1120,.int .i64 1088,.int .i64 1056] 2)) (.slice (some ⟨w6.heap.size+1,0,none⟩) 3 3) [1120,1088,1056]:=by
  have hn:=Held.new2 w6 (.cells (pkC V2) 36) 2 #[.int .i64 1120,.int .i64 1088,.int .i64 1056]
  refine⟨some ⟨w6.heap.size+1,0,none⟩,3,rfl,by decide,by unfold maxLen;omega,by simp,(fun e=>by cases e),fun ad e=>?_⟩
  injection e with e
  subst e
  refine⟨fun _=>hn.lt,fun i z hz=>?_⟩
  match i,hz with
  | 0,hz=>injection hz with hz;subst hz;exact hn.cell 0
  | 1,hz=>injection hz with hz;subst hz;exact hn.cell 1
  | 2,hz=>injection hz with hz;subst hz;exact hn.cell 2
  | i+3,hz=>simp at hz
 refine(qHi [1120,1088,1056] _ _ _ hL1 hL2).mono ?_
 rintro e w7 ⟨rfl,n7,hw7⟩
 have HB7:qH (Below w.heap.size w w7):=qh (by rw[hw7];exact Bdraw (Bnew (Bnew HB.o _) _) n7)
 clear hw7 hL1 hL2 HB HP HP2 HV6 HV7
 go_wp2
 go_ret
 exact⟨rfl,HB7.o⟩
end
end Go.Proofs.YtjjfcaliippgpaaGreatDoor
