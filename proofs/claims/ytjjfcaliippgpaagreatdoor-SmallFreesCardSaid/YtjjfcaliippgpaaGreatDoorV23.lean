/-
  What small.Free and small.Flush do. Written by small/gen_top.py.
-/
import Derived.Test.YtjjfcaliippgpaaGreatDoorV22
import Derived.Test.YtjjfcaliippgpaaGreatDoorV11
import Derived.Test.YtjjfcaliippgpaaGreatDoorV04
import Derived.Test.YtjjfcaliippgpaaGreatDoorV08
import Derived.Test.YtjjfcaliippgpaaGreatDoorV18
import Derived.Test.YtjjfcaliippgpaaGreatDoorV12
import Derived.Test.YtjjfcaliippgpaaGreatDoorV13
import Derived.Test.YtjjfcaliippgpaaGreatDoorV01
import Derived.Test.YtjjfcaliippgpaaGreatDoorV05
namespace Go.Proofs.YtjjfcaliippgpaaGreatDoor
theorem MMN {P:Prop}(h:P:=by first|exact⟨W1.o.drew.h1.three.1,W1.o.drew.h1.three.2.1,W1.o.drew.h1.three.2.2,W1.o.drew.h0.three.2.1⟩|exact⟨W1.o.h1.three.1,W1.o.h1.three.2.1,W1.o.h1.three.2.2,W1.o.h0.three.2.1⟩|exact⟨W2.o.h1.three.1,W2.o.h1.three.2.1,W2.o.h1.three.2.2,W2.o.h0.three.2.1⟩|exact hHeld):P:=h
theorem MZ6 {P:Prop}(h:P:=by first|exact W5.o.drew.h0.three|exact W5.o.h0.three|exact W6.o.h0.three|exact hHeld):P:=h
end Go.Proofs.YtjjfcaliippgpaaGreatDoor
set_option linter.unusedVariables false
set_option linter.unusedSimpArgs false
set_option maxRecDepth 100000
set_option maxHeartbeats 25600000
namespace Go.Proofs.YtjjfcaliippgpaaGreatDoor
open Go.ChangeShapes Go.WideShapes Go.ChangeAt Go.RowKit Go.Maps
section
def freeI (n:Nat) (K:Nat->Option Nat) (t q s:Int) (p i:Nat) (l:List Int) (st:Vst):Vst :=
 if l.length<=3 then offS n K t q s p i (getS n K st (pageI t q s p 0)) else giveS n K t q s p i (offS n K t q s p i (getS n K st (pageI t q s p 0)))
def freeZ (t q s:Int) (k:Nat) (p i:Nat) (Z:Nat->List Int):Nat->List Int:=if (Z k).length<=3 then updF Z k (Z k ++ [atI t q s (k:Int) (p:Int) (i:Int)]) else Z
def flX (n:Nat) (K:Nat->Option Nat) (t q s:Int) (k:Int) (Z:Nat->List Int) (st:Vst):(Nat × (Nat->List Int)) × Vst :=
 if lastP Z k=none then ((0,Z),st) else (((flushI n K t q s k (Z k.toNat) st).1.1,updF Z k.toNat (flushI n K t q s k (Z k.toNat) st).1.2),(flushI n K t q s k (Z k.toNat) st).2)
def FlEnd (O:Ob) (w:World) (A:Nat->Prop) (n:Nat) (K:Nat->Option Nat) (t q s:Int) (k:Int) (U:Nat->Sl) (Z:Nat->List Int) (st:Vst) (e:Ending) (w':World):Prop :=
 ∃ V,e = .returned (.tuple #[.int .i64 (((flX n K t q s k Z st).1.1:Nat):Int),.agg (pkC V)])/\PkLeft O w A (PB U Z) V (flX n K t q s k Z st).1.2 (flX n K t q s k Z st).2 w' /\
  (∀ a,lastP Z k=some a->∀ j,1<=j->j<=((Z k.toNat).filter (onPg t q s (spotP t q s a))).length->VOk n (gives n K t q s (spotP t q s a).toNat ((((Z k.toNat).filter (onPg t q s (spotP t q s a))).map fun b=>(slotR t q s k (spotO t q s b)).toNat).take j) st))
def isF (t q s:Int) (k:Int) (l:List Int) (p:Nat):List Nat:=(l.filter (onPg t q s (p:Int))).map fun b=>(slotR t q s k (spotO t q s b)).toNat
theorem qSI {n:Nat}{K:Nat->Option Nat}{t q s:Int}{k:Nat}(hk:k<9){Z:Nat->List Int}{a:Int}{p:Nat}{st:Vst}(ha:(Z k).getLast?=some a)(hp:spotP t q s a=(p:Int)) :
  flX n K t q s (k:Int) Z st=((((Z k).filter (onPg t q s (p:Int))).length,updF Z k ((Z k).filter fun b => !onPg t q s (p:Int) b)),gives n K t q s p (isF t q s (k:Int) (Z k) p) st):=by
 unfold flX
 rw[qUw hk,ha,if_neg (by simp),Int.toNat_natCast]
 unfold flushI
 rw[ha]
 simp only[hp,Int.toNat_natCast]
 rfl
section
variable {base b n : Nat} {wh : Bool} {K : Nat -> Option Nat} {st : Vst} {w : World} {A : Nat -> Prop} {t q s : Int} {U : Nat -> Sl} {Z : Nat -> List Int}

theorem qTL (hn:n<2^40)(hq:q<=1024)(k:Nat)(hk:k<9)(p i:Nat)(hp:p<=1024)(hi:i<32)(kk l:Int)(ok:Bool)(hI:infoOf n K t q s p st=(kk,l,(k:Int),ok))(h3:(Z k).length<=3)(hT:SlotsLaid w)(hA:¬ A 0)(hP:PkV w U Z)(hF:∀ i,PB U Z i->¬ A i)(h:(vOb base b n wh K).I w st A) :
  Calls Tryz.prog 21 #[.pointer (some ⟨b,0,none⟩),.agg #[.int .i64 t,.int .i64 q,.int .i64 s],.agg (pkC U),.int .i64 (p:Int),.int .i64 (i:Int)] w fun e w'=>∃ V,e = .returned (.agg (pkC V))/\PkLeft (vOb base b n wh K) w A (PB U Z) V (updF Z k (Z k ++ [atI t q s (k:Int) (p:Int) (i:Int)])) (offS n K t q s p i (getS n K st (pageI t q s (p:Int) 0))) w':=by
 have t0:decide ((i:Int)<0)=false:=qf
 have t1:decide ((32:Int)<=(i:Int))=false:=qf
 have t1n:decide (32<=i)=false:=qf
 skip
 have HBA:=qh (Bnew (Bnew (Bnew (Bnew (B0 w) (.cells #[.int .i64 t,.int .i64 q,.int .i64 s] 23)) (.cells (pkC U) 36)) (.cells #[.slice none 0 0,.slice none 0 0,.slice none 0 0,.slice none 0 0,.slice none 0 0,.slice none 0 0,.slice none 0 0,.slice none 0 0,.slice none 0 0] 36)) (.cells #[.pointer (some ⟨b,0,none⟩),.int .i64 t,.int .i64 q,.int .i64 s,(U 0).v,(U 1).v,(U 2).v,(U 3).v,(U 4).v,(U 5).v,(U 6).v,(U 7).v,(U 8).v] 83))
 have HCF:=qh ((Held.new w 23 #[.int .i64 t,.int .i64 q,.int .i64 s]).alloc (.cells (pkC U) 36))
 have HPB:=qh (((Held.new2 w (.cells #[.int .i64 t,.int .i64 q,.int .i64 s] 23) 36 (pkC U)).alloc (.cells #[.slice none 0 0,.slice none 0 0,.slice none 0 0,.slice none 0 0,.slice none 0 0,.slice none 0 0,.slice none 0 0,.slice none 0 0,.slice none 0 0] 36)).alloc (.cells #[.pointer (some ⟨b,0,none⟩),.int .i64 t,.int .i64 q,.int .i64 s,(U 0).v,(U 1).v,(U 2).v,(U 3).v,(U 4).v,(U 5).v,(U 6).v,(U 7).v,(U 8).v] 83))
 have HP0:=qh ((Held.new2 w (.cells #[.int .i64 t,.int .i64 q,.int .i64 s] 23) 36 (pkC U)).alloc (.cells #[.slice none 0 0,.slice none 0 0,.slice none 0 0,.slice none 0 0,.slice none 0 0,.slice none 0 0,.slice none 0 0,.slice none 0 0,.slice none 0 0] 36))
 have HRB:qH (Held ((((w.alloc (.cells #[.int .i64 t,.int .i64 q,.int .i64 s] 23)).alloc (.cells (pkC U) 36)).alloc (.cells #[.slice none 0 0,.slice none 0 0,.slice none 0 0,.slice none 0 0,.slice none 0 0,.slice none 0 0,.slice none 0 0,.slice none 0 0,.slice none 0 0] 36)).alloc (.cells #[.pointer (some ⟨b,0,none⟩),.int .i64 t,.int .i64 q,.int .i64 s,(U 0).v,(U 1).v,(U 2).v,(U 3).v,(U 4).v,(U 5).v,(U 6).v,(U 7).v,(U 8).v] 83)) (w.heap.size+2) 36 (pkC zeroU)):=qh ((show Held (((w.alloc (.cells #[.int .i64 t,.int .i64 q,.int .i64 s] 23)).alloc (.cells (pkC U) 36)).alloc (.cells #[.slice none 0 0,.slice none 0 0,.slice none 0 0,.slice none 0 0,.slice none 0 0,.slice none 0 0,.slice none 0 0,.slice none 0 0,.slice none 0 0] 36)) (w.heap.size+2) 36 (pkC zeroU) from by
  refine R2l ?_;intro this e
  exact this).alloc (.cells #[.pointer (some ⟨b,0,none⟩),.int .i64 t,.int .i64 q,.int .i64 s,(U 0).v,(U 1).v,(U 2).v,(U 3).v,(U 4).v,(U 5).v,(U 6).v,(U 7).v,(U 8).v] 83))
 have HHD:qH (Held ((((w.alloc (.cells #[.int .i64 t,.int .i64 q,.int .i64 s] 23)).alloc (.cells (pkC U) 36)).alloc (.cells #[.slice none 0 0,.slice none 0 0,.slice none 0 0,.slice none 0 0,.slice none 0 0,.slice none 0 0,.slice none 0 0,.slice none 0 0,.slice none 0 0] 36)).alloc (.cells #[.pointer (some ⟨b,0,none⟩),.int .i64 t,.int .i64 q,.int .i64 s,(U 0).v,(U 1).v,(U 2).v,(U 3).v,(U 4).v,(U 5).v,(U 6).v,(U 7).v,(U 8).v] 83)) (w.heap.size+3) 83 (hdC b t q s U)):=qh (by
  refine Ran ?_;intro this e
  exact this)
 have HSZ:qH (((((w.alloc (.cells #[.int .i64 t,.int .i64 q,.int .i64 s] 23)).alloc (.cells (pkC U) 36)).alloc (.cells #[.slice none 0 0,.slice none 0 0,.slice none 0 0,.slice none 0 0,.slice none 0 0,.slice none 0 0,.slice none 0 0,.slice none 0 0,.slice none 0 0] 36)).alloc (.cells #[.pointer (some ⟨b,0,none⟩),.int .i64 t,.int .i64 q,.int .i64 s,(U 0).v,(U 1).v,(U 2).v,(U 3).v,(U 4).v,(U 5).v,(U 6).v,(U 7).v,(U 8).v] 83)).heap.size=w.heap.size+4):=qh (by simp)
 have HN:=qh (Hnd.make (G:=fun i=>i=w.heap.size+1\/i=w.heap.size+2) (t:=t) (q:=q) (s:=s) h hP hF HBA.o (by omega:w.heap.size<=w.heap.size+3) HHD.o (fun i x=>by
  have:=HSZ.o
  rcases x with x|x <;> omega))
 have HPL:qH (∀ i,PB U Z i->i<w.heap.size):=qh (fun i hi=>hi.lt hP)
 have HTL:=qh hT
 have HNA:=qh hA
 obtain⟨cc0,cc1,cc2⟩:=(HCF.o.alloc (.cells #[.slice none 0 0,.slice none 0 0,.slice none 0 0,.slice none 0 0,.slice none 0 0,.slice none 0 0,.slice none 0 0,.slice none 0 0,.slice none 0 0] 36)).three
 obtain⟨p0,p1,p2,p3,p4,p5,p6,p7,p8⟩:=HP0.o.nineP
 go_enter Tryz.func21,Tryz.ntmps21
 go_wp2_with fail
 generalize hW4:((((w.alloc (.cells #[.int .i64 t,.int .i64 q,.int .i64 s] 23)).alloc (.cells (pkC U) 36)).alloc (.cells #[.slice none 0 0,.slice none 0 0,.slice none 0 0,.slice none 0 0,.slice none 0 0,.slice none 0 0,.slice none 0 0,.slice none 0 0,.slice none 0 0] 36)).alloc (.cells #[.pointer (some ⟨b,0,none⟩),.int .i64 t,.int .i64 q,.int .i64 s,(U 0).v,(U 1).v,(U 2).v,(U 3).v,(U 4).v,(U 5).v,(U 6).v,(U 7).v,(U 8).v] 83))=W4 at *
 clear hW4 HHD HCF HP0
 refine(qHo hn (p:Int) kk l (k:Int) ok hI HG.hand HN.o.held HN.o.at_).mono ?_
 rintro e w5 ⟨rfl,h1,h2⟩
 replace HRB:=qh (h2.held (.inl (.inl (.inr rfl))) HRB.o)
 replace HN:=qh (HN.o.call h1 h2)
 clear h1 h2
 go_wp2_with fail
 refine(qRk hn (p:Int) i hi HG.hand HN.o.held HN.o.at_).mono ?_
 rintro e w6 ⟨rfl,h1,h2⟩
 replace HRB:=qh (h2.held (.inl (.inl (.inr rfl))) HRB.o)
 replace HN:=qh (HN.o.call h1 h2)
 clear h1 h2
 go_wp2_with fail
 refine(qKI hn HG.hand HN.o.held HN.o.at_).mono ?_
 rintro e w7 ⟨rfl,h1,h2⟩
 replace HRB:=qh (h2.held (.inl (.inl (.inr rfl))) HRB.o)
 replace HN:=qh (HN.o.call h1 h2)
 clear h1 h2
 go_wp2_with fail
 refine(qIu k hk (p:Int) (i:Int) _ rfl (qBv _ _ _ _ _ _) h3 (HTL.o.at_ HNA.o HN.o.at_) HN.o.begin_).mono ?_
 rintro e w8 ⟨rfl,x,hx,ht,hn⟩
 have HS5:=qh HN.o.stay.1
 have HPV:qH (∀ j,PB (updF U k x) (updF Z k (Z k ++ [atI t q s (k:Int) (p:Int) (i:Int)])) j->j<w.heap.size\/w.heap.size+4<=j):=qh (fun j hj=>by
  have:=HSZ.o
  have:=HS5.o
  rcases hj.turn_new (w:=w7) hx with h1|h1
  ·exact .inl (HPL.o j h1)
  ·exact .inr qo)
 obtain⟨V,hV⟩:∃ V,updF U k x=V:=⟨_,rfl⟩
 rw[hV] at hn HPV
 replace HRB:=qh (hn.stay.held (.inr rfl) HRB.o)
 replace HN:=qh (HN.o.then_ hn)
 clear hn ht hx hV
 obtain⟨c0,c1,c2,c3⟩:=HN.o.held.hd4
 obtain⟨u0,u1,u2,u3,u4,u5,u6,u7,u8⟩:=HN.o.held.hdU
 obtain⟨z0,z1,z2,z3,z4,z5,z6,z7,z8⟩:=HRB.o.nineP
 obtain⟨f0,f1,f2,f3,f4,f5,f6,f7,f8⟩:=HRB.o.thawP
 go_wp2_with fail
 skip
 obtain⟨WF,hWF⟩:∃ WF,setP w8 (w.heap.size+2) V=WF:=⟨_,rfl⟩
 have zz:=qh (Held.setP HRB.o V)
 have HNF:=qh (HN.o.putP (i:=w.heap.size+2) (.inr rfl) (fun x=>by have:=HPV.o _ x;omega) V)
 rw[hWF] at zz HNF
 unfold setP at hWF
 rw[hWF]
 obtain⟨y0,y1,y2,y3,y4,y5,y6,y7,y8⟩:=zz.o.nineP
 clear c0 c1 c2 c3 u0 u1 u2 u3 u4 u5 u6 u7 u8 z0 z1 z2 z3 z4 z5 z6 z7 z8 f0 f1 f2 f3 f4 f5 f6 f7 f8 HN HRB hWF
 skip
 refine bodyPost_ret (v := .agg (pkC V)) (by simp[results,Tryz.results21,go_sem,y0,y1,y2,y3,y4,y5,y6,y7,y8]) rfl ?_
 exact⟨V,rfl,HNF.o.p.fin⟩

theorem qC4 (hn:n<2^40)(hq:q<=1024)(k:Nat)(hk:k<9)(p i:Nat)(hp:p<=1024)(hi:i<32)(kk l:Int)(ok:Bool)(hI:infoOf n K t q s p st=(kk,l,(k:Int),ok))(h3:¬ (Z k).length<=3)(c0:0<=(infoOf n K t q s p (offS n K t q s p i (getS n K st (pageI t q s p 0)))).2.2.1)(c8:(infoOf n K t q s p (offS n K t q s p i (getS n K st (pageI t q s p 0)))).2.2.1<=8)(hT:SlotsLaid w)(hA:¬ A 0)(hP:PkV w U Z)(hF:∀ i,PB U Z i->¬ A i)(h:(vOb base b n wh K).I w st A) :
  Calls Tryz.prog 21 #[.pointer (some ⟨b,0,none⟩),.agg #[.int .i64 t,.int .i64 q,.int .i64 s],.agg (pkC U),.int .i64 (p:Int),.int .i64 (i:Int)] w fun e w'=>∃ V,e = .returned (.agg (pkC V))/\PkLeft (vOb base b n wh K) w A (PB U Z) V Z (giveS n K t q s p i (offS n K t q s p i (getS n K st (pageI t q s (p:Int) 0)))) w':=by
 have t0:decide ((i:Int)<0)=false:=qf
 have t1:decide ((32:Int)<=(i:Int))=false:=qf
 have t1n:decide (32<=i)=false:=qf
 have HC0:=qh c0
 have HC8:=qh c8
 have HBA:=qh (Bnew (Bnew (Bnew (Bnew (B0 w) (.cells #[.int .i64 t,.int .i64 q,.int .i64 s] 23)) (.cells (pkC U) 36)) (.cells #[.slice none 0 0,.slice none 0 0,.slice none 0 0,.slice none 0 0,.slice none 0 0,.slice none 0 0,.slice none 0 0,.slice none 0 0,.slice none 0 0] 36)) (.cells #[.pointer (some ⟨b,0,none⟩),.int .i64 t,.int .i64 q,.int .i64 s,(U 0).v,(U 1).v,(U 2).v,(U 3).v,(U 4).v,(U 5).v,(U 6).v,(U 7).v,(U 8).v] 83))
 have HCF:=qh ((Held.new w 23 #[.int .i64 t,.int .i64 q,.int .i64 s]).alloc (.cells (pkC U) 36))
 have HPB:=qh (((Held.new2 w (.cells #[.int .i64 t,.int .i64 q,.int .i64 s] 23) 36 (pkC U)).alloc (.cells #[.slice none 0 0,.slice none 0 0,.slice none 0 0,.slice none 0 0,.slice none 0 0,.slice none 0 0,.slice none 0 0,.slice none 0 0,.slice none 0 0] 36)).alloc (.cells #[.pointer (some ⟨b,0,none⟩),.int .i64 t,.int .i64 q,.int .i64 s,(U 0).v,(U 1).v,(U 2).v,(U 3).v,(U 4).v,(U 5).v,(U 6).v,(U 7).v,(U 8).v] 83))
 have HP0:=qh ((Held.new2 w (.cells #[.int .i64 t,.int .i64 q,.int .i64 s] 23) 36 (pkC U)).alloc (.cells #[.slice none 0 0,.slice none 0 0,.slice none 0 0,.slice none 0 0,.slice none 0 0,.slice none 0 0,.slice none 0 0,.slice none 0 0,.slice none 0 0] 36))
 have HRB:qH (Held ((((w.alloc (.cells #[.int .i64 t,.int .i64 q,.int .i64 s] 23)).alloc (.cells (pkC U) 36)).alloc (.cells #[.slice none 0 0,.slice none 0 0,.slice none 0 0,.slice none 0 0,.slice none 0 0,.slice none 0 0,.slice none 0 0,.slice none 0 0,.slice none 0 0] 36)).alloc (.cells #[.pointer (some ⟨b,0,none⟩),.int .i64 t,.int .i64 q,.int .i64 s,(U 0).v,(U 1).v,(U 2).v,(U 3).v,(U 4).v,(U 5).v,(U 6).v,(U 7).v,(U 8).v] 83)) (w.heap.size+2) 36 (pkC zeroU)):=qh ((show Held (((w.alloc (.cells #[.int .i64 t,.int .i64 q,.int .i64 s] 23)).alloc (.cells (pkC U) 36)).alloc (.cells #[.slice none 0 0,.slice none 0 0,.slice none 0 0,.slice none 0 0,.slice none 0 0,.slice none 0 0,.slice none 0 0,.slice none 0 0,.slice none 0 0] 36)) (w.heap.size+2) 36 (pkC zeroU) from by
  refine R2l ?_;intro this e
  exact this).alloc (.cells #[.pointer (some ⟨b,0,none⟩),.int .i64 t,.int .i64 q,.int .i64 s,(U 0).v,(U 1).v,(U 2).v,(U 3).v,(U 4).v,(U 5).v,(U 6).v,(U 7).v,(U 8).v] 83))
 have HHD:qH (Held ((((w.alloc (.cells #[.int .i64 t,.int .i64 q,.int .i64 s] 23)).alloc (.cells (pkC U) 36)).alloc (.cells #[.slice none 0 0,.slice none 0 0,.slice none 0 0,.slice none 0 0,.slice none 0 0,.slice none 0 0,.slice none 0 0,.slice none 0 0,.slice none 0 0] 36)).alloc (.cells #[.pointer (some ⟨b,0,none⟩),.int .i64 t,.int .i64 q,.int .i64 s,(U 0).v,(U 1).v,(U 2).v,(U 3).v,(U 4).v,(U 5).v,(U 6).v,(U 7).v,(U 8).v] 83)) (w.heap.size+3) 83 (hdC b t q s U)):=qh (by
  refine Ran ?_;intro this e
  exact this)
 have HSZ:qH (((((w.alloc (.cells #[.int .i64 t,.int .i64 q,.int .i64 s] 23)).alloc (.cells (pkC U) 36)).alloc (.cells #[.slice none 0 0,.slice none 0 0,.slice none 0 0,.slice none 0 0,.slice none 0 0,.slice none 0 0,.slice none 0 0,.slice none 0 0,.slice none 0 0] 36)).alloc (.cells #[.pointer (some ⟨b,0,none⟩),.int .i64 t,.int .i64 q,.int .i64 s,(U 0).v,(U 1).v,(U 2).v,(U 3).v,(U 4).v,(U 5).v,(U 6).v,(U 7).v,(U 8).v] 83)).heap.size=w.heap.size+4):=qh (by simp)
 have HN:=qh (Hnd.make (G:=fun i=>i=w.heap.size+1\/i=w.heap.size+2) (t:=t) (q:=q) (s:=s) h hP hF HBA.o (by omega:w.heap.size<=w.heap.size+3) HHD.o (fun i x=>by
  have:=HSZ.o
  rcases x with x|x <;> omega))
 have HPL:qH (∀ i,PB U Z i->i<w.heap.size):=qh (fun i hi=>hi.lt hP)
 have HTL:=qh hT
 have HNA:=qh hA
 obtain⟨cc0,cc1,cc2⟩:=(HCF.o.alloc (.cells #[.slice none 0 0,.slice none 0 0,.slice none 0 0,.slice none 0 0,.slice none 0 0,.slice none 0 0,.slice none 0 0,.slice none 0 0,.slice none 0 0] 36)).three
 obtain⟨p0,p1,p2,p3,p4,p5,p6,p7,p8⟩:=HP0.o.nineP
 go_enter Tryz.func21,Tryz.ntmps21
 go_wp2_with fail
 generalize hW4:((((w.alloc (.cells #[.int .i64 t,.int .i64 q,.int .i64 s] 23)).alloc (.cells (pkC U) 36)).alloc (.cells #[.slice none 0 0,.slice none 0 0,.slice none 0 0,.slice none 0 0,.slice none 0 0,.slice none 0 0,.slice none 0 0,.slice none 0 0,.slice none 0 0] 36)).alloc (.cells #[.pointer (some ⟨b,0,none⟩),.int .i64 t,.int .i64 q,.int .i64 s,(U 0).v,(U 1).v,(U 2).v,(U 3).v,(U 4).v,(U 5).v,(U 6).v,(U 7).v,(U 8).v] 83))=W4 at *
 clear hW4 HHD HCF HP0
 refine(qHo hn (p:Int) kk l (k:Int) ok hI HG.hand HN.o.held HN.o.at_).mono ?_
 rintro e w5 ⟨rfl,h1,h2⟩
 replace HRB:=qh (h2.held (.inl (.inl (.inr rfl))) HRB.o)
 replace HN:=qh (HN.o.call h1 h2)
 clear h1 h2
 go_wp2_with fail
 refine(qRk hn (p:Int) i hi HG.hand HN.o.held HN.o.at_).mono ?_
 rintro e w6 ⟨rfl,h1,h2⟩
 replace HRB:=qh (h2.held (.inl (.inl (.inr rfl))) HRB.o)
 replace HN:=qh (HN.o.call h1 h2)
 clear h1 h2
 go_wp2_with fail
 refine(qKI hn HG.hand HN.o.held HN.o.at_).mono ?_
 rintro e w7 ⟨rfl,h1,h2⟩
 replace HRB:=qh (h2.held (.inl (.inl (.inr rfl))) HRB.o)
 replace HN:=qh (HN.o.call h1 h2)
 clear h1 h2
 go_wp2_with fail
 refine(qHY k hk (p:Int) (i:Int) _ rfl (qBv _ _ _ _ _ _) qo (HTL.o.at_ HNA.o HN.o.at_) HN.o.begin_).mono ?_
 rintro e w8 ⟨rfl,hn⟩
 have HPV:qH (∀ i,PB U Z i->i<w.heap.size\/w.heap.size+4<=i):=qh (fun i hi => .inl (HPL.o i hi))
 replace HRB:=qh (hn.stay.held (.inr rfl) HRB.o)
 replace HN:=qh (HN.o.then_ hn)
 clear hn
 go_wp2_with fail
 refine(qKE hn hq p i hp hi HTL.o HNA.o HC0.o HC8.o HG.hand HN.o.held HN.o.at_).mono ?_
 rintro e w9 ⟨rfl,h1,h2⟩
 replace HRB:=qh (h2.held (.inl (.inl (.inr rfl))) HRB.o)
 replace HN:=qh (HN.o.call h1 h2)
 clear h1 h2
 obtain⟨c0,c1,c2,c3⟩:=HN.o.held.hd4
 obtain⟨u0,u1,u2,u3,u4,u5,u6,u7,u8⟩:=HN.o.held.hdU
 obtain⟨z0,z1,z2,z3,z4,z5,z6,z7,z8⟩:=HRB.o.nineP
 obtain⟨f0,f1,f2,f3,f4,f5,f6,f7,f8⟩:=HRB.o.thawP
 go_wp2_with fail
 skip
 obtain⟨WF,hWF⟩:∃ WF,setP w9 (w.heap.size+2) U=WF:=⟨_,rfl⟩
 have zz:=qh (Held.setP HRB.o U)
 have HNF:=qh (HN.o.putP (i:=w.heap.size+2) (.inr rfl) (fun x=>by have:=HPV.o _ x;omega) U)
 rw[hWF] at zz HNF
 unfold setP at hWF
 rw[hWF]
 obtain⟨y0,y1,y2,y3,y4,y5,y6,y7,y8⟩:=zz.o.nineP
 clear c0 c1 c2 c3 u0 u1 u2 u3 u4 u5 u6 u7 u8 z0 z1 z2 z3 z4 z5 z6 z7 z8 f0 f1 f2 f3 f4 f5 f6 f7 f8 HN HRB hWF
 skip
 refine bodyPost_ret (v := .agg (pkC U)) (by simp[results,Tryz.results21,go_sem,y0,y1,y2,y3,y4,y5,y6,y7,y8]) rfl ?_
 exact⟨U,rfl,HNF.o.p.fin⟩

theorem qEO (hn:n<2^40)(hq:q<=1024)(k:Nat)(hk:k<9)(p i:Nat)(hp:p<=1024)(hi:i<32)(hI:(infoOf n K t q s p st).2.2.1=(k:Int))(hI2:(infoOf n K t q s p (offS n K t q s p i (getS n K st (pageI t q s p 0)))).2.2.1=(k:Int))(hT:SlotsLaid w)(hA:¬ A 0)(hP:PkV w U Z)(hF:∀ i,PB U Z i->¬ A i)(h:(vOb base b n wh K).I w st A) :
  Calls Tryz.prog 21 #[.pointer (some ⟨b,0,none⟩),.agg #[.int .i64 t,.int .i64 q,.int .i64 s],.agg (pkC U),.int .i64 (p:Int),.int .i64 (i:Int)] w fun e w'=>∃ V,e = .returned (.agg (pkC V))/\PkLeft (vOb base b n wh K) w A (PB U Z) V (freeZ t q s k p i Z) (freeI n K t q s p i (Z k) st) w':=by
 obtain⟨⟨kk,l,c,ok⟩,hI'⟩:∃ x,infoOf n K t q s p st=x:=⟨_,rfl⟩
 rw[hI'] at hI
 have hI:c=(k:Int):=hI
 subst hI
 unfold freeZ freeI
 by_cases h3:(Z k).length<=3
 ·rw[if_pos h3,if_pos h3]
  exact qTL hn hq k hk p i hp hi kk l ok hI' h3 hT hA hP hF h
 ·rw[if_neg h3,if_neg h3]
  exact qC4 hn hq k hk p i hp hi kk l ok hI' h3 (by rw[hI2];omega) (by rw[hI2];omega) hT hA hP hF h
theorem qIJ (hn:n<2^40)(k:Int)(hk0 : -9223372036854775808<=k)(hk1:k<=9223372036854775807)(hl:lastP Z k=none)(hT:SlotsLaid w)(hA:¬ A 0)(hP:PkV w U Z)(hF:∀ i,PB U Z i->¬ A i)(h:(vOb base b n wh K).I w st A) :
  Calls Tryz.prog 18 #[.pointer (some ⟨b,0,none⟩),.agg #[.int .i64 t,.int .i64 q,.int .i64 s],.agg (pkC U),.int .i64 k] w fun e w'=>e = .returned (.tuple #[.int .i64 0,.agg (pkC U)])/\PkLeft (vOb base b n wh K) w A (PB U Z) U Z st w':=by
 have HLP:=qh hl
 have HBA:=qh (Bnew (Bnew (Bnew (Bnew (B0 w) (.cells #[.int .i64 t,.int .i64 q,.int .i64 s] 23)) (.cells (pkC U) 36)) (.cells #[.slice none 0 0,.slice none 0 0,.slice none 0 0,.slice none 0 0,.slice none 0 0,.slice none 0 0,.slice none 0 0,.slice none 0 0,.slice none 0 0] 36)) (.cells #[.pointer (some ⟨b,0,none⟩),.int .i64 t,.int .i64 q,.int .i64 s,(U 0).v,(U 1).v,(U 2).v,(U 3).v,(U 4).v,(U 5).v,(U 6).v,(U 7).v,(U 8).v] 83))
 have HC0:=qh ((Held.new w 23 #[.int .i64 t,.int .i64 q,.int .i64 s]).alloc (.cells (pkC U) 36))
 have HPB:=qh (((Held.new2 w (.cells #[.int .i64 t,.int .i64 q,.int .i64 s] 23) 36 (pkC U)).alloc (.cells #[.slice none 0 0,.slice none 0 0,.slice none 0 0,.slice none 0 0,.slice none 0 0,.slice none 0 0,.slice none 0 0,.slice none 0 0,.slice none 0 0] 36)).alloc (.cells #[.pointer (some ⟨b,0,none⟩),.int .i64 t,.int .i64 q,.int .i64 s,(U 0).v,(U 1).v,(U 2).v,(U 3).v,(U 4).v,(U 5).v,(U 6).v,(U 7).v,(U 8).v] 83))
 have HP0:=qh ((Held.new2 w (.cells #[.int .i64 t,.int .i64 q,.int .i64 s] 23) 36 (pkC U)).alloc (.cells #[.slice none 0 0,.slice none 0 0,.slice none 0 0,.slice none 0 0,.slice none 0 0,.slice none 0 0,.slice none 0 0,.slice none 0 0,.slice none 0 0] 36))
 have HRB:qH (Held ((((w.alloc (.cells #[.int .i64 t,.int .i64 q,.int .i64 s] 23)).alloc (.cells (pkC U) 36)).alloc (.cells #[.slice none 0 0,.slice none 0 0,.slice none 0 0,.slice none 0 0,.slice none 0 0,.slice none 0 0,.slice none 0 0,.slice none 0 0,.slice none 0 0] 36)).alloc (.cells #[.pointer (some ⟨b,0,none⟩),.int .i64 t,.int .i64 q,.int .i64 s,(U 0).v,(U 1).v,(U 2).v,(U 3).v,(U 4).v,(U 5).v,(U 6).v,(U 7).v,(U 8).v] 83)) (w.heap.size+2) 36 (pkC zeroU)):=qh ((show Held (((w.alloc (.cells #[.int .i64 t,.int .i64 q,.int .i64 s] 23)).alloc (.cells (pkC U) 36)).alloc (.cells #[.slice none 0 0,.slice none 0 0,.slice none 0 0,.slice none 0 0,.slice none 0 0,.slice none 0 0,.slice none 0 0,.slice none 0 0,.slice none 0 0] 36)) (w.heap.size+2) 36 (pkC zeroU) from by
  refine R2l ?_;intro this e
  exact this).alloc (.cells #[.pointer (some ⟨b,0,none⟩),.int .i64 t,.int .i64 q,.int .i64 s,(U 0).v,(U 1).v,(U 2).v,(U 3).v,(U 4).v,(U 5).v,(U 6).v,(U 7).v,(U 8).v] 83))
 have HHD:qH (Held ((((w.alloc (.cells #[.int .i64 t,.int .i64 q,.int .i64 s] 23)).alloc (.cells (pkC U) 36)).alloc (.cells #[.slice none 0 0,.slice none 0 0,.slice none 0 0,.slice none 0 0,.slice none 0 0,.slice none 0 0,.slice none 0 0,.slice none 0 0,.slice none 0 0] 36)).alloc (.cells #[.pointer (some ⟨b,0,none⟩),.int .i64 t,.int .i64 q,.int .i64 s,(U 0).v,(U 1).v,(U 2).v,(U 3).v,(U 4).v,(U 5).v,(U 6).v,(U 7).v,(U 8).v] 83)) (w.heap.size+3) 83 (hdC b t q s U)):=qh (by
  refine Ran ?_;intro this e
  exact this)
 have HSZ:qH (((((w.alloc (.cells #[.int .i64 t,.int .i64 q,.int .i64 s] 23)).alloc (.cells (pkC U) 36)).alloc (.cells #[.slice none 0 0,.slice none 0 0,.slice none 0 0,.slice none 0 0,.slice none 0 0,.slice none 0 0,.slice none 0 0,.slice none 0 0,.slice none 0 0] 36)).alloc (.cells #[.pointer (some ⟨b,0,none⟩),.int .i64 t,.int .i64 q,.int .i64 s,(U 0).v,(U 1).v,(U 2).v,(U 3).v,(U 4).v,(U 5).v,(U 6).v,(U 7).v,(U 8).v] 83)).heap.size=w.heap.size+4):=qh (by simp)
 have HN:=qh (Hnd.make (G:=fun i=>i=w.heap.size+1\/i=w.heap.size+2) (t:=t) (q:=q) (s:=s) h hP hF HBA.o (by omega:w.heap.size<=w.heap.size+3) HHD.o (fun i x=>by
  have:=HSZ.o
  rcases x with x|x <;> omega))
 have HPL:qH (∀ i,PB U Z i->i<w.heap.size):=qh (fun i hi=>hi.lt hP)
 have HTL:=qh hT
 have HNA:=qh hA
 obtain⟨cc0,cc1,cc2⟩:=(HC0.o.alloc (.cells #[.slice none 0 0,.slice none 0 0,.slice none 0 0,.slice none 0 0,.slice none 0 0,.slice none 0 0,.slice none 0 0,.slice none 0 0,.slice none 0 0] 36)).three
 obtain⟨p0,p1,p2,p3,p4,p5,p6,p7,p8⟩:=HP0.o.nineP
 go_enter Tryz.func18,Tryz.ntmps18
 go_wp2_with fail
 generalize hW4:((((w.alloc (.cells #[.int .i64 t,.int .i64 q,.int .i64 s] 23)).alloc (.cells (pkC U) 36)).alloc (.cells #[.slice none 0 0,.slice none 0 0,.slice none 0 0,.slice none 0 0,.slice none 0 0,.slice none 0 0,.slice none 0 0,.slice none 0 0,.slice none 0 0] 36)).alloc (.cells #[.pointer (some ⟨b,0,none⟩),.int .i64 t,.int .i64 q,.int .i64 s,(U 0).v,(U 1).v,(U 2).v,(U 3).v,(U 4).v,(U 5).v,(U 6).v,(U 7).v,(U 8).v] 83))=W4 at *
 clear hW4 HHD HC0 HP0
 refine(qDu k hk0 hk1 HLP.o (HTL.o.at_ HNA.o HN.o.at_) HN.o).mono ?_
 rintro e w5 ⟨rfl,hn⟩
 have HPV:qH (∀ i,PB U Z i->i<w.heap.size\/w.heap.size+4<=i):=qh (fun i hi => .inl (HPL.o i hi))
 have HPB:=qh (hn.stay.held (.inl rfl) HPB.o)
 have HRB:=qh (hn.stay.held (.inr rfl) HRB.o)
 replace HN:=qh (HN.o.then_ hn)
 clear hn
 obtain⟨c0,c1,c2,c3⟩:=HN.o.held.hd4
 obtain⟨u0,u1,u2,u3,u4,u5,u6,u7,u8⟩:=HN.o.held.hdU
 obtain⟨z0,z1,z2,z3,z4,z5,z6,z7,z8⟩:=HRB.o.nineP
 obtain⟨f0,f1,f2,f3,f4,f5,f6,f7,f8⟩:=HRB.o.thawP
 go_wp2_with fail
 go_region
 obtain⟨WF,hWF⟩:∃ WF,setP w5 (w.heap.size+2) U=WF:=⟨_,rfl⟩
 have zz:=qh (Held.setP HRB.o U)
 have HNF:=qh (HN.o.putP (i:=w.heap.size+2) (.inr rfl) (fun x=>by have:=HPV.o _ x;omega) U)
 rw[hWF] at zz HNF
 unfold setP at hWF
 rw[hWF]
 replace zz:=qh (zz.o.keep (Bdrew (B0 _)))
 replace HNF:=qh HNF.o.drew
 obtain⟨y0,y1,y2,y3,y4,y5,y6,y7,y8⟩:=zz.o.nineP
 clear c0 c1 c2 c3 u0 u1 u2 u3 u4 u5 u6 u7 u8 z0 z1 z2 z3 z4 z5 z6 z7 z8 f0 f1 f2 f3 f4 f5 f6 f7 f8 HN HRB hWF
 go_wp2
 refine bodyPost_ret (v := .tuple #[.int .i64 0,.agg (pkC U)]) (by simp[results,Tryz.results18,go_sem,y0,y1,y2,y3,y4,y5,y6,y7,y8]) rfl ?_
 exact⟨rfl,HNF.o.p.fin⟩
theorem qWN (hn:n<2^40)(hq:q<=1024)(k:Nat)(hk:k<9)(l:List Int)(hz:Z k=l)(a:Int)(p:Nat)(is:List Nat)(hfl:FlOk n K t q s (k:Int) l a p is st)(hT:SlotsLaid w)(hA:¬ A 0)(hP:PkV w U Z)(hF:∀ i,PB U Z i->¬ A i)(h:(vOb base b n wh K).I w st A) :
  Calls Tryz.prog 18 #[.pointer (some ⟨b,0,none⟩),.agg #[.int .i64 t,.int .i64 q,.int .i64 s],.agg (pkC U),.int .i64 (k:Int)] w fun e w'=>∃ V,e = .returned (.tuple #[.int .i64 (((l.filter (onPg t q s (p:Int))).length:Nat):Int),.agg (pkC V)])/\PkLeft (vOb base b n wh K) w A (PB U Z) V (updF Z k (l.filter fun b => !onPg t q s (p:Int) b)) (gives n K t q s p is st) w'/\(∀ j,1<=j->j<=is.length->VOk n (gives n K t q s p (is.take j) st)):=by
 have HFLO:=qh hfl
 have HBA:=qh (Bnew (Bnew (Bnew (Bnew (B0 w) (.cells #[.int .i64 t,.int .i64 q,.int .i64 s] 23)) (.cells (pkC U) 36)) (.cells #[.slice none 0 0,.slice none 0 0,.slice none 0 0,.slice none 0 0,.slice none 0 0,.slice none 0 0,.slice none 0 0,.slice none 0 0,.slice none 0 0] 36)) (.cells #[.pointer (some ⟨b,0,none⟩),.int .i64 t,.int .i64 q,.int .i64 s,(U 0).v,(U 1).v,(U 2).v,(U 3).v,(U 4).v,(U 5).v,(U 6).v,(U 7).v,(U 8).v] 83))
 have HC0:=qh ((Held.new w 23 #[.int .i64 t,.int .i64 q,.int .i64 s]).alloc (.cells (pkC U) 36))
 have HPB:=qh (((Held.new2 w (.cells #[.int .i64 t,.int .i64 q,.int .i64 s] 23) 36 (pkC U)).alloc (.cells #[.slice none 0 0,.slice none 0 0,.slice none 0 0,.slice none 0 0,.slice none 0 0,.slice none 0 0,.slice none 0 0,.slice none 0 0,.slice none 0 0] 36)).alloc (.cells #[.pointer (some ⟨b,0,none⟩),.int .i64 t,.int .i64 q,.int .i64 s,(U 0).v,(U 1).v,(U 2).v,(U 3).v,(U 4).v,(U 5).v,(U 6).v,(U 7).v,(U 8).v] 83))
 have HP0:=qh ((Held.new2 w (.cells #[.int .i64 t,.int .i64 q,.int .i64 s] 23) 36 (pkC U)).alloc (.cells #[.slice none 0 0,.slice none 0 0,.slice none 0 0,.slice none 0 0,.slice none 0 0,.slice none 0 0,.slice none 0 0,.slice none 0 0,.slice none 0 0] 36))
 have HRB:qH (Held ((((w.alloc (.cells #[.int .i64 t,.int .i64 q,.int .i64 s] 23)).alloc (.cells (pkC U) 36)).alloc (.cells #[.slice none 0 0,.slice none 0 0,.slice none 0 0,.slice none 0 0,.slice none 0 0,.slice none 0 0,.slice none 0 0,.slice none 0 0,.slice none 0 0] 36)).alloc (.cells #[.pointer (some ⟨b,0,none⟩),.int .i64 t,.int .i64 q,.int .i64 s,(U 0).v,(U 1).v,(U 2).v,(U 3).v,(U 4).v,(U 5).v,(U 6).v,(U 7).v,(U 8).v] 83)) (w.heap.size+2) 36 (pkC zeroU)):=qh ((show Held (((w.alloc (.cells #[.int .i64 t,.int .i64 q,.int .i64 s] 23)).alloc (.cells (pkC U) 36)).alloc (.cells #[.slice none 0 0,.slice none 0 0,.slice none 0 0,.slice none 0 0,.slice none 0 0,.slice none 0 0,.slice none 0 0,.slice none 0 0,.slice none 0 0] 36)) (w.heap.size+2) 36 (pkC zeroU) from by
  refine R2l ?_;intro this e
  exact this).alloc (.cells #[.pointer (some ⟨b,0,none⟩),.int .i64 t,.int .i64 q,.int .i64 s,(U 0).v,(U 1).v,(U 2).v,(U 3).v,(U 4).v,(U 5).v,(U 6).v,(U 7).v,(U 8).v] 83))
 have HHD:qH (Held ((((w.alloc (.cells #[.int .i64 t,.int .i64 q,.int .i64 s] 23)).alloc (.cells (pkC U) 36)).alloc (.cells #[.slice none 0 0,.slice none 0 0,.slice none 0 0,.slice none 0 0,.slice none 0 0,.slice none 0 0,.slice none 0 0,.slice none 0 0,.slice none 0 0] 36)).alloc (.cells #[.pointer (some ⟨b,0,none⟩),.int .i64 t,.int .i64 q,.int .i64 s,(U 0).v,(U 1).v,(U 2).v,(U 3).v,(U 4).v,(U 5).v,(U 6).v,(U 7).v,(U 8).v] 83)) (w.heap.size+3) 83 (hdC b t q s U)):=qh (by
  refine Ran ?_;intro this e
  exact this)
 have HSZ:qH (((((w.alloc (.cells #[.int .i64 t,.int .i64 q,.int .i64 s] 23)).alloc (.cells (pkC U) 36)).alloc (.cells #[.slice none 0 0,.slice none 0 0,.slice none 0 0,.slice none 0 0,.slice none 0 0,.slice none 0 0,.slice none 0 0,.slice none 0 0,.slice none 0 0] 36)).alloc (.cells #[.pointer (some ⟨b,0,none⟩),.int .i64 t,.int .i64 q,.int .i64 s,(U 0).v,(U 1).v,(U 2).v,(U 3).v,(U 4).v,(U 5).v,(U 6).v,(U 7).v,(U 8).v] 83)).heap.size=w.heap.size+4):=qh (by simp)
 have HN:=qh (Hnd.make (G:=fun i=>i=w.heap.size+1\/i=w.heap.size+2) (t:=t) (q:=q) (s:=s) h hP hF HBA.o (by omega:w.heap.size<=w.heap.size+3) HHD.o (fun i x=>by
  have:=HSZ.o
  rcases x with x|x <;> omega))
 have HPL:qH (∀ i,PB U Z i->i<w.heap.size):=qh (fun i hi=>hi.lt hP)
 have HTL:=qh hT
 have HNA:=qh hA
 obtain⟨cc0,cc1,cc2⟩:=(HC0.o.alloc (.cells #[.slice none 0 0,.slice none 0 0,.slice none 0 0,.slice none 0 0,.slice none 0 0,.slice none 0 0,.slice none 0 0,.slice none 0 0,.slice none 0 0] 36)).three
 obtain⟨p0,p1,p2,p3,p4,p5,p6,p7,p8⟩:=HP0.o.nineP
 go_enter Tryz.func18,Tryz.ntmps18
 go_wp2_with fail
 generalize hW4:((((w.alloc (.cells #[.int .i64 t,.int .i64 q,.int .i64 s] 23)).alloc (.cells (pkC U) 36)).alloc (.cells #[.slice none 0 0,.slice none 0 0,.slice none 0 0,.slice none 0 0,.slice none 0 0,.slice none 0 0,.slice none 0 0,.slice none 0 0,.slice none 0 0] 36)).alloc (.cells #[.pointer (some ⟨b,0,none⟩),.int .i64 t,.int .i64 q,.int .i64 s,(U 0).v,(U 1).v,(U 2).v,(U 3).v,(U 4).v,(U 5).v,(U 6).v,(U 7).v,(U 8).v] 83))=W4 at *
 clear hW4 HHD HC0 HP0
 refine(qLx hn hq k hk l hz a p is HFLO.o HTL.o HNA.o HN.o).mono ?_
 rintro e w5 ⟨rfl,hok,V,hVn,hn⟩
 have HOK:=qh hok
 have HPV:qH (∀ i,PB V (updF Z k (l.filter fun b => !onPg t q s (p:Int) b)) i->i<w.heap.size\/w.heap.size+4<=i):=qh (fun i hi=>by
  have:=HSZ.o
  rcases hVn i hi with h1|h1
  ·exact .inl (HPL.o i h1)
  ·exact .inr qo)
 obtain⟨m,hm⟩:∃ m,(l.filter (onPg t q s (p:Int))).length=m:=⟨_,rfl⟩
 have HMM:=qh hm
 rw[hm]
 clear hm
 have HPB:=qh (hn.stay.held (.inl rfl) HPB.o)
 have HRB:=qh (hn.stay.held (.inr rfl) HRB.o)
 replace HN:=qh (HN.o.then_ hn)
 clear hn
 clear hVn hok
 obtain⟨c0,c1,c2,c3⟩:=HN.o.held.hd4
 obtain⟨u0,u1,u2,u3,u4,u5,u6,u7,u8⟩:=HN.o.held.hdU
 obtain⟨z0,z1,z2,z3,z4,z5,z6,z7,z8⟩:=HRB.o.nineP
 obtain⟨f0,f1,f2,f3,f4,f5,f6,f7,f8⟩:=HRB.o.thawP
 go_wp2_with fail
 go_region
 obtain⟨WF,hWF⟩:∃ WF,setP w5 (w.heap.size+2) V=WF:=⟨_,rfl⟩
 have zz:=qh (Held.setP HRB.o V)
 have HNF:=qh (HN.o.putP (i:=w.heap.size+2) (.inr rfl) (fun x=>by have:=HPV.o _ x;omega) V)
 rw[hWF] at zz HNF
 unfold setP at hWF
 rw[hWF]
 replace zz:=qh (zz.o.keep (Bdrew (B0 _)))
 replace HNF:=qh HNF.o.drew
 obtain⟨y0,y1,y2,y3,y4,y5,y6,y7,y8⟩:=zz.o.nineP
 clear c0 c1 c2 c3 u0 u1 u2 u3 u4 u5 u6 u7 u8 z0 z1 z2 z3 z4 z5 z6 z7 z8 f0 f1 f2 f3 f4 f5 f6 f7 f8 HN HRB hWF
 go_wp2
 refine bodyPost_ret (v := .tuple #[.int .i64 (m:Int),.agg (pkC V)]) (by simp[results,Tryz.results18,go_sem,y0,y1,y2,y3,y4,y5,y6,y7,y8]) rfl ?_
 exact⟨V,by rw[HMM.o],HNF.o.p.fin,HOK.o⟩

theorem qBm (hn:n<2^40)(hq:q<=1024)(k:Int)(hk0 : -9223372036854775808<=k)(hk1:k<=9223372036854775807)(hok:∀ a,lastP Z k=some a->∃ p,FlOk n K t q s k (Z k.toNat) a p (isF t q s k (Z k.toNat) p) st)(hT:SlotsLaid w)(hA:¬ A 0)(hP:PkV w U Z)(hF:∀ i,PB U Z i->¬ A i)(h:(vOb base b n wh K).I w st A) :
  Calls Tryz.prog 18 #[.pointer (some ⟨b,0,none⟩),.agg #[.int .i64 t,.int .i64 q,.int .i64 s],.agg (pkC U),.int .i64 k] w (FlEnd (vOb base b n wh K) w A n K t q s k U Z st):=by
 cases hl:lastP Z k with
 | none =>
  refine(qIJ hn k hk0 hk1 hl hT hA hP hF h).mono ?_
  rintro e w' ⟨rfl,h1⟩
  have e1:flX n K t q s k Z st=((0,Z),st):=by unfold flX;rw[if_pos hl]
  unfold FlEnd
  rw[e1]
  exact⟨U,rfl,h1,fun a ha=>by rw[hl] at ha;cases ha⟩
 | some a =>
  have hk:0<=k/\k<=8:=by
   by_cases x:0<=k/\k<=8
   ·exact x
   ·rw[qYq qo] at hl;cases hl
  obtain⟨k,rfl⟩:=Int.eq_ofNat_of_zero_le hk.1
  have hk9:k<9:=qo
  obtain⟨p,ok⟩:=hok a hl
  rw[Int.toNat_natCast] at ok
  rw[qUw hk9] at hl
  refine(qWN hn hq k hk9 (Z k) rfl a p _ ok hT hA hP hF h).mono ?_
  rintro e w' ⟨V,rfl,h1,h2⟩
  unfold FlEnd
  rw[qSI hk9 hl ok.page]
  refine⟨V,rfl,h1,fun a' ha' j j1 j2=>?_⟩
  rw[qUw hk9,hl] at ha'
  injection ha' with ha'
  subst ha'
  rw[ok.page,Int.toNat_natCast,Int.toNat_natCast] at *
  exact h2 j j1 (by unfold isF;rw[List.length_map];exact j2)

end
end
section
section
variable {base b n : Nat} {wh all : Bool} {K : Nat -> Option Nat} {st : Vst} {w w0 : World} {A G : Nat -> Prop} {t q s : Int}

theorem qHI (p nn:Int)(hp:pgB q p=false)(h:(rOb base b n all K).At w0 A G st w) :
  Calls Tryz.prog 124 #[.pointer (some ⟨b,0,none⟩),.agg #[.int .i64 t,.int .i64 q,.int .i64 s],.int .i64 p,.int .i64 nn] w fun e w'=>e = .returned (.tuple #[])/\(rOb base b n all K).At w0 A G (st) w'/\Stay G w w':=by
 have W0:=qh ((WL.start h).new 23 #[.int .i64 t,.int .i64 q,.int .i64 s])
 obtain⟨x0,x1,x2⟩:=W0.o.h0.three
 have hp:=qKG hp
 clear h
 go_enter Tryz.func124,Tryz.ntmps124
 by_cases h0:p<0
 ·have t0:decide (p<(0:Int))=true:=decide_eq_true h0
  exact Mxr
 ·refine R4Q ?_;intro t0 t1
  exact Mxr

theorem qRc (k:Nat)(nn:Int)(hq:q<=2147483648)(hk:pgB q (k:Int)=true)(h1:nn<1)(h:(rOb base b n all K).At w0 A G st w) :
  Calls Tryz.prog 124 #[.pointer (some ⟨b,0,none⟩),.agg #[.int .i64 t,.int .i64 q,.int .i64 s],.int .i64 (k:Int),.int .i64 nn] w fun e w'=>e = .returned (.tuple #[])/\(rOb base b n all K).At w0 A G (st) w'/\Stay G w w':=by
 have W0:=qh ((WL.start h).new 23 #[.int .i64 t,.int .i64 q,.int .i64 s])
 obtain⟨x0,x1,x2⟩:=W0.o.h0.three
 have hk2:=(qHC _ _).1 hk
 have hk31:k<2147483648:=qo
 have sq:IntKind.i64.wrap (q-(k:Int))=q-(k:Int):=qIv qo qo
 have t8:decide ((k:Int)<0)=false:=qf
 have t9:decide (q<=(k:Int))=false:=qf
 clear hk
 have t0:decide (nn<(1:Int))=true:=qt
 clear h
 go_enter Tryz.func124,Tryz.ntmps124
 go_wp2
 (try simp only[Exit.inBlock,Exit.then])
 refine bodyPost_ret (results_none rfl _ _ _) rfl ?_
 exact⟨rfl,W0.o.fin⟩

theorem qLT (k:Nat)(nn:Int)(hq:q<=2147483648)(hk:pgB q (k:Int)=true)(h1:1<=nn)(h2:q-(k:Int)<nn)(h:(rOb base b n all K).At w0 A G st w) :
  Calls Tryz.prog 124 #[.pointer (some ⟨b,0,none⟩),.agg #[.int .i64 t,.int .i64 q,.int .i64 s],.int .i64 (k:Int),.int .i64 nn] w fun e w'=>e = .returned (.tuple #[])/\(rOb base b n all K).At w0 A G (st) w'/\Stay G w w':=by
 have W0:=qh ((WL.start h).new 23 #[.int .i64 t,.int .i64 q,.int .i64 s])
 obtain⟨x0,x1,x2⟩:=W0.o.h0.three
 have hk2:=(qHC _ _).1 hk
 have hk31:k<2147483648:=qo
 have sq:IntKind.i64.wrap (q-(k:Int))=q-(k:Int):=qIv qo qo
 have t8:decide ((k:Int)<0)=false:=qf
 have t9:decide (q<=(k:Int))=false:=qf
 clear hk
 have t0:decide (nn<(1:Int))=false:=qf
 have t1:decide (q-(k:Int)<nn)=true:=qt
 clear h
 go_enter Tryz.func124,Tryz.ntmps124
 go_wp2
 (try simp only[Exit.inBlock,Exit.then])
 refine bodyPost_ret (results_none rfl _ _ _) rfl ?_
 exact⟨rfl,W0.o.fin⟩

theorem qOT (hn:n<2^40)(k m:Nat)(hq:q<=2147483648)(hk:pgB q (k:Int)=true)(h1:1<=(m:Int))(h2:(m:Int)<=q-(k:Int))(h:(rOb base b n all K).At w0 A G st w) :
  Calls Tryz.prog 124 #[.pointer (some ⟨b,0,none⟩),.agg #[.int .i64 t,.int .i64 q,.int .i64 s],.int .i64 (k:Int),.int .i64 (m:Int)] w fun e w'=>e = .returned (.tuple #[])/\(rOb base b n all K).At w0 A G (addS n K t q s (k:Int) (m:Int) st) w'/\Stay G w w':=by
 have W0:=qh ((WL.start h).new 23 #[.int .i64 t,.int .i64 q,.int .i64 s])
 obtain⟨x0,x1,x2⟩:=W0.o.h0.three
 have t0:decide ((m:Int)<(1:Int))=false:=qf
 have t1:decide (q-(k:Int)<(m:Int))=false:=qf
 have hm31:m<=2147483648:=qo
 have sk:IntKind.u32.wrap ((k:Int)+1)=((k+1:Nat):Int):=by have:=qTt (k+1) qo;simpa using this
 have HIV:=qh (qPM 1 (m:Int) 0)
 have HE:qH (addS n K t q s (k:Int) (m:Int) st=pushI n K t q s (nthI 2 11 1 (ofI (m:Int))) (k:Int) (putS n (putS n st (pageI t q s (k:Int) 0) (infoV 1 (m:Int) 0)) (pageI t q s ((k:Int)+(m:Int)-1) 1) (k+1))):=qh (qV2 ⟨hk,h1,h2⟩)
 have hk2:=(qHC _ _).1 hk
 have hk31:k<2147483648:=qo
 have sq:IntKind.i64.wrap (q-(k:Int))=q-(k:Int):=qIv qo qo
 have t8:decide ((k:Int)<0)=false:=qf
 have t9:decide (q<=(k:Int))=false:=qf
 clear hk
 clear h
 go_enter Tryz.func124,Tryz.ntmps124
 go_wp2_with fail
 refine(qQ1 t q s (k:Int) _).mono ?_;rintro e w1 ⟨rfl,hb⟩;have W1:=qh (W0.o.keep hb);clear hb W0
 obtain⟨x0,x1,x2⟩:=W1.o.h0.three
 go_wp2_with fail
 refine(qI0 1 (m:Int) 0 _).mono ?_;rintro e w2 ⟨rfl,hb⟩;have W2:=qh (W1.o.keep hb);clear hb W1
 obtain⟨x0,x1,x2⟩:=W2.o.h0.three
 go_wp2_with fail
 refine(rPutA hn _ _ HIV.o W2.o.at_).mono ?_;rintro e w3 ⟨rfl,h1,h2⟩;have W3:=qh (W2.o.call h1 h2);clear h1 h2 W2
 obtain⟨x0,x1,x2⟩:=W3.o.h0.three
 go_wp2_with fail
 refine(qGC t q s ((k:Int)+(m:Int)-1) _).mono ?_;rintro e w4 ⟨rfl,hb⟩;have W4:=qh (W3.o.keep hb);clear hb W3
 obtain⟨x0,x1,x2⟩:=W4.o.h0.three
 go_wp2_with fail
 refine(rPutA hn _ (k+1) qo W4.o.at_).mono ?_;rintro e w5 ⟨rfl,h1,h2⟩;have W5:=qh (W4.o.call h1 h2);clear h1 h2 W4
 obtain⟨x0,x1,x2⟩:=W5.o.h0.three
 go_wp2_with fail
 refine wp_region_held_drew (S:=(fun w'=>w'.cell? ⟨w.heap.size,0,none⟩=some (.int .i64 t)/\w'.cell? ⟨w.heap.size,1,none⟩=some (.int .i64 q)/\w'.cell? ⟨w.heap.size,2,none⟩=some (.int .i64 s))) qr ?_ (fun hHeld=>?_)
 ·(try dsimp only)
  exact MZ6
 refine tkz 0 ?_
 refine tkz 1 ?_
 refine tkz 2 ?_
 refine tkz 5 ?_
 refine rdz 3 fun K hK=>?_
 go_simp
 refine(qT2 (m:Int) qo qo _).mono ?_;rintro e w9 ⟨rfl,rfl⟩
 refine qk ?_ (fun hHeld=>?_)
 ·exact MZ6
 clear hK K
 refine rdz 4 fun K hK=>?_
 go_simp
 refine(qSc (ofI (m:Int)) _).mono ?_;rintro e w9 ⟨rfl,rfl⟩
 refine qk ?_ (fun hHeld=>?_)
 ·exact MZ6
 clear hK K
 refine rdz 6 fun K hK=>?_
 go_simp
 refine(qD2 hn qo (k:Int) W5.o.drew.at_).mono ?_;rintro e w6 ⟨rfl,h1,h2⟩;have W6:=qh (W5.o.drew.call h1 h2);clear h1 h2 W5
 refine qk ?_ (fun hHeld=>?_)
 ·exact MZ6
 clear hK K
 refine dnz ?_
 obtain⟨x0,x1,x2⟩:=W6.o.h0.three
 go_wp2
 go_end0
 exact⟨rfl,by rw[HE.o];exact W6.o.fin⟩

theorem qAc (hn:n<2^40)(hq:q<=2147483648)(p nn:Int)(h:(rOb base b n all K).At w0 A G st w) :
  Calls Tryz.prog 124 #[.pointer (some ⟨b,0,none⟩),.agg #[.int .i64 t,.int .i64 q,.int .i64 s],.int .i64 p,.int .i64 nn] w fun e w'=>e = .returned (.tuple #[])/\(rOb base b n all K).At w0 A G (addS n K t q s p nn st) w'/\Stay G w w':=by
 cases hp:pgB q p with
 | false=>rw[qCd (by rw[hp];simp)];exact qHI p nn hp h
 | true =>
  have h1:=(qHC _ _).1 hp
  obtain⟨k,rfl⟩:=Int.eq_ofNat_of_zero_le h1.1
  by_cases h2:nn<1
  ·rw[qCd qo];exact qRc k nn hq hp h2 h
  ·by_cases h3:q-(k:Int)<nn
   ·rw[qCd qo];exact qLT k nn hq hp qo h3 h
   ·obtain⟨m,rfl⟩:=Int.eq_ofNat_of_zero_le (show 0<=nn by omega)
    exact qOT hn k m hq hp qo qo h

theorem qYc (p:Int)(hp:pgB q p=false)(h:(rOb base b n all K).At w0 A G st w) :
  Calls Tryz.prog 122 #[.pointer (some ⟨b,0,none⟩),.agg #[.int .i64 t,.int .i64 q,.int .i64 s],.int .i64 p] w fun e w'=>e = .returned (.int .i64 0)/\(rOb base b n all K).At w0 A G (st) w'/\Stay G w w':=by
 have W0:=qh ((WL.start h).new 23 #[.int .i64 t,.int .i64 q,.int .i64 s])
 obtain⟨x0,x1,x2⟩:=W0.o.h0.three
 have hp:=qKG hp
 clear h
 go_enter Tryz.func122,Tryz.ntmps122
 by_cases h0:p<0
 ·have t0:decide (p<(0:Int))=true:=decide_eq_true h0
  go_wp2
  go_ret
  exact⟨rfl,W0.o.fin⟩
 ·refine R4Q ?_;intro t0 t1
  go_wp2
  go_ret
  exact⟨rfl,W0.o.fin⟩

theorem qI3 (hn:n<2^40)(k:Nat)(hq:q<=2147483648)(hk:pgB q (k:Int)=true)(kk l c:Int)(ok:Bool)(hI:infoOf n K t q s (k:Int) st=(kk,l,c,ok))(h1:kk≠1)(h:(rOb base b n all K).At w0 A G st w) :
  Calls Tryz.prog 122 #[.pointer (some ⟨b,0,none⟩),.agg #[.int .i64 t,.int .i64 q,.int .i64 s],.int .i64 (k:Int)] w fun e w'=>e = .returned (.int .i64 0)/\(rOb base b n all K).At w0 A G (getS n K st (pageI t q s (k:Int) 0)) w'/\Stay G w w':=by
 have W0:=qh ((WL.start h).new 23 #[.int .i64 t,.int .i64 q,.int .i64 s])
 obtain⟨x0,x1,x2⟩:=W0.o.h0.three
 have hk2:=(qHC _ _).1 hk
 have hk31:k<2147483648:=qo
 have sq:IntKind.i64.wrap (q-(k:Int))=q-(k:Int):=qIv qo qo
 have t8:decide ((k:Int)<0)=false:=qf
 have t9:decide (q<=(k:Int))=false:=qf
 clear hk
 have t0:(kk==1)=false:=by simpa using h1
 have t1:(kk != 1)=true:=by simpa using h1
 have HI:=qh hI
 clear hI
 clear h
 go_enter Tryz.func122,Tryz.ntmps122
 go_wp2_with fail
 refine(qHu hn (k:Int) kk l c ok HI.o W0.o.at_).mono ?_;rintro e w1 ⟨rfl,h1,h2⟩;have W1:=qh (W0.o.call h1 h2);clear h1 h2 W0
 replace W1:=qh (W1.o.new 119 #[.int .i64 kk,.int .i64 l,.int .i64 c])
 obtain⟨x0,x1,x2⟩:=W1.o.h1.three
 obtain⟨y0,y1,y2⟩:=W1.o.h0.three
 go_wp2
 go_ret
 exact⟨rfl,W1.o.fin⟩

theorem qUG (hn:n<2^40)(k:Nat)(hq:q<=2147483648)(hk:pgB q (k:Int)=true)(kk l c:Int)(ok:Bool)(hI:infoOf n K t q s (k:Int) st=(kk,l,c,ok))(h1:kk=1)(hl0:0<=l)(hl1:l<=1024)(h:(rOb base b n all K).At w0 A G st w) :
  Calls Tryz.prog 122 #[.pointer (some ⟨b,0,none⟩),.agg #[.int .i64 t,.int .i64 q,.int .i64 s],.int .i64 (k:Int)] w fun e w'=>e = .returned (.int .i64 l)/\(rOb base b n all K).At w0 A G (pullI n K t q s (nthI 2 11 1 (ofI l)) (k:Int) (getS n K st (pageI t q s (k:Int) 0))) w'/\Stay G w w':=by
 have W0:=qh ((WL.start h).new 23 #[.int .i64 t,.int .i64 q,.int .i64 s])
 obtain⟨x0,x1,x2⟩:=W0.o.h0.three
 have hk2:=(qHC _ _).1 hk
 have hk31:k<2147483648:=qo
 have sq:IntKind.i64.wrap (q-(k:Int))=q-(k:Int):=qIv qo qo
 have t8:decide ((k:Int)<0)=false:=qf
 have t9:decide (q<=(k:Int))=false:=qf
 clear hk
 subst h1
 have HI:=qh hI
 clear hI
 clear h
 go_enter Tryz.func122,Tryz.ntmps122
 go_wp2_with fail
 refine(qHu hn (k:Int) 1 l c ok HI.o W0.o.at_).mono ?_;rintro e w1 ⟨rfl,h1,h2⟩;have W1:=qh (W0.o.call h1 h2);clear h1 h2 W0
 generalize hNI:w1.heap.size=NI at *
 replace W1:=qh (W1.o.new 119 #[.int .i64 1,.int .i64 l,.int .i64 c])
 rw[hNI] at W1
 obtain⟨x0,x1,x2⟩:=W1.o.h1.three
 obtain⟨y0,y1,y2⟩:=W1.o.h0.three
 go_wp2_with fail
 refine wp_region_held_drew (S:=(fun w'=>w'.cell? ⟨w.heap.size,0,none⟩=some (.int .i64 t)/\w'.cell? ⟨w.heap.size,1,none⟩=some (.int .i64 q)/\w'.cell? ⟨w.heap.size,2,none⟩=some (.int .i64 s)/\w'.cell? ⟨NI,1,none⟩=some (.int .i64 l))) qr ?_ (fun hHeld=>?_)
 ·(try dsimp only)
  exact MMN
 refine tkz 0 ?_
 refine tkz 1 ?_
 refine tkz 2 ?_
 refine tkz 3 ?_
 refine tkz 6 ?_
 refine rdz 4 fun K hK=>?_
 go_simp
 refine(qT2 l qo qo _).mono ?_;rintro e w9 ⟨rfl,rfl⟩
 refine qk ?_ (fun hHeld=>?_)
 ·exact MMN
 clear hK K
 refine rdz 5 fun K hK=>?_
 go_simp
 refine(qSc (ofI l) _).mono ?_;rintro e w9 ⟨rfl,rfl⟩
 refine qk ?_ (fun hHeld=>?_)
 ·exact MMN
 clear hK K
 refine rdz 7 fun K hK=>?_
 go_simp
 refine(qAB hn qo (k:Int) W1.o.drew.at_).mono ?_;rintro e w2 ⟨rfl,h1,h2⟩;have W2:=qh (W1.o.drew.call h1 h2);clear h1 h2 W1
 refine qk ?_ (fun hHeld=>?_)
 ·exact MMN
 clear hK K
 refine dnz ?_
 obtain⟨x0,x1,x2⟩:=W2.o.h1.three
 obtain⟨y0,y1,y2⟩:=W2.o.h0.three
 go_wp2
 go_ret
 exact⟨rfl,W2.o.fin⟩

theorem qVK (hn:n<2^40)(hq:q<=2147483648)(p:Int)(h:(rOb base b n all K).At w0 A G st w) :
  Calls Tryz.prog 122 #[.pointer (some ⟨b,0,none⟩),.agg #[.int .i64 t,.int .i64 q,.int .i64 s],.int .i64 p] w fun e w'=>e = .returned (.int .i64 (dropV n K t q s p st))/\(rOb base b n all K).At w0 A G (dropS n K t q s p st) w'/\Stay G w w':=by
 unfold dropS dropV
 cases hp:pgB q p with
 | false=>exact qYc p hp h
 | true =>
  have h1:=(qHC _ _).1 hp
  obtain⟨k,rfl⟩:=Int.eq_ofNat_of_zero_le h1.1
  obtain⟨⟨kk,l,c,ok⟩,hI⟩:∃ x,infoOf n K t q s (k:Int) st=x:=⟨_,rfl⟩
  rw[hI]
  simp only[if_true]
  by_cases h2:kk=1
  ·rw[if_pos h2,if_pos h2]
   have h3:0<=l/\l<=1024:=by
    unfold infoOf at hI
    rw[h2] at hI
    exact qUX hI
   exact qUG hn k hq hp kk l c ok hI h2 h3.1 h3.2 h
  ·rw[if_neg h2,if_neg h2]
   exact qI3 hn k hq hp kk l c ok hI h2 h
end
end
section
theorem qYU (t q s:Int)(w:World):Calls Tryz.prog 31 #[.agg #[.int .i64 t,.int .i64 q,.int .i64 s]] w fun e w'=>e = .returned (.bool (decide (q<=64)))/\Below w.heap.size w w':=by
 go_enter Tryz.func31,Tryz.ntmps31
 go_wp2
 go_ret
 exact⟨rfl,Bnew (B0 _) _⟩
theorem qVl (w:World):(Instr.makeSlice 24 (.int .i64 82) (.int .i64 82)).run Tryz.prog w = .ok (.slice (some ⟨w.heap.size,0,none⟩) 82 82) (w.alloc (.cells (Array.replicate 82 (.int .u32 0)) 76)):=by kernel_rfl
def ex14L:List Nat:=((((List.replicate 82 0).set 0 8).set 5 1).set 34 129).set 77 1
def ex14C:Array Value:=((((Array.replicate 82 (Value.int .u32 0)).setIfInBounds 0 (.int .u32 8)).setIfInBounds 5 (.int .u32 1)).setIfInBounds 34 (.int .u32 129)).setIfInBounds 77 (.int .u32 1)
theorem qYQ:ex14C.toList=valVs ex14L:=by
 unfold ex14C ex14L valVs
 simp only[Array.toList_setIfInBounds,Array.toList_replicate,List.map_set,List.map_replicate]
 rfl
def qEr:Nat->Option Nat:=fun i=>ex14L[i]?
theorem qGI (w:World):Calls Tryz.prog 32 #[] w fun e w'=>∃ g,e = .returned (.tuple #[.agg #[.int .i64 1,.int .i64 8,.int .i64 10],.slice (some ⟨g,0,none⟩) 82 82])/\Held w' g 76 ex14C/\Below w.heap.size w w':=by
 have hmk:=qVl
 have HC:=(Held.new w 23 #[.int .i64 0,.int .i64 0,.int .i64 0]).alloc (.cells (Array.replicate 82 (.int .u32 0)) 76)
 have HG:=Held.new2 w (.cells #[.int .i64 0,.int .i64 0,.int .i64 0] 23) 76 (Array.replicate 82 (.int .u32 0))
 have g0:_=some (Value.int .u32 0):=(HG.cell 0).trans (by simp)
 have g1:_=some (Value.int .u32 0):=(HG.cell 5).trans (by simp)
 have g2:_=some (Value.int .u32 0):=(HG.cell 34).trans (by simp)
 have g3:_=some (Value.int .u32 0):=(HG.cell 77).trans (by simp)
 have f0:=HG.thawed
 obtain⟨c0,c1,c2⟩:=HC.three
 have f1:=HC.thawed
 clear HC HG
 go_enter Tryz.func32,Tryz.ntmps32
 go_wp2
 refine bodyPost_ret (v := .tuple #[.agg #[.int .i64 1,.int .i64 8,.int .i64 10],.slice (some ⟨w.heap.size+1,0,none⟩) 82 82]) (by simp[results,Tryz.results32,go_sem]) rfl ⟨w.heap.size+1,rfl,?_,?_⟩
 ·unfold ex14C
  exact Held.new2 w (.cells #[.int .i64 1,.int .i64 8,.int .i64 10] 23) 76 _
 ·exact Bnew (Bnew (B0 w) _) _
end
section
theorem qOo:ex14L.length=82:=by decide
theorem qDC:∀ x∈ex14L,x<2^32:=by decide
theorem qGe {w:World}{g:Nat}{t:TypeId}(h:Held w g t ex14C):∀ j u,(valVs ex14L)[j]?=some u->w.cell? ((⟨g,0,none⟩:Addr).add j)=some u:=by
 intro j u hu
 have e:(⟨g,0,none⟩:Addr).add j=⟨g,j,none⟩:=by
  unfold Addr.add
  by_cases hz:j=0
  ·rw[if_pos hz,hz]
  ·rw[if_neg hz];simp
 rw[e,h.cell j,<- hu,<- qYQ]
 simp
end
section
def qOL (vals:List Nat):Nat->Option Nat:=fun i=>vals[i]?
end
section
section
variable {W w w' : World} {O1 O2 : Ob} {A B G : Nat -> Prop} {s1 s2 s' : Vst}
theorem Duo.slots (h:Duo W O1 O2 A B G s1 s2 w)(hT:SlotsLaid W):SlotsLaid w/\¬ A 0 /\ ¬ B 0 := by
 have hl:(0 : Nat)<W.heap.size:=qY2 (hT 0 qo)
 exact⟨hT.below h.bel,fun x=>by have:=h.lo _ (.inl x);omega,fun x=>by have:=h.lo _ (.inr x);omega⟩
end
end
section
theorem qHi (l:List Int)(v u:Value)(w:World)(h1:LongsAt w v l)(h2:LongsAt w u l) :
  Calls Tryz.prog 33 #[v,u] w fun e w'=>e = .returned (.bool true)/\∃ n,w'=w.drewN n:=by
 obtain⟨A,c,rfl,hlc,hcm,_,hno,hcl⟩:=h1
 obtain⟨B,d,rfl,hld,hdm,_,hnp,hdl⟩:=h2
 obtain⟨n,hn⟩:∃ n,l.length=n:=⟨_,rfl⟩
 have hm:n<=9223372036854775807:=by rw[hn] at hlc;unfold maxLen at hcm;omega
 have HN:=qh hn
 have HC:=qh hcl
 have HD:=qh hdl
 have HNO:=qh hno
 have HNP:=qh hnp
 rw[hn]
 clear hcl hdl hno hnp hn
 go_enter Tryz.func33,Tryz.ntmps33
 go_wp2
 go_loopw [5] (fun i wr=>∃ k m:Nat,k<=n/\i = .int .i64 k/\wr=w.drewN m) (fun i _=>n-(intOf i).toNat)
 case atStart=>exact⟨0,0,qo,rfl,rfl⟩
 case round =>
  obtain⟨k,m,hk,rfl,rfl⟩:=hrel
  by_cases hlt:k<n
  ·obtain⟨x,hx⟩:∃ x,l[k]?=some x:=⟨_,List.getElem?_eq_getElem (by rw[HN.o];exact hlt)⟩
   cases A with
   | none=>exact absurd HN.o (by rw[(HNO.o rfl).1];simp;omega)
   | some ad =>
    cases B with
    | none=>exact absurd HN.o (by rw[(HNP.o rfl).1];simp;omega)
    | some bd =>
     have c1:=(HC.o ad rfl).2 k x hx
     have c2:=(HD.o bd rfl).2 k x hx
     clear hx
     go_wp2
     go_quiet (fail)
     go_wp2
     go_roundw
     case rel=>exact⟨k+1,_,qo,by go_num,rfl⟩
     case measure=>simp[intOf];omega
  ·go_wp2
   go_ret
   exact⟨rfl,m,rfl⟩
theorem qJ2 (U V:Nat->Sl)(Z:Nat->List Int)(w:World)(hU:PkV w U Z)(hV:PkV w V Z) :
  Calls Tryz.prog 13 #[.agg (pkC U),.agg (pkC V)] w fun e w'=>e = .returned (.bool true)/\Below w.heap.size w w':=by
 have HG:=qh ((Held.new w 36 (pkC U)).alloc (.cells (pkC V) 36))
 have HR:=qh (Held.new2 w (.cells (pkC U) 36) 36 (pkC V))
 have HB:=qh (Bnew (Bnew (B0 w) (.cells (pkC U) 36)) (.cells (pkC V) 36))
 have HPU:=qh hU
 have HPV:=qh hV
 clear hU hV
 go_enter Tryz.func13,Tryz.ntmps13
 go_wp2
 go_loopw [5] (fun u5 wr=>∃ k:Nat,k<=9/\u5 = .int .i64 (k:Int)/\qH (Held wr w.heap.size 36 (pkC U))/\qH (Held wr (w.heap.size+1) 36 (pkC V))/\qH (Below w.heap.size w wr)) (fun u5 _=>9-(intOf u5).toNat)
 case atStart=>exact⟨0,qo,rfl,HG,HR,HB⟩
 case round =>
  clear HG HR HB
  obtain⟨k,hk,rfl,HG,HR,HB⟩:=hrel
  by_cases hlt:k<9
  ·have hki:(k:Int)<9:=qo
   go_wp2_with fail
   replace HG:=qh (HG.o.keep (Bdrew (B0 _)))
   replace HR:=qh (HR.o.keep (Bdrew (B0 _)))
   replace HB:=qh (Bgo HB.o (Bdrew (B0 _)))
   refine wp_region_held_drew (S:=(fun w'=>w'.cell? ⟨w.heap.size,k,none⟩=some (.slice (U k).a (U k).n (U k).c)/\w'.cell? ⟨w.heap.size+1,k,none⟩=some (.slice (V k).a (V k).n (V k).c))) qr ?_ (fun hHeld=>?_)
   ·(try dsimp only)
    first|exact⟨HG.o.pk hlt,HR.o.pk hlt⟩|exact hHeld
   refine Rbo ?_
   refine tkz 5 ?_
   refine rdz 6 fun K hK=>?_
   go_simp
   refine(qHi (Z k) (U k).v (V k).v _ ((HPU.o k hlt).below HB.o) ((HPV.o k hlt).below HB.o)).mono ?_
   rintro e w9 ⟨rfl,m9,hw9⟩
   replace HG:=qh (HG.o.keep (show Below _ _ w9 by rw[hw9];exact Bdraw (B0 _) m9))
   replace HR:=qh (HR.o.keep (show Below _ _ w9 by rw[hw9];exact Bdraw (B0 _) m9))
   replace HB:=qh (Bgo HB.o (show Below _ _ w9 by rw[hw9];exact Bdraw (B0 _) m9))
   clear hw9
   refine qk ?_ (fun hHeld=>?_)
   ·first|exact⟨HG.o.pk hlt,HR.o.pk hlt⟩|exact hHeld
   clear hK K
   refine tkz 7 ?_
   refine dnz ?_
   go_wp2_with fail
   go_roundw
   case rel=>exact⟨k+1,qo,by go_num,HG,HR,HB⟩
   case measure=>simp[intOf];omega
  ·obtain rfl:k=9:=qo
   go_wp2
   go_ret
   exact⟨rfl,HB.o⟩
end
section
def exA:Vst:=(allocI 82 qEr 1 8 10 0 [] freshS).2
def exB:Vst:=(allocI 82 qEr 1 8 10 0 [1120,1088,1056] exA).2
theorem qZn:allocI 82 qEr 1 8 10 0 [] freshS=(some (1024,[1120,1088,1056]),exA):=by
 have h:(allocI 82 qEr 1 8 10 0 [] freshS).1=some (1024,[1120,1088,1056]):=by decide +kernel
 unfold exA
 rw[<- h]
theorem qZw:allocI 82 qEr 1 8 10 0 [1120,1088,1056] exA=(some (1056,[1120,1088]),exB):=by
 have h:(allocI 82 qEr 1 8 10 0 [1120,1088,1056] exA).1=some (1056,[1120,1088]):=by decide +kernel
 unfold exB
 rw[<- h]
theorem qNt:AlOk 82 qEr 1 8 10 0 [] freshS where
 few:=Nat.zero_le _
 spot a h:=by simp at h
 pick p m h:=by
  have e:(pickI 82 qEr 1 8 10 0 4 freshS).1=some (0,[0,1,2,3]):=by decide +kernel
  rw[e] at h
  injection h with h
  injection h with h1 h2
  subst h2
  exact⟨by decide,by decide,by decide⟩
theorem qGq:AlOk 82 qEr 1 8 10 0 [1120,1088,1056] exA where
 few:=by decide
 spot a h:=by
  have h:some 1056=some a:=h
  injection h with h
  subst h
  exact⟨by decide +kernel,by decide +kernel,0,1,by decide +kernel,by decide +kernel,by decide⟩
 pick p m h:=by
  obtain⟨x,hx⟩:∃ x,(pickI 82 qEr 1 8 10 0 4 exA).1=x:=⟨_,rfl⟩
  have e:(match (pickI 82 qEr 1 8 10 0 4 exA).1 with|some (_,l)=>decide (1<=l.length)&&decide (l.length<=4)&&l.all (fun i=>decide (i<32))|none=>true)=true:=by decide +kernel
  rw[h] at e
  simp only[Bool.and_eq_true,decide_eq_true_eq,List.all_eq_true] at e
  exact⟨e.1.1,e.1.2,fun i hi=>by simpa using e.2 i hi⟩
theorem qO4 (w:World):PkV w zeroU (fun _ => []):=fun k hk=>⟨none,0,rfl,Nat.le_refl _,Nat.zero_le _,fun z hz=>by simp at hz,fun _=>⟨rfl,rfl⟩,fun ad e=>by cases e⟩
theorem qKo (w:World)(hT:SlotsLaid w):Calls Tryz.prog 8 #[] w fun e w'=>e = .returned (.bool true)/\Below w.heap.size w w':=by
 have HTL:=qh hT
 have HXA:=qh qZn
 have HXB:=qh qZw
 have HOA:=qh qNt
 have HOB:=qh qGq
 clear hT
 go_enter Tryz.func8,Tryz.ntmps8
 go_wp2_with fail
 refine(qGI _).mono ?_
 rintro e w1 ⟨g,rfl,hg,hb⟩
 have HG:=qh (hg.alloc (.cells #[.int .i64 1,.int .i64 8,.int .i64 10] 23))
 have HC:=qh (Held.new w1 23 #[.int .i64 1,.int .i64 8,.int .i64 10])
 have HB:=qh (Bnew hb (.cells #[.int .i64 1,.int .i64 8,.int .i64 10] 23))
 clear hg hb
 obtain⟨x0,x1,x2⟩:=HC.o.three
 go_wp2_with fail
 generalize hNC:w1.heap.size=NC at *
 generalize hW1:w1.alloc (.cells #[.int .i64 1,.int .i64 8,.int .i64 10] 23)=W1 at *
 clear hNC hW1
 refine(qWm (some ⟨g,0,none⟩) 82 ex14L 82 qOo qo qDC _ (fun _=>⟨_,rfl,qGe HG.o⟩)).mono ?_
 rintro e w3 ⟨b,o,rfl,hI,hB⟩
 have HD:=qh (qAg (W:=w) (G:=fun i=>i=NC) hI HB.o.size (Bgo HB.o hB) (fun i hi=>by
  have h1:=HC.o.lt
  have h3:=hB.size
  rcases hi with rfl
  exact⟨qo,fun x=>by have:=hI.ge _ x;omega⟩))
 replace HC:=qh (HC.o.keep hB)
 rw[show (fun i=>ex14L[i]?)=qEr from rfl] at HD
 clear hI hB HB HG
 clear x0 x1 x2
 obtain⟨x0,x1,x2⟩:=HC.o.three
 go_wp2_with fail
 refine(qLs (t:=1) (q:=8) (s:=10) qo qo 0 qo qo (fun _=>HOA.o) (HD.o.slots HTL.o).1 (HD.o.slots HTL.o).2.1 (U:=zeroU) (Z:=fun _ => []) (qO4 _) (fun i hi=>by obtain⟨_,_,_,_,hz,_⟩:=hi;exact absurd rfl hz) HD.o.i1).mono ?_
 rintro e w4 ⟨V,rfl,hl,_⟩
 rw[HXA.o] at hl ⊢
 dsimp only[alV,alZ,Option.isSome] at hl ⊢
 obtain⟨A4,hD4,hV,hS⟩:=HD.o.pkt1 (qO4 _) (fun i hi=>by obtain⟨_,_,_,_,hz,_⟩:=hi;exact absurd rfl hz) hl
 replace HC:=qh (hS.held rfl HC.o)
 have HV:=qh hV
 obtain⟨Y,hY⟩:∃ Y:Nat->List Int,updF (fun _ => []) (0:Int).toNat [1120,1088,1056]=Y:=⟨_,rfl⟩
 have hY0:Y 0 = [1120,1088,1056]:=by rw[<- hY];rfl
 rw[hY] at hD4 HV
 have HY0:=qh hY0
 clear hl hV hS x0 x1 x2 hY hY0 HD
 have HD:=qh (hD4.keep2 (G':=fun i=>(i=NC\/PB V Y i)\/i=w4.heap.size) (Bnew (B0 w4) (.cells (pkC V) 36)) (fun i x=>by
  rcases x with x|x
  ·exact .inl x
  ·subst x;exact .inr ⟨Nat.le_refl _,by simp⟩))
 have HP:=qh (Held.new w4 36 (pkC V))
 replace HV:=qh (HV.o.below (Bnew (B0 w4) (.cells (pkC V) 36)))
 replace HC:=qh (HC.o.alloc (.cells (pkC V) 36))
 obtain⟨x0,x1,x2⟩:=HC.o.three
 obtain⟨p0,p1,p2,p3,p4,p5,p6,p7,p8⟩:=HP.o.nineP
 clear hD4
 go_wp2_with fail
 generalize hNP:w4.heap.size=NP at *
 generalize hW5:w4.alloc (.cells (pkC V) 36)=w5 at *
 clear hNP hW5
 refine(qLs (t:=1) (q:=8) (s:=10) qo qo 0 qo qo (fun _=>by show AlOk _ _ _ _ _ _ (Y 0) _;rw[HY0.o];exact HOB.o) (HD.o.slots HTL.o).1 (HD.o.slots HTL.o).2.1 HV.o (fun i hi=>(HD.o.aG i (.inl (.inr hi))).2.1) HD.o.i1).mono ?_
 rintro e w6 ⟨V2,rfl,hl,_⟩
 rw[show Y (0:Int).toNat = [1120,1088,1056] from HY0.o,HXB.o] at hl ⊢
 dsimp only[alV,alZ,Option.isSome] at hl ⊢
 obtain⟨A6,hD6,hV2,hS⟩:=HD.o.pkt1 HV.o (fun i hi => .inl (.inr hi)) hl
 replace HP:=qh (hS.held (.inr rfl) HP.o)
 have HV6:=qh (HV.o.stay hS.1 (fun i hi=>hS.2 i (.inl (.inr hi)) (hi.lt HV.o)))
 have HB:=qh hD6.bel
 clear hl hV2 hS x0 x1 x2 p0 p1 p2 p3 p4 p5 p6 p7 p8 hD6 HD HV HC
 have HP2:=qh (HP.o.alloc (.cells (pkC V2) 36))
 have HV7:=qh (HV6.o.below (Bnew (B0 w6) (.cells (pkC V2) 36)))
 obtain⟨p0,p1,p2,p3,p4,p5,p6,p7,p8⟩:=HP2.o.nineP
 have t9:((1056:Int)==1056)=true:=rfl
 have t10:((1024:Int)==1024)=true:=rfl
 go_wp2_with fail
 have hL1:LongsAt ((w6.alloc (.cells (pkC V2) 36)).alloc (.cells #[.int .i64 1120,.int .i64 1088,.int .i64 1056] 2)) (V 0).v [1120,1088,1056]:=by
  have:=(HV7.o 0 qo).below (Bnew (B0 _) (.cells #[.int .i64 1120,.int .i64 1088,.int .i64 1056] 2))
  rw[HY0.o] at this
  exact this
 have hL2:LongsAt ((w6.alloc (.cells (pkC V2) 36)).alloc (.cells #[.int .i64 1120,.int .i64 1088,.int .i64 1056] 2)) (.slice (some ⟨w6.heap.size+1,0,none⟩) 3 3) [1120,1088,1056]:=by
  have hn:=Held.new2 w6 (.cells (pkC V2) 36) 2 #[.int .i64 1120,.int .i64 1088,.int .i64 1056]
  refine⟨some ⟨w6.heap.size+1,0,none⟩,3,rfl,by decide,by unfold maxLen;omega,by simp,(fun e=>by cases e),fun ad e=>?_⟩
  injection e with e
  subst e
  refine⟨fun _=>hn.lt,fun i z hz=>?_⟩
  match i,hz with
  | 0,hz=>injection hz with hz;subst hz;exact hn.cell 0
  | 1,hz=>injection hz with hz;subst hz;exact hn.cell 1
  | 2,hz=>injection hz with hz;subst hz;exact hn.cell 2
  | i+3,hz=>simp at hz
 refine(qHi [1120,1088,1056] _ _ _ hL1 hL2).mono ?_
 rintro e w7 ⟨rfl,n7,hw7⟩
 have HB7:qH (Below w.heap.size w w7):=qh (by rw[hw7];exact Bdraw (Bnew (Bnew HB.o _) _) n7)
 clear hw7 hL1 hL2 HB HP HP2 HV6 HV7
 go_wp2
 go_ret
 exact⟨rfl,HB7.o⟩
end
end Go.Proofs.YtjjfcaliippgpaaGreatDoor
