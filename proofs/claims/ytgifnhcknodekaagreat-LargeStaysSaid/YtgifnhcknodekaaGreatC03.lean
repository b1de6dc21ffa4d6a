/-
  What pushing, pulling and walking do to what a View has read and written, as functions; the walk's own block beside a View. No program is named here but for the document's and the program's View.
-/
import Derived.Test.YtgifnhcknodekaaGreatC02
import Derived.Deep.RegionHeld3
import Derived.IntWalk
import Derived.KernelRfl
namespace Go.Proofs.YtgifnhcknodekaaGreat
theorem Mnr {P:Prop}(h:P:=by
 rcases Nat.lt_or_ge n 1024 with h3|h3
 ·refine⟨Nat.log2 n,?_,Nat.log2_self_le qo,Nat.lt_log2_self⟩
  have:=Nat.log2_lt (n:=n) (k:=10) qo
  have:=this.2 h3
  omega
 ·exact⟨10,qo,qo,qo⟩):P:=h
theorem MFq {P:Prop}(h:P:=by
 have h:¬ infoP k l c:=of_decide_eq_false hb
 unfold infoP at h
 simp only[and_true,reduceCtorEq,and_false,or_false,false_or]
 omega):P:=h
theorem Mx3 {P:Prop}(h:P:=by
 have h:infoP k l c:=qLf hb
 unfold infoP at h
 simp only[and_true,reduceCtorEq,and_false,or_false,false_or]
 omega):P:=h
theorem Mbg {P:Prop}(h:P:=by
 go_enter Tryz.func131,Tryz.ntmps131
 exact MWK):P:=h
theorem Mxp {P:Prop}(h:P:=by
 have e3:2^a*(v+1)<=2^a*2^(64-a):=Nat.mul_le_mul_left _ qo
 rw[Nat.mul_succ] at e3
 rw[e]
 omega):P:=h
theorem MWK {P:Prop}(h:P:=by
 go_wp2
 go_ret
 exact⟨by rw[HN.o];rfl,rfl⟩):P:=h
end Go.Proofs.YtgifnhcknodekaaGreat
set_option linter.unusedVariables false
set_option linter.unusedSimpArgs false
set_option maxRecDepth 100000
set_option maxHeartbeats 25600000
namespace Go.Proofs.YtgifnhcknodekaaGreat
open Go.ChangeShapes Go.WideShapes Go.ChangeAt Go.RowKit Go.Maps
section
def pgB (P p:Int):Bool:=decide (0<=p)&&decide (p<P)
theorem qHC (P p:Int):pgB P p=true↔0<=p/\p<P:=by unfold pgB;simp
section
variable (n : Nat) (K : Nat -> Option Nat) (t q s hd : Int)
def qBQ (k:Nat) (st:Vst):Vst:=putS n (putS n (getS n K st hd) (pageI t q s (k:Int) 2) (getV n K st hd)) (pageI t q s (k:Int) 3) 0
def qXk (k:Nat) (st:Vst):Vst:=if getV n K st hd=0 then qBQ n K t q s hd k st else putS n (qBQ n K t q s hd k st) (pageI t q s ((getV n K st hd:Nat)-1:Int) 3) (k+1)
def pushS (k:Nat) (st:Vst):Vst:=putS n (qXk n K t q s hd k st) hd (k+1)
def pushI (p:Int) (st:Vst):Vst:=if pgB q p then pushS n K t q s hd p.toNat st else st

def pullN (k:Nat) (st:Vst):Nat:=getV n K st (pageI t q s (k:Int) 2)
def pullB (k:Nat) (st:Vst):Nat:=getV n K (getS n K st (pageI t q s (k:Int) 2)) (pageI t q s (k:Int) 3)
def qQi (k:Nat) (st:Vst):Vst:=getS n K (getS n K st (pageI t q s (k:Int) 2)) (pageI t q s (k:Int) 3)
def qRp (k:Nat) (st:Vst):Vst:=if pullB n K t q s k st=0 then putS n (qQi n K t q s k st) hd (pullN n K t q s k st) else putS n (qQi n K t q s k st) (pageI t q s ((pullB n K t q s k st:Nat)-1:Int) 2) (pullN n K t q s k st)
def qEX (k:Nat) (st:Vst):Vst:=if pullN n K t q s k st=0 then qRp n K t q s hd k st else putS n (qRp n K t q s hd k st) (pageI t q s ((pullN n K t q s k st:Nat)-1:Int) 3) (pullB n K t q s k st)
def pullS (k:Nat) (st:Vst):Vst:=putS n (putS n (qEX n K t q s hd k st) (pageI t q s (k:Int) 2) 0) (pageI t q s (k:Int) 3) 0
def pullI (p:Int) (st:Vst):Vst:=if pgB q p then pullS n K t q s hd p.toNat st else st

end
section
variable {n : Nat} {K : Nat -> Option Nat} {t q s hd : Int} {m l0 l : Nat} {st0 st : Vst} {out : List Nat}
theorem qK2 {k:Nat}{st:Vst}(h:pgB q (k:Int)=true):pushI n K t q s hd (k:Int) st=pushS n K t q s hd k st/\pullI n K t q s hd (k:Int) st=pullS n K t q s hd k st:=by
 unfold pushI pullI
 rw[if_pos h,if_pos h]
 exact⟨rfl,rfl⟩
theorem qEh {p:Int}{st:Vst}(h:pgB q p=false):pushI n K t q s hd p st=st/\pullI n K t q s hd p st=st:=by
 unfold pushI pullI
 rw[if_neg (by simp[h]),if_neg (by simp[h])]
 exact⟨rfl,rfl⟩
theorem qCb {a:Int}(hk:VOk n st)(h32:∀ i x,K i=some x->x<2^32):getV n K st a<2^32:=by
 by_cases ho:opn n st a=true
 ·obtain⟨i,rfl,hi,hl⟩:=qAh ho
  cases hp:pos st.wr i with
  | some k =>
   rw[qWv ho hp]
   have h1:=(qG9 hp).1
   have h2:(st.wr[k]'h1)∈st.wr:=List.getElem_mem h1
   have h3:=(hk.wrLt _ h2).2
   unfold atW
   simp only[List.getD,List.getElem?_eq_getElem h1,Option.getD_some]
   exact h3
  | none =>
   cases hK:K i with
   | some v=>rw[qGE ho hp hK];exact h32 i v hK
   | none=>rw[qUa ho hp hK];omega
 ·rw[qDi (by simpa using ho)];omega
end

section
variable {base b n : Nat} {wh all : Bool} {K : Nat -> Option Nat} {st s' : Vst} {w ws w0 w' : World} {A G : Nat -> Prop} {N : Nat} {T : TypeId} {cs : Array Value} {O : Ob}
theorem qHJ (h:(vOb base b n wh K).At w0 A G st w)(a:Int):getV n K st a<2^32:=by
 obtain⟨B,⟨o,h1,_⟩,_⟩:=h
 exact qCb h1.ok h1.k32
structure WK (O:Ob) (w0:World) (A G:Nat->Prop) (ws:World) (N:Nat) (T:TypeId) (cs:Array Value) (st:Vst) (w:World):Prop where
 at_:O.At w0 A (And1 G N) st w
 held:Held w N T cs
 stay:Stay G ws w
theorem WK.two (h:O.At w0 A G st ws)(o:Obj)(T:TypeId)(cs:Array Value):WK O w0 A G ws (ws.heap.size+1) T cs st ((ws.alloc o).alloc (.cells cs T)) :=
 ⟨by have:=(h.alloc o).box (.cells cs T);simpa using this,Held.new2 _ _ _ _,Stay.of_below (Bnew (Bnew (B0 _) _) _) G⟩
theorem WK.keep (h:WK O w0 A G ws N T cs st w)(hb:Below w.heap.size w w'):WK O w0 A G ws N T cs st w':=⟨h.at_.keep hb,h.held.keep hb,h.stay.trans (Stay.of_below hb G)⟩
theorem WK.drew (h:WK O w0 A G ws N T cs st w):WK O w0 A G ws N T cs st w.drew:=h.keep (Bdrew (B0 w))
theorem WK.call (h:WK O w0 A G ws N T cs st w)(h1:O.At w0 A (And1 G N) s' w')(h2:Stay (And1 G N) w w'):WK O w0 A G ws N T cs s' w' :=
 ⟨h1,h2.held (.inr rfl) h.held,h.stay.trans (h2.less fun g x => .inl x)⟩
theorem WK.fin (h:WK O w0 A G ws N T cs st w):O.At w0 A G st w/\Stay G ws w:=⟨h.at_.less fun g x => .inl x,h.stay⟩
end
end
section
structure Blk where
 n:Nat
 t:TypeId
 cs:Array Value
def GB (G:Nat->Prop) (L:List Blk):Nat->Prop:=fun g=>G g\/∃ x,x∈L/\x.n=g

structure WL (O:Ob) (w0:World) (A G:Nat->Prop) (ws:World) (L:List Blk) (st:Vst) (w:World):Prop where
 at_:O.At w0 A (GB G L) st w
 held:∀ x∈L,Held w x.n x.t x.cs
 stay:Stay G ws w
 lo:∀ x∈L,ws.heap.size<=x.n
 nd:(L.map (·.n)).Nodup

section
variable {O : Ob} {w0 ws w w' : World} {A G : Nat -> Prop} {L : List Blk} {x y z : Blk} {st s' : Vst}
theorem WL.start (h:O.At w0 A G st ws):WL O w0 A G ws [] st ws :=
 ⟨h.less (fun g hg=>by
  rcases hg with hg|⟨x,hx,_⟩
  ·exact hg
  ·exact absurd hx (List.not_mem_nil)),fun x hx=>absurd hx (List.not_mem_nil),Stay.of_below (B0 _) G,fun x hx=>absurd hx (List.not_mem_nil),List.nodup_nil⟩
theorem WL.keep (h:WL O w0 A G ws L st w)(hb:Below w.heap.size w w'):WL O w0 A G ws L st w' :=
 ⟨h.at_.keep hb,fun x hx=>(h.held x hx).keep hb,h.stay.trans (Stay.of_below hb G),h.lo,h.nd⟩
theorem WL.drew (h:WL O w0 A G ws L st w):WL O w0 A G ws L st w.drew:=h.keep (Bdrew (B0 w))
theorem WL.alloc (h:WL O w0 A G ws L st w)(o:Obj):WL O w0 A G ws L st (w.alloc o):=h.keep (Bnew (B0 w) o)
theorem WL.call (h:WL O w0 A G ws L st w)(h1:O.At w0 A (GB G L) s' w')(h2:Stay (GB G L) w w'):WL O w0 A G ws L s' w' :=
 ⟨h1,fun x hx=>h2.held (.inr ⟨x,hx,rfl⟩) (h.held x hx),h.stay.trans (h2.less fun g x => .inl x),h.lo,h.nd⟩
theorem WL.fin (h:WL O w0 A G ws L st w):O.At w0 A G st w/\Stay G ws w:=⟨h.at_.less fun g x => .inl x,h.stay⟩
theorem WL.new (h:WL O w0 A G ws L st w)(t:TypeId)(cs:Array Value):WL O w0 A G ws (⟨w.heap.size,t,cs⟩ :: L) st (w.alloc (.cells cs t)):=by
 have hk:=h.alloc (.cells cs t)
 refine⟨(h.at_.box (.cells cs t)).less (fun g hg=>?_),fun x hx=>?_,hk.stay,fun x hx=>?_,?_⟩
 ·rcases hg with hg|⟨x,hx,rfl⟩
  ·exact .inl (.inl hg)
  ·rcases List.mem_cons.1 hx with rfl|hx
   ·exact .inr rfl
   ·exact .inl (.inr ⟨x,hx,rfl⟩)
 ·rcases List.mem_cons.1 hx with rfl|hx
  ·exact Held.new w t cs
  ·exact hk.held x hx
 ·rcases List.mem_cons.1 hx with rfl|hx
  ·exact h.stay.1
  ·exact h.lo x hx
 ·rw[List.map_cons]
  refine List.nodup_cons.2 ⟨fun hm=>?_,h.nd⟩
  obtain⟨x,hx,e⟩:=List.mem_map.1 hm
  have h1:=(h.held x hx).lt
  have e:x.n=w.heap.size:=e
  omega
theorem WL.put (h:WL O w0 A G ws (x :: L) st w)(i:Nat)(v:Value):WL O w0 A G ws (⟨x.n,x.t,x.cs.setIfInBounds i v⟩ :: L) st (w.setCell ⟨x.n,i,none⟩ v):=by
 have hnd:=List.nodup_cons.1 h.nd
 have hlo:=h.lo x (List.mem_cons_self ..)
 refine⟨(h.at_.put (p:=⟨x.n,i,none⟩) (.inr ⟨x,List.mem_cons_self ..,rfl⟩) v).less (fun g hg=>?_),fun y hy=>?_,⟨by simp;exact h.stay.1,fun g hg hl=>(Below.heap_setCell w ⟨x.n,i,none⟩ v g (fun e=>by have e:g=x.n:=e;omega)).trans (h.stay.2 g hg hl)⟩,fun y hy=>?_,h.nd⟩
 ·rcases hg with hg|⟨y,hy,rfl⟩
  ·exact .inl hg
  ·rcases List.mem_cons.1 hy with rfl|hy
   ·exact .inr ⟨x,List.mem_cons_self ..,rfl⟩
   ·exact .inr ⟨y,List.mem_cons_of_mem _ hy,rfl⟩
 ·rcases List.mem_cons.1 hy with rfl|hy
  ·exact(h.held x (List.mem_cons_self ..)).put i v
  ·refine(h.held y (List.mem_cons_of_mem _ hy)).far (p:=⟨x.n,i,none⟩) (fun e=>hnd.1 ?_) v
   have e:y.n=x.n:=e
   exact List.mem_map.2 ⟨y,hy,e⟩
 ·rcases List.mem_cons.1 hy with rfl|hy
  ·exact hlo
  ·exact h.lo y (List.mem_cons_of_mem _ hy)
theorem WL.swap (h:WL O w0 A G ws (x :: y :: L) st w):WL O w0 A G ws (y :: x :: L) st w:=by
 refine⟨h.at_.less (fun g hg=>?_),fun z hz=>h.held z (by simp at hz ⊢;rcases hz with e|e|e <;> simp[e]),h.stay,fun z hz=>h.lo z (by simp at hz ⊢;rcases hz with e|e|e <;> simp[e]),?_⟩
 ·rcases hg with hg|⟨z,hz,e⟩
  ·exact .inl hg
  ·exact .inr ⟨z,by simp at hz ⊢;rcases hz with e|e|e <;> simp[e],e⟩
 ·have:=h.nd
  simp only[List.map_cons,List.nodup_cons,List.mem_cons,not_or] at this ⊢
  exact⟨⟨fun e=>this.1.1 e.symm,this.2.1⟩,this.1.2,this.2.2⟩
theorem WL.h0 (h:WL O w0 A G ws (x :: L) st w):Held w x.n x.t x.cs:=h.held x (List.mem_cons_self ..)
theorem WL.h1 (h:WL O w0 A G ws (x :: y :: L) st w):Held w y.n y.t y.cs:=h.held y (List.mem_cons_of_mem _ (List.mem_cons_self ..))
theorem WL.h2 (h:WL O w0 A G ws (x :: y :: z :: L) st w):Held w z.n z.t z.cs:=h.held z (List.mem_cons_of_mem _ (List.mem_cons_of_mem _ (List.mem_cons_self ..)))
theorem qJe {base b n:Nat}{wh:Bool}{K:Nat->Option Nat}(h:WL (vOb base b n wh K) w0 A G ws L st w)(a:Int):getV n K st a<2^32:=qHJ h.at_ a
end
end
section
def infoP (k l c:Int):Prop:=(k=0/\l=0/\c=0)\/((k=1\/k=2)/\1<=l/\l<=1024/\c=0)\/(k=3/\l=1/\0<=c/\c<=8)
instance (k l c:Int):Decidable (infoP k l c):=by unfold infoP;infer_instance
def infoB (k l c:Int):Bool:=decide (infoP k l c)
theorem qAG {k l c:Int}(h:infoP k l c):infoB k l c=true:=decide_eq_true h
theorem qLf {k l c:Int}(h:infoB k l c=true):infoP k l c:=of_decide_eq_true h
def infoV (k l c:Int):Nat:=if infoB k l c then k.toNat+16*l.toNat+65536*c.toNat else 0
theorem qXn {k l c:Int}(h:infoB k l c=true):infoV k l c=k.toNat+16*l.toNat+65536*c.toNat:=by unfold infoV;rw[if_pos h]
theorem qEg {k l c:Int}(h:infoB k l c=false):infoV k l c=0:=by unfold infoV;rw[h];rfl

theorem qWH (k l c:Int)(w:World) :
  Calls Tryz.prog 139 #[.agg #[.int .i64 k,.int .i64 l,.int .i64 c]] w fun e w'=>e = .returned (.bool (infoB k l c))/\Below w.heap.size w w':=by
 have hC:∃ b,infoB k l c=b:=⟨_,rfl⟩
 obtain⟨b,hb⟩:=hC
 rw[hb]
 have hcase:(k=3/\l≠1/\b=false)\/(k=3/\l=1/\c<0/\b=false)\/(k=3/\l=1/\0<=c/\9<=c/\b=false)\/(k=3/\l=1/\0<=c/\c<9/\b=true) \/
   ((k=1\/k=2)/\l<1/\b=false)\/((k=1\/k=2)/\1<=l/\1024<l/\b=false)\/((k=1\/k=2)/\1<=l/\l<=1024/\c≠0/\b=false)\/((k=1\/k=2)/\1<=l/\l<=1024/\c=0/\b=true) \/
   (k=0/\l≠0/\b=false)\/(k=0/\l=0/\c≠0/\b=false)\/(k=0/\l=0/\c=0/\b=true)\/(k≠0/\k≠1/\k≠2/\k≠3/\b=false):=by
  cases b
  ·exact MFq
  ·exact Mx3
 clear hb
 rcases hcase with ⟨rfl,h1,rfl⟩|⟨rfl,rfl,h1,rfl⟩|⟨rfl,rfl,h1,h2,rfl⟩|⟨rfl,rfl,h1,h2,rfl⟩|⟨rfl|rfl,h1,rfl⟩|⟨rfl|rfl,h1,h2,rfl⟩|⟨rfl|rfl,h1,h2,h3,rfl⟩|⟨rfl|rfl,h1,h2,rfl,rfl⟩|⟨rfl,h1,rfl⟩|⟨rfl,rfl,h1,rfl⟩|⟨rfl,rfl,rfl,rfl⟩|⟨h0,h1,h2,h3,rfl⟩
 all_goals
  go_enter Tryz.func139,Tryz.ntmps139
  go_wp2
  go_ret
  refine⟨by first|rfl|(refine qM8 ?_;simp;done)|(refine qM8 ?_;simp;omega),?_⟩
  repeat (first|exact B0 _|(with_reducible refine Bdrew ?_)|(with_reducible refine Bdraw ?_ _)|(with_reducible refine Bnew ?_ _)|(refine Bput ?_ (Nat.le_refl _) _))
theorem qOQ (k l c:Int)(w:World) :
  Calls Tryz.prog 121 #[.agg #[.int .i64 k,.int .i64 l,.int .i64 c]] w fun e w'=>e = .returned (.bool (infoB k l c))/\Below w.heap.size w w':=by
 have hC:∃ b,infoB k l c=b:=⟨_,rfl⟩
 obtain⟨b,hb⟩:=hC
 rw[hb]
 have hcase:(k=3/\l≠1/\b=false)\/(k=3/\l=1/\c<0/\b=false)\/(k=3/\l=1/\0<=c/\8<c/\b=false)\/(k=3/\l=1/\0<=c/\c<=8/\b=true) \/
   ((k=1\/k=2)/\l<1/\b=false)\/((k=1\/k=2)/\1<=l/\1024<l/\b=false)\/((k=1\/k=2)/\1<=l/\l<=1024/\c≠0/\b=false)\/((k=1\/k=2)/\1<=l/\l<=1024/\c=0/\b=true) \/
   (k=0/\l≠0/\b=false)\/(k=0/\l=0/\c≠0/\b=false)\/(k=0/\l=0/\c=0/\b=true)\/(k≠0/\k≠1/\k≠2/\k≠3/\b=false):=by
  cases b
  ·exact MFq
  ·exact Mx3
 clear hb
 rcases hcase with ⟨rfl,h1,rfl⟩|⟨rfl,rfl,h1,rfl⟩|⟨rfl,rfl,h1,h2,rfl⟩|⟨rfl,rfl,h1,h2,rfl⟩|⟨rfl|rfl,h1,rfl⟩|⟨rfl|rfl,h1,h2,rfl⟩|⟨rfl|rfl,h1,h2,h3,rfl⟩|⟨rfl|rfl,h1,h2,rfl,rfl⟩|⟨rfl,h1,rfl⟩|⟨rfl,rfl,h1,rfl⟩|⟨rfl,rfl,rfl,rfl⟩|⟨h0,h1,h2,h3,rfl⟩
 all_goals
  go_enter Tryz.func121,Tryz.ntmps121
  go_wp2
  go_ret
  refine⟨by first|rfl|(refine qM8 ?_;simp;done)|(refine qM8 ?_;simp;omega),?_⟩
  repeat (first|exact B0 _|(with_reducible refine Bdrew ?_)|(with_reducible refine Bdraw ?_ _)|(with_reducible refine Bnew ?_ _)|(refine Bput ?_ (Nat.le_refl _) _))
end
section
theorem qTC (x a k v:Nat)(ha:a+k<=64)(hx:x<2^a)(hv:v<2^k):HM.putN x a k v=x+v*2^a:=by
 have hx64:x<2^64:=Nat.lt_of_lt_of_le hx (Nat.pow_le_pow_right qo qo)
 have h1:x+v*2^a=2^a*v+x:=by rw[Nat.mul_comm,Nat.add_comm]
 have hlt:2^a*v+x<2^64:=by
  have e:(2:Nat)^64=2^a*2^(64-a):=by rw[<- Nat.pow_add];congr 1;omega
  have e2:(2:Nat)^k<=2^(64-a):=Nat.pow_le_pow_right qo qo
  exact Mxp
 rw[h1]
 apply Nat.eq_of_testBit_eq
 intro i
 by_cases hi:i<64
 ·rw[HM.bit_putN x a k v i ha hv hi,Nat.testBit_two_pow_mul_add _ hx]
  by_cases h2:i<a
  ·rw[if_neg qo,if_pos h2]
  ·rw[if_neg h2]
   by_cases h3:i<a+k
   ·rw[if_pos ⟨qo,h3⟩]
   ·rw[if_neg qo,Nat.testBit_lt_two_pow (Nat.lt_of_lt_of_le hx (Nat.pow_le_pow_right qo qo)),Nat.testBit_lt_two_pow (Nat.lt_of_lt_of_le hv (Nat.pow_le_pow_right qo qo))]
 ·rw[HM.bit_high (HM.putN_lt x a k v ha hv) qo,HM.bit_high hlt qo]
theorem qDc (x a k v:Nat)(hk:1<=k)(ha:a+k<=64)(hx:x<2^a)(hv:v<2^k)(y:Nat)(hy:x+v*2^a=y)(w:World) :
  Calls Tryz.prog 140 #[.int .u64 (x:Int),.int .i64 (a:Int),.int .i64 (k:Int),.int .u64 (v:Int)] w fun e w'=>e = .returned (.tuple #[.int .u64 (y:Int),.bool true])/\∃ n,w'=w.drewN n:=by
 have hx64:x<2^64:=Nat.lt_of_lt_of_le hx (Nat.pow_le_pow_right qo qo)
 have hv64:v<2^64:=Nat.lt_of_lt_of_le hv (Nat.pow_le_pow_right qo qo)
 refine(qNM x v a k hx64 hv64 qo qo qo qo w).mono ?_
 rintro e w' ⟨rfl,hw⟩
 have hok:putOk a k v=true:=by
  unfold putOk
  rw[qVM qo qo qo]
  simpa using hv
 have e1:putI x a k v=y:=by
  unfold putI
  rw[if_pos hok]
  exact(qTC x a k v ha hx hv).trans hy
 rw[hok,e1]
 exact⟨rfl,hw⟩
theorem qAe {k:IntKind}{a b:Int}{c:Bool}(h:a=b):Ending.returned (.tuple #[.int k a,.bool c]) = .returned (.tuple #[.int k b,.bool c]):=by rw[h]

theorem qA4 (k l c:Int)(w:World) :
  Calls Tryz.prog 113 #[.agg #[.int .i64 k,.int .i64 l,.int .i64 c]] w fun e w'=>e = .returned (.tuple #[.int .u32 ((infoV k l c:Nat):Int),.bool (infoB k l c)])/\Below w.heap.size w w':=by
 cases hr:infoB k l c
 ·have HP:=qh (qEg hr)
  have HR:=qh hr
  clear hr
  go_enter Tryz.func113,Tryz.ntmps113
  go_wp2_with fail
  refine(qWH k l c _).mono ?_
  rintro e w1 ⟨rfl,hb1⟩
  rw[HR.o]
  go_wp2
  go_ret2
  exact⟨by rw[HP.o];rfl,Bgo (Bnew (B0 _) _) hb1⟩
 ·have HP:=qh (qXn hr)
  have HR:=qh hr
  have hi:=qLf hr
  clear hr
  have hb:0<=k/\k<=3/\0<=l/\l<=1024/\0<=c/\c<=8:=by unfold infoP at hi;omega
  obtain⟨k0,k3,l0,l1,c0,c8⟩:=hb
  clear hi
  obtain⟨k,rfl⟩:∃ n:Nat,k=n:=⟨k.toNat,qo⟩
  obtain⟨l,rfl⟩:∃ n:Nat,l=n:=⟨l.toNat,qo⟩
  obtain⟨c,rfl⟩:∃ n:Nat,c=n:=⟨c.toNat,qo⟩
  go_enter Tryz.func113,Tryz.ntmps113
  go_wp2_with fail
  have hc:=Held.new w 90 #[.int .i64 (k:Int),.int .i64 (l:Int),.int .i64 (c:Int)]
  refine(qWH k l c _).mono ?_
  rintro e w1 ⟨rfl,hb1⟩
  rw[HR.o]
  obtain⟨c0,c1,c2⟩:=(hc.keep hb1).three
  go_wp2_with fail
  refine(qDc 0 0 4 k qo qo qo qo k qo _).mono ?_
  rintro e w2 ⟨rfl,n2,rfl⟩
  go_wp2_with fail
  refine(qDc k 4 12 l qo qo qo qo (k+l*16) qo _).mono ?_
  rintro e w2 ⟨rfl,n3,rfl⟩
  go_wp2_with fail
  refine(qDc (k+l*16) 16 4 c qo qo qo qo (k+l*16+c*65536) qo _).mono ?_
  rintro e w2 ⟨rfl,n4,rfl⟩
  go_wp2_with fail
  refine(Lo_c (k+l*16+c*65536) qo _).mono ?_
  rintro e w2 ⟨rfl,rfl⟩
  go_wp2
  go_ret2
  refine⟨qAe (by rw[HP.o];omega),?_⟩
  repeat (first|exact B0 _|(with_reducible refine Bdrew ?_)|(with_reducible refine Bdraw ?_ _)|(with_reducible refine Bgo ?_ hb1)|(with_reducible refine Bnew ?_ _))
end
section
theorem qBU (x a k:Nat)(v:Nat)(g:Nat)(w:World)(hx:x<2^32)(hk:1<=k)(ha:a+k<=64)(hv:x / 2^a%2^k=v)(hc:Held w g 137 #[.int .u64 (x:Int)]) :
  Calls Tryz.prog 123 #[.int .i64 (a:Int),.int .i64 (k:Int),.pointer (some ⟨g,0,none⟩)] w fun e w'=>e = .returned (.int .i64 (v:Int))/\∃ n,w'=w.drewN n:=by
 have c0:w.cell? ⟨g,0,none⟩=some (.int .u64 (x:Int)):=hc.cell 0
 have hb:v<4294967296:=by
  have h1:x / 2^a%2^k<=x / 2^a:=Nat.mod_le _ _
  have h2:x / 2^a<=x:=Nat.div_le_self _ _
  omega
 have HG:qH (getI x a k=v):=by
  refine qh ?_
  unfold getI HM.getN
  rw[if_pos (qVM qo qo qo)]
  simpa using hv
 clear hv
 go_enter Tryz.func123,Tryz.ntmps123
 go_wp2_with fail
 refine(qUM x a k qo qo qo qo qo _).mono ?_
 rintro e w1 ⟨rfl,n1,rfl⟩
 rw[HG.o]
 go_wp2
 go_ret
 exact⟨rfl,n1,rfl⟩

theorem qCA (v k l c:Nat)(hv:v<2^32)(h1:v%16=k)(h2:v / 16%4096=l)(h3:v / 65536%16=c)(hr:infoB k l c=true)(hw:infoV k l c=v)(w:World) :
  Calls Tryz.prog 83 #[.int .u32 (v:Int)] w fun e w'=>e = .returned (.tuple #[.agg #[.int .i64 (k:Int),.int .i64 (l:Int),.int .i64 (c:Int)],.bool true])/\Below w.heap.size w w':=by
 have HR:=qh hr
 have HW:=qh hw;clear hw
 have H1:=qh (show v / 2^0%2^4=k by omega)
 have H2:=qh (show v / 2^4%2^12=l by omega)
 have H3:=qh (show v / 2^16%2^4=c by omega)
 clear hr h1 h2 h3
 go_enter Tryz.func83,Tryz.ntmps83
 go_wp2_with fail
 refine(qPo 0 v qo hv _).mono ?_
 rintro e w1 ⟨rfl,rfl⟩
 rw[show 0*4294967296+v=v from by omega]
 have hc:=Held.new2 w (.cells #[.int .i64 0,.int .i64 0,.int .i64 0] 90) 137 #[.int .u64 (v:Int)]
 have hr0:=(Held.new w 90 #[.int .i64 0,.int .i64 0,.int .i64 0]).alloc (.cells #[.int .u64 (v:Int)] 137)
 go_wp2_with fail
 refine(qBU v 0 4 k _ _ hv qo qo H1.o hc).mono ?_
 rintro e w1 ⟨rfl,n1,rfl⟩
 go_wp2_with fail
 refine(qBU v 4 12 l _ _ hv qo qo H2.o (hc.drewN n1)).mono ?_
 rintro e w1 ⟨rfl,n2,rfl⟩
 go_wp2_with fail
 refine(qBU v 16 4 c _ _ hv qo qo H3.o (hc.drewN (n1+n2))).mono ?_
 rintro e w1 ⟨rfl,n3,rfl⟩
 go_wp2_with fail
 refine(qA4 k l c _).mono ?_
 rintro e w6 ⟨rfl,hb⟩
 rw[HR.o,HW.o]
 obtain⟨hcl,hfr⟩:=bcell hb
 have hz:=hb.size
 simp only[World.size_alloc,World.heap_drewN] at hz
 have z:=((hr0.drewN (n1+n2+n3)).alloc (.cells #[.int .i64 (k:Int),.int .i64 (l:Int),.int .i64 (c:Int)] 90)).keep hb
 obtain⟨q0,q1,q2⟩:=(((z.put 0 (.int .i64 (k:Int))).put 1 (.int .i64 (l:Int))).put 2 (.int .i64 (c:Int))).three
 go_wp2
 refine bodyPost_ret (v := .tuple #[.agg #[.int .i64 (k:Int),.int .i64 (l:Int),.int .i64 (c:Int)],.bool true]) (by simp[results,Tryz.results83,go_sem,hcl,q0,q1,q2]) rfl ⟨rfl,?_⟩
 (repeat (first|exact B0 _|(with_reducible refine Below.setCell ?_ (by first|(simp;done)|(simp;omega)) _)|(with_reducible refine Bgo ?_ hb)|(with_reducible refine qBF ?_ _)|(with_reducible refine Below.alloc ?_ (by first|(simp;done)|(simp;omega)) _)))

theorem qPz (v k l c m:Nat)(hv:v<2^32)(h1:v%16=k)(h2:v / 16%4096=l)(h3:v / 65536%16=c)(hr:infoB k l c=false)(hw:infoV k l c=m)(w:World) :
  Calls Tryz.prog 83 #[.int .u32 (v:Int)] w fun e w'=>e = .returned (.tuple #[.agg #[.int .i64 0,.int .i64 0,.int .i64 0],.bool false])/\Below w.heap.size w w':=by
 have HR:=qh hr
 have HW:=qh hw;clear hw
 have H1:=qh (show v / 2^0%2^4=k by omega)
 have H2:=qh (show v / 2^4%2^12=l by omega)
 have H3:=qh (show v / 2^16%2^4=c by omega)
 clear hr h1 h2 h3
 go_enter Tryz.func83,Tryz.ntmps83
 go_wp2_with fail
 refine(qPo 0 v qo hv _).mono ?_
 rintro e w1 ⟨rfl,rfl⟩
 rw[show 0*4294967296+v=v from by omega]
 have hc:=Held.new2 w (.cells #[.int .i64 0,.int .i64 0,.int .i64 0] 90) 137 #[.int .u64 (v:Int)]
 have hr0:=(Held.new w 90 #[.int .i64 0,.int .i64 0,.int .i64 0]).alloc (.cells #[.int .u64 (v:Int)] 137)
 go_wp2_with fail
 refine(qBU v 0 4 k _ _ hv qo qo H1.o hc).mono ?_
 rintro e w1 ⟨rfl,n1,rfl⟩
 go_wp2_with fail
 refine(qBU v 4 12 l _ _ hv qo qo H2.o (hc.drewN n1)).mono ?_
 rintro e w1 ⟨rfl,n2,rfl⟩
 go_wp2_with fail
 refine(qBU v 16 4 c _ _ hv qo qo H3.o (hc.drewN (n1+n2))).mono ?_
 rintro e w1 ⟨rfl,n3,rfl⟩
 go_wp2_with fail
 refine(qA4 k l c _).mono ?_
 rintro e w6 ⟨rfl,hb⟩
 rw[HR.o,HW.o]
 obtain⟨hcl,hfr⟩:=bcell hb
 have hz:=hb.size
 simp only[World.size_alloc,World.heap_drewN] at hz
 have z:=((hr0.drewN (n1+n2+n3)).alloc (.cells #[.int .i64 (k:Int),.int .i64 (l:Int),.int .i64 (c:Int)] 90)).keep hb
 obtain⟨q0,q1,q2⟩:=(((z.put 0 (.int .i64 0)).put 1 (.int .i64 0)).put 2 (.int .i64 0)).three
 go_wp2
 refine bodyPost_ret (v := .tuple #[.agg #[.int .i64 0,.int .i64 0,.int .i64 0],.bool false]) (by simp[results,Tryz.results83,go_sem,hcl,q0,q1,q2]) rfl ⟨rfl,?_⟩
 (repeat (first|exact B0 _|(with_reducible refine Below.setCell ?_ (by first|(simp;done)|(simp;omega)) _)|(with_reducible refine Bgo ?_ hb)|(with_reducible refine qBF ?_ _)|(with_reducible refine Below.alloc ?_ (by first|(simp;done)|(simp;omega)) _)))

theorem qON (v k l c m:Nat)(hv:v<2^32)(h1:v%16=k)(h2:v / 16%4096=l)(h3:v / 65536%16=c)(hr:infoB k l c=true)(hw:infoV k l c=m)(hn:m≠v)(w:World) :
  Calls Tryz.prog 83 #[.int .u32 (v:Int)] w fun e w'=>e = .returned (.tuple #[.agg #[.int .i64 0,.int .i64 0,.int .i64 0],.bool false])/\Below w.heap.size w w':=by
 have HR:=qh hr
 have HW:=qh hw;clear hw
 have H1:=qh (show v / 2^0%2^4=k by omega)
 have H2:=qh (show v / 2^4%2^12=l by omega)
 have H3:=qh (show v / 2^16%2^4=c by omega)
 clear hr h1 h2 h3
 go_enter Tryz.func83,Tryz.ntmps83
 go_wp2_with fail
 refine(qPo 0 v qo hv _).mono ?_
 rintro e w1 ⟨rfl,rfl⟩
 rw[show 0*4294967296+v=v from by omega]
 have hc:=Held.new2 w (.cells #[.int .i64 0,.int .i64 0,.int .i64 0] 90) 137 #[.int .u64 (v:Int)]
 have hr0:=(Held.new w 90 #[.int .i64 0,.int .i64 0,.int .i64 0]).alloc (.cells #[.int .u64 (v:Int)] 137)
 go_wp2_with fail
 refine(qBU v 0 4 k _ _ hv qo qo H1.o hc).mono ?_
 rintro e w1 ⟨rfl,n1,rfl⟩
 go_wp2_with fail
 refine(qBU v 4 12 l _ _ hv qo qo H2.o (hc.drewN n1)).mono ?_
 rintro e w1 ⟨rfl,n2,rfl⟩
 go_wp2_with fail
 refine(qBU v 16 4 c _ _ hv qo qo H3.o (hc.drewN (n1+n2))).mono ?_
 rintro e w1 ⟨rfl,n3,rfl⟩
 go_wp2_with fail
 refine(qA4 k l c _).mono ?_
 rintro e w6 ⟨rfl,hb⟩
 rw[HR.o,HW.o]
 obtain⟨hcl,hfr⟩:=bcell hb
 have hz:=hb.size
 simp only[World.size_alloc,World.heap_drewN] at hz
 have z:=((hr0.drewN (n1+n2+n3)).alloc (.cells #[.int .i64 (k:Int),.int .i64 (l:Int),.int .i64 (c:Int)] 90)).keep hb
 obtain⟨q0,q1,q2⟩:=(((z.put 0 (.int .i64 0)).put 1 (.int .i64 0)).put 2 (.int .i64 0)).three
 have t0:((m:Int) != v)=true:=qs
 have t1:((m:Int)==v)=false:=qs
 have t2:(m==v)=false:=qs
 clear hn
 go_wp2
 refine bodyPost_ret (v := .tuple #[.agg #[.int .i64 0,.int .i64 0,.int .i64 0],.bool false]) (by simp[results,Tryz.results83,go_sem,hcl,q0,q1,q2]) rfl ⟨rfl,?_⟩
 (repeat (first|exact B0 _|(with_reducible refine Below.setCell ?_ (by first|(simp;done)|(simp;omega)) _)|(with_reducible refine Bgo ?_ hb)|(with_reducible refine qBF ?_ _)|(with_reducible refine Below.alloc ?_ (by first|(simp;done)|(simp;omega)) _)))

def infoG (v:Nat):Int × Int × Int × Bool :=
 if infoB (v%16:Nat) (v / 16%4096:Nat) (v / 65536:Nat) then ((v%16:Nat),(v / 16%4096:Nat),(v / 65536:Nat),true) else (0,0,0,false)
theorem qKN {v:Nat}(h:infoB (v%16:Nat) (v / 16%4096:Nat) (v / 65536:Nat)=true):infoG v=(((v%16:Nat):Int),((v / 16%4096:Nat):Int),((v / 65536:Nat):Int),true):=by unfold infoG;rw[if_pos h]
theorem qWq {v:Nat}(h:infoB (v%16:Nat) (v / 16%4096:Nat) (v / 65536:Nat)=false):infoG v=(0,0,0,false):=by unfold infoG;rw[h];rfl
theorem qUQ (v:Nat):(infoB (v%16:Nat) (v / 16%4096:Nat) (v / 65536%16:Nat)=true/\infoV (v%16:Nat) (v / 16%4096:Nat) (v / 65536%16:Nat)=v)↔infoB (v%16:Nat) (v / 16%4096:Nat) (v / 65536:Nat)=true:=by
 constructor
 ·rintro ⟨h1,h2⟩
  rw[qXn h1] at h2
  simp only[Int.toNat_natCast] at h2
  have e:v / 65536%16=v / 65536:=qo
  rw[e] at h1
  exact h1
 ·intro h
  have h':=qLf h
  unfold infoP at h'
  have e:v / 65536%16=v / 65536:=qo
  rw[e]
  refine⟨h,?_⟩
  rw[qXn h]
  simp only[Int.toNat_natCast]
  omega
theorem qK7 {v:Nat}{k l c:Int}(h:infoG v=(k,l,c,true)):infoB k l c=true/\infoV k l c=v:=by
 cases hr:infoB (v%16:Nat) (v / 16%4096:Nat) (v / 65536:Nat)
 ·rw[qWq hr] at h;simp at h
 ·rw[qKN hr] at h
  simp only[Prod.mk.injEq,and_true] at h
  obtain⟨rfl,rfl,rfl⟩:=h
  have h2:=(qUQ v).2 hr
  have h3:=qLf hr
  unfold infoP at h3
  have e:v / 65536%16=v / 65536:=qo
  rw[e] at h2
  exact h2
theorem qLu {v:Nat}{k l c:Int}(h:infoG v=(k,l,c,false)):k=0/\l=0/\c=0:=by
 cases hr:infoB (v%16:Nat) (v / 16%4096:Nat) (v / 65536:Nat)
 ·rw[qWq hr] at h
  simp only[Prod.mk.injEq,and_true] at h
  omega
 ·rw[qKN hr] at h;simp at h
theorem qX1 {k l c:Int}(h:infoB k l c=true):infoG (infoV k l c)=(k,l,c,true):=by
 have hi:=qLf h
 unfold infoP at hi
 rw[qXn h]
 have e1:(k.toNat+16*l.toNat+65536*c.toNat)%16=k.toNat:=qo
 have e2:(k.toNat+16*l.toNat+65536*c.toNat) / 16%4096=l.toNat:=qo
 have e3:(k.toNat+16*l.toNat+65536*c.toNat) / 65536=c.toNat:=qo
 unfold infoG
 rw[e1,e2,e3,show ((k.toNat:Nat):Int)=k by omega,show ((l.toNat:Nat):Int)=l by omega,show ((c.toNat:Nat):Int)=c by omega,if_pos h]
theorem qGm (k l c:Int):infoV k l c<2^32:=by
 cases hr:infoB k l c
 ·rw[qEg hr];omega
 ·have hi:=qLf hr
  unfold infoP at hi
  rw[qXn hr]
  omega
theorem qMJ (v:Nat)(k l c:Int)(b:Bool)(hv:v<2^32)(h:infoG v=(k,l,c,b))(w:World) :
  Calls Tryz.prog 83 #[.int .u32 (v:Int)] w fun e w'=>e = .returned (.tuple #[.agg #[.int .i64 k,.int .i64 l,.int .i64 c],.bool b])/\Below w.heap.size w w':=by
 have hs:=qUQ v
 cases hr:infoB (v%16:Nat) (v / 16%4096:Nat) (v / 65536:Nat)
 ·rw[qWq hr] at h
  simp only[Prod.mk.injEq] at h
  obtain⟨rfl,rfl,rfl,rfl⟩:=h
  rw[hr] at hs
  cases h5:infoB (v%16:Nat) (v / 16%4096:Nat) (v / 65536%16:Nat)
  ·exact qPz v _ _ _ _ hv rfl rfl rfl h5 rfl w
  ·refine qON v _ _ _ _ hv rfl rfl rfl h5 rfl (fun h6=>?_) w
   have:=hs.1 ⟨h5,h6⟩
   cases this
 ·rw[qKN hr] at h
  simp only[Prod.mk.injEq] at h
  obtain⟨rfl,rfl,rfl,rfl⟩:=h
  obtain⟨h5,h6⟩:=hs.2 hr
  have hi:=qLf hr
  unfold infoP at hi
  have e:v / 65536%16=v / 65536:=qo
  have:=qCA v _ _ _ hv rfl rfl rfl h5 h6 w
  rw[e] at this
  exact this

theorem qCI (v k l c:Nat)(hv:v<2^32)(h1:v%16=k)(h2:v / 16%4096=l)(h3:v / 65536=c)(hr:infoB k l c=true)(w:World) :
  Calls Tryz.prog 82 #[.int .u32 (v:Int)] w fun e w'=>e = .returned (.tuple #[.agg #[.int .i64 (k:Int),.int .i64 (l:Int),.int .i64 (c:Int)],.bool true])/\Below w.heap.size w w':=by
 have HR:=qh hr
 clear hr
 have e1:((v:Int).tmod 16)=(k:Int):=by rw[Int.tmod_eq_emod_of_nonneg qo];omega
 have e2:(((v:Int) / 16).tmod 4096)=(l:Int):=by rw[Int.tmod_eq_emod_of_nonneg qo];omega
 have e3:((v:Int) / 65536)=(c:Int):=qo
 go_enter Tryz.func82,Tryz.ntmps82
 go_wp2_with fail
 refine(qOQ k l c _).mono ?_
 rintro e w6 ⟨rfl,hb⟩
 rw[HR.o]
 obtain⟨hcl,hfr⟩:=bcell hb
 have hz:=hb.size
 simp only[World.size_alloc,World.heap_drewN] at hz
 have z:=((Held.new w 90 #[.int .i64 0,.int .i64 0,.int .i64 0]).alloc (.cells #[.int .i64 (k:Int),.int .i64 (l:Int),.int .i64 (c:Int)] 90)).keep hb
 obtain⟨q0,q1,q2⟩:=(((z.put 0 (.int .i64 (k:Int))).put 1 (.int .i64 (l:Int))).put 2 (.int .i64 (c:Int))).three
 go_wp2
 refine bodyPost_ret (v := .tuple #[.agg #[.int .i64 (k:Int),.int .i64 (l:Int),.int .i64 (c:Int)],.bool true]) (by simp[results,Tryz.results82,go_sem,hcl,q0,q1,q2]) rfl ⟨rfl,?_⟩
 (repeat (first|exact B0 _|(with_reducible refine Below.setCell ?_ (by first|(simp;done)|(simp;omega)) _)|(with_reducible refine Bgo ?_ hb)|(with_reducible refine qBF ?_ _)|(with_reducible refine Below.alloc ?_ (by first|(simp;done)|(simp;omega)) _)))

theorem qSK (v k l c:Nat)(hv:v<2^32)(h1:v%16=k)(h2:v / 16%4096=l)(h3:v / 65536=c)(hr:infoB k l c=false)(w:World) :
  Calls Tryz.prog 82 #[.int .u32 (v:Int)] w fun e w'=>e = .returned (.tuple #[.agg #[.int .i64 0,.int .i64 0,.int .i64 0],.bool false])/\Below w.heap.size w w':=by
 have HR:=qh hr
 clear hr
 have e1:((v:Int).tmod 16)=(k:Int):=by rw[Int.tmod_eq_emod_of_nonneg qo];omega
 have e2:(((v:Int) / 16).tmod 4096)=(l:Int):=by rw[Int.tmod_eq_emod_of_nonneg qo];omega
 have e3:((v:Int) / 65536)=(c:Int):=qo
 go_enter Tryz.func82,Tryz.ntmps82
 go_wp2_with fail
 refine(qOQ k l c _).mono ?_
 rintro e w6 ⟨rfl,hb⟩
 rw[HR.o]
 obtain⟨hcl,hfr⟩:=bcell hb
 have hz:=hb.size
 simp only[World.size_alloc,World.heap_drewN] at hz
 have z:=((Held.new w 90 #[.int .i64 0,.int .i64 0,.int .i64 0]).alloc (.cells #[.int .i64 (k:Int),.int .i64 (l:Int),.int .i64 (c:Int)] 90)).keep hb
 obtain⟨q0,q1,q2⟩:=(((z.put 0 (.int .i64 0)).put 1 (.int .i64 0)).put 2 (.int .i64 0)).three
 go_wp2
 refine bodyPost_ret (v := .tuple #[.agg #[.int .i64 0,.int .i64 0,.int .i64 0],.bool false]) (by simp[results,Tryz.results82,go_sem,hcl,q0,q1,q2]) rfl ⟨rfl,?_⟩
 (repeat (first|exact B0 _|(with_reducible refine Below.setCell ?_ (by first|(simp;done)|(simp;omega)) _)|(with_reducible refine Bgo ?_ hb)|(with_reducible refine qBF ?_ _)|(with_reducible refine Below.alloc ?_ (by first|(simp;done)|(simp;omega)) _)))

theorem qRV (v:Nat)(k l c:Int)(b:Bool)(hv:v<2^32)(h:infoG v=(k,l,c,b))(w:World) :
  Calls Tryz.prog 82 #[.int .u32 (v:Int)] w fun e w'=>e = .returned (.tuple #[.agg #[.int .i64 k,.int .i64 l,.int .i64 c],.bool b])/\Below w.heap.size w w':=by
 cases hr:infoB (v%16:Nat) (v / 16%4096:Nat) (v / 65536:Nat)
 ·rw[qWq hr] at h
  simp only[Prod.mk.injEq] at h
  obtain⟨rfl,rfl,rfl,rfl⟩:=h
  exact qSK v _ _ _ hv rfl rfl rfl hr w
 ·rw[qKN hr] at h
  simp only[Prod.mk.injEq] at h
  obtain⟨rfl,rfl,rfl,rfl⟩:=h
  exact qCI v _ _ _ hv rfl rfl rfl hr w
end
section
def ofI (n:Int):Int:=if n<1\/1024<n then -1 else HM.logI n
theorem qIH {n:Nat}(h1:1<=n)(h2:n<=1024):∃ k:Nat,ofI (n:Int)=k/\k<=10/\2^k<=n/\n<2^(k+1):=by
 have h:∃ k:Nat,k<=10/\2^k<=n/\n<2^(k+1):=by
  exact Mnr
 obtain⟨k,hk,ha,hb⟩:=h
 refine⟨k,?_,hk,ha,hb⟩
 unfold ofI
 rw[if_neg qo]
 exact HM.logI_at (n:Int) k (by
  have e:((n:Int) / 2^k)=((n / 2^k:Nat):Int):=by push_cast;rfl
  rw[e]
  have:=Nat.div_le_div_right (c:=2^k) ha
  rw[Nat.div_self (Nat.two_pow_pos k)] at this
  omega) (by
  have e:((n:Int) / 2^(k+1))=((n / 2^(k+1):Nat):Int):=by push_cast;rfl
  rw[e,Nat.div_eq_of_lt hb]
  omega)

def fitB (nn:Int) (v:Nat):Bool:=decide ((infoG v).1=1)&&decide (nn<=(infoG v).2.1)
section
variable (n : Nat) (K : Nat -> Option Nat) (t q s nn : Int)
def lookF:Nat->Nat->Vst->Option Nat × Vst
  | 0,_,st=>(none,st)
  | m + 1,l,st=>if 1<=l/\(l:Int)<=q then
      (if fitB nn (getV n K st (pageI t q s ((l:Int)-1) 0))=true then (some (l-1),getS n K st (pageI t q s ((l:Int)-1) 0))
       else lookF m (getV n K (getS n K st (pageI t q s ((l:Int)-1) 0)) (pageI t q s ((l:Int)-1) 2)) (getS n K (getS n K st (pageI t q s ((l:Int)-1) 0)) (pageI t q s ((l:Int)-1) 2)))
    else (none,st)
def nextF:Nat->Nat->Vst->Option Nat × Vst
 | 0,_,st=>(none,st)
 | j+1,k,st=>if 1<=getV n K st ((2+k:Nat):Int)/\((getV n K st ((2+k:Nat):Int):Nat):Int)<=q then (some (getV n K st ((2+k:Nat):Int)-1),getS n K st ((2+k:Nat):Int))
  else nextF j (k+1) (getS n K st ((2+k:Nat):Int))
def findF (k:Nat) (st:Vst):Option Nat × Vst :=
 let r:=lookF n K t q s nn q.toNat (getV n K st ((2+k:Nat):Int)) (getS n K st ((2+k:Nat):Int))
 match r.1 with
 | some p=>(some p,r.2)
 | none=>nextF n K q (11-(k+1)) (k+1) r.2
theorem qFQ {m l:Nat}{st:Vst}(h:¬ (1<=l/\(l:Int)<=q)):lookF n K t q s nn m l st=(none,st):=by
 cases m with
 | zero=>rfl
 | succ m=>rw[lookF,if_neg h]
theorem qVy {m l:Nat}{st:Vst}(h:1<=l/\(l:Int)<=q)(hv:fitB nn (getV n K st (pageI t q s ((l:Int)-1) 0))=true):lookF n K t q s nn (m+1) l st=(some (l-1),getS n K st (pageI t q s ((l:Int)-1) 0)):=by
 rw[lookF,if_pos h,if_pos hv]
theorem qE7 {m l:Nat}{st:Vst}(h:1<=l/\(l:Int)<=q)(hv:fitB nn (getV n K st (pageI t q s ((l:Int)-1) 0))=false) :
  lookF n K t q s nn (m+1) l st=lookF n K t q s nn m (getV n K (getS n K st (pageI t q s ((l:Int)-1) 0)) (pageI t q s ((l:Int)-1) 2)) (getS n K (getS n K st (pageI t q s ((l:Int)-1) 0)) (pageI t q s ((l:Int)-1) 2)):=by
 rw[lookF,if_pos h,if_neg (by rw[hv];simp)]
theorem qRa {j k:Nat}{st:Vst}(h:1<=getV n K st ((2+k:Nat):Int)/\((getV n K st ((2+k:Nat):Int):Nat):Int)<=q):nextF n K q (j+1) k st=(some (getV n K st ((2+k:Nat):Int)-1),getS n K st ((2+k:Nat):Int)):=by
 rw[nextF,if_pos h]
theorem qXY {j k:Nat}{st:Vst}(h:¬ (1<=getV n K st ((2+k:Nat):Int)/\((getV n K st ((2+k:Nat):Int):Nat):Int)<=q)):nextF n K q (j+1) k st=nextF n K q j (k+1) (getS n K st ((2+k:Nat):Int)):=by
 rw[nextF,if_neg h]
end

def binH (nn:Int):Int:=nthI 2 11 1 (ofI nn)
theorem qHt {nn k:Nat}(h:ofI (nn:Int)=(k:Int))(hk:k<=10):binH (nn:Int)=((2+k:Nat):Int):=by
 unfold binH
 rw[h,qLq qo qo qo]
 push_cast
 omega
section
variable (n : Nat) (K : Nat -> Option Nat) (t q s : Int)
def infoOf (p:Int) (st:Vst):Int × Int × Int × Bool:=infoG (getV n K st (pageI t q s p 0))
def dropV (p:Int) (st:Vst):Int:=if pgB q p then (if (infoOf n K t q s p st).1=1 then (infoOf n K t q s p st).2.1 else 0) else 0
def dropS (p:Int) (st:Vst):Vst:=if pgB q p then (if (infoOf n K t q s p st).1=1 then pullI n K t q s (binH (infoOf n K t q s p st).2.1) p (getS n K st (pageI t q s p 0)) else getS n K st (pageI t q s p 0)) else st
def addS (p nn:Int) (st:Vst):Vst:=if pgB q p=true/\1<=nn/\nn<=q-p then pushI n K t q s (binH nn) p (putS n (putS n st (pageI t q s p 0) (infoV 1 nn 0)) (pageI t q s (p+nn-1) 1) (p.toNat+1)) else st
end
def foundI (o:Option Nat):Int:=match o with
 | some p=>(p:Int)
 | none=>0
def findI (n:Nat) (K:Nat->Option Nat) (t q s nn:Int) (st:Vst):Option Nat × Vst:=if 1<=nn/\nn<=q then findF n K t q s nn (ofI nn).toNat st else (none,st)
theorem qYH {n:Nat}{K:Nat->Option Nat}{t q s nn:Int}{st:Vst}(h:¬ (1<=nn/\nn<=q)):findI n K t q s nn st=(none,st):=by unfold findI;rw[if_neg h]
theorem qSw {n:Nat}{K:Nat->Option Nat}{t q s nn:Int}{st:Vst}{own:Nat}(ho:ofI nn=(own:Int))(h1:1<=nn)(h2:nn<=q):findI n K t q s nn st=findF n K t q s nn own st:=by
 unfold findI
 rw[if_pos ⟨h1,h2⟩,ho,Int.toNat_natCast]
end
section
theorem Held.seven {w:World}{g:Nat}{t:TypeId}{c0 c1 c2 c3 c4 c5 c6:Value}(h:Held w g t #[c0,c1,c2,c3,c4,c5,c6]):w.cell? ⟨g,0,none⟩=some c0/\w.cell? ⟨g,1,none⟩=some c1/\w.cell? ⟨g,2,none⟩=some c2/\w.cell? ⟨g,3,none⟩=some c3/\w.cell? ⟨g,4,none⟩=some c4/\w.cell? ⟨g,5,none⟩=some c5/\w.cell? ⟨g,6,none⟩=some c6 :=
 ⟨h.cell 0,h.cell 1,h.cell 2,h.cell 3,h.cell 4,h.cell 5,h.cell 6⟩
theorem Held.thawed7 {w:World}{g:Nat}{t:TypeId}{cs:Array Value}(h:Held w g t cs):w.frozen? ⟨g,0,none⟩=false/\w.frozen? ⟨g,1,none⟩=false/\w.frozen? ⟨g,2,none⟩=false/\w.frozen? ⟨g,3,none⟩=false/\w.frozen? ⟨g,4,none⟩=false/\w.frozen? ⟨g,5,none⟩=false/\w.frozen? ⟨g,6,none⟩=false :=
 ⟨h.thawed 0,h.thawed 1,h.thawed 2,h.thawed 3,h.thawed 4,h.thawed 5,h.thawed 6⟩

theorem qOd (f n e i:Int)(f0 : -1<=f)(f1:f<=20000)(n0:0<=n)(n1:n<=10000)(e0:0<=e)(e1:e<=120)(w:World) :
  Calls Tryz.prog 131 #[.int .i64 f,.int .i64 n,.int .i64 e,.int .i64 i] w fun z w'=>z = .returned (.int .i64 (nthI f n e i))/\w=w':=by
 by_cases c0:f = -1
 ·subst c0
  have HN:=qh (qJo (f := -1) (n:=n) (e:=e) (i:=i) (.inl rfl))
  exact Mbg
 ·have q0:(f == -1)=false:=by simpa using c0
  by_cases c1:i<0
  ·have HN:=qh (qJo (f:=f) (n:=n) (e:=e) (i:=i) (.inr (.inl c1)))
   exact Mbg
  ·by_cases c2:n<=i
   ·have HN:=qh (qJo (f:=f) (n:=n) (e:=e) (i:=i) (.inr (.inr c2)))
    exact Mbg
   ·have HN:=qh (qLq (f:=f) (n:=n) (e:=e) (i:=i) c0 qo qo)
    have p0:0<=i*e:=Int.mul_nonneg qo e0
    have p1:i*e<=10000*120:=Int.mul_le_mul qo e1 e0 qo
    obtain⟨y,hy⟩:∃ y,i*e=y:=⟨_,rfl⟩
    have HY:=qh hy
    rw[hy] at p0 p1
    go_enter Tryz.func131,Tryz.ntmps131
    go_wp2
    go_ret
    exact⟨by rw[HN.o,HY.o];rfl,rfl⟩

theorem qL2 (i:Nat)(h:i<=10000)(w:World) :
  Calls Tryz.prog 153 #[.int .i64 (i:Int)] w fun z w'=>z = .returned (.int .i64 (((i+7) / 8*8:Nat):Int))/\w=w':=by
 go_enter Tryz.func153,Tryz.ntmps153
 go_wp2
 go_ret
 refine⟨qYg ?_,rfl⟩
 simp
 omega
theorem qM0 (i y:Int)(h0:0<=i)(h:i<=10000)(hy:(i+7) / 8*8=y)(w:World) :
  Calls Tryz.prog 153 #[.int .i64 i] w fun z w'=>z = .returned (.int .i64 y)/\w=w':=by
 obtain⟨n,rfl⟩:∃ n:Nat,i=n:=⟨i.toNat,qo⟩
 have e:y=(((n+7) / 8*8:Nat):Int):=qo
 rw[e]
 exact qL2 n qo w

theorem qRh (t p s:Int)(hr:rightB t p s=false)(w:World) :
  Calls Tryz.prog 145 #[.agg #[.int .i64 t,.int .i64 p,.int .i64 s]] w fun z w'=>z = .returned (.agg #[.int .i64 0,.int .i64 0,.int .i64 0,.int .i64 0,.int .i64 0,.int .i64 0,.int .i64 0])/\Below w.heap.size w w':=by
 have HK:=qh (qFe hr)
 have hl:=Held.new2 w (.cells #[.int .i64 t,.int .i64 p,.int .i64 s] 23) 157 #[.int .i64 0,.int .i64 0,.int .i64 0,.int .i64 0,.int .i64 0,.int .i64 0,.int .i64 0]
 clear hr
 go_enter Tryz.func145,Tryz.ntmps145
 go_wp2_with fail
 refine(qI2 t p s _).mono ?_
 rintro e w1 ⟨rfl,hb1⟩
 rw[HK.o]
 have hz:=hb1.size
 have hl1:=hl.keep hb1
 obtain⟨z0,z1,z2,z3,z4,z5,z6⟩:=hl1.seven
 obtain⟨f0,f1,f2,f3,f4,f5,f6⟩:=hl1.thawed7
 go_wp2
 refine bodyPost_ret (v := .agg #[.int .i64 0,.int .i64 0,.int .i64 0,.int .i64 0,.int .i64 0,.int .i64 0,.int .i64 0]) (by simp[results,Tryz.results145,go_sem,z0,z1,z2,z3,z4,z5,z6]) rfl ⟨rfl,?_⟩
 exact Bput (Bput (Bput (Bput (Bput (Bput (Bput (Bgo (Bnew (Bnew (B0 _) _) _) hb1) (Nat.le_succ _) _) (Nat.le_succ _) _) (Nat.le_succ _) _) (Nat.le_succ _) _) (Nat.le_succ _) _) (Nat.le_succ _) _) (Nat.le_succ _) _

theorem qWr (a b:Nat)(s:Int)(hr:rightB a b s=true)(w:World) :
  Calls Tryz.prog 145 #[.agg #[.int .i64 (a:Int),.int .i64 (b:Int),.int .i64 s]] w fun z w'=>z = .returned (.agg #[.int .i64 (a:Int),.int .i64 (b:Int),.int .i64 s,.int .i64 (30+4*a:Int),.int .i64 (30+4*a+6*b:Int),.int .i64 ((16+(30+4*a+6*b)+7) / 8*8:Int),.int .i64 (a+1:Int)])/\Below w.heap.size w w':=by
 have HK:=qh (qU9 hr)
 have hn:=(qQB a b s).1 hr
 have a1:a<=16:=qo
 have b1:b<=1024:=qo
 obtain⟨y,hy⟩:∃ y:Int,((16+(30+4*(a:Int)+6*(b:Int))+7) / 8*8:Int)=y:=⟨_,rfl⟩
 have HY:=qh hy
 rw[hy]
 have hd:=(Held.new w 23 #[.int .i64 a,.int .i64 b,.int .i64 s]).alloc (.cells #[.int .i64 0,.int .i64 0,.int .i64 0,.int .i64 0,.int .i64 0,.int .i64 0,.int .i64 0] 157)
 have hl:=Held.new2 w (.cells #[.int .i64 a,.int .i64 b,.int .i64 s] 23) 157 #[.int .i64 0,.int .i64 0,.int .i64 0,.int .i64 0,.int .i64 0,.int .i64 0,.int .i64 0]
 clear hr hn hy
 go_enter Tryz.func145,Tryz.ntmps145
 go_wp2_with fail
 refine(qI2 a b s _).mono ?_
 rintro e w1 ⟨rfl,hb1⟩
 rw[HK.o]
 have hz:=hb1.size
 have hd1:=hd.keep hb1
 have hl1:=hl.keep hb1
 obtain⟨x0,x1,x2⟩:=hd1.three
 obtain⟨z0,z1,z2,z3,z4,z5,z6⟩:=hl1.seven
 obtain⟨f0,f1,f2,f3,f4,f5,f6⟩:=hl1.thawed7
 have hlt:=hl1.lt
 clear hd hl
 go_wp2_with fail
 refine(qM0 _ y qo qo HY.o _).mono ?_
 rintro e w2 ⟨rfl,rfl⟩
 go_wp2
 have hfin:=(((((((hl1.put 0 (.int .i64 (a:Int))).put 1 (.int .i64 (b:Int))).put 2 (.int .i64 s)).put 3 (.int .i64 (30+4*a:Int))).put 4 (.int .i64 (30+4*a+6*b:Int))).put 5 (.int .i64 y)).put 6 (.int .i64 (a+1:Int))).alloc
  (.cells #[.int .i64 (a:Int),.int .i64 (b:Int),.int .i64 s,.int .i64 (30+4*a:Int),.int .i64 (30+4*a+6*b:Int),.int .i64 y,.int .i64 (a+1:Int)] 157)
 obtain⟨r0,r1,r2,r3,r4,r5,r6⟩:=hfin.seven
 refine bodyPost_ret (v := .agg #[.int .i64 (a:Int),.int .i64 (b:Int),.int .i64 s,.int .i64 (30+4*a:Int),.int .i64 (30+4*a+6*b:Int),.int .i64 y,.int .i64 (a+1:Int)]) (by simp[results,Tryz.results145,go_sem,r0,r1,r2,r3,r4,r5,r6]) rfl ⟨rfl,?_⟩
 exact Bnew (Bput (Bput (Bput (Bput (Bput (Bput (Bput (Bgo (Bnew (Bnew (B0 _) _) _) hb1) (Nat.le_succ _) _) (Nat.le_succ _) _) (Nat.le_succ _) _) (Nat.le_succ _) _) (Nat.le_succ _) _) (Nat.le_succ _) _) (Nat.le_succ _) _) _

theorem qFZ (t p s T P S A C M K:Int)(h:qWg t p s T P S A C M K)(w:World) :
  Calls Tryz.prog 145 #[.agg #[.int .i64 t,.int .i64 p,.int .i64 s]] w fun z w'=>z = .returned (.agg #[.int .i64 T,.int .i64 P,.int .i64 S,.int .i64 A,.int .i64 C,.int .i64 M,.int .i64 K])/\Below w.heap.size w w':=by
 obtain⟨rfl,rfl,rfl,rfl,rfl,rfl,rfl⟩:=h
 cases hr:rightB t p s
 ·obtain⟨e1,e2,e3,e4,e5,e6,e7⟩:=qJj hr
  rw[e1,e2,e3,e4,e5,e6,e7]
  exact qRh t p s hr w
 ·obtain⟨e1,e2,e3,e4,e5,e6,e7⟩:=qVu hr
  rw[e1,e2,e3,e4,e5,e6,e7]
  have hn:=(qQB t p s).1 hr
  obtain⟨a,rfl⟩:∃ a:Nat,t=a:=⟨t.toNat,qo⟩
  obtain⟨b,rfl⟩:∃ b:Nat,p=b:=⟨p.toNat,qo⟩
  exact qWr a b s hr w
theorem qIg (t p s:Int):∃ T P S A C M K:Int,qWg t p s T P S A C M K/\(0<=T/\T<=16)/\(0<=P/\P<=1024)/\(0<=A/\A<=94)/\(0<=C/\C<=6238)/\(0<=M/\M<=6256)/\(0<=K/\K<=17)/\M%8=0 :=
 ⟨_,_,_,_,_,_,_,⟨rfl,rfl,rfl,rfl,rfl,rfl,rfl⟩,qQI t p s⟩

theorem qB1 (k:Int)(w:World) :
  Calls Tryz.prog 107 #[.int .i64 k] w fun z w'=>z = .returned (.int .i64 (nthI 2 11 1 k))/\w=w':=by
 go_enter Tryz.func107,Tryz.ntmps107
 go_wp2_with fail
 refine(qOd 2 11 1 k qo qo qo qo qo qo _).mono ?_
 rintro e w1 ⟨rfl,rfl⟩
 go_wp2
 go_ret
 exact⟨by first|rfl|trivial,by first|rfl|trivial⟩

theorem qHn (t p s q b:Int)(w:World) :
  Calls Tryz.prog 125 #[.agg #[.int .i64 t,.int .i64 p,.int .i64 s],.int .i64 q,.int .i64 b] w fun z w'=>z = .returned (.int .i64 (pageI t p s q b))/\Below w.heap.size w w':=by
 obtain⟨T,P,S,A,C,M,K,HL,⟨t0,t1⟩,⟨p0,p1⟩,⟨a0,a1⟩,⟨c0,c1⟩,⟨m0,m1⟩,⟨k0,k1⟩,-⟩:=qIg t p s
 have HR:=qh (show pageI t p s q b=nthI (nthI A P 6 q) 6 1 b by unfold pageI;rw[HL.hA,HL.hP])
 have hB:=qOD (f:=A) (n:=P) (e:=6) (i:=q) (B:=6256) qo qo qo qo
 obtain⟨y,hy⟩:∃ y,nthI A P 6 q=y:=⟨_,rfl⟩
 rw[hy] at hB HR
 have HY:=qh hy
 clear hy
 have hfd:∀ w:World,(Instr.field 157 (.agg #[.int .i64 T,.int .i64 P,.int .i64 S,.int .i64 A,.int .i64 C,.int .i64 M,.int .i64 K]) 0).run Tryz.prog w = .ok (.agg #[.int .i64 T,.int .i64 P,.int .i64 S]) w:=fun _=>by kernel_rfl
 have hfd2:∀ w:World,(Instr.field 23 (.agg #[.int .i64 T,.int .i64 P,.int .i64 S]) 0).run Tryz.prog w = .ok (.int .i64 T) w:=fun _=>by kernel_rfl
 go_enter Tryz.func125,Tryz.ntmps125
 go_wp2_with fail
 refine(qFZ t p s T P S A C M K HL _).mono ?_
 rintro e w1 ⟨rfl,hb1⟩
 go_wp2_with fail
 refine(qOd A P 6 q qo qo qo qo qo qo _).mono ?_
 rintro e w2 ⟨rfl,rfl⟩
 rw[HY.o]
 go_wp2_with fail
 refine(qOd y 6 1 b qo qo qo qo qo qo _).mono ?_
 rintro e w3 ⟨rfl,rfl⟩
 go_wp2
 go_ret
 refine⟨by rw[HR.o];rfl,?_⟩
 all_goals exact blz

theorem qSM (t p s q:Int)(w:World) :
  Calls Tryz.prog 84 #[.agg #[.int .i64 t,.int .i64 p,.int .i64 s],.int .i64 q] w fun z w'=>z = .returned (.int .i64 (pageI t p s q 0))/\Below w.heap.size w w':=by
 go_enter Tryz.func84,Tryz.ntmps84
 go_wp2_with fail
 refine(qHn t p s q 0 _).mono ?_
 rintro e w1 ⟨rfl,hb1⟩
 go_wp2
 go_ret
 exact⟨by first|rfl|trivial,Bgo (Bnew (B0 _) _) hb1⟩

theorem qVL (t p s q:Int)(w:World) :
  Calls Tryz.prog 114 #[.agg #[.int .i64 t,.int .i64 p,.int .i64 s],.int .i64 q] w fun z w'=>z = .returned (.int .i64 (pageI t p s q 1))/\Below w.heap.size w w':=by
 go_enter Tryz.func114,Tryz.ntmps114
 go_wp2_with fail
 refine(qHn t p s q 1 _).mono ?_
 rintro e w1 ⟨rfl,hb1⟩
 go_wp2
 go_ret
 exact⟨by first|rfl|trivial,Bgo (Bnew (B0 _) _) hb1⟩

theorem qAT (t p s q:Int)(w:World) :
  Calls Tryz.prog 111 #[.agg #[.int .i64 t,.int .i64 p,.int .i64 s],.int .i64 q] w fun z w'=>z = .returned (.int .i64 (pageI t p s q 2))/\Below w.heap.size w w':=by
 go_enter Tryz.func111,Tryz.ntmps111
 go_wp2_with fail
 refine(qHn t p s q 2 _).mono ?_
 rintro e w1 ⟨rfl,hb1⟩
 go_wp2
 go_ret
 exact⟨by first|rfl|trivial,Bgo (Bnew (B0 _) _) hb1⟩

theorem qGM (t p s q:Int)(w:World) :
  Calls Tryz.prog 149 #[.agg #[.int .i64 t,.int .i64 p,.int .i64 s],.int .i64 q] w fun z w'=>z = .returned (.int .i64 (pageI t p s q 3))/\Below w.heap.size w w':=by
 go_enter Tryz.func149,Tryz.ntmps149
 go_wp2_with fail
 refine(qHn t p s q 3 _).mono ?_
 rintro e w1 ⟨rfl,hb1⟩
 go_wp2
 go_ret
 exact⟨by first|rfl|trivial,Bgo (Bnew (B0 _) _) hb1⟩
end
section
def slotN (k:Nat):Nat:=([32,21,16,10,8,5,4,3,2]:List Nat).getD k 0
def slotI (k:Int):Nat:=if 0<=k then slotN k.toNat else 0
theorem qPN (k:Nat):slotI (k:Int)=slotN k:=by unfold slotI;simp
theorem qLI {k:Nat}(h:9<=k):slotN k=0:=by unfold slotN;simp[List.getD,List.getElem?_eq_none (show ([32,21,16,10,8,5,4,3,2]:List Nat).length<=k by simpa using h)]
theorem qXI {k:Int}(h:k<0\/9<=k):slotI k=0:=by
 unfold slotI
 split
 ·exact qLI qo
 ·rfl
theorem qD7 {k:Nat}(h:k<9):2<=slotN k/\slotN k<=32:=by
 have:∀ j,j<9->2<=slotN j/\slotN j<=32:=by decide
 exact this k h
theorem qWU (k:Int):slotI k<=32:=by
 by_cases h:0<=k/\k<9
 ·have:=qD7 (k:=k.toNat) qo
  unfold slotI;rw[if_pos h.1];omega
 ·rw[qXI qo];omega
theorem qFH {k:Int}:slotI k=0↔k<0\/9<=k:=by
 constructor
 ·intro h
  by_cases hk:0<=k/\k<9
  ·have:=qD7 (k:=k.toNat) qo
   unfold slotI at h;rw[if_pos hk.1] at h;omega
  ·omega
 ·exact qXI

def pageS (s:Int):Nat:=pageN 1 4 s
theorem qT6 {s:Int}(h:s<10\/20<s):pageS s=0:=qAf (qS8 qo)
theorem qVt {s:Int}(h:10<=s/\s<=20):pageS s=2^s.toNat:=qXq (qV7 qo)
theorem qQS (s:Int):pageS s<=1048576:=by
 by_cases h:10<=s/\s<=20
 ·rw[qVt h]
  exact(qDn _ qo).2
 ·rw[qT6 qo];omega
def sizeN (s k:Int):Nat:=pageS s / slotI k-pageS s / slotI k%16
theorem qHU (s k:Int):sizeN s k<=1048576:=by
 have h1:=qQS s
 have h2:=Nat.div_le_self (pageS s) (slotI k)
 unfold sizeN
 generalize pageS s / slotI k=q at *
 omega
theorem qOi:∀ s:Nat,s<11->∀ k:Nat,k<9 ->
  let z:=2^(s+10) / slotN k-2^(s+10) / slotN k%16
  z%16=0/\16<=z/\z*slotN k<=2^(s+10)/\z<=2^(s+10) / 2/\(k=8->z=2^(s+10) / 2) /\
   (0<k->2^(s+10) / slotN (k-1)-2^(s+10) / slotN (k-1)%16<z):=by decide +kernel

theorem qAS {s:Int}(h:10<=s/\s<=20)(k:Nat):sizeN s (k:Int)=2^(s.toNat-10+10) / slotN k-2^(s.toNat-10+10) / slotN k%16:=by
 unfold sizeN
 rw[qVt h,qPN,show s.toNat-10+10=s.toNat by omega]
theorem qRy {s:Int}(h:10<=s/\s<=20){k:Nat}(hk:k<9) :
  sizeN s (k:Int)%16=0/\16<=sizeN s (k:Int)/\sizeN s (k:Int)*slotN k<=pageS s/\sizeN s (k:Int)<=pageS s / 2/\(k=8->sizeN s (k:Int)=pageS s / 2) /\
   (0<k->sizeN s ((k-1:Nat):Int)<sizeN s (k:Int)):=by
 have:=qOi (s.toNat-10) qo k hk
 simp only[] at this
 rw[qAS h k,qAS h (k-1),qVt h,show s.toNat=s.toNat-10+10 by omega]
 simpa using this
theorem qKt {s:Int}(h:10<=s/\s<=20){k:Nat}(hk:k<9):0<sizeN s (k:Int):=by
 have:=(qRy h hk).2.1
 omega
end
section
def addrB (t p s i o:Int):Bool:=rightB t p s&&decide ((0<=i/\i<p)/\0<=o/\o<(pageN t p s:Int))
def addrI (t p s i o:Int):Int:=if addrB t p s i o then (i+1)*(pageN t p s:Int)+o else 0
def spotB (t p s a:Int):Bool:=decide ((pageN t p s:Int)<=a/\a-pageN t p s<(bytesN t p s:Int))
def spotP (t p s a:Int):Int:=if spotB t p s a then a / (pageN t p s:Int)-1 else 0
def spotO (t p s a:Int):Int:=if spotB t p s a then a%(pageN t p s:Int) else 0
def addrW (i o:Int) (g:Nat):Int:=IntKind.i64.wrap (IntKind.i64.wrap (IntKind.i64.wrap (i+1)*(g:Int))+o)

theorem qIv {x:Int}(h : -9223372036854775808<=x)(h':x<=9223372036854775807):IntKind.i64.wrap x=x:=by
 exact MMY

theorem qNo {t p s:Int}(h:rightB t p s=true):∃ g q:Nat,pageN t p s=g/\p=q/\bytesN t p s=q*g/\4<=q/\q<=1024/\1024<=g/\g<=1048576/\g=2^s.toNat/\10<=s/\s<=20/\q*g<=1073741824:=by
 obtain⟨_,⟨hp,hp'⟩,hs,hs'⟩:=(qQB t p s).1 h
 refine⟨2^s.toNat,p.toNat,qXq h,qo,qDH h,qo,qo,?_,?_,rfl,hs,hs',?_⟩
 ·have:=Nat.pow_le_pow_right (show 0<2 by omega) (show 10<=s.toNat by omega)
  omega
 ·exact(qDn _ qo).2
 ·have h1:=(qDn s.toNat qo).2
  have h2:p.toNat*2^s.toNat<=1024*1048576:=Nat.mul_le_mul qo h1
  omega
theorem qF0 {t p s:Int}(h:rightB t p s=false):pageN t p s=0/\bytesN t p s=0:=⟨qAf h,qNu h⟩

theorem qXm {t p s a:Int}(h:spotB t p s a=true):rightB t p s=true:=by
 cases hr:rightB t p s
 ·obtain⟨h1,h2⟩:=qF0 hr
  unfold spotB at h
  rw[h1,h2] at h
  simp at h
  omega
 ·rfl
theorem qAj {g i o:Int}(hg:0<g)(ho:0<=o)(ho':o<g):((i+1)*g+o) / g=i+1/\((i+1)*g+o)%g=o:=by
 constructor
 ·rw[Int.add_comm,Int.add_mul_ediv_right _ _ qo,Int.ediv_eq_zero_of_lt ho ho'];omega
 ·rw[Int.add_comm,Int.add_mul_emod_self_right,Int.emod_eq_of_lt ho ho']
theorem qF1 {i q g:Int}(h0:0<=i)(hi:i<q)(hg:0<g):g<=(i+1)*g/\(i+1)*g<=q*g:=by
 have h1:(0:Int)<=i*g:=Int.mul_nonneg h0 qo
 have h2:(i+1)*g<=q*g:=Int.mul_le_mul_of_nonneg_right qo qo
 have h3:(i+1)*g=i*g+g:=by rw[Int.add_mul];omega
 omega

theorem qRw {t p s i o:Int}(h:addrB t p s i o=true):rightB t p s=true/\(0<=i/\i<p)/\0<=o/\o<(pageN t p s:Int):=by
 unfold addrB at h
 simpa using h
theorem qNk {t p s i o:Int}(h:addrB t p s i o=true) :
  addrW i o (pageN t p s)=addrI t p s i o/\spotB t p s (addrI t p s i o)=true/\spotP t p s (addrI t p s i o)=i/\spotO t p s (addrI t p s i o)=o/\1024<=addrI t p s i o/\addrI t p s i o<=1075838976:=by
 obtain⟨hr,⟨hi,hi'⟩,ho,ho'⟩:=qRw h
 obtain⟨g,q,hg,rfl,hb,q1,q2,g1,g2,_,_,_,qg⟩:=qNo hr
 rw[hg] at ho'
 have hm:=qF1 hi hi' (show (0:Int)<g by omega)
 have hsp:=qAj (i:=i) (show (0:Int)<g by omega) ho ho'
 have hqg:((q*g:Nat):Int)=(q:Int)*(g:Int):=by push_cast;rfl
 have hI:addrI t q s i o=(i+1)*(g:Int)+o:=by unfold addrI;rw[if_pos h,hg]
 have hB:spotB t q s ((i+1)*(g:Int)+o)=true:=by
  unfold spotB
  rw[hg,hb,decide_eq_true_iff,hqg]
  omega
 rw[hI]
 refine⟨?_,hB,?_,?_,qo,qo⟩
 ·unfold addrW
  rw[hg,qIv (x:=i+1) qo qo,qIv (x:=(i+1)*(g:Int)) qo qo,qIv qo qo]
 ·unfold spotP
  rw[if_pos hB,hg,hsp.1]
  omega
 ·unfold spotO
  rw[if_pos hB,hg,hsp.2]
theorem qSv {t p s a:Int}(h:spotB t p s a=true) :
  addrB t p s (spotP t p s a) (spotO t p s a)=true/\addrI t p s (spotP t p s a) (spotO t p s a)=a/\1024<=a/\a<=1074790400/\(0<=spotP t p s a/\spotP t p s a<1024)/\0<=spotO t p s a/\spotO t p s a<1048576:=by
 have hr:=qXm h
 have h':=h
 unfold spotB at h'
 rw[decide_eq_true_iff] at h'
 obtain⟨g,q,hg,rfl,hb,q1,q2,g1,g2,_,_,_,qg⟩:=qNo hr
 rw[hg,hb] at h'
 have hP:spotP t q s a=a / (g:Int)-1:=by unfold spotP;rw[if_pos h,hg]
 have hO:spotO t q s a=a%(g:Int):=by unfold spotO;rw[if_pos h,hg]
 rw[hP,hO]
 have hqg:((q*g:Nat):Int)=(q:Int)*(g:Int):=by push_cast;rfl
 have m0:=Int.emod_nonneg a (show (g:Int)≠0 by omega)
 have m1:=Int.emod_lt_of_pos a (show (0:Int)<g by omega)
 have d1:1<=a / (g:Int):=(Int.le_ediv_iff_mul_le qo).2 qo
 have d2:a / (g:Int)<(q:Int)+1:=by
  refine(Int.ediv_lt_iff_lt_mul qo).2 ?_
  rw[Int.add_mul]
  omega
 have hB:addrB t q s (a / (g:Int)-1) (a%(g:Int))=true:=by
  unfold addrB
  rw[hr,hg,Bool.true_and,decide_eq_true_iff]
  exact⟨⟨qo,qo⟩,m0,m1⟩
 refine⟨hB,?_,qo,qo,qo,qo⟩
 unfold addrI
 rw[if_pos hB,hg,Int.sub_add_cancel,Int.mul_comm]
 exact Int.mul_ediv_add_emod a g
theorem qZ3 {t p s i o:Int}(h:addrB t p s i o=false):addrI t p s i o=0:=by unfold addrI;rw[h];rfl
def slotB (t p s k o:Int):Bool:=rightB t p s&&decide (0<sizeN s k/\0<=o/\o%(sizeN s k:Int)=0/\o / (sizeN s k:Int)<(slotI k:Int))
def slotR (t p s k o:Int):Int:=if slotB t p s k o then o / (sizeN s k:Int) else 0
theorem qF9 {t p s k o:Int}(hr:rightB t p s=true)(i:Nat)(hi:i<slotI k)(ho:o=(i:Int)*(sizeN s k:Int)):slotB t p s k o=true/\slotR t p s k o=i:=by
 have h':=(qQB t p s).1 hr
 have hk:0<=k/\k<9:=by
  have:=mt (qFH (k:=k)).2 qo
  omega
 obtain⟨k,rfl⟩:∃ n:Nat,k=n:=⟨k.toNat,qo⟩
 have hz:=qKt (s:=s) h'.2.2 (k:=k) qo
 have e1:o / (sizeN s (k:Int):Int)=(i:Int):=by rw[ho];exact Int.mul_ediv_cancel _ qo
 have e2:o%(sizeN s (k:Int):Int)=0:=by rw[ho];exact Int.mul_emod_left _ _
 have e3:0<=o:=by rw[ho];exact Int.mul_nonneg qo qo
 have hB:slotB t p s (k:Int) o=true:=by
  unfold slotB
  rw[hr,Bool.true_and,decide_eq_true_iff,e1]
  exact⟨hz,e3,e2,qo⟩
 refine⟨hB,?_⟩
 unfold slotR
 rw[if_pos hB,e1]
theorem qFM {t p s k o:Int}(h:slotB t p s k o=true):rightB t p s=true/\∃ i:Nat,i<slotI k/\o=(i:Int)*(sizeN s k:Int)/\slotR t p s k o=i:=by
 have hh:=h
 unfold slotB at hh
 simp only[Bool.and_eq_true,decide_eq_true_eq] at hh
 obtain⟨hr,h1,h2,h3,h4⟩:=hh
 refine⟨hr,(o / (sizeN s k:Int)).toNat,?_,?_,?_⟩
 ·have:=Int.ediv_nonneg h2 (show (0:Int)<=sizeN s k by omega)
  omega
 ·have h5:=Int.ediv_nonneg h2 (show (0:Int)<=sizeN s k by omega)
  have h6:=Int.mul_ediv_add_emod o (sizeN s k)
  rw[Int.toNat_of_nonneg h5,Int.mul_comm]
  omega
 ·have h5:=Int.ediv_nonneg h2 (show (0:Int)<=sizeN s k by omega)
  unfold slotR
  rw[if_pos h,Int.toNat_of_nonneg h5]
theorem qJd {s k:Int}(hs:10<=s/\s<=20){i:Nat}(hi:i<slotI k):(i+1)*sizeN s k<=pageS s/\16<=sizeN s k/\slotI k*sizeN s k<=pageS s:=by
 have hk:0<=k/\k<9:=by
  have:=mt (qFH (k:=k)).2 qo
  omega
 obtain⟨k,rfl⟩:∃ n:Nat,k=n:=⟨k.toNat,qo⟩
 obtain⟨_,h16,hle,_⟩:=qRy hs (k:=k) qo
 rw[qPN] at hi ⊢
 have h1:(i+1)*sizeN s (k:Int)<=slotN k*sizeN s (k:Int):=Nat.mul_le_mul_right _ hi
 rw[Nat.mul_comm] at hle
 exact⟨qo,h16,hle⟩

def atB (t p s k i j:Int):Bool:=decide (0<=j/\j<(slotI k:Int))&&addrB t p s i (j*(sizeN s k:Int))
def atI (t p s k i j:Int):Int:=if atB t p s k i j then addrI t p s i (j*(sizeN s k:Int)) else 0
theorem qPs {t p s k i j:Int}(h:¬ (0<=j/\j<(slotI k:Int))):atB t p s k i j=false/\atI t p s k i j=0:=by
 have:atB t p s k i j=false:=by unfold atB;simp only[decide_eq_false h,Bool.false_and]
 exact⟨this,by unfold atI;rw[this];rfl⟩
theorem qUV {t p s k i j:Int}(h:0<=j/\j<(slotI k:Int)):atB t p s k i j=addrB t p s i (j*(sizeN s k:Int))/\atI t p s k i j=addrI t p s i (j*(sizeN s k:Int)):=by
 have:atB t p s k i j=addrB t p s i (j*(sizeN s k:Int)):=by unfold atB;simp only[decide_eq_true h,Bool.true_and]
 refine⟨this,?_⟩
 unfold atI
 rw[this]
 cases hb:addrB t p s i (j*(sizeN s k:Int))
 ·rw[qZ3 hb];rfl
 ·rfl
end
section
structure AuH where
 t:Nat
 p:Nat
 s:Nat
 V:Nat->Nat

namespace AuH
variable (H : AuH)
def cel (q b:Nat):Nat:=H.V (30+4*H.t+6*q+b)
def K (q:Nat):Int:=(infoG (H.cel q 0)).1
def L (q:Nat):Int:=(infoG (H.cel q 0)).2.1
def Cl (q:Nat):Int:=(infoG (H.cel q 0)).2.2.1
def ok (q:Nat):Bool:=(infoG (H.cel q 0)).2.2.2
def ln (q:Nat):Nat:=(H.L q).toNat
theorem info_eq (q:Nat):infoG (H.cel q 0)=(H.K q,H.L q,H.Cl q,H.ok q):=rfl
theorem infoP_at (q:Nat):infoP (H.K q) (H.L q) (H.Cl q):=by
 cases hb:H.ok q
 ·have h:=H.info_eq q
  rw[hb] at h
  exact .inl (qLu h)
 ·have h:=H.info_eq q
  rw[hb] at h
  exact qLf (qK7 h).1
theorem ok_of (q:Nat)(h:H.K q≠0):H.ok q=true:=by
 cases hb:H.ok q
 ·have h2:=H.info_eq q
  rw[hb] at h2
  exact absurd (qLu h2).1 h
 ·rfl
theorem K_cases (q:Nat):(H.K q=0/\H.ln q=0/\H.Cl q=0)\/((H.K q=1\/H.K q=2)/\1<=H.ln q/\H.ln q<=1024/\H.Cl q=0)\/(H.K q=3/\H.ln q=1/\0<=H.Cl q/\H.Cl q<=8):=by
 have h:=H.infoP_at q
 unfold infoP at h
 unfold ln
 omega
theorem L_ln (q:Nat):H.L q=(H.ln q:Int):=by
 have h:=H.infoP_at q
 unfold infoP at h
 unfold ln
 omega
theorem K_zero (q:Nat)(h:H.cel q 0=0):H.K q=0/\H.ok q=true:=by
 have e:infoG 0=(0,0,0,true):=by decide
 unfold K ok
 rw[h,e]
 exact⟨rfl,rfl⟩
theorem ln_pos (q:Nat)(h:H.K q≠0):1<=H.ln q/\H.ln q<=1024:=by
 have:=H.K_cases q
 omega

def can (q:Nat):Bool:=decide (q<H.p/\H.K q≠0/\q+H.ln q<=H.p)
def nx (q:Nat):Nat:=q+H.ln q
theorem can_iff (q:Nat):H.can q=true↔q<H.p/\H.K q≠0/\q+H.ln q<=H.p:=by unfold can;exact decide_eq_true_iff
theorem can_no (q:Nat):H.can q=false ↔ ¬ (q<H.p/\H.K q≠0/\q+H.ln q<=H.p):=by unfold can;exact decide_eq_false_iff_not
theorem nx_gt {q:Nat}(h:H.can q=true):q<H.nx q/\H.nx q<=H.p:=by
 have h:=(H.can_iff q).1 h
 have:=H.ln_pos q h.2.1
 unfold nx
 omega

inductive At:Nat->Prop where
 | zero:At 0
 | step {q:Nat}:At q->H.can q=true->At (H.nx q)
variable {H}
theorem At.chain:∀ (n a b:Nat),a+b<=n->H.At a->H.At b->a<b->H.can a=true/\H.nx a<=b:=by
 intro n
 induction n with
 | zero=>intro a b h _ _ hl;omega
 | succ n ih =>
  intro a b h ha hb hl
  cases hb with
  | zero=>omega
  | step hb0 hc =>
   rename_i b0
   have h0:=H.nx_gt hc
   rcases Nat.lt_trichotomy a b0 with h1|h1|h1
   ·have:=ih a b0 qo ha hb0 h1
    exact⟨this.1,qo⟩
   ·subst h1
    exact⟨hc,Nat.le_refl _⟩
   ·have:=ih b0 a qo hb0 ha h1
    omega
theorem At.next {a b:Nat}(ha:H.At a)(hb:H.At b)(h:a<b):H.can a=true/\H.nx a<=b:=At.chain _ a b (Nat.le_refl _) ha hb h
theorem At.cover {x:Nat}(h:H.At x):∀ q,q<x->∃ a,H.At a/\H.can a=true/\a<=q/\q<H.nx a:=by
 induction h with
 | zero=>intro q hq;omega
 | step h hc ih =>
  rename_i a
  intro q hq
  rcases Nat.lt_or_ge q a with h1|h1
  ·exact ih q h1
  ·exact⟨a,h,hc,h1,hq⟩
variable (H)
def Bare (x:Nat):Prop:=∀ a,H.At a->H.can a=true->a<x->∀ q,a<q->q<H.nx a->H.cel q 0=0
def Tiled:Prop:=H.At H.p/\H.Bare H.p
variable {H}
theorem Tiled.start (h:H.Tiled){q:Nat}(hq:q<H.p)(hk:H.K q≠0):H.At q/\H.can q=true:=by
 obtain⟨a,h1,h2,h3,h4⟩:=h.1.cover q hq
 rcases Nat.eq_or_lt_of_le h3 with h5|h5
 ·subst h5;exact⟨h1,h2⟩
 ·exact absurd (H.K_zero q (h.2 a h1 h2 qo q h5 h4)).1 hk
theorem Tiled.at_can (h:H.Tiled){q:Nat}(ha:H.At q)(hq:q<H.p):H.can q=true:=(At.next ha h.1 hq).1
theorem Tiled.at_K (h:H.Tiled){q:Nat}(ha:H.At q)(hq:q<H.p):H.K q≠0:=((H.can_iff q).1 (h.at_can ha hq)).2.1
theorem Tiled.inside (h:H.Tiled){a q:Nat}(ha:H.At a)(h0:a<H.p)(h1:a<q)(h2:q<H.nx a):H.K q=0:=(H.K_zero q (h.2 a ha (h.at_can ha h0) h0 q h1 h2)).1
theorem Tiled.cover (h:H.Tiled){q:Nat}(hq:q<H.p):∃ a,H.At a/\a<H.p/\H.K a≠0/\a<=q/\q<H.nx a:=by
 obtain⟨a,h1,h2,h3,h4⟩:=h.1.cover q hq
 exact⟨a,h1,qo,h.at_K h1 qo,h3,h4⟩
def sumTo (f:Nat->Nat):Nat->Nat
 | 0=>0
 | n+1=>sumTo f n+f n
theorem qQj (f:Nat->Nat)(a:Nat):∀ n,(∀ q,a<=q->q<a+n->f q=0)->sumTo f (a+n)=sumTo f a
 | 0,_=>rfl
 | n+1,h=>by
  show sumTo f (a+n)+f (a+n)=_
  rw[qQj f a n (fun q h1 h2=>h q h1 qo),h (a+n) qo qo]
  omega
theorem Tiled.sum {f:Nat->Nat}(h:H.Tiled){a:Nat}(ha:H.At a)(h0:a<H.p)(hf:∀ q,q<H.p->H.K q=0->f q=0):sumTo f (H.nx a)=sumTo f a+f a:=by
 have h1:=H.ln_pos a (h.at_K ha h0)
 have h2:=(H.nx_gt (h.at_can ha h0)).2
 have e:H.nx a=(a+1)+(H.ln a-1):=by unfold nx;omega
 rw[e,qQj f (a+1) _ (fun q h3 h4=>hf q qo (h.inside ha h0 qo qo))]
 rfl
theorem sumTo_le (f:Nat->Nat)(m:Nat):∀ n,(∀ q,q<n->f q<=m)->sumTo f n<=n*m
 | 0,_=>by simp[sumTo]
 | n+1,h=>by
  have h1:=sumTo_le f m n (fun q hq=>h q qo)
  have h2:=h n qo
  show sumTo f n+f n<=(n+1)*m
  rw[Nat.succ_mul]
  omega
def catTo {α:Type} (f:Nat->List α):Nat->List α
 | 0 => []
 | n+1=>catTo f n++f n
end AuH
end
end Go.Proofs.YtgifnhcknodekaaGreat
