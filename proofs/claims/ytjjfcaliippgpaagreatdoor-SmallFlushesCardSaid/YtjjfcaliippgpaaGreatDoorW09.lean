/-
  Contracts of half.Free below 33, of slab's bits, of nacreref16's Bit, of the document's Full at any Taken.
-/
import Derived.Test.YtjjfcaliippgpaaGreatDoorW08
import Derived.Test.YtjjfcaliippgpaaGreatDoorW04
import Derived.Test.YtjjfcaliippgpaaGreatDoorW03
import Derived.Deep.RegionHeld3
import Derived.IntWalk
import Derived.KernelRfl
import Derived.Test.YtjjfcaliippgpaaGreatDoorW06
namespace Go.Proofs.YtjjfcaliippgpaaGreatDoor
theorem Ro3 {P Q:Prop}(kq:Q)(h:HQ Q->P:=by
 intro kq
 refine tkz 0 ?_
 refine tkz 1 ?_
 refine tkz 2 ?_
 exact kq.o):P:=h ⟨kq⟩
theorem RPH {P Q:Prop}(kq:Q)(h:HQ Q->P:=by
 intro kq
 rintro e w1 ⟨rfl,hb1⟩
 rw[HR.o]
 have hc1:=hc.keep hb1
 obtain⟨x0,x1,x2⟩:=hc1.three
 revert w1 hb1 hc1 x0 x1 x2
 exact kq.o):P:=h ⟨kq⟩
theorem REu {P Q:Prop}(kq:Q)(h:HQ Q->P:=by
 intro kq
 have hu : Tryz.prog.underlying 42 = some (.slice (Tryz.prog.elem 42)):=by kernel_rfl
 have hs:∀ w,(sizeOf (Tryz.prog.elem 42)).run Tryz.prog w = .ok 1 w:=fun w=>by kernel_rfl
 revert hu hs
 exact kq.o):P:=h ⟨kq⟩
theorem MeN {P:Prop}(h:P:=by
 clear hr
 have HN:=qh (show pageI t p s q b = -1 from qQL (by intro h;omega))
 exact M97):P:=h
theorem Mfi {P:Prop}(h:P:=by
 clear hr
 go_enter Tryz.func139,Tryz.ntmps139
 go_wp2_with fail
 refine(qDP t p s _).mono ?_
 refine RPH ?_;intro w1 hb1 hc1 x0 x1 x2
 go_wp2
 go_ret
 exact⟨by rw[HN.o];rfl,Bgo (Bnew (B0 _) _) hb1⟩):P:=h
theorem M1m {P:Prop}(h:P:=by
 clear hr
 exact M97):P:=h
theorem M97 {P:Prop}(h:P:=by
 go_enter Tryz.func84,Tryz.ntmps84
 go_wp2_with fail
 refine(qDP t p s _).mono ?_
 refine RPH ?_;intro w1 hb1 hc1 x0 x1 x2
 go_wp2
 go_ret
 refine⟨by rw[HN.o];rfl,?_⟩
 all_goals exact blz):P:=h
theorem MYr {P:Prop}(h:P:=by
 go_enter Tryz.func85,Tryz.ntmps85
 exact MWK):P:=h
theorem MP7 {P:Prop}(h:P:=by
 go_enter Tryz.func67,Tryz.ntmps67
 exact MWK):P:=h
theorem MWM {P:Prop}(h:P:=by
 go_enter Tryz.func165,Tryz.ntmps165
 exact MWK):P:=h
theorem MkS {P:Prop}(h:P:=by first|exact W4.o.drew.held.six'|exact W5.o.held.six'|exact W6.o.held.six'|exact W7.o.held.six'|exact hHeld):P:=h
theorem Mm8 {P:Prop}(h:P:=by
 (try dsimp only)
 exact MoD):P:=h
theorem MQo {P:Prop}(h:P:=by first|exact W4.o.drew.held.six'|exact W5.o.held.six'|exact W6.o.held.six'|exact hHeld):P:=h
theorem MmZ {P:Prop}(h:P:=by first|exact W7.o.drew.held.six'|exact W8.o.held.six'|exact W9.o.held.six'|exact hHeld):P:=h
theorem MaT {P:Prop}(h:P:=by first|exact W1.o.drew.held.six'|exact W2.o.held.six'|exact W3.o.held.six'|exact hHeld):P:=h
theorem MoD {P:Prop}(h:P:=by first|exact HC.o.drw.six'|exact HC1.o.six'|exact HC2.o.six'|exact hHeld):P:=h
end Go.Proofs.YtjjfcaliippgpaaGreatDoor
set_option linter.unusedVariables false
set_option linter.unusedSimpArgs false
set_option maxRecDepth 100000
set_option maxHeartbeats 25600000
namespace Go.Proofs.YtjjfcaliippgpaaGreatDoor
open Go.ChangeShapes Go.WideShapes Go.ChangeAt Go.RowKit
section
def freeV (v k:Nat):List Value:=ntVs (HM.freeTo v k)
theorem qQ6 (v k:Nat)(h:v.testBit k=true):freeV v (k+1)=freeV v k:=by unfold freeV;rw[HM.freeTo_succ,h];simp
theorem qAb (v k:Nat)(h:v.testBit k=false):freeV v (k+1)=freeV v k ++ [.int .i64 (k:Int)]:=by unfold freeV;rw[HM.freeTo_succ,h];exact qWj _ _
theorem qPi (v k:Nat):(freeV v k).length<=k:=by unfold freeV;rw[qNr];exact HM.freeTo_le v k
theorem qKv (v M:Nat)(n:Int)(hv:v<2^32)(hA:n<=32)(hB:(M:Int)=n)(w:World) :
    Calls Tryz.prog 157 #[.int .u32 (v:Int),.int .i64 n] w fun e w' =>
      ∃ u,e = .returned u/\w'.ownsRow w.heap.size 3 1 u (freeV v M).length (freeV v M)/\Below w.heap.size w w':=by
  obtain⟨i0,hi,hz0,hz1,hz2⟩:=info_parts intInfo
  have hM:(M:Int)<=n:=qo
  have HB:=qh hB
  clear hB
  go_enter Tryz.func157,Tryz.ntmps157
  go_wp2
  go_loopw [5,9] (fun u i wr=>∃ k:Nat,k<=M/\i = .int .i64 k/\wr.ownsRow w.heap.size 3 1 u (freeV v k).length (freeV v k)/\Below w.heap.size w wr) (fun _ i _=>M-(intOf i).toNat)
  case atStart=>exact⟨0,qo,rfl,World.ownsRow_nil _ _ _ _,Below.refl _ _⟩
  case round =>
    obtain⟨k,hk,rfl,hown,hb⟩:=hrel
    by_cases hlt:k<M
    · have hl:=qPi v k
      have hki:(k:Int)<n:=qo
      have hk32:k<32:=qo
      cases hbit:v.testBit k
      · have HT:=qh ((congrArg v.testBit (Int.toNat_natCast k)).trans hbit)
        have HZ:=qh (qAb v k hbit)
        clear hbit
        go_wp2_with (first
          | (go_at_call 193;refine(qN6 v k _ hv qo qo HT.o _).mono ?_;rintro e w' ⟨rfl,rfl⟩)
          | (at_builtin
             refine wpList_append_own _ rfl _ _ 42 rfl w.heap.size 3 i0 (.int .i64 0) 1 8 Tryz.underlying42 hi hz0 hz1 hz2 rfl (by decide) _ _ _ rfl (hown.alloc _) ⟨_,0,none⟩ 1 1 [.int .i64 (k:Int)] rfl rfl ?c1 ?c2 ?c3 ?c4 ?c5 ?_
             case c1=>intro j y hy;rcases j with _|j;(· simp at hy;subst hy;simp[Addr.add]);(· simp at hy)
             case c2=>simp[Value.oneCell']
             case c3=>unfold maxLen;omega
             case c4=>omega
             case c5=>have:=hb.size;simp;omega
             intro u1 w1 hown1 hgrow _))
        have hb1:=(hb.alloc hb.size _).grown hgrow (by have:=hb.size;simp;omega) (fun j hj=>(hown.lt j hj).1)
        go_roundw
        case rel=>exact⟨k+1,qo,by go_num,by rw[HZ.o,List.length_append];exact hown1,hb1⟩
        case measure=>simp[intOf];omega
      · have HT:=qh ((congrArg v.testBit (Int.toNat_natCast k)).trans hbit)
        have HO:=qh (qQ6 v k hbit)
        clear hbit
        go_wp2_with (go_at_call 193;refine(qN6 v k _ hv qo qo HT.o _).mono ?_;rintro e w' ⟨rfl,rfl⟩)
        go_roundw
        case rel=>exact⟨k+1,qo,by go_num,by rw[HO.o];exact hown,hb⟩
        case measure=>simp[intOf];omega
    · obtain rfl:k=M:=qo
      have hlast:n<=(k:Int):=by have:=HB.o;omega
      go_wp2
      go_ret
      exact⟨_,rfl,hown,hb⟩
theorem qDl (v m:Nat)(hv:v<2^32)(hm:m<=32)(w:World) :
  Calls Tryz.prog 157 #[.int .u32 (v:Int),.int .i64 (m:Int)] w fun e w' =>
   ∃ u,e = .returned u/\w'.ownsRow w.heap.size 3 1 u (HM.freeTo v m).length (ntVs (HM.freeTo v m))/\Below w.heap.size w w':=by
 have h:=qKv v m m hv qo rfl w
 unfold freeV at h
 rw[qNr] at h
 exact h
theorem qSG (A:Option Addr)(L c i:Nat)(h:i<=L)(hL:L<=c)(w:World):(Instr.slice 42 (.slice A L c) none (some (.int .i64 (i:Int))) none).run Tryz.prog w = .ok (.slice A i c) w:=by
 refine REu ?_;intro hu hs
 rw[run_slice_h (P := Tryz.prog) (w:=w) 42 A L c hu .i64 (i:Int) qo qo,hs]
 simp only[Result.andThen,sliced,Int.toNat_natCast,Nat.zero_mul,Nat.sub_zero]
 congr 2
 split
 ·rfl
 ·cases A <;> simp[Addr.add]
theorem qAl {w:World}{base:Nat}{e:TypeId}{A:Option Addr}{n c m:Nat}{xs:List Value}(h:w.ownsRow base e 1 (.slice A n c) n xs)(hm:m<=n):w.ownsRow base e 1 (.slice A m c) m (xs.take m):=by
 have h1:=h.1
 refine⟨by rw[List.length_take];omega,?_⟩
 rcases h.2 with ⟨h2,h3⟩|⟨g,cap,cur,h2,hb,hg,hnc,hcm,hcs,ht⟩
 ·injection h2 with h4 h5 h6
  subst h4 h6
  exact .inl ⟨by rw[show m=0 by omega],qo⟩
 ·injection h2 with h4 h5 h6
  subst h4 h6
  refine .inr ⟨g,c,cur,rfl,hb,hg,qo,hcm,hcs,?_⟩
  rw[<- ht,List.take_take]
  congr 1
  omega
section
variable {O : Ob} {w0 ws w w' : World} {A G : Nat -> Prop} {N : Nat} {T : TypeId} {cs : Array Value} {base : Nat} {u : Value} {nl : Nat} {xs : List Value} {st s' : Vst}
theorem WL.row (h:WL O w0 A G ws [⟨N,T,cs⟩] st w)(hb:Below w.heap.size w w')(ho:w'.ownsRow w.heap.size 3 1 u nl xs):RowW O w0 A G ws N T cs ws.heap.size u nl xs st w' :=
 ⟨h.at_.keep2 hb (fun g hg=>by
  rcases hg with hg|hg
  ·rcases hg with hg|hg
   ·exact .inl (.inl hg)
   ·exact .inl (.inr ⟨_,List.mem_singleton.2 rfl,hg.symm⟩)
  ·exact .inr (ho.lt g hg)),qXO ho h.stay.1,h.h0.keep hb,h.stay.trans (Stay.of_below hb G)⟩
theorem RowW.end_ {c m:Nat}{B:Option Addr}{l:List Nat}(h:RowW O w0 A G ws N T cs ws.heap.size (.slice B nl c) nl (ntVs l) st w)(hm:m<=nl)(hl:(l.take m).length=m):WalkEnd O w0 A G (l.take m) st ws (.returned (.slice B m c)) w:=by
 have e:ntVs (l.take m)=(ntVs l).take m:=by unfold ntVs;rw[List.map_take]
 refine⟨_,rfl,?_,h.at_.less (fun g hg=>?_),h.stay⟩
 ·rw[hl,e]
  exact qAl h.own hm
 ·rcases hg with hg|hg
  ·exact .inl (.inl hg)
  ·refine .inr ?_
   cases B with
   | none=>exact hg
   | some a=>exact hg
theorem WalkEnd.nil_ (h:O.At w0 A G st w)(hS:Stay G ws w):WalkEnd O w0 A G [] st ws (.returned (.slice none 0 0)) w :=
 ⟨_,rfl,World.ownsRow_nil _ _ _ _,h.less (fun g hg=>by
  rcases hg with hg|hg
  ·exact hg
  ·cases hg),hS⟩
end
theorem qMX {s:Nat}(h:s<32):((2:Int)^s)%4294967296=((2^s:Nat):Int):=by
 have h1:2^s<2^32:=Nat.pow_lt_pow_right qo h
 have e:((2:Int)^s)=((2^s:Nat):Int):=by push_cast;rfl
 rw[e]
 generalize 2^s=z at *
 omega
theorem qSu {a b:Int}(h:a=b):Ending.returned (.int .u32 a) = .returned (.int .u32 b):=by rw[h]
theorem qIy (v:Nat):∀ l:List Nat,layB v l=v ||| layB 0 l:=fun l=>by
 apply Nat.eq_of_testBit_eq
 intro j
 rw[qII,Nat.testBit_or,qII,Nat.zero_testBit,Bool.false_or]
theorem qXz {l:List Nat}{k:Nat}(h:k<l.length):layB 0 (l.take (k+1))=layB 0 (l.take k) ||| 2^l.getD k 0:=by
 unfold layB
 rw[List.take_add_one,List.getElem?_eq_getElem h,List.foldl_append]
 simp[List.getD,List.getElem?_eq_getElem h]
theorem qL7 (l:List Nat)(g o c n:Nat)(hn:l.length=n)(hl:n<=32)(h32:∀ i∈l,i<32)(w:World)(hc:∀ i,i<n->w.cell? ⟨g,o+i,none⟩=some (.int .i64 ((l.getD i 0:Nat):Int))) :
  Calls Tryz.prog 158 #[.slice (some ⟨g,o,none⟩) n c] w fun e w'=>e = .returned (.int .u32 ((layB 0 l:Nat):Int))/\w=w':=by
 have HC:=qh hc
 have HLB:qH (∀ k,k<n->layB 0 (l.take (k+1))=layB 0 (l.take k) ||| 2^l.getD k 0/\l.getD k 0<32/\layB 0 (l.take k)<2^32):=qh (fun k hk=>⟨qXz qo,by
  simp[List.getD,List.getElem?_eq_getElem (show k<l.length by omega)]
  exact h32 _ (List.getElem_mem _),qJE _ _ qo (fun i hi=>h32 i (List.mem_of_mem_take hi))⟩)
 have HEND:qH (layB 0 (l.take n)=layB 0 l):=qh (by rw[List.take_of_length_le qo])
 clear hc hn h32
 go_enter Tryz.func158,Tryz.ntmps158
 go_wp2
 go_loopw [3,8] (fun t i wr=>∃ k:Nat,k<=n/\i = .int .i64 k/\t = .int .u32 ((layB 0 (l.take k):Nat):Int)/\wr=w) (fun _ i _=>n-(intOf i).toNat)
 case atStart=>exact⟨0,qo,rfl,rfl,rfl⟩
 case round =>
  obtain⟨k,hk,rfl,rfl,rfl⟩:=hrel
  by_cases hlt:k<n
  ·have c1:=HC.o k hlt
   obtain⟨e1,e2,e3⟩:=HLB.o k hlt
   have HE:=qh e1
   clear e1
   generalize l.getD k 0=x at *
   generalize layB 0 (l.take k)=y at *
   obtain⟨z,hz⟩:∃ z,2^x=z:=⟨_,rfl⟩
   have hz32:z<2^32:=by rw[<- hz];exact Nat.pow_lt_pow_right qo e2
   have e4:=qMX e2
   rw[hz] at HE e4
   have e5:x<=31:=qo
   have HO:=qh (u32_or_nat y z e3 hz32)
   clear hz
   go_wp2
   go_roundw
   case rel=>exact⟨k+1,qo,by go_num,by rw[HE.o,<- HO.o],by first|rfl|trivial|exact(by assumption)|skip⟩
   case measure=>simp[intOf];omega
  ·obtain rfl:k=n:=qo
   go_wp2
   go_ret
   exact⟨by rw[HEND.o];rfl,rfl⟩
end
open Go.Maps
section
theorem Held.drw {w:World}{g:Nat}{t:TypeId}{cs:Array Value}(h:Held w g t cs):Held w.drew g t cs:=h
section
variable {w : World} {g : Nat} {t : TypeId} {c0 c1 c2 c3 c4 c5 : Value}
theorem Held.five' (h:Held w g t #[c0,c1,c2,c3,c4]):w.cell? ⟨g,0,none⟩=some c0/\w.cell? ⟨g,1,none⟩=some c1/\w.cell? ⟨g,2,none⟩=some c2/\w.cell? ⟨g,3,none⟩=some c3/\w.cell? ⟨g,4,none⟩=some c4:=⟨h.cell 0,h.cell 1,h.cell 2,h.cell 3,h.cell 4⟩
theorem Held.six' (h:Held w g t #[c0,c1,c2,c3,c4,c5]):w.cell? ⟨g,0,none⟩=some c0/\w.cell? ⟨g,1,none⟩=some c1/\w.cell? ⟨g,2,none⟩=some c2/\w.cell? ⟨g,3,none⟩=some c3/\w.cell? ⟨g,4,none⟩=some c4/\w.cell? ⟨g,5,none⟩=some c5:=⟨h.cell 0,h.cell 1,h.cell 2,h.cell 3,h.cell 4,h.cell 5⟩
end

theorem qLv (b:Nat)(t q s hd p:Int)(w:World) :
  Calls Tryz.prog 212 #[.agg #[.pointer (some ⟨b,0,none⟩),.int .i64 t,.int .i64 q,.int .i64 s,.int .i64 hd,.int .i64 p]] w fun e w'=>e = .returned (.bool (pgB q p))/\Below w.heap.size w w':=by
 have hB:=Bnew (B0 w) (.cells #[.pointer (some ⟨b,0,none⟩),.int .i64 t,.int .i64 q,.int .i64 s,.int .i64 hd,.int .i64 p] 229)
 obtain⟨x0,x1,x2,x3,x4,x5⟩:=(Held.new w 229 #[.pointer (some ⟨b,0,none⟩),.int .i64 t,.int .i64 q,.int .i64 s,.int .i64 hd,.int .i64 p]).six'
 unfold pgB
 by_cases h0:0<=p
 ·have t0:decide ((0:Int)<=p)=true:=decide_eq_true h0
  obtain⟨c,t1⟩:∃ c,decide (p<q)=c:=⟨_,rfl⟩
  rw[t0,t1]
  cases c with
  | true =>
   go_enter Tryz.func212,Tryz.ntmps212
   go_wp2
   go_ret
   exact⟨rfl,hB⟩
  | false =>
   go_enter Tryz.func212,Tryz.ntmps212
   go_wp2
   go_ret
   exact⟨rfl,hB⟩
 ·have t0:decide ((0:Int)<=p)=false:=decide_eq_false h0
  rw[t0]
  go_enter Tryz.func212,Tryz.ntmps212
  go_wp2
  go_ret
  exact⟨rfl,hB⟩

theorem qB5 (b:Nat)(t q s hd:Int)(k:Nat)(hk:k<2^31)(w:World) :
  Calls Tryz.prog 217 #[.agg #[.pointer (some ⟨b,0,none⟩),.int .i64 t,.int .i64 q,.int .i64 s,.int .i64 hd,.int .i64 (k:Int)]] w fun e w'=>e = .returned (.int .u32 ((k+1:Nat):Int))/\Below w.heap.size w w':=by
 have hB:=Bnew (B0 w) (.cells #[.pointer (some ⟨b,0,none⟩),.int .i64 t,.int .i64 q,.int .i64 s,.int .i64 hd,.int .i64 (k:Int)] 229)
 go_enter Tryz.func217,Tryz.ntmps217
 go_wp2
 go_ret
 exact⟨by simp,hB⟩

theorem qJc (b:Nat)(t q s hd:Int)(l:Nat)(hl:l<2^32)(w:World) :
  Calls Tryz.prog 216 #[.agg #[.pointer (some ⟨b,0,none⟩),.int .i64 t,.int .i64 q,.int .i64 s,.int .i64 hd],.int .u32 (l:Int)] w fun e w'=>e = .returned (.agg #[.pointer (some ⟨b,0,none⟩),.int .i64 t,.int .i64 q,.int .i64 s,.int .i64 hd,.int .i64 ((l:Int)-1)])/\Below w.heap.size w w':=by
 go_enter Tryz.func216,Tryz.ntmps216
 go_wp2
 have hfin:=Held.new2 w (.cells #[.pointer (some ⟨b,0,none⟩),.int .i64 t,.int .i64 q,.int .i64 s,.int .i64 hd] 227) 229 #[.pointer (some ⟨b,0,none⟩),.int .i64 t,.int .i64 q,.int .i64 s,.int .i64 hd,.int .i64 ((l:Int)-1)]
 obtain⟨r0,r1,r2,r3,r4,r5⟩:=hfin.six'
 refine bodyPost_ret (v := .agg #[.pointer (some ⟨b,0,none⟩),.int .i64 t,.int .i64 q,.int .i64 s,.int .i64 hd,.int .i64 ((l:Int)-1)]) (by simp[results,Tryz.results216,go_sem,r0,r1,r2,r3,r4,r5]) rfl ⟨rfl,?_⟩
 exact Bnew (Bnew (B0 _) _) _

section
variable {base b n : Nat} {wh : Bool} {K : Nat -> Option Nat} {st : Vst} {w w0 : World} {A G : Nat -> Prop} {t q s hd p : Int}

theorem qJs (hn:n<2^40)(h:(vOb base b n wh K).At w0 A G st w) :
  Calls Tryz.prog 213 #[.agg #[.pointer (some ⟨b,0,none⟩),.int .i64 t,.int .i64 q,.int .i64 s,.int .i64 hd]] w fun e w'=>e = .returned (.int .u32 ((getV n K st hd:Nat):Int))/\(vOb base b n wh K).At w0 A G (getS n K st hd) w'/\Stay G w w':=by
 have HA:=qh (h.alloc (.cells #[.pointer (some ⟨b,0,none⟩),.int .i64 t,.int .i64 q,.int .i64 s,.int .i64 hd] 227))
 have hS:Stay G w (w.alloc (.cells #[.pointer (some ⟨b,0,none⟩),.int .i64 t,.int .i64 q,.int .i64 s,.int .i64 hd] 227)):=Stay.of_below (Bnew (B0 w) _) G
 clear h
 go_enter Tryz.func213,Tryz.ntmps213
 go_wp2_with fail
 refine(vGetA hn hd HA.o).mono ?_
 rintro e w1 ⟨rfl,h1,h2⟩
 go_wp2
 go_ret
 exact⟨rfl,h1,hS.trans h2⟩

theorem qEM (hn:n<2^40)(l:Nat)(hl:l<2^32)(h:(vOb base b n wh K).At w0 A G st w) :
  Calls Tryz.prog 218 #[.agg #[.pointer (some ⟨b,0,none⟩),.int .i64 t,.int .i64 q,.int .i64 s,.int .i64 hd],.int .u32 (l:Int)] w fun e w'=>e = .returned (.tuple #[])/\(vOb base b n wh K).At w0 A G (putS n st hd l) w'/\Stay G w w':=by
 have HA:=qh (h.alloc (.cells #[.pointer (some ⟨b,0,none⟩),.int .i64 t,.int .i64 q,.int .i64 s,.int .i64 hd] 227))
 have hS:Stay G w (w.alloc (.cells #[.pointer (some ⟨b,0,none⟩),.int .i64 t,.int .i64 q,.int .i64 s,.int .i64 hd] 227)):=Stay.of_below (Bnew (B0 w) _) G
 clear h
 go_enter Tryz.func218,Tryz.ntmps218
 go_wp2_with fail
 refine(vPutA hn hd l hl HA.o).mono ?_
 rintro e w1 ⟨rfl,h1,h2⟩
 go_wp2
 go_end0
 exact⟨rfl,h1,hS.trans h2⟩

theorem qKX (hn:n<2^40)(h:(vOb base b n wh K).At w0 A G st w) :
  Calls Tryz.prog 219 #[.agg #[.pointer (some ⟨b,0,none⟩),.int .i64 t,.int .i64 q,.int .i64 s,.int .i64 hd,.int .i64 p]] w fun e w'=>e = .returned (.int .u32 ((getV n K st (pageI t q s p 2):Nat):Int))/\(vOb base b n wh K).At w0 A G (getS n K st (pageI t q s p 2)) w'/\Stay G w w':=by
 have HA:=qh (h.box (.cells #[.pointer (some ⟨b,0,none⟩),.int .i64 t,.int .i64 q,.int .i64 s,.int .i64 hd,.int .i64 p] 229))
 have HC:=qh (Held.new w 229 #[.pointer (some ⟨b,0,none⟩),.int .i64 t,.int .i64 q,.int .i64 s,.int .i64 hd,.int .i64 p])
 have HS:=qh (Stay.of_below (Bnew (B0 w) (.cells #[.pointer (some ⟨b,0,none⟩),.int .i64 t,.int .i64 q,.int .i64 s,.int .i64 hd,.int .i64 p] 229)) G)
 clear h
 go_enter Tryz.func219,Tryz.ntmps219
 go_wp2_with fail
 refine wp_region_held_drew (S:=(fun w'=>w'.cell? ⟨w.heap.size,0,none⟩=some (.pointer (some ⟨b,0,none⟩))/\w'.cell? ⟨w.heap.size,1,none⟩=some (.int .i64 t)/\w'.cell? ⟨w.heap.size,2,none⟩=some (.int .i64 q)/\w'.cell? ⟨w.heap.size,3,none⟩=some (.int .i64 s)/\w'.cell? ⟨w.heap.size,4,none⟩=some (.int .i64 hd)/\w'.cell? ⟨w.heap.size,5,none⟩=some (.int .i64 p))) qr ?_ (fun hHeld=>?_)
 ·exact Mm8
 refine tkz 0 ?_
 refine tkz 1 ?_
 refine tkz 2 ?_
 refine tkz 3 ?_
 refine tkz 4 ?_
 refine tkz 5 ?_
 refine tkz 6 ?_
 refine tkz 7 ?_
 refine rdz 8 fun K hK=>?_
 go_simp
 refine(qAT _ _ _ _ _).mono ?_;rintro e w1 ⟨rfl,hb1⟩;have HA1:=qh (HA.o.drew.keep hb1);have HC1:=qh (HC.o.drw.keep hb1);have HS1:=qh ((HS.o.trans (Stay.of_below (Bdrew (B0 _)) _)).trans (Stay.of_below hb1 _));clear HA HC HS hb1
 refine qk ?_ (fun hHeld=>?_)
 ·exact MoD
 clear hK K
 refine rdz 9 fun K hK=>?_
 go_simp
 refine(vGetA hn _ HA1.o).mono ?_;rintro e w2 ⟨rfl,h1,h2⟩;have HA2:=qh (h1.less fun g x=>Or.inl x);have HC2:=qh (h2.held (Or.inr rfl) HC1.o);have HS2:=qh (HS1.o.trans (h2.less fun g x=>Or.inl x));clear HA1 HC1 HS1 h1 h2
 refine qk ?_ (fun hHeld=>?_)
 ·exact MoD
 clear hK K
 refine tkz 10 ?_
 refine dnz ?_
 go_wp2
 go_ret
 exact⟨rfl,HA2.o,HS2.o⟩

theorem qL6 (hn:n<2^40)(l:Nat)(hl:l<2^32)(h:(vOb base b n wh K).At w0 A G st w) :
  Calls Tryz.prog 214 #[.agg #[.pointer (some ⟨b,0,none⟩),.int .i64 t,.int .i64 q,.int .i64 s,.int .i64 hd,.int .i64 p],.int .u32 (l:Int)] w fun e w'=>e = .returned (.tuple #[])/\(vOb base b n wh K).At w0 A G (putS n st (pageI t q s p 2) l) w'/\Stay G w w':=by
 have HA:=qh (h.box (.cells #[.pointer (some ⟨b,0,none⟩),.int .i64 t,.int .i64 q,.int .i64 s,.int .i64 hd,.int .i64 p] 229))
 have HC:=qh (Held.new w 229 #[.pointer (some ⟨b,0,none⟩),.int .i64 t,.int .i64 q,.int .i64 s,.int .i64 hd,.int .i64 p])
 have HS:=qh (Stay.of_below (Bnew (B0 w) (.cells #[.pointer (some ⟨b,0,none⟩),.int .i64 t,.int .i64 q,.int .i64 s,.int .i64 hd,.int .i64 p] 229)) G)
 clear h
 go_enter Tryz.func214,Tryz.ntmps214
 go_wp2_with fail
 refine wp_region_held_drew (S:=(fun w'=>w'.cell? ⟨w.heap.size,0,none⟩=some (.pointer (some ⟨b,0,none⟩))/\w'.cell? ⟨w.heap.size,1,none⟩=some (.int .i64 t)/\w'.cell? ⟨w.heap.size,2,none⟩=some (.int .i64 q)/\w'.cell? ⟨w.heap.size,3,none⟩=some (.int .i64 s)/\w'.cell? ⟨w.heap.size,4,none⟩=some (.int .i64 hd)/\w'.cell? ⟨w.heap.size,5,none⟩=some (.int .i64 p))) qr ?_ (fun hHeld=>?_)
 ·exact Mm8
 refine tkz 0 ?_
 refine tkz 1 ?_
 refine tkz 2 ?_
 refine tkz 3 ?_
 refine tkz 4 ?_
 refine tkz 5 ?_
 refine tkz 6 ?_
 refine tkz 7 ?_
 refine tkz 9 ?_
 refine rdz 8 fun K hK=>?_
 go_simp
 refine(qAT _ _ _ _ _).mono ?_;rintro e w1 ⟨rfl,hb1⟩;have HA1:=qh (HA.o.drew.keep hb1);have HC1:=qh (HC.o.drw.keep hb1);have HS1:=qh ((HS.o.trans (Stay.of_below (Bdrew (B0 _)) _)).trans (Stay.of_below hb1 _));clear HA HC HS hb1
 refine qk ?_ (fun hHeld=>?_)
 ·exact MoD
 clear hK K
 refine rdz 10 fun K hK=>?_
 go_simp
 refine(vPutA hn _ l hl HA1.o).mono ?_;rintro e w2 ⟨rfl,h1,h2⟩;have HA2:=qh (h1.less fun g x=>Or.inl x);have HC2:=qh (h2.held (Or.inr rfl) HC1.o);have HS2:=qh (HS1.o.trans (h2.less fun g x=>Or.inl x));clear HA1 HC1 HS1 h1 h2
 refine qk ?_ (fun hHeld=>?_)
 ·exact MoD
 clear hK K
 refine dnz ?_
 go_wp2
 go_end0
 exact⟨rfl,HA2.o,HS2.o⟩

theorem qGr (hn:n<2^40)(h:(vOb base b n wh K).At w0 A G st w) :
  Calls Tryz.prog 220 #[.agg #[.pointer (some ⟨b,0,none⟩),.int .i64 t,.int .i64 q,.int .i64 s,.int .i64 hd,.int .i64 p]] w fun e w'=>e = .returned (.int .u32 ((getV n K st (pageI t q s p 3):Nat):Int))/\(vOb base b n wh K).At w0 A G (getS n K st (pageI t q s p 3)) w'/\Stay G w w':=by
 have HA:=qh (h.box (.cells #[.pointer (some ⟨b,0,none⟩),.int .i64 t,.int .i64 q,.int .i64 s,.int .i64 hd,.int .i64 p] 229))
 have HC:=qh (Held.new w 229 #[.pointer (some ⟨b,0,none⟩),.int .i64 t,.int .i64 q,.int .i64 s,.int .i64 hd,.int .i64 p])
 have HS:=qh (Stay.of_below (Bnew (B0 w) (.cells #[.pointer (some ⟨b,0,none⟩),.int .i64 t,.int .i64 q,.int .i64 s,.int .i64 hd,.int .i64 p] 229)) G)
 clear h
 go_enter Tryz.func220,Tryz.ntmps220
 go_wp2_with fail
 refine wp_region_held_drew (S:=(fun w'=>w'.cell? ⟨w.heap.size,0,none⟩=some (.pointer (some ⟨b,0,none⟩))/\w'.cell? ⟨w.heap.size,1,none⟩=some (.int .i64 t)/\w'.cell? ⟨w.heap.size,2,none⟩=some (.int .i64 q)/\w'.cell? ⟨w.heap.size,3,none⟩=some (.int .i64 s)/\w'.cell? ⟨w.heap.size,4,none⟩=some (.int .i64 hd)/\w'.cell? ⟨w.heap.size,5,none⟩=some (.int .i64 p))) qr ?_ (fun hHeld=>?_)
 ·exact Mm8
 refine tkz 0 ?_
 refine tkz 1 ?_
 refine tkz 2 ?_
 refine tkz 3 ?_
 refine tkz 4 ?_
 refine tkz 5 ?_
 refine tkz 6 ?_
 refine tkz 7 ?_
 refine rdz 8 fun K hK=>?_
 go_simp
 refine(qGM _ _ _ _ _).mono ?_;rintro e w1 ⟨rfl,hb1⟩;have HA1:=qh (HA.o.drew.keep hb1);have HC1:=qh (HC.o.drw.keep hb1);have HS1:=qh ((HS.o.trans (Stay.of_below (Bdrew (B0 _)) _)).trans (Stay.of_below hb1 _));clear HA HC HS hb1
 refine qk ?_ (fun hHeld=>?_)
 ·exact MoD
 clear hK K
 refine rdz 9 fun K hK=>?_
 go_simp
 refine(vGetA hn _ HA1.o).mono ?_;rintro e w2 ⟨rfl,h1,h2⟩;have HA2:=qh (h1.less fun g x=>Or.inl x);have HC2:=qh (h2.held (Or.inr rfl) HC1.o);have HS2:=qh (HS1.o.trans (h2.less fun g x=>Or.inl x));clear HA1 HC1 HS1 h1 h2
 refine qk ?_ (fun hHeld=>?_)
 ·exact MoD
 clear hK K
 refine tkz 10 ?_
 refine dnz ?_
 go_wp2
 go_ret
 exact⟨rfl,HA2.o,HS2.o⟩

theorem qKd (hn:n<2^40)(l:Nat)(hl:l<2^32)(h:(vOb base b n wh K).At w0 A G st w) :
  Calls Tryz.prog 215 #[.agg #[.pointer (some ⟨b,0,none⟩),.int .i64 t,.int .i64 q,.int .i64 s,.int .i64 hd,.int .i64 p],.int .u32 (l:Int)] w fun e w'=>e = .returned (.tuple #[])/\(vOb base b n wh K).At w0 A G (putS n st (pageI t q s p 3) l) w'/\Stay G w w':=by
 have HA:=qh (h.box (.cells #[.pointer (some ⟨b,0,none⟩),.int .i64 t,.int .i64 q,.int .i64 s,.int .i64 hd,.int .i64 p] 229))
 have HC:=qh (Held.new w 229 #[.pointer (some ⟨b,0,none⟩),.int .i64 t,.int .i64 q,.int .i64 s,.int .i64 hd,.int .i64 p])
 have HS:=qh (Stay.of_below (Bnew (B0 w) (.cells #[.pointer (some ⟨b,0,none⟩),.int .i64 t,.int .i64 q,.int .i64 s,.int .i64 hd,.int .i64 p] 229)) G)
 clear h
 go_enter Tryz.func215,Tryz.ntmps215
 go_wp2_with fail
 refine wp_region_held_drew (S:=(fun w'=>w'.cell? ⟨w.heap.size,0,none⟩=some (.pointer (some ⟨b,0,none⟩))/\w'.cell? ⟨w.heap.size,1,none⟩=some (.int .i64 t)/\w'.cell? ⟨w.heap.size,2,none⟩=some (.int .i64 q)/\w'.cell? ⟨w.heap.size,3,none⟩=some (.int .i64 s)/\w'.cell? ⟨w.heap.size,4,none⟩=some (.int .i64 hd)/\w'.cell? ⟨w.heap.size,5,none⟩=some (.int .i64 p))) qr ?_ (fun hHeld=>?_)
 ·exact Mm8
 refine tkz 0 ?_
 refine tkz 1 ?_
 refine tkz 2 ?_
 refine tkz 3 ?_
 refine tkz 4 ?_
 refine tkz 5 ?_
 refine tkz 6 ?_
 refine tkz 7 ?_
 refine tkz 9 ?_
 refine rdz 8 fun K hK=>?_
 go_simp
 refine(qGM _ _ _ _ _).mono ?_;rintro e w1 ⟨rfl,hb1⟩;have HA1:=qh (HA.o.drew.keep hb1);have HC1:=qh (HC.o.drw.keep hb1);have HS1:=qh ((HS.o.trans (Stay.of_below (Bdrew (B0 _)) _)).trans (Stay.of_below hb1 _));clear HA HC HS hb1
 refine qk ?_ (fun hHeld=>?_)
 ·exact MoD
 clear hK K
 refine rdz 10 fun K hK=>?_
 go_simp
 refine(vPutA hn _ l hl HA1.o).mono ?_;rintro e w2 ⟨rfl,h1,h2⟩;have HA2:=qh (h1.less fun g x=>Or.inl x);have HC2:=qh (h2.held (Or.inr rfl) HC1.o);have HS2:=qh (HS1.o.trans (h2.less fun g x=>Or.inl x));clear HA1 HC1 HS1 h1 h2
 refine qk ?_ (fun hHeld=>?_)
 ·exact MoD
 clear hK K
 refine dnz ?_
 go_wp2
 go_end0
 exact⟨rfl,HA2.o,HS2.o⟩

end
end
section
section
variable {base b n : Nat} {wh : Bool} {K : Nat -> Option Nat} {st : Vst} {w w0 : World} {A G : Nat -> Prop} {t q s hd : Int}

theorem qFA (hn:n<2^40)(p:Int)(hp:pgB q p=false)(h:(vOb base b n wh K).At w0 A G st w) :
  Calls Tryz.prog 191 #[.pointer (some ⟨b,0,none⟩),.agg #[.int .i64 t,.int .i64 q,.int .i64 s],.int .i64 hd,.int .i64 p] w fun e w'=>e = .returned (.tuple #[])/\(vOb base b n wh K).At w0 A G (st) w'/\Stay G w w':=by
 have W0:=qh (WK.two h (.cells #[.int .i64 t,.int .i64 q,.int .i64 s] 23) 229 #[.pointer (some ⟨b,0,none⟩),.int .i64 t,.int .i64 q,.int .i64 s,.int .i64 hd,.int .i64 p])
 obtain⟨x0,x1,x2,x3,x4,x5⟩:=W0.o.held.six'
 have HK:=qh hp
 clear h hp
 go_enter Tryz.func191,Tryz.ntmps191
 go_wp2_with fail
 refine(qLv b t q s hd p _).mono ?_;rintro e w1 ⟨rfl,hb⟩;rw[HK.o];have W1:=qh (W0.o.keep hb);clear hb W0
 go_wp2
 (try simp only[Exit.inBlock,Exit.then])
 refine bodyPost_ret (results_none rfl _ _ _) rfl ?_
 exact⟨rfl,W1.o.fin⟩

theorem qR3 (hn:n<2^40)(k:Nat)(hk:pgB q (k:Int)=true)(hk31:k<2^31)(h:(vOb base b n wh K).At w0 A G st w) :
  Calls Tryz.prog 191 #[.pointer (some ⟨b,0,none⟩),.agg #[.int .i64 t,.int .i64 q,.int .i64 s],.int .i64 hd,.int .i64 (k:Int)] w fun e w'=>e = .returned (.tuple #[])/\(vOb base b n wh K).At w0 A G (pushS n K t q s hd k st) w'/\Stay G w w':=by
 have W0:=qh (WK.two h (.cells #[.int .i64 t,.int .i64 q,.int .i64 s] 23) 229 #[.pointer (some ⟨b,0,none⟩),.int .i64 t,.int .i64 q,.int .i64 s,.int .i64 hd,.int .i64 (k:Int)])
 obtain⟨x0,x1,x2,x3,x4,x5⟩:=W0.o.held.six'
 have HK:=qh hk
 obtain⟨l,hl⟩:∃ l,getV n K st hd=l:=⟨_,rfl⟩
 have hl32:l<2^32:=by rw[<- hl];exact qHJ h hd
 have HL:=qh hl
 have HQ:qH (qBQ n K t q s hd k st=putS n (putS n (getS n K st hd) (pageI t q s (k:Int) 2) l) (pageI t q s (k:Int) 3) 0):=qh (by unfold qBQ;rw[hl])
 have HP:qH (l=0->pushS n K t q s hd k st=putS n (qBQ n K t q s hd k st) hd (k+1)):=qh (fun e=>by unfold pushS qXk;rw[if_pos (hl.trans e)])
 have HR:qH (l≠0->pushS n K t q s hd k st=putS n (putS n (qBQ n K t q s hd k st) (pageI t q s ((l:Int)-1) 3) (k+1)) hd (k+1)):=qh (fun e=>by unfold pushS qXk;rw[if_neg (by rw[hl];exact e),hl])
 clear hl
 clear h hk
 go_enter Tryz.func191,Tryz.ntmps191
 go_wp2_with fail
 refine(qLv b t q s hd k _).mono ?_;rintro e w1 ⟨rfl,hb⟩;have W1:=qh (W0.o.keep hb);clear hb W0;rw[HK.o]
 obtain⟨x0,x1,x2,x3,x4,x5⟩:=W1.o.held.six'
 go_wp2_with fail
 refine(qJs hn W1.o.at_).mono ?_;rintro e w2 ⟨rfl,h1,h2⟩;have W2:=qh (W1.o.call h1 h2);clear h1 h2 W1;rw[HL.o]
 obtain⟨x0,x1,x2,x3,x4,x5⟩:=W2.o.held.six'
 go_wp2_with fail
 refine(qL6 hn l hl32 W2.o.at_).mono ?_;rintro e w3 ⟨rfl,h1,h2⟩;have W3:=qh (W2.o.call h1 h2);clear h1 h2 W2
 obtain⟨x0,x1,x2,x3,x4,x5⟩:=W3.o.held.six'
 go_wp2_with fail
 refine(qKd hn 0 qo W3.o.at_).mono ?_;rintro e w4 ⟨rfl,h1,h2⟩;have W4:=qh (W3.o.call h1 h2);clear h1 h2 W3
 obtain⟨x0,x1,x2,x3,x4,x5⟩:=W4.o.held.six'
 rw[<- HQ.o] at W4
 clear HL HQ HK
 by_cases hz:l=0
 ·have HE:=qh (HP.o hz)
  subst hz
  clear HP HR
  go_wp2_with fail
  refine wp_region_held_drew (S:=(fun w'=>w'.cell? ⟨w.heap.size+1,0,none⟩=some (.pointer (some ⟨b,0,none⟩))/\w'.cell? ⟨w.heap.size+1,1,none⟩=some (.int .i64 t)/\w'.cell? ⟨w.heap.size+1,2,none⟩=some (.int .i64 q)/\w'.cell? ⟨w.heap.size+1,3,none⟩=some (.int .i64 s)/\w'.cell? ⟨w.heap.size+1,4,none⟩=some (.int .i64 hd)/\w'.cell? ⟨w.heap.size+1,5,none⟩=some (.int .i64 (k:Int)))) qr ?_ (fun hHeld=>?_)
  ·(try dsimp only)
   exact MQo
  refine Ro3 ?_
  refine rdz 3 fun K hK=>?_
  go_simp
  refine(qB5 b t q s hd k hk31 _).mono ?_;rintro e w5 ⟨rfl,hb⟩;have W5:=qh (W4.o.drew.keep hb);clear hb W4
  refine qk ?_ (fun hHeld=>?_)
  ·exact MQo
  clear hK K
  refine rdz 4 fun K hK=>?_
  go_simp
  refine(qEM hn (k+1) qo W5.o.at_).mono ?_;rintro e w6 ⟨rfl,h1,h2⟩;have W6:=qh (W5.o.call h1 h2);clear h1 h2 W5
  refine qk ?_ (fun hHeld=>?_)
  ·exact MQo
  clear hK K
  refine dnz ?_
  obtain⟨x0,x1,x2,x3,x4,x5⟩:=W6.o.held.six'
  go_wp2
  go_end0
  exact⟨rfl,by rw[HE.o];exact W6.o.fin⟩
 ·have HE:=qh (HR.o hz)
  have t1:((l:Int)==0)=false:=qs
  have t2:((l:Int) != 0)=true:=qs
  clear HP HR
  go_wp2_with fail
  refine wp_region_held_drew (S:=(fun w'=>w'.cell? ⟨w.heap.size+1,0,none⟩=some (.pointer (some ⟨b,0,none⟩))/\w'.cell? ⟨w.heap.size+1,1,none⟩=some (.int .i64 t)/\w'.cell? ⟨w.heap.size+1,2,none⟩=some (.int .i64 q)/\w'.cell? ⟨w.heap.size+1,3,none⟩=some (.int .i64 s)/\w'.cell? ⟨w.heap.size+1,4,none⟩=some (.int .i64 hd)/\w'.cell? ⟨w.heap.size+1,5,none⟩=some (.int .i64 (k:Int)))) qr ?_ (fun hHeld=>?_)
  ·(try dsimp only)
   exact MkS
  refine Ro3 ?_
  refine tkz 4 ?_
  refine rdz 3 fun K hK=>?_
  go_simp
  refine(qJc b t q s hd l hl32 _).mono ?_;rintro e w5 ⟨rfl,hb⟩;have W5:=qh (W4.o.drew.keep hb);clear hb W4
  refine qk ?_ (fun hHeld=>?_)
  ·exact MkS
  clear hK K
  refine rdz 5 fun K hK=>?_
  go_simp
  refine(qB5 b t q s hd k hk31 _).mono ?_;rintro e w6 ⟨rfl,hb⟩;have W6:=qh (W5.o.keep hb);clear hb W5
  refine qk ?_ (fun hHeld=>?_)
  ·exact MkS
  clear hK K
  refine rdz 6 fun K hK=>?_
  go_simp
  refine(qKd hn (k+1) qo W6.o.at_).mono ?_;rintro e w7 ⟨rfl,h1,h2⟩;have W7:=qh (W6.o.call h1 h2);clear h1 h2 W6
  refine qk ?_ (fun hHeld=>?_)
  ·exact MkS
  clear hK K
  refine dnz ?_
  obtain⟨x0,x1,x2,x3,x4,x5⟩:=W7.o.held.six'
  go_wp2_with fail
  refine wp_region_held_drew (S:=(fun w'=>w'.cell? ⟨w.heap.size+1,0,none⟩=some (.pointer (some ⟨b,0,none⟩))/\w'.cell? ⟨w.heap.size+1,1,none⟩=some (.int .i64 t)/\w'.cell? ⟨w.heap.size+1,2,none⟩=some (.int .i64 q)/\w'.cell? ⟨w.heap.size+1,3,none⟩=some (.int .i64 s)/\w'.cell? ⟨w.heap.size+1,4,none⟩=some (.int .i64 hd)/\w'.cell? ⟨w.heap.size+1,5,none⟩=some (.int .i64 (k:Int)))) qr ?_ (fun hHeld=>?_)
  ·(try dsimp only)
   exact MmZ
  refine Ro3 ?_
  refine rdz 3 fun K hK=>?_
  go_simp
  refine(qB5 b t q s hd k hk31 _).mono ?_;rintro e w8 ⟨rfl,hb⟩;have W8:=qh (W7.o.drew.keep hb);clear hb W7
  refine qk ?_ (fun hHeld=>?_)
  ·exact MmZ
  clear hK K
  refine rdz 4 fun K hK=>?_
  go_simp
  refine(qEM hn (k+1) qo W8.o.at_).mono ?_;rintro e w9 ⟨rfl,h1,h2⟩;have W9:=qh (W8.o.call h1 h2);clear h1 h2 W8
  refine qk ?_ (fun hHeld=>?_)
  ·exact MmZ
  clear hK K
  refine dnz ?_
  obtain⟨x0,x1,x2,x3,x4,x5⟩:=W9.o.held.six'
  go_wp2
  go_end0
  exact⟨rfl,by rw[HE.o];exact W9.o.fin⟩
theorem qXp (hn:n<2^40)(hq:q<=2^31)(p:Int)(h:(vOb base b n wh K).At w0 A G st w) :
  Calls Tryz.prog 191 #[.pointer (some ⟨b,0,none⟩),.agg #[.int .i64 t,.int .i64 q,.int .i64 s],.int .i64 hd,.int .i64 p] w fun e w'=>e = .returned (.tuple #[])/\(vOb base b n wh K).At w0 A G (pushI n K t q s hd p st) w'/\Stay G w w':=by
 cases hp:pgB q p with
 | false=>rw[(qEh hp).1];exact qFA hn p hp h
 | true =>
  have h1:=(qHC _ _).1 hp
  obtain⟨k,rfl⟩:=Int.eq_ofNat_of_zero_le h1.1
  rw[(qK2 hp).1]
  exact qR3 hn k hp qo h

theorem qUb (hn:n<2^40)(p:Int)(hp:pgB q p=false)(h:(vOb base b n wh K).At w0 A G st w) :
  Calls Tryz.prog 195 #[.pointer (some ⟨b,0,none⟩),.agg #[.int .i64 t,.int .i64 q,.int .i64 s],.int .i64 hd,.int .i64 p] w fun e w'=>e = .returned (.tuple #[])/\(vOb base b n wh K).At w0 A G (st) w'/\Stay G w w':=by
 have W0:=qh (WK.two h (.cells #[.int .i64 t,.int .i64 q,.int .i64 s] 23) 229 #[.pointer (some ⟨b,0,none⟩),.int .i64 t,.int .i64 q,.int .i64 s,.int .i64 hd,.int .i64 p])
 obtain⟨x0,x1,x2,x3,x4,x5⟩:=W0.o.held.six'
 have HK:=qh hp
 clear h hp
 go_enter Tryz.func195,Tryz.ntmps195
 go_wp2_with fail
 refine(qLv b t q s hd p _).mono ?_;rintro e w1 ⟨rfl,hb⟩;rw[HK.o];have W1:=qh (W0.o.keep hb);clear hb W0
 go_wp2
 (try simp only[Exit.inBlock,Exit.then])
 refine bodyPost_ret (results_none rfl _ _ _) rfl ?_
 exact⟨rfl,W1.o.fin⟩

theorem qPJ (hn:n<2^40)(k:Nat)(hk:pgB q (k:Int)=true)(hk31:k<2^31)(h:(vOb base b n wh K).At w0 A G st w) :
  Calls Tryz.prog 195 #[.pointer (some ⟨b,0,none⟩),.agg #[.int .i64 t,.int .i64 q,.int .i64 s],.int .i64 hd,.int .i64 (k:Int)] w fun e w'=>e = .returned (.tuple #[])/\(vOb base b n wh K).At w0 A G (pullS n K t q s hd k st) w'/\Stay G w w':=by
 have W0:=qh (WK.two h (.cells #[.int .i64 t,.int .i64 q,.int .i64 s] 23) 229 #[.pointer (some ⟨b,0,none⟩),.int .i64 t,.int .i64 q,.int .i64 s,.int .i64 hd,.int .i64 (k:Int)])
 obtain⟨x0,x1,x2,x3,x4,x5⟩:=W0.o.held.six'
 have HK:=qh hk
 obtain⟨x,hx⟩:∃ x,pullN n K t q s k st=x:=⟨_,rfl⟩
 obtain⟨y,hy⟩:∃ y,pullB n K t q s k st=y:=⟨_,rfl⟩
 have hx32:x<2^32:=by rw[<- hx];exact qHJ h _
 have HX:qH (getV n K st (pageI t q s (k:Int) 2)=x):=qh hx
 have HY:qH (getV n K (getS n K st (pageI t q s (k:Int) 2)) (pageI t q s (k:Int) 3)=y):=qh hy
 have H0:qH (qQi n K t q s k st=getS n K (getS n K st (pageI t q s (k:Int) 2)) (pageI t q s (k:Int) 3)):=qh rfl
 have HA:qH (y=0->qRp n K t q s hd k st=putS n (qQi n K t q s k st) hd x):=qh (fun e=>by unfold qRp;rw[if_pos (hy.trans e),hx])
 have HB:qH (y≠0->qRp n K t q s hd k st=putS n (qQi n K t q s k st) (pageI t q s ((y:Int)-1) 2) x):=qh (fun e=>by unfold qRp;rw[if_neg (by rw[hy];exact e),hx,hy])
 have HC:qH (x=0->qEX n K t q s hd k st=qRp n K t q s hd k st):=qh (fun e=>by unfold qEX;rw[if_pos (hx.trans e)])
 have HD:qH (x≠0->qEX n K t q s hd k st=putS n (qRp n K t q s hd k st) (pageI t q s ((x:Int)-1) 3) y):=qh (fun e=>by unfold qEX;rw[if_neg (by rw[hx];exact e),hx,hy])
 have HE:qH (pullS n K t q s hd k st=putS n (putS n (qEX n K t q s hd k st) (pageI t q s (k:Int) 2) 0) (pageI t q s (k:Int) 3) 0):=qh rfl
 clear hx hy
 clear h hk
 go_enter Tryz.func195,Tryz.ntmps195
 go_wp2_with fail
 refine(qLv b t q s hd k _).mono ?_;rintro e w1 ⟨rfl,hb⟩;have W1:=qh (W0.o.keep hb);clear hb W0;rw[HK.o]
 obtain⟨x0,x1,x2,x3,x4,x5⟩:=W1.o.held.six'
 go_wp2_with fail
 refine wp_region_held_drew (S:=(fun w'=>w'.cell? ⟨w.heap.size+1,0,none⟩=some (.pointer (some ⟨b,0,none⟩))/\w'.cell? ⟨w.heap.size+1,1,none⟩=some (.int .i64 t)/\w'.cell? ⟨w.heap.size+1,2,none⟩=some (.int .i64 q)/\w'.cell? ⟨w.heap.size+1,3,none⟩=some (.int .i64 s)/\w'.cell? ⟨w.heap.size+1,4,none⟩=some (.int .i64 hd)/\w'.cell? ⟨w.heap.size+1,5,none⟩=some (.int .i64 (k:Int)))) qr ?_ (fun hHeld=>?_)
 ·(try dsimp only)
  exact MaT
 refine tkz 0 ?_
 refine tkz 2 ?_
 refine rdz 1 fun K hK=>?_
 go_simp
 refine(qKX hn W1.o.drew.at_).mono ?_;rintro e w2 ⟨rfl,h1,h2⟩;have W2:=qh (W1.o.drew.call h1 h2);have HZ:=W2;clear h1 h2 W1;rw[HX.o]
 refine qk ?_ (fun hHeld=>?_)
 ·exact MaT
 clear hK K
 refine rdz 3 fun K hK=>?_
 go_simp
 refine(qGr hn W2.o.at_).mono ?_;rintro e w3 ⟨rfl,h1,h2⟩;have W3:=qh (W2.o.call h1 h2);clear h1 h2 W2;have hy32:y<2^32:=by { rw[<- HY.o];exact qHJ HZ.o.at_ _ };clear HZ;rw[HY.o]
 refine qk ?_ (fun hHeld=>?_)
 ·exact MaT
 clear hK K
 refine tkz 4 ?_
 refine tkz 5 ?_
 refine dnz ?_
 obtain⟨x0,x1,x2,x3,x4,x5⟩:=W3.o.held.six'
 rw[<- H0.o] at W3
 clear HX HY H0 HK
 by_cases hyz:y=0
 ·have HM:=qh (HA.o hyz)
  subst hyz
  go_wp2_with fail
  refine(qEM hn x hx32 W3.o.at_).mono ?_;rintro e w4 ⟨rfl,h1,h2⟩;have W4:=qh (W3.o.call h1 h2);clear h1 h2 W3
  obtain⟨x0,x1,x2,x3,x4,x5⟩:=W4.o.held.six'
  rw[<- HM.o] at W4
  clear HA HB HM
  by_cases hxz:x=0
  ·have HN:=qh (HC.o hxz)
   subst hxz
   clear HC HD
   go_wp2_with fail
   refine(qL6 hn 0 qo W4.o.at_).mono ?_;rintro e w5 ⟨rfl,h1,h2⟩;have W5:=qh (W4.o.call h1 h2);clear h1 h2 W4
   obtain⟨x0,x1,x2,x3,x4,x5⟩:=W5.o.held.six'
   go_wp2_with fail
   refine(qKd hn 0 qo W5.o.at_).mono ?_;rintro e w6 ⟨rfl,h1,h2⟩;have W6:=qh (W5.o.call h1 h2);clear h1 h2 W5
   obtain⟨x0,x1,x2,x3,x4,x5⟩:=W6.o.held.six'
   go_wp2
   go_end0
   exact⟨rfl,by rw[HE.o,HN.o];exact W6.o.fin⟩
  ·have HN:=qh (HD.o hxz)
   have t3:((x:Int)==0)=false:=qs
   have t4:((x:Int) != 0)=true:=qs
   clear HC HD
   go_wp2_with fail
   refine(qJc b t q s hd x hx32 _).mono ?_;rintro e w5 ⟨rfl,hb⟩;have W5:=qh (W4.o.keep hb);clear hb W4
   obtain⟨x0,x1,x2,x3,x4,x5⟩:=W5.o.held.six'
   go_wp2_with fail
   refine(qKd hn 0 qo W5.o.at_).mono ?_;rintro e w6 ⟨rfl,h1,h2⟩;have W6:=qh (W5.o.call h1 h2);clear h1 h2 W5
   obtain⟨x0,x1,x2,x3,x4,x5⟩:=W6.o.held.six'
   go_wp2_with fail
   refine(qL6 hn 0 qo W6.o.at_).mono ?_;rintro e w7 ⟨rfl,h1,h2⟩;have W7:=qh (W6.o.call h1 h2);clear h1 h2 W6
   obtain⟨x0,x1,x2,x3,x4,x5⟩:=W7.o.held.six'
   go_wp2_with fail
   refine(qKd hn 0 qo W7.o.at_).mono ?_;rintro e w8 ⟨rfl,h1,h2⟩;have W8:=qh (W7.o.call h1 h2);clear h1 h2 W7
   obtain⟨x0,x1,x2,x3,x4,x5⟩:=W8.o.held.six'
   go_wp2
   go_end0
   exact⟨rfl,by rw[HE.o,HN.o];exact W8.o.fin⟩
 ·have HM:=qh (HB.o hyz)
  have t1:((y:Int)==0)=false:=qs
  have t2:((y:Int) != 0)=true:=qs
  go_wp2_with fail
  refine(qJc b t q s hd y hy32 _).mono ?_;rintro e w4 ⟨rfl,hb⟩;have W4:=qh (W3.o.keep hb);clear hb W3
  obtain⟨x0,x1,x2,x3,x4,x5⟩:=W4.o.held.six'
  go_wp2_with fail
  refine(qL6 hn x hx32 W4.o.at_).mono ?_;rintro e w5 ⟨rfl,h1,h2⟩;have W5:=qh (W4.o.call h1 h2);clear h1 h2 W4
  obtain⟨x0,x1,x2,x3,x4,x5⟩:=W5.o.held.six'
  rw[<- HM.o] at W5
  clear HA HB HM
  by_cases hxz:x=0
  ·have HN:=qh (HC.o hxz)
   subst hxz
   clear HC HD
   go_wp2_with fail
   refine(qL6 hn 0 qo W5.o.at_).mono ?_;rintro e w6 ⟨rfl,h1,h2⟩;have W6:=qh (W5.o.call h1 h2);clear h1 h2 W5
   obtain⟨x0,x1,x2,x3,x4,x5⟩:=W6.o.held.six'
   go_wp2_with fail
   refine(qKd hn 0 qo W6.o.at_).mono ?_;rintro e w7 ⟨rfl,h1,h2⟩;have W7:=qh (W6.o.call h1 h2);clear h1 h2 W6
   obtain⟨x0,x1,x2,x3,x4,x5⟩:=W7.o.held.six'
   go_wp2
   go_end0
   exact⟨rfl,by rw[HE.o,HN.o];exact W7.o.fin⟩
  ·have HN:=qh (HD.o hxz)
   have t3:((x:Int)==0)=false:=qs
   have t4:((x:Int) != 0)=true:=qs
   clear HC HD
   go_wp2_with fail
   refine(qJc b t q s hd x hx32 _).mono ?_;rintro e w6 ⟨rfl,hb⟩;have W6:=qh (W5.o.keep hb);clear hb W5
   obtain⟨x0,x1,x2,x3,x4,x5⟩:=W6.o.held.six'
   go_wp2_with fail
   refine(qKd hn y hy32 W6.o.at_).mono ?_;rintro e w7 ⟨rfl,h1,h2⟩;have W7:=qh (W6.o.call h1 h2);clear h1 h2 W6
   obtain⟨x0,x1,x2,x3,x4,x5⟩:=W7.o.held.six'
   go_wp2_with fail
   refine(qL6 hn 0 qo W7.o.at_).mono ?_;rintro e w8 ⟨rfl,h1,h2⟩;have W8:=qh (W7.o.call h1 h2);clear h1 h2 W7
   obtain⟨x0,x1,x2,x3,x4,x5⟩:=W8.o.held.six'
   go_wp2_with fail
   refine(qKd hn 0 qo W8.o.at_).mono ?_;rintro e w9 ⟨rfl,h1,h2⟩;have W9:=qh (W8.o.call h1 h2);clear h1 h2 W8
   obtain⟨x0,x1,x2,x3,x4,x5⟩:=W9.o.held.six'
   go_wp2
   go_end0
   exact⟨rfl,by rw[HE.o,HN.o];exact W9.o.fin⟩
theorem qEp (hn:n<2^40)(hq:q<=2^31)(p:Int)(h:(vOb base b n wh K).At w0 A G st w) :
  Calls Tryz.prog 195 #[.pointer (some ⟨b,0,none⟩),.agg #[.int .i64 t,.int .i64 q,.int .i64 s],.int .i64 hd,.int .i64 p] w fun e w'=>e = .returned (.tuple #[])/\(vOb base b n wh K).At w0 A G (pullI n K t q s hd p st) w'/\Stay G w w':=by
 cases hp:pgB q p with
 | false=>rw[(qEh hp).2];exact qUb hn p hp h
 | true =>
  have h1:=(qHC _ _).1 hp
  obtain⟨k,rfl⟩:=Int.eq_ofNat_of_zero_le h1.1
  rw[(qK2 hp).2]
  exact qPJ hn k hp qo h

end
end
section
theorem qSc (k:Int)(w:World) :
  Calls Tryz.prog 165 #[.int .i64 k] w fun z w'=>z = .returned (.int .i64 (nthI 2 11 1 k))/\w=w':=by
 by_cases c0:k<0
 ·have HN:=qh (qJo (f:=2) (n:=11) (e:=1) (.inr (.inl c0)))
  exact MWM
 ·by_cases c1:11<=k
  ·have HN:=qh (qJo (f:=2) (n:=11) (e:=1) (.inr (.inr c1)))
   exact MWM
  ·have HN:=qh (show nthI 2 11 1 k=2+k by rw[qLq qo qo qo];omega)
   exact MWM

theorem qZD (k:Int)(w:World) :
  Calls Tryz.prog 85 #[.int .i64 k] w fun z w'=>z = .returned (.int .i64 (nthI 13 9 1 k))/\w=w':=by
 by_cases c0:k<0
 ·have HN:=qh (qJo (f:=13) (n:=9) (e:=1) (.inr (.inl c0)))
  exact MYr
 ·by_cases c1:9<=k
  ·have HN:=qh (qJo (f:=13) (n:=9) (e:=1) (.inr (.inr c1)))
   exact MYr
  ·have HN:=qh (show nthI 13 9 1 k=13+k by rw[qLq qo qo qo];omega)
   exact MYr

theorem qSB (k:Int)(w:World) :
  Calls Tryz.prog 67 #[.int .i64 k] w fun z w'=>z = .returned (.int .i64 (nthI 22 8 1 k))/\w=w':=by
 by_cases c0:k<0
 ·have HN:=qh (qJo (f:=22) (n:=8) (e:=1) (.inr (.inl c0)))
  exact MP7
 ·by_cases c1:8<=k
  ·have HN:=qh (qJo (f:=22) (n:=8) (e:=1) (.inr (.inr c1)))
   exact MP7
  ·have HN:=qh (show nthI 22 8 1 k=22+k by rw[qLq qo qo qo];omega)
   exact MP7

theorem qIM (t p s:Int)(w:World) :
  Calls Tryz.prog 139 #[.agg #[.int .i64 t,.int .i64 p,.int .i64 s]] w fun z w'=>z = .returned (.int .i64 (lC t p s))/\Below w.heap.size w w':=by
 have hc:=Held.new w 23 #[.int .i64 t,.int .i64 p,.int .i64 s]
 cases hr:rightB t p s
 ·have HR:=qh hr
  have HN:=qh (qJj hr).hC
  exact Mfi
 ·have HR:=qh hr
  have HN:=qh (qVu hr).hC
  have hn:=(qQB t p s).1 hr
  have t0:1<=t:=qo
  have t1:t<=16:=qo
  have p0:4<=p:=qo
  have p1:p<=1024:=qo
  clear hn
  exact Mfi

theorem qO7 (t p s q b:Int)(b0:0<=b)(b1:b<6)(w:World) :
  Calls Tryz.prog 84 #[.agg #[.int .i64 t,.int .i64 p,.int .i64 s],.int .i64 q,.int .i64 b] w fun z w'=>z = .returned (.int .i64 (pageI t p s q b))/\Below w.heap.size w w':=by
 have hc:=Held.new w 23 #[.int .i64 t,.int .i64 p,.int .i64 s]
 cases hr:rightB t p s
 ·have HR:=qh hr
  have HN:=qh (show pageI t p s q b = -1 from qQL (by intro h;rw[h.1] at hr;cases hr))
  exact M1m
 ·have HR:=qh hr
  have hn:=(qQB t p s).1 hr
  have t0:1<=t:=qo
  have t1:t<=16:=qo
  have p0:4<=p:=qo
  have p1:p<=1024:=qo
  clear hn
  by_cases c0:q<0
  ·exact MeN
  ·skip
   by_cases c1:p<=q
   ·exact MeN
   ·skip
    have HN:=qh (show pageI t p s q b=30+4*t+6*q+b from qKF hr qo qo b0 b1)
    exact M1m

theorem qQ1 (t p s q:Int)(w:World) :
  Calls Tryz.prog 87 #[.agg #[.int .i64 t,.int .i64 p,.int .i64 s],.int .i64 q] w fun z w'=>z = .returned (.int .i64 (pageI t p s q 0))/\Below w.heap.size w w':=by
 go_enter Tryz.func87,Tryz.ntmps87
 go_wp2_with fail
 refine(qO7 t p s q 0 qo qo _).mono ?_
 rintro e w1 ⟨rfl,hb1⟩
 go_wp2
 go_ret
 exact⟨by first|rfl|trivial,Bgo (Bnew (B0 _) _) hb1⟩

theorem qGC (t p s q:Int)(w:World) :
  Calls Tryz.prog 123 #[.agg #[.int .i64 t,.int .i64 p,.int .i64 s],.int .i64 q] w fun z w'=>z = .returned (.int .i64 (pageI t p s q 1))/\Below w.heap.size w w':=by
 go_enter Tryz.func123,Tryz.ntmps123
 go_wp2_with fail
 refine(qO7 t p s q 1 qo qo _).mono ?_
 rintro e w1 ⟨rfl,hb1⟩
 go_wp2
 go_ret
 exact⟨by first|rfl|trivial,Bgo (Bnew (B0 _) _) hb1⟩

theorem qKI (t p s q:Int)(w:World) :
  Calls Tryz.prog 126 #[.agg #[.int .i64 t,.int .i64 p,.int .i64 s],.int .i64 q] w fun z w'=>z = .returned (.int .i64 (pageI t p s q 2))/\Below w.heap.size w w':=by
 go_enter Tryz.func126,Tryz.ntmps126
 go_wp2_with fail
 refine(qO7 t p s q 2 qo qo _).mono ?_
 rintro e w1 ⟨rfl,hb1⟩
 go_wp2
 go_ret
 exact⟨by first|rfl|trivial,Bgo (Bnew (B0 _) _) hb1⟩

theorem qJU (t p s q:Int)(w:World) :
  Calls Tryz.prog 127 #[.agg #[.int .i64 t,.int .i64 p,.int .i64 s],.int .i64 q] w fun z w'=>z = .returned (.int .i64 (pageI t p s q 3))/\Below w.heap.size w w':=by
 go_enter Tryz.func127,Tryz.ntmps127
 go_wp2_with fail
 refine(qO7 t p s q 3 qo qo _).mono ?_
 rintro e w1 ⟨rfl,hb1⟩
 go_wp2
 go_ret
 exact⟨by first|rfl|trivial,Bgo (Bnew (B0 _) _) hb1⟩

theorem qSX (t p s q:Int)(w:World) :
  Calls Tryz.prog 42 #[.agg #[.int .i64 t,.int .i64 p,.int .i64 s],.int .i64 q] w fun z w'=>z = .returned (.int .i64 (pageI t p s q 4))/\Below w.heap.size w w':=by
 go_enter Tryz.func42,Tryz.ntmps42
 go_wp2_with fail
 refine(qO7 t p s q 4 qo qo _).mono ?_
 rintro e w1 ⟨rfl,hb1⟩
 go_wp2
 go_ret
 exact⟨by first|rfl|trivial,Bgo (Bnew (B0 _) _) hb1⟩

theorem qLb (t p s q:Int)(w:World) :
  Calls Tryz.prog 90 #[.agg #[.int .i64 t,.int .i64 p,.int .i64 s],.int .i64 q] w fun z w'=>z = .returned (.int .i64 (pageI t p s q 5))/\Below w.heap.size w w':=by
 go_enter Tryz.func90,Tryz.ntmps90
 go_wp2_with fail
 refine(qO7 t p s q 5 qo qo _).mono ?_
 rintro e w1 ⟨rfl,hb1⟩
 go_wp2
 go_ret
 exact⟨by first|rfl|trivial,Bgo (Bnew (B0 _) _) hb1⟩
end
section
theorem qNE {n:Int}(h:n<=1024):HM.logI n=ofI n:=by
 unfold ofI
 by_cases h1:n<1
 ·rw[if_pos (.inl h1),HM.logI_no n h1]
 ·rw[if_neg qo]
theorem qBy {n:Int}(h:1024<n):ofI n = -1:=by unfold ofI;rw[if_pos (.inr h)]
theorem qCd {n:Nat}{K:Nat->Option Nat}{t q s p nn:Int}{st:Vst}(h:¬ (pgB q p=true/\1<=nn/\nn<=q-p)):addS n K t q s p nn st=st:=by unfold addS;rw[if_neg h]
theorem qV2 {n:Nat}{K:Nat->Option Nat}{t q s:Int}{k m:Nat}{st:Vst}(h:pgB q (k:Int)=true/\1<=(m:Int)/\(m:Int)<=q-(k:Int)) :
  addS n K t q s (k:Int) (m:Int) st=pushI n K t q s (binH (m:Int)) (k:Int) (putS n (putS n st (pageI t q s (k:Int) 0) (infoV 1 (m:Int) 0)) (pageI t q s ((k:Int)+(m:Int)-1) 1) (k+1)):=by
 unfold addS
 rw[if_pos h,Int.toNat_natCast]
theorem qUX {v:Nat}{l c:Int}{ok:Bool}(h:infoG v=(1,l,c,ok)):0<=l/\l<=1024:=by
 cases hb:infoB (v%16:Nat) (v / 16%4096:Nat) (v / 65536:Nat)
 ·rw[qWq hb] at h
  injection h with h _
  omega
 ·rw[qKN hb] at h
  have h1:=qLf hb
  injection h with h2 h
  injection h with h3 _
  unfold infoP at h1
  omega

theorem qET (n:Int)(h0 : -9223372036854775808<=n)(h1:n<=9223372036854775807)(w:World) :
  Calls Tryz.prog 203 #[.int .i64 n] w fun e w'=>e = .returned (.int .i64 (ofI n))/\w=w':=by
 by_cases h:1024<n
 ·have t0:decide ((1024:Int)<n)=true:=decide_eq_true h
  have HO:=qh (qBy h)
  go_enter Tryz.func203,Tryz.ntmps203
  go_wp2
  go_ret
  exact⟨by rw[HO.o];rfl,rfl⟩
 ·have t0:decide ((1024:Int)<n)=false:=decide_eq_false h
  have HO:qH (HM.logI n=ofI n):=qh (qNE qo)
  go_enter Tryz.func203,Tryz.ntmps203
  go_wp2_with fail
  refine(qLV n h0 h1 _).mono ?_
  rintro e w1 ⟨rfl,rfl⟩
  rw[HO.o]
  go_wp2
  go_ret
  exact⟨rfl,rfl⟩
theorem qQQ (t q s p:Int)(w:World) :
  Calls Tryz.prog 205 #[.agg #[.int .i64 t,.int .i64 q,.int .i64 s],.int .i64 p] w fun e w'=>e = .returned (.bool (pgB q p))/\Below w.heap.size w w':=by
 have hB:=Bnew (B0 w) (.cells #[.int .i64 t,.int .i64 q,.int .i64 s] 23)
 obtain⟨x0,x1,x2⟩:=(Held.new w 23 #[.int .i64 t,.int .i64 q,.int .i64 s]).three
 unfold pgB
 by_cases h0:0<=p
 ·have t0:decide ((0:Int)<=p)=true:=decide_eq_true h0
  obtain⟨c,t1⟩:∃ c,decide (p<q)=c:=⟨_,rfl⟩
  rw[t0,t1]
  cases c with
  | true =>
   go_enter Tryz.func205,Tryz.ntmps205
   go_wp2
   go_ret
   exact⟨rfl,hB⟩
  | false =>
   go_enter Tryz.func205,Tryz.ntmps205
   go_wp2
   go_ret
   exact⟨rfl,hB⟩
 ·have t0:decide ((0:Int)<=p)=false:=decide_eq_false h0
  rw[t0]
  go_enter Tryz.func205,Tryz.ntmps205
  go_wp2
  go_ret
  exact⟨rfl,hB⟩

theorem qBc (k l c nn:Int)(w:World) :
  Calls Tryz.prog 206 #[.agg #[.int .i64 k,.int .i64 l,.int .i64 c],.int .i64 nn] w fun e w'=>e = .returned (.bool (decide (k=1)&&decide (nn<=l)))/\Below w.heap.size w w':=by
 have hB:=Bnew (B0 w) (.cells #[.int .i64 k,.int .i64 l,.int .i64 c] 119)
 obtain⟨x0,x1,x2⟩:=(Held.new w 119 #[.int .i64 k,.int .i64 l,.int .i64 c]).three
 by_cases h0:k=1
 ·have t0:(k==1)=true:=by simpa using h0
  obtain⟨d,t1⟩:∃ d,decide (nn<=l)=d:=⟨_,rfl⟩
  rw[decide_eq_true h0,t1]
  clear h0
  cases d with
  | true =>
   go_enter Tryz.func206,Tryz.ntmps206
   go_wp2
   go_ret
   exact⟨rfl,hB⟩
  | false =>
   go_enter Tryz.func206,Tryz.ntmps206
   go_wp2
   go_ret
   exact⟨rfl,hB⟩
 ·have t0:(k==1)=false:=by simpa using h0
  rw[decide_eq_false h0]
  go_enter Tryz.func206,Tryz.ntmps206
  go_wp2
  go_ret
  exact⟨rfl,hB⟩

section
variable {base b n : Nat} {wh all : Bool} {K : Nat -> Option Nat} {st : Vst} {w w0 : World} {A G : Nat -> Prop} {t q s : Int}
theorem qXj (hn:n<2^40)(p k l c:Int)(ok:Bool)(hI:infoOf n K t q s p st=(k,l,c,ok))(h:(vOb base b n wh K).At w0 A G st w) :
  Calls Tryz.prog 207 #[.pointer (some ⟨b,0,none⟩),.agg #[.int .i64 t,.int .i64 q,.int .i64 s],.int .i64 p] w fun e w'=>e = .returned (.agg #[.int .i64 k,.int .i64 l,.int .i64 c])/\(vOb base b n wh K).At w0 A G (getS n K st (pageI t q s p 0)) w'/\Stay G w w':=by
 have W0:=qh (((WL.start h).new 23 #[.int .i64 t,.int .i64 q,.int .i64 s]).new 119 #[.int .i64 0,.int .i64 0,.int .i64 0])
 rw[World.size_alloc] at W0
 obtain⟨x0,x1,x2⟩:=W0.o.h1.three
 obtain⟨v,hv⟩:∃ v,getV n K st (pageI t q s p 0)=v:=⟨_,rfl⟩
 have hv32:v<2^32:=by rw[<- hv];exact qHJ h _
 have HI:qH (infoG v=(k,l,c,ok)):=qh (by rw[<- hv];exact hI)
 have HV:=qh hv
 clear h hI hv
 go_enter Tryz.func207,Tryz.ntmps207
 go_wp2_with fail
 refine(qSM t q s p _).mono ?_;rintro e w1 ⟨rfl,hb⟩;have W1:=qh (W0.o.keep hb);clear hb W0
 go_wp2_with fail
 refine(vGetA hn _ W1.o.at_).mono ?_;rintro e w2 ⟨rfl,h1,h2⟩;have W2:=qh (W1.o.call h1 h2);clear h1 h2 W1;rw[HV.o]
 go_wp2_with fail
 refine(qMJ v k l c ok hv32 HI.o _).mono ?_;rintro e w3 ⟨rfl,hb⟩;have W3:=qh (W2.o.keep hb);clear hb W2
 have W4:=qh (((((W3.o.alloc (.cells #[.int .i64 k,.int .i64 l,.int .i64 c] 119)).put 0 (.int .i64 k)).put 1 (.int .i64 l)).put 2 (.int .i64 c)))
 obtain⟨y0,y1,y2⟩:=(Held.new w3 119 #[.int .i64 k,.int .i64 l,.int .i64 c]).three
 have hfz:=(W3.o.alloc (.cells #[.int .i64 k,.int .i64 l,.int .i64 c] 119)).h0.thawed
 obtain⟨z0,z1,z2⟩:=(W3.o.alloc (.cells #[.int .i64 k,.int .i64 l,.int .i64 c] 119)).h0.three
 obtain⟨r0,r1,r2⟩:=W4.o.h0.three
 go_wp2
 refine bodyPost_ret (v := .agg #[.int .i64 k,.int .i64 l,.int .i64 c]) (by simp[results,Tryz.results207,go_sem,r0,r1,r2]) rfl ⟨rfl,?_⟩
 exact W4.o.fin
end
end
end Go.Proofs.YtjjfcaliippgpaaGreatDoor
