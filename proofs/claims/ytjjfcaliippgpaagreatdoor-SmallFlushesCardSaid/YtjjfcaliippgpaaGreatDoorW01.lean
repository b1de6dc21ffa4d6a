/-
  Pockets (api.Pockets) of all threads that came in, opened.
-/
import Derived.Test.YtjjfcaliippgpaaGreatDoorWKit
import Derived.Deep.Slices
import Derived.Lib.SmallJoins
import Derived.OpenShut
import Derived.Deep.DeepFit
import Derived.Maps.OwnSet
import Derived.Maps.RangeWalk
namespace Go.Proofs.YtjjfcaliippgpaaGreatDoor
theorem Mxe {P:Prop}(h:P:=by
 rcases h.2 with ⟨h1,h2⟩|⟨g,cap,cur,h1,hb,hg,hnc,hcm,hr⟩
 ·injection h1 with _ h1 h3;omega
 ·injection h1 with _ _ h3;unfold maxLen at hcm;omega):P:=h
end Go.Proofs.YtjjfcaliippgpaaGreatDoor
set_option linter.unusedVariables false
set_option linter.unusedSimpArgs false
set_option maxRecDepth 100000
set_option maxHeartbeats 25600000
namespace Go.Proofs.YtjjfcaliippgpaaGreatDoor
open Go.ChangeShapes Go.WideShapes Go.ChangeAt Go.RowKit
section
structure Sl where
 a:Option Addr
 n:Nat
 c:Nat
instance:Inhabited Sl:=⟨⟨none,0,0⟩⟩
abbrev Sl.v (x:Sl):Value := .slice x.a x.n x.c
def LongsAt (w:World) (u:Value) (l:List Int):Prop :=
 ∃ A c,u = .slice A l.length c/\l.length<=c/\c<=maxLen/\(∀ z∈l,-9223372036854775808<=z/\z<=9223372036854775807)/\(A=none->l = []/\c=0) /\
  ∀ ad,A=some ad->(l ≠ []->ad.block<w.heap.size)/\∀ i z,l[i]?=some z->w.cell? (ad.add i)=some (.int .i64 z)
theorem LongsAt.below {w w':World}{u:Value}{l:List Int}(h:LongsAt w u l)(hb:Below w.heap.size w w'):LongsAt w' u l:=by
 obtain⟨A,c,h1,h2,h3,h4,h5,h6⟩:=h
 refine⟨A,c,h1,h2,h3,h4,h5,fun ad e=>⟨fun hl=>Nat.lt_of_lt_of_le ((h6 ad e).1 hl) hb.size,fun i z hz=>?_⟩⟩
 have hl:l ≠ []:=fun e=>by rw[e] at hz;simp at hz
 exact(hb.cell (p:=ad.add i) (by rw[qXL];exact(h6 ad e).1 hl)).trans ((h6 ad e).2 i z hz)
def PksAt (w:World) (A:Option Addr) (T:Nat) (U:Nat->Nat->Sl) (Z:Nat->Nat->List Int):Prop :=
 ∀ t,t<T->∃ ad,A=some ad/\ad.block<w.heap.size/\∀ k,k<9->w.cell? (ad.add (t*9+k))=some (U t k).v/\LongsAt w (U t k).v (Z t k)
theorem PksAt.below {w w':World}{A:Option Addr}{T:Nat}{U:Nat->Nat->Sl}{Z:Nat->Nat->List Int}(h:PksAt w A T U Z)(hb:Below w.heap.size w w'):PksAt w' A T U Z:=fun t ht=>by
 obtain⟨ad,e,h1,h2⟩:=h t ht
 exact⟨ad,e,Nat.lt_of_lt_of_le h1 hb.size,fun k hk=>⟨(hb.cell (p:=ad.add (t*9+k)) (by rw[qXL];exact h1)).trans (h2 k hk).1,(h2 k hk).2.below hb⟩⟩
section
variable {H : Type} {enc : TypeId × Value -> H} {w : World} {base : Nat} {sp : Nat -> Bool} {held : Bool}
theorem qWl {fuel:Nat}{cs:List Value}{x:DataW H × List MemPlace}(h:DataW.trod enc Tryz.prog w base sp held fuel 34 cs=some x)(hlt:∀ y∈x.2,y.block<w.heap.size) :
  ∃ u l,cs = [u]/\LongsAt w u l:=by
 have hc : Tryz.prog.cellsOf 2 = 1:=by kernel_rfl
 rcases open_ints Tryz.underlying34 Tryz.underlying2 hc h with ⟨hcs,_⟩|⟨a,len,cap,zs,hcs,hb,hl,hm,hz,hx,hcell,hwf⟩
 ·exact⟨_,[],hcs,none,0,rfl,Nat.le_refl _,Nat.zero_le _,by simp,fun _=>⟨rfl,rfl⟩,fun ad e=>by cases e⟩
 ·have hlz:len<=zs.length:=by rw[hz];split <;> omega
  have hlen:(zs.take len).length=len:=by rw[List.length_take];omega
  refine⟨_,zs.take len,hcs,some a,cap,by rw[hlen],by rw[hlen];exact hl,hm,?_,(fun e=>by cases e),fun ad e=>?_⟩
  ·intro z hz1
   exact qO1 (hwf z (List.mem_of_mem_take hz1))
  ·injection e with e
   subst e
   refine⟨fun hne=>?_,fun i z hi=>?_⟩
   ·have hp:x.2=MemPlace.row a zs.length:=congrArg Prod.snd hx
    have h0:0<zs.length:=by
     rcases Nat.eq_zero_or_pos zs.length with h0|h0
     ·exact absurd (by rw[List.length_eq_zero_iff.1 h0,List.take_nil]) hne
     ·exact h0
    have h1:=hlt ((MemPlace.row a zs.length)[0]'(by simp[MemPlace.row];exact h0)) (by rw[hp];exact List.getElem_mem _)
    simpa [MemPlace.row,MemPlace.block] using h1
   ·have hi2:i<len:=by
     rcases Nat.lt_or_ge i len with h1|h1
     ·exact h1
     ·rw[List.getElem?_eq_none (by rw[hlen];exact h1)] at hi;cases hi
    rw[List.getElem?_take_of_lt hi2] at hi
    rw[hcell i qo]
    simp[List.getD,hi]
theorem qU3 {fuel:Nat}{cs:List Value}{x:DataW H × List MemPlace}(h:DataW.trod enc Tryz.prog w base sp held fuel 36 cs=some x)(hlt:∀ y∈x.2,y.block<w.heap.size) :
  cs.length=9/\∀ k,k<9->∃ u l,cs[k]?=some u/\LongsAt w u l:=by
 have hC : Tryz.prog.cellsOf 36 = 9:=by kernel_rfl
 have hc : Tryz.prog.cellsOf 34 = 1:=by kernel_rfl
 obtain⟨xs,m,_,hx,hl,hxl,hi⟩:=DataW.trod_array Tryz.underlying36 h
 rw[hC] at hl
 refine⟨hl,fun k hk=>?_⟩
 have h1:=hi k hk
 rw[hc,Nat.mul_one] at h1
 obtain⟨y,hy⟩:∃ y,xs[k]?=some y:=⟨_,List.getElem?_eq_getElem qo⟩
 rw[hy] at h1
 obtain⟨u,l,e,hu⟩:=qWl h1 (fun z hz=>hlt z (by
  rw[hx]
  exact List.mem_flatMap.2 ⟨y,List.mem_of_getElem? hy,hz⟩))
 refine⟨u,l,?_,hu⟩
 have h2:=congrArg (fun l=>l[0]?) e
 simpa [List.getElem?_take_of_lt] using h2
end
end
section
theorem qJy {P:Program}{w:World}(t ty e:TypeId)(i:TypeInfo)(ht:P.underlying t=some (.slice e))(hi:P.info? e=some i)(A:Option Addr)(n cap c:Nat)(hn:n<=cap) :
  (Builtin.append_ #[t,t] ty #[.slice A n cap,.slice none 0 c]).run P w = .ok (.slice A n cap) w:=by
 cases A <;> simp[Builtin.append_,run_underlying ht,sizeOf,typeInfo,hi,Builtin.firstCells,hn,Builtin.lenOf,storeCells]

theorem qEG {P:Program}{w:World}{ops:Array Oper}{rest:List Oper}{o:Oper}{a:Act}{Q:Exit->Act->World->Prop}(hgd:o.guard=none)(s x:Operand)(t:TypeId)
  (ho:o.op = .call { callee := .builtin .append,args:=#[s,x],argTypes:=#[t,t] })
  (e:TypeId) (i:TypeInfo) (ht:P.underlying t=some (.slice e)) (hi:P.info? e=some i) (A:Option Addr) (n cap c:Nat) (hn:n<=cap)
  (hs:a.eval s = .slice A n cap) (hx:a.eval x = .slice none 0 c)
  (h:wpList P ops Q rest (a.put o.dst (.slice A n cap)) w):wpList P ops Q (o :: rest) a w:=by
 refine wpList_plain hgd fun K' hK'=>?_
 unfold Oper.wp
 simp[execOp,ho,resolve,invoke,builtin,hs,hx,qJy t o.type e i ht hi A n cap c hn,Result.andThen]
 exact hK' _ _ h
end
section
def haveT (Z:Nat->Nat->List Int) (k:Nat):Nat->List Int
 | 0 => []
 | T+1=>haveT Z k T++Z T k
end
section
theorem longInfo:(Tryz.prog.info? 2).map (fun i=>(i.zero,i.size,i.bytes))=some (some (.int .i64 0),1,8):=by kernel_rfl
theorem intInfo:(Tryz.prog.info? 3).map (fun i=>(i.zero,i.size,i.bytes))=some (some (.int .i64 0),1,8):=by kernel_rfl
end
open Go.Maps
section
theorem qIV {l:List Int}{i:Nat}{z:Int}(a:Int)(hz:l[i]?=some z):(l.take (i+1)).count a=(l.take i).count a+if z=a then 1 else 0:=by
 rw[List.take_add_one,hz,List.count_append]
 congr 1
 show [z].count a=_
 rw[List.count_singleton]
 by_cases h:z=a
 ·subst h;simp
 ·rw[if_neg h];simp[h]
theorem qBi (u:Value)(l:List Int)(a:Int)(nl:Nat)(hnl:l.length=nl)(hl:nl<=1000000)(w:World)(h:LongsAt w u l) :
  Calls Tryz.prog 70 #[u,.int .i64 a] w fun e w'=>e = .returned (.int .i64 ((l.count a:Nat):Int))/\w=w':=by
 obtain⟨A,c,rfl,hlc,hcm,hb,hnone,hcell⟩:=h
 have HNL:=qh hnl
 have HCL:=qh hcell
 have HNO:=qh hnone
 rw[hnl] at hlc ⊢
 clear hnl hcell hnone
 go_enter Tryz.func70,Tryz.ntmps70
 go_wp2
 go_loop [5,6] (fun u5 u6=>∃ i:Nat,i<=nl/\u6 = .int .i64 (i:Int)/\u5 = .int .i64 (((l.take i).count a:Nat):Int)) (fun _ u6=>nl-(intOf u6).toNat)
 case atStart=>exact⟨0,qo,rfl,rfl⟩
 case round =>
  obtain⟨i,hi,rfl,rfl⟩:=hrel
  by_cases hlt:i<nl
  ·obtain⟨z,hz⟩:∃ z,l[i]?=some z:=⟨_,List.getElem?_eq_getElem (by rw[HNL.o];exact hlt)⟩
   cases A with
   | none=>exact absurd HNL.o (by rw[(HNO.o rfl).1];simp;omega)
   | some ad =>
    have hc:=(HCL.o ad rfl).2 i z hz
    have HT:=qh (qIV a hz)
    have hk:(l.take i).count a<=i:=Nat.le_trans List.count_le_length (by rw[List.length_take];omega)
    clear hz
    generalize (l.take i).count a=y at *
    by_cases h4:z=a
    ·have t0:(z==a)=true:=by simpa using h4
     rw[if_pos h4] at HT
     clear h4
     go_wp2
     go_round
     case rel=>exact⟨i+1,qo,by go_num,by rw[HT.o];go_num⟩
     case measure=>simp[intOf];omega
    ·have t0:(z==a)=false:=by simpa using h4
     rw[if_neg h4,Nat.add_zero] at HT
     clear h4
     go_wp2
     go_round
     case rel=>exact⟨i+1,qo,by go_num,by rw[HT.o];rfl⟩
     case measure=>simp[intOf];omega
  ·obtain rfl:i=nl:=qo
   have HE:qH (l.take i=l):=qh (List.take_of_length_le (by rw[HNL.o];exact Nat.le_refl _))
   go_wp2
   go_ret
   exact⟨by rw[HE.o];rfl,rfl⟩
def lgVs (l:List Int):List Value:=l.map (Value.int .i64)
theorem qM7 (l:List Int):(lgVs l).length=l.length:=List.length_map ..
theorem qSW {l:List Int}{j:Nat}{u:Value}(h:(lgVs l)[j]?=some u):∃ z,l[j]?=some z/\u = .int .i64 z:=by
 unfold lgVs at h
 rw[List.getElem?_map] at h
 cases hz:l[j]? with
 | none=>rw[hz] at h;cases h
 | some z=>rw[hz] at h;injection h with h;exact⟨z,rfl,h.symm⟩
theorem qIZ {w:World}{base:Nat}{e:TypeId}{size n c:Nat}{A:Option Addr}{xs:List Value}(h:w.ownsRow base e size (.slice A n c) n xs):n<=c/\c<=9223372036854775807:=by
 exact Mxe
theorem qXy (A:Option Addr)(T c k:Nat)(U:Nat->Nat->Sl)(Z:Nat->Nat->List Int)(hT:T<=1000)(hk:k<9)(hl:∀ t,t<T->(Z t k).length<=1000)(hTc:T<=c)(hcm:c<=maxLen)(w:World)(h:PksAt w A T U Z) :
    Calls Tryz.prog 69 #[.slice A T c,.int .i64 (k:Int)] w fun e w'=>∃ u,e = .returned u/\w'.ownsRow w.heap.size 2 1 u (haveT Z k T).length (lgVs (haveT Z k T))/\Below w.heap.size w w':=by
  have HP:=qh h
  have HB:=qh (Bnew (B0 w) (.cells #[] 2))
  have HO:qH ((w.alloc (.cells #[] 2)).ownsRow w.heap.size 2 1 (.slice (some ⟨w.heap.size,0,none⟩) 0 0) 0 []):=qh (World.ownsRow_lit (base:=w.heap.size) (e := 2) (size:=1) w #[] 0 (Nat.le_refl _) (by unfold maxLen;omega) rfl)
  have hlen:∀ i,i<=T->(haveT Z k i).length<=i*1000:=fun i=>by
    induction i with
    | zero=>intro _;exact Nat.le_refl _
    | succ i ih =>
      intro hi
      unfold haveT
      rw[List.length_append]
      have:=ih qo
      have:=hl i qo
      omega
  obtain⟨i0,hi0,hz0,hz1,hz2⟩:=info_parts longInfo
  clear h
  go_enter Tryz.func69,Tryz.ntmps69
  go_wp2
  go_loopw [5,6] (fun u5 u6 wr=>∃ i:Nat,i<=T/\u6 = .int .i64 (i:Int)/\qH (wr.ownsRow w.heap.size 2 1 u5 (haveT Z k i).length (lgVs (haveT Z k i)))/\qH (Below w.heap.size w wr)) (fun _ u6 _=>T-(intOf u6).toNat)
  case atStart=>exact⟨0,qo,rfl,HO,HB⟩
  case round =>
    clear HO HB
    obtain⟨i,hi,rfl,HO,HB⟩:=hrel
    by_cases hlt:i<T
    · obtain⟨ad,e,_,hcs⟩:=HP.o.below HB.o i hlt
      subst e
      obtain⟨hc0,hL⟩:=hcs k hk
      obtain⟨A2,c2,hu,hlc,hcm2,_,hno,hcl⟩:=hL
      rw[hu] at hc0
      have hc1:=hc0
      rw[<- qUN] at hc1
      have hll:=hlen i hi
      have hz:=hl i hlt
      have HE:qH (haveT Z k (i+1)=haveT Z k i++Z i k):=qh rfl
      have HCL:=qh hcl
      obtain⟨n1,hn1⟩:∃ n1,(Z i k).length=n1:=⟨_,rfl⟩
      obtain⟨n0,hn0⟩:∃ n0,(haveT Z k i).length=n0:=⟨_,rfl⟩
      have HN1:=qh hn1
      have HN0:=qh hn0
      rw[hn0] at HO hll
      rw[hn1] at hc0 hc1 hlc hz
      obtain⟨A1,c1,hu1⟩:=qKK HO.o
      subst hu1
      have hcc:=qIZ HO.o
      clear hcl hu hn1 hn0
      cases A2 with
      | none =>
        obtain⟨hz1',hz2'⟩:=hno rfl
        have hn10:n1=0:=by rw[<- HN1.o,hz1'];rfl
        subst hn10
        subst hz2'
        go_wp2_with (first
          | (at_builtin
             refine qEG rfl _ _ 34 rfl 2 i0 Tryz.underlying34 hi0 A1 n0 c1 0 hcc.1 rfl rfl ?_)
          | fail)
        go_roundw
        case rel=>exact⟨i+1,qo,by go_num,by rw[HE.o,hz1',List.append_nil,HN0.o];exact HO,HB⟩
        case measure=>simp[intOf];omega
      | some ad2 =>
        go_wp2_with (first
          | (at_builtin
             refine wpList_append_own _ rfl _ _ 34 rfl w.heap.size 2 i0 (.int .i64 0) 1 8 Tryz.underlying34 hi0 hz0 hz1 hz2 rfl (by decide) _ _ _ rfl HO.o ad2 n1 c2 (lgVs (Z i k)) rfl ?c0 ?c1 ?c2 ?c3 ?c4 ?c5 ?_
             case c0=>rw[qM7,HN1.o];omega
             case c1=>intro j y hy;obtain⟨z,hz,rfl⟩:=qSW hy;exact(HCL.o ad2 rfl).2 j z hz
             case c2=>intro y hy;obtain⟨j,hj⟩:=List.mem_iff_getElem?.1 hy;obtain⟨z,_,rfl⟩:=qSW hj;simp[Value.oneCell']
             case c3=>unfold maxLen;omega
             case c4=>omega
             case c5=>have:=HB.o.size;omega
             intro u7 w7 hown7 hgrow hat7
             have HO7:qH (w7.ownsRow w.heap.size 2 1 u7 (haveT Z k (i+1)).length (lgVs (haveT Z k (i+1)))):=qh (by rw[HE.o,List.length_append,HN0.o,HN1.o];unfold lgVs at hown7 ⊢;rw[List.map_append];exact hown7)
             have HB7:=qh (HB.o.grown hgrow (by have:=HB.o.size;omega) (fun j hj=>(HO.o.lt j hj).1))
             clear hown7 hgrow hat7)
          | fail)
        go_roundw
        case rel=>exact⟨i+1,qo,by go_num,HO7,HB7⟩
        case measure=>simp[intOf];omega
    · obtain rfl:i=T:=qo
      go_wp2
      go_ret
      exact⟨_,rfl,HO.o,HB.o⟩
end
section
abbrev pkC (U:Nat->Sl):Array Value:=#[(U 0).v,(U 1).v,(U 2).v,(U 3).v,(U 4).v,(U 5).v,(U 6).v,(U 7).v,(U 8).v]
def PkV (w:World) (U:Nat->Sl) (Z:Nat->List Int):Prop:=∀ k,k<9->LongsAt w (U k).v (Z k)
theorem PkV.below {w w':World}{U:Nat->Sl}{Z:Nat->List Int}(h:PkV w U Z)(hb:Below w.heap.size w w'):PkV w' U Z:=fun k hk=>(h k hk).below hb
theorem qQN (U:Nat->Sl):∀ k,k<9->(pkC U)[k]?=some (U k).v
 | 0,_=>rfl
 | 1,_=>rfl
 | 2,_=>rfl
 | 3,_=>rfl
 | 4,_=>rfl
 | 5,_=>rfl
 | 6,_=>rfl
 | 7,_=>rfl
 | 8,_=>rfl
 | k+9,h=>absurd h qo
theorem Held.pk {w:World}{g:Nat}{t:TypeId}{U:Nat->Sl}(h:Held w g t (pkC U)){k:Nat}(hk:k<9):w.cell? ⟨g,k,none⟩=some (U k).v:=by
 rw[h.cell k]
 exact qQN U k hk
def lastP (Z:Nat->List Int) (k:Int):Option Int:=if 0<=k/\k<=8 then (Z k.toNat).getLast? else none
theorem qUw {Z:Nat->List Int}{k:Nat}(hk:k<9):lastP Z (k:Int)=(Z k).getLast?:=by unfold lastP;rw[if_pos qo,Int.toNat_natCast]
theorem qYq {Z:Nat->List Int}{k:Int}(hk:k<0\/8<k):lastP Z k=none:=by unfold lastP;rw[if_neg qo]
def lastV (o:Option Int):Value:=match o with
 | some a => .tuple #[.int .i64 a,.bool true]
 | none => .tuple #[.int .i64 0,.bool false]
end
section
structure Turns (F:Nat->Prop) (w w':World):Prop where
 os:w'.os=w.os
 tape:w'.tape=w.tape
 output:w'.output=w.output
 size:w.heap.size<=w'.heap.size
 block:∀ i,i<w.heap.size->¬ F i->w'.heap[i]?=w.heap[i]?

section
variable {F G : Nat -> Prop} {w w' w'' : World}
theorem T0 (F:Nat->Prop)(w:World):Turns F w w:=⟨rfl,rfl,rfl,Nat.le_refl _,fun _ _ _=>rfl⟩
theorem Turns.trans (h:Turns F w w')(k:Turns F w' w''):Turns F w w'' :=
 ⟨k.os.trans h.os,k.tape.trans h.tape,k.output.trans h.output,Nat.le_trans h.size k.size,fun i hi hf=>(k.block i (Nat.lt_of_lt_of_le hi h.size) hf).trans (h.block i hi hf)⟩
theorem Turns.more (h:Turns F w w')(hg:∀ i,F i->G i):Turns G w w':=⟨h.os,h.tape,h.output,h.size,fun i hi hf=>h.block i hi (fun x=>hf (hg i x))⟩
theorem Turns.more_new {W:World}(h:Turns F w w')(hs:W.heap.size<=w.heap.size)(hb:Turns G W w)(hg:∀ i,F i->G i\/W.heap.size<=i):Turns G W w' :=
 ⟨h.os.trans hb.os,h.tape.trans hb.tape,h.output.trans hb.output,Nat.le_trans hs h.size,fun i hi hf=>(h.block i (Nat.lt_of_lt_of_le hi hs) (fun x=>by
  rcases hg i x with h1|h1
  ·exact hf h1
  ·omega)).trans (hb.block i hi hf)⟩
theorem Turns.of_below (h:Below w.heap.size w w')(F:Nat->Prop):Turns F w w':=⟨h.os,h.tape,h.output,h.size,fun i hi _=>h.block i hi⟩
theorem Turns.of_grown {b:Nat}(h:w.grownBy w' (some b))(hb:F b):Turns F w w':=⟨h.os,h.tape,h.output,h.size,fun i hi hf=>h.block i hi (fun e=>by injection e with e;subst e;exact hf hb)⟩
theorem Turns.drew (h:Turns F w w'):Turns F w w'.drew:=⟨h.os,h.tape,h.output,h.size,h.block⟩
theorem Turns.alloc (h:Turns F w w')(o:Obj):Turns F w (w'.alloc o):=h.trans (Turns.of_below (Bnew (B0 _) o) F)
theorem Turns.put (h:Turns F w w'){p:Addr}(hp:F p.block)(u:Value):Turns F w (w'.setCell p u) :=
 ⟨h.os,h.tape,h.output,by simp;exact h.size,fun i hi hf=>(Below.heap_setCell w' p u i (fun e=>by subst e;exact hf hp)).trans (h.block i hi hf)⟩
theorem Turns.put_new (h:Turns F w w'){p:Addr}(hp:w.heap.size<=p.block)(u:Value):Turns F w (w'.setCell p u) :=
 ⟨h.os,h.tape,h.output,by simp;exact h.size,fun i hi hf=>(Below.heap_setCell w' p u i (fun e=>by omega)).trans (h.block i hi hf)⟩
theorem Turns.below {W:World}(h:Turns F w w')(hb:Below W.heap.size W w)(hf:∀ i,F i->W.heap.size<=i):Below W.heap.size W w' :=
 ⟨h.os.trans hb.os,h.tape.trans hb.tape,h.output.trans hb.output,Nat.le_trans hb.size h.size,fun i hi=>(h.block i (Nat.lt_of_lt_of_le hi hb.size) (fun x=>by have:=hf i x;omega)).trans (hb.block i hi)⟩
theorem Turns.held {g:Nat}{t:TypeId}{cs:Array Value}(h:Turns F w w')(hg:Held w g t cs)(hf:¬ F g):Held w' g t cs:=(h.block g hg.lt hf).trans hg
end

def updF {α:Type} (f:Nat->α) (i:Nat) (u:α):Nat->α:=fun j=>if j=i then u else f j
theorem qJN {α:Type}(f:Nat->α)(i:Nat)(u:α):updF f i u i=u:=if_pos rfl
theorem qR2 {α:Type}(f:Nat->α){i j:Nat}(u:α)(h:j≠i):updF f i u j=f j:=if_neg h
def RowF (w:World) (g:Nat) (t:TypeId) (n c:Nat) (f:Nat->Value):Prop :=
 ∃ cs:Array Value,Held w g t cs/\cs.size=c/\n<=c/\c<=maxLen/\∀ i,i<n->cs[i]?=some (f i)

section
variable {w w' : World} {g : Nat} {t : TypeId} {n c : Nat} {f : Nat -> Value}
theorem RowF.lt (h:RowF w g t n c f):g<w.heap.size:=by obtain⟨cs,h1,_⟩:=h;exact h1.lt
theorem RowF.le (h:RowF w g t n c f):n<=c:=by obtain⟨cs,_,_,h1,_⟩:=h;exact h1
theorem RowF.max (h:RowF w g t n c f):c<=maxLen:=by obtain⟨cs,_,_,_,h1,_⟩:=h;exact h1
theorem RowF.cell (h:RowF w g t n c f){i:Nat}(hi:i<n):w.cell? ⟨g,i,none⟩=some (f i):=by
 obtain⟨cs,h1,_,_,_,h2⟩:=h
 exact(h1.cell i).trans (h2 i hi)
theorem RowF.thawed (h:RowF w g t n c f)(i:Nat):w.frozen? ⟨g,i,none⟩=false:=by obtain⟨cs,h1,_⟩:=h;exact h1.thawed i
theorem RowF.same (h:RowF w g t n c f)(hb:w'.heap[g]?=w.heap[g]?):RowF w' g t n c f:=by
 obtain⟨cs,h1,r⟩:=h
 exact⟨cs,hb.trans h1,r⟩
theorem RowF.keep (h:RowF w g t n c f)(hb:Below w.heap.size w w'):RowF w' g t n c f:=h.same (hb.block g h.lt)
theorem RowF.put (h:RowF w g t n c f){i:Nat}(hi:i<n)(u:Value):RowF (w.setCell ⟨g,i,none⟩ u) g t n c (updF f i u):=by
 obtain⟨cs,h1,h2,h3,h4,h5⟩:=h
 refine⟨_,h1.put i u,by simp[h2],h3,h4,fun j hj=>?_⟩
 by_cases e:j=i
 ·subst e
  rw[qJN]
  simp[Array.getElem?_setIfInBounds]
  omega
 ·rw[qR2 _ _ e,Array.getElem?_setIfInBounds_ne qo]
  exact h5 j hj
theorem RowF.congr {f':Nat->Value}(h:RowF w g t n c f)(e:∀ i,i<n->f i=f' i):RowF w g t n c f':=by
 obtain⟨cs,h1,h2,h3,h4,h5⟩:=h
 exact⟨cs,h1,h2,h3,h4,fun i hi=>by rw[h5 i hi,e i hi]⟩
theorem RowF.of_own {base:Nat}{e:TypeId}{cap:Nat}(h:w.ownsRow base e 1 (.slice (some ⟨g,0,none⟩) n cap) n ((List.range n).map f)):base<=g/\RowF w g e n cap f:=by
 rcases h.2 with ⟨h1,_⟩|⟨g',cap',cur,hv,hb,hg,hnc,hcm,hcs,htake⟩
 ·cases h1
 ·injection hv with h1 h2 h3
  injection h1 with h1
  injection h1 with h1
  subst h1
  subst h3
  refine⟨hb,cur,hg,by simpa using hcs,qo,qo,fun i hi=>?_⟩
  have h4:=h.cellAt i qo
  rw[Held.cell hg i] at h4
  rw[h4]
  simp[hi]
theorem RowF.reads (h:RowF w g t n c f){B:Nat}(hB:g<B):Reads w B 1 (some ⟨g,0,none⟩) n ((List.range n).map f):=by
 refine⟨by simp,fun hn=>⟨_,rfl,hB,fun j u hu=>?_⟩⟩
 have hj:j<n:=by
  rcases Nat.lt_or_ge j n with h1|h1
  ·exact h1
  ·rw[List.getElem?_eq_none qs] at hu;cases hu
 have e:(⟨g,0,none⟩:Addr).add j=⟨g,j,none⟩:=by
  unfold Addr.add
  by_cases hz:j=0
  ·rw[if_pos hz,hz]
  ·rw[if_neg hz];simp
 rw[e,h.cell hj]
 rw[List.getElem?_map,List.getElem?_range hj] at hu
 exact hu
end

section
variable {H : Type} {P : Program} {k : TypeId} {R : Value -> Option (DataW H × List MemPlace)} {w : World} {b n : Nat} {D : DataW H}
theorem qOn {F:Nat->Prop}{w':World}(h:w.ownsMap P k R b n D)(hb:Turns F w w')(hf:¬ F b):w'.ownsMap P k R b n D:=by
 have hlt:=h.lt
 obtain⟨es,clock,h1,r⟩:=h
 exact⟨es,clock,(hb.block b hlt hf).trans h1,r⟩
end
section
variable {H : Type} {P : Program} (w : World) {ops : Array Oper} {rest : List Oper} {o : Oper} {a : Act} {Q : Exit -> Act -> World -> Prop}
end
end
section
def setP (w:World) (g:Nat) (U:Nat->Sl):World:=((((((((w.setCell ⟨g,0,none⟩ (.slice (U 0).a (U 0).n (U 0).c)).setCell ⟨g,1,none⟩ (.slice (U 1).a (U 1).n (U 1).c)).setCell ⟨g,2,none⟩ (.slice (U 2).a (U 2).n (U 2).c)).setCell ⟨g,3,none⟩ (.slice (U 3).a (U 3).n (U 3).c)).setCell ⟨g,4,none⟩ (.slice (U 4).a (U 4).n (U 4).c)).setCell ⟨g,5,none⟩ (.slice (U 5).a (U 5).n (U 5).c)).setCell ⟨g,6,none⟩ (.slice (U 6).a (U 6).n (U 6).c)).setCell ⟨g,7,none⟩ (.slice (U 7).a (U 7).n (U 7).c)).setCell ⟨g,8,none⟩ (.slice (U 8).a (U 8).n (U 8).c)
def zeroU:Nat->Sl:=fun _=>⟨none,0,0⟩
section
variable {W w WF : World} {g j : Nat} {t : TypeId} {U V : Nat -> Sl}
theorem Held.setP (h:Held w g t (pkC V))(U:Nat->Sl):Held (_root_.Go.Proofs.YtjjfcaliippgpaaGreatDoor.setP w g U) g t (pkC U):=by
 have h0:Held _ g t #[(U 0).v,(V 1).v,(V 2).v,(V 3).v,(V 4).v,(V 5).v,(V 6).v,(V 7).v,(V 8).v]:=h.put 0 (U 0).v
 have h1:Held _ g t #[(U 0).v,(U 1).v,(V 2).v,(V 3).v,(V 4).v,(V 5).v,(V 6).v,(V 7).v,(V 8).v]:=h0.put 1 (U 1).v
 have h2:Held _ g t #[(U 0).v,(U 1).v,(U 2).v,(V 3).v,(V 4).v,(V 5).v,(V 6).v,(V 7).v,(V 8).v]:=h1.put 2 (U 2).v
 have h3:Held _ g t #[(U 0).v,(U 1).v,(U 2).v,(U 3).v,(V 4).v,(V 5).v,(V 6).v,(V 7).v,(V 8).v]:=h2.put 3 (U 3).v
 have h4:Held _ g t #[(U 0).v,(U 1).v,(U 2).v,(U 3).v,(U 4).v,(V 5).v,(V 6).v,(V 7).v,(V 8).v]:=h3.put 4 (U 4).v
 have h5:Held _ g t #[(U 0).v,(U 1).v,(U 2).v,(U 3).v,(U 4).v,(U 5).v,(V 6).v,(V 7).v,(V 8).v]:=h4.put 5 (U 5).v
 have h6:Held _ g t #[(U 0).v,(U 1).v,(U 2).v,(U 3).v,(U 4).v,(U 5).v,(U 6).v,(V 7).v,(V 8).v]:=h5.put 6 (U 6).v
 have h7:Held _ g t #[(U 0).v,(U 1).v,(U 2).v,(U 3).v,(U 4).v,(U 5).v,(U 6).v,(U 7).v,(V 8).v]:=h6.put 7 (U 7).v
 exact h7.put 8 (U 8).v
theorem qDL (hj:j≠g)(U:Nat->Sl):(setP w g U).heap[j]?=w.heap[j]?:=by
 unfold _root_.Go.Proofs.YtjjfcaliippgpaaGreatDoor.setP
 repeat rw[Below.heap_setCell _ _ _ _ hj]
theorem qMg (h:Below W.heap.size W w)(hg:W.heap.size<=g)(U:Nat->Sl):Below W.heap.size W (setP w g U) :=
 Bput (Bput (Bput (Bput (Bput (Bput (Bput (Bput (Bput h (p:=⟨g,0,none⟩) hg _) (p:=⟨g,1,none⟩) hg _) (p:=⟨g,2,none⟩) hg _) (p:=⟨g,3,none⟩) hg _) (p:=⟨g,4,none⟩) hg _) (p:=⟨g,5,none⟩) hg _) (p:=⟨g,6,none⟩) hg _) (p:=⟨g,7,none⟩) hg _) (p:=⟨g,8,none⟩) hg _
theorem Held.nineP (h:Held w g t (pkC U)):w.cell? ⟨g,0,none⟩=some (U 0).v/\w.cell? ⟨g,1,none⟩=some (U 1).v/\w.cell? ⟨g,2,none⟩=some (U 2).v/\w.cell? ⟨g,3,none⟩=some (U 3).v/\w.cell? ⟨g,4,none⟩=some (U 4).v/\w.cell? ⟨g,5,none⟩=some (U 5).v/\w.cell? ⟨g,6,none⟩=some (U 6).v/\w.cell? ⟨g,7,none⟩=some (U 7).v/\w.cell? ⟨g,8,none⟩=some (U 8).v :=
 ⟨h.pk qo,h.pk qo,h.pk qo,h.pk qo,h.pk qo,h.pk qo,h.pk qo,h.pk qo,h.pk qo⟩
theorem Held.thawP {cs:Array Value}(h:Held w g t cs):w.frozen? ⟨g,0,none⟩=false/\w.frozen? ⟨g,1,none⟩=false/\w.frozen? ⟨g,2,none⟩=false/\w.frozen? ⟨g,3,none⟩=false/\w.frozen? ⟨g,4,none⟩=false/\w.frozen? ⟨g,5,none⟩=false/\w.frozen? ⟨g,6,none⟩=false/\w.frozen? ⟨g,7,none⟩=false/\w.frozen? ⟨g,8,none⟩=false :=
 ⟨h.thawed 0,h.thawed 1,h.thawed 2,h.thawed 3,h.thawed 4,h.thawed 5,h.thawed 6,h.thawed 7,h.thawed 8⟩
end
theorem qEu (U:Nat->Sl)(x:Sl):∀ k,k<9->(pkC U).setIfInBounds k x.v=pkC (updF U k x)
 | 0,_=>rfl
 | 1,_=>rfl
 | 2,_=>rfl
 | 3,_=>rfl
 | 4,_=>rfl
 | 5,_=>rfl
 | 6,_=>rfl
 | 7,_=>rfl
 | 8,_=>rfl
 | k+9,h=>absurd h qo
theorem Held.putP {w:World}{g:Nat}{t:TypeId}{U:Nat->Sl}(h:Held w g t (pkC U)){k:Nat}(hk:k<9)(x:Sl):Held (w.setCell ⟨g,k,none⟩ x.v) g t (pkC (updF U k x)):=by
 rw[<- qEu U x k hk]
 exact h.put k x.v
end
section
structure OwnAll (w:World) (base b k:Nat) (e:Nat->TypeId) (sz:Nat->Nat) (v:Nat->Value) (n:Nat->Nat) (xs:Nat->List Value):Prop where
 own:∀ i,i<k->w.ownsRow base (e i) (sz i) (v i) (n i) (xs i)
 apart:∀ i j g,i<k->j<k->(v i).ownBlock=some g->(v j).ownBlock=some g->i=j
 notb:∀ i,i<k->(v i).ownBlock≠some b
def OwnF (b k:Nat) (v:Nat->Value):Nat->Prop:=fun g=>g=b\/∃ i,i<k/\(v i).ownBlock=some g

section
variable {w w' : World} {base b k : Nat} {e : Nat -> TypeId} {sz : Nat -> Nat} {v : Nat -> Value} {n : Nat -> Nat} {xs : Nat -> List Value}
theorem qWQ {e:TypeId}{size n:Nat}{v:Value}{xs:List Value}(h:w.ownsRow base e size v n xs)(hb:∀ g,v.ownBlock=some g->w'.heap[g]?=w.heap[g]?):w'.ownsRow base e size v n xs:=by
 refine⟨h.1,?_⟩
 rcases h.2 with h2|⟨g,cap,cur,rfl,hbg,hg,hr⟩
 ·exact .inl h2
 ·exact .inr ⟨g,cap,cur,rfl,hbg,(hb g rfl).trans hg,hr⟩
theorem OwnAll.lt (h:OwnAll w base b k e sz v n xs){i g:Nat}(hi:i<k)(hg:(v i).ownBlock=some g):base<=g/\g<w.heap.size:=(h.own i hi).lt g hg
theorem OwnAll.turns {F:Nat->Prop}(h:OwnAll w base b k e sz v n xs)(ht:Turns F w w')(hf:∀ i g,i<k->(v i).ownBlock=some g->¬ F g):OwnAll w' base b k e sz v n xs :=
 ⟨fun i hi=>qWQ (h.own i hi) (fun g hg=>ht.block g (h.lt hi hg).2 (hf i g hi hg)),h.apart,h.notb⟩
theorem OwnAll.setB (h:OwnAll w base b k e sz v n xs)(o:Nat)(u:Value):OwnAll (w.setCell ⟨b,o,none⟩ u) base b k e sz v n xs :=
 h.turns ((T0 (fun i=>i=b) w).put (p:=⟨b,o,none⟩) rfl u) (fun i g hi hg hf=>h.notb i hi (by rw[hg,hf]))
theorem OwnAll.put (h:OwnAll w base b k e sz v n xs){i g cap:Nat}(hi:i<k)(hv:v i = .slice (some ⟨g,0,none⟩) (n i) cap)(j:Nat)(u:Value) :
  OwnAll (w.setCell ⟨g,j,none⟩ u) base b k e sz v n (updF xs i ((xs i).set j u))/\Turns (fun x=>x=g) w (w.setCell ⟨g,j,none⟩ u):=by
 have hg:(v i).ownBlock=some g:=by rw[hv];rfl
 have ht:Turns (fun x=>x=g) w (w.setCell ⟨g,j,none⟩ u):=(T0 (fun x=>x=g) w).put (p:=⟨g,j,none⟩) rfl u
 refine⟨⟨fun i' hi'=>?_,h.apart,h.notb⟩,ht⟩
 by_cases e1:i'=i
 ·subst e1
  rw[qJN]
  have h1:=h.own i' hi'
  rw[hv] at h1 ⊢
  exact(h1.stored j u).1
 ·rw[qR2 _ _ e1]
  exact qWQ (h.own i' hi') (fun g' hg'=>ht.block g' (h.lt hi' hg').2 (fun e2=>e1 (h.apart i' i g' hi' hi hg' (by rw[hg,e2]))))
theorem OwnAll.grown (h:OwnAll w base b k e sz v n xs)(hbl:b<w.heap.size){i:Nat}(hi:i<k){v':Value}{n':Nat}{xs':List Value}(hown:w'.ownsRow base (e i) (sz i) v' n' xs')(hg:w.grownBy w' (v i).ownBlock)
  (hloc:∀ g,v'.ownBlock=some g->(v i).ownBlock=some g\/w.heap.size<=g):OwnAll w' base b k e sz (updF v i v') (updF n i n') (updF xs i xs'):=by
 refine⟨fun i' hi'=>?_,fun i1 i2 g h1 h2 g1 g2=>?_,fun i' hi' hb'=>?_⟩
 ·by_cases e1:i'=i
  ·subst e1
   rw[qJN,qJN,qJN]
   exact hown
  ·rw[qR2 _ _ e1,qR2 _ _ e1,qR2 _ _ e1]
   exact qWQ (h.own i' hi') (fun g' hg'=>hg.block g' (h.lt hi' hg').2 (fun e2=>e1 (h.apart i' i g' hi' hi hg' e2.symm)))
 ·by_cases e1:i1=i <;> by_cases e2:i2=i
  ·rw[e1,e2]
  ·exfalso
   subst e1
   rw[qJN] at g1
   rw[qR2 _ _ e2] at g2
   rcases hloc g g1 with h3|h3
   ·exact e2 (h.apart i2 i1 g h2 h1 g2 h3)
   ·have:=(h.lt h2 g2).2;omega
  ·exfalso
   subst e2
   rw[qJN] at g2
   rw[qR2 _ _ e1] at g1
   rcases hloc g g2 with h3|h3
   ·exact e1 (h.apart i1 i2 g h1 h2 g1 h3)
   ·have:=(h.lt h1 g1).2;omega
  ·rw[qR2 _ _ e1] at g1
   rw[qR2 _ _ e2] at g2
   exact h.apart i1 i2 g h1 h2 g1 g2
 ·by_cases e1:i'=i
  ·subst e1
   rw[qJN] at hb'
   rcases hloc b hb' with h3|h3
   ·exact h.notb i' hi' h3
   ·omega
  ·rw[qR2 _ _ e1] at hb'
   exact h.notb i' hi' hb'
theorem OwnAll.nil (w:World)(base b k:Nat)(e:Nat->TypeId)(sz:Nat->Nat):OwnAll w base b k e sz (fun _ => .slice none 0 0) (fun _=>0) (fun _ => []) :=
 ⟨fun i _=>World.ownsRow_nil _ _ _ _,fun i j g _ _ h=>by simp[Value.ownBlock] at h,fun i _ h=>by simp[Value.ownBlock] at h⟩
theorem OwnAll.F_new (h:OwnAll w base b k e sz v n xs)(hb:base<=b):∀ g,OwnF b k v g->base<=g:=fun g hg=>by
 rcases hg with rfl|⟨i,hi,hg⟩
 ·exact hb
 ·exact(h.lt hi hg).1
theorem OwnAll.F_lt (h:OwnAll w base b k e sz v n xs)(hb:b<w.heap.size):∀ g,OwnF b k v g->g<w.heap.size:=fun g hg=>by
 rcases hg with rfl|⟨i,hi,hg⟩
 ·exact hb
 ·exact(h.lt hi hg).2
theorem qNe {v':Value}{i:Nat}(hi:i<k)(hloc:∀ g,v'.ownBlock=some g->(v i).ownBlock=some g\/w.heap.size<=g):∀ g,OwnF b k (updF v i v') g->OwnF b k v g\/w.heap.size<=g:=fun g hg=>by
 rcases hg with rfl|⟨j,hj,hg⟩
 ·exact .inl (.inl rfl)
 ·by_cases e1:j=i
  ·subst e1
   rw[qJN] at hg
   rcases hloc g hg with h1|h1
   ·exact .inl (.inr ⟨j,hj,h1⟩)
   ·exact .inr h1
  ·rw[qR2 _ _ e1] at hg
   exact .inl (.inr ⟨j,hj,hg⟩)
end
end
section
structure Vst where
 rd:List Nat
 wr:List (Nat × Nat)
 lost:Bool
 miss:Nat
def freshS:Vst:=⟨[],[],false,0⟩

def pos:List (Nat × Nat)->Nat->Option Nat
 | [],_=>none
 | p :: r,i=>if p.1=i then some 0 else (pos r i).map (· + 1)
def cellW (l:List (Nat × Nat)) (k:Nat):Nat:=(l.getD k (0,0)).1
def atW (l:List (Nat × Nat)) (k:Nat):Nat:=(l.getD k (0,0)).2

theorem qG9:∀ {l:List (Nat × Nat)} {i k:Nat},pos l i=some k->k<l.length/\cellW l k=i
 | [],i,k,h=>by cases h
 | p :: r,i,k,h=>by
  unfold pos at h
  split at h
  ·rename_i e
   injection h with h
   subst h
   exact⟨by simp,by simpa [cellW] using e⟩
  ·cases hp:pos r i with
   | none=>rw[hp] at h;cases h
   | some m =>
    rw[hp] at h
    injection h with h
    subst h
    have:=qG9 hp
    exact⟨by simp;omega,by simpa [cellW] using this.2⟩
theorem qFh:∀ {l:List (Nat × Nat)} {i:Nat} (v:Nat),pos l i=none->∀ j,pos (l ++ [(i,v)]) j=if j=i then some l.length else pos l j
 | [],i,v,h,j=>by
  by_cases e:j=i
  ·subst e;simp[pos]
  ·have:¬ i=j:=fun x=>e x.symm
   simp[pos,e,this]
 | p :: r,i,v,h,j=>by
  have hp:¬ p.1=i:=by
   intro e
   simp[pos,e] at h
  have hr:pos r i=none:=by
   simp[pos,hp] at h
   exact h
  have ih:=qFh v hr j
  by_cases e:j=i
  ·subst e
   simp[pos,hp,ih]
  ·by_cases e2:p.1=j
   ·simp[pos,e,e2]
   ·simp[pos,e,e2,ih]
theorem qYT:∀ (l:List (Nat × Nat)) (k v j:Nat),pos (l.set k (cellW l k,v)) j=pos l j
 | [],k,v,j=>by simp[pos]
 | p :: r,0,v,j=>by simp[pos,cellW]
 | p :: r,k+1,v,j=>by
  have ih:=qYT r k v j
  simp[pos,cellW] at ih ⊢
  rw[ih]

def putW (l:List (Nat × Nat)) (i v:Nat):List (Nat × Nat) :=
 match pos l i with
 | some k=>l.set k (i,v)
 | none=>l ++ [(i,v)]
theorem qRW {l:List (Nat × Nat)}{i v k:Nat}(h:pos l i=some k):putW l i v=l.set k (i,v):=by unfold putW;rw[h]
theorem qWB {l:List (Nat × Nat)}{i v:Nat}(h:pos l i=none):putW l i v=l ++ [(i,v)]:=by unfold putW;rw[h]
theorem qT3 (l:List (Nat × Nat))(i v j:Nat):pos (putW l i v) j=match pos l i with|some _=>pos l j|none=>if j=i then some l.length else pos l j:=by
 cases h:pos l i with
 | some k =>
  rw[qRW h]
  have:=qYT l k v j
  rw[(qG9 h).2] at this
  exact this
 | none =>
  rw[qWB h]
  exact qFh v h j

def opn (n:Nat) (s:Vst) (a:Int):Bool := !s.lost&&decide (0<=a/\a<n)
def noteS (s:Vst) (i:Nat):Vst:=if i∈s.rd then s else { s with rd:=s.rd ++ [i] }
def getV (n:Nat) (K:Nat->Option Nat) (s:Vst) (a:Int):Nat :=
 if opn n s a then (match pos s.wr a.toNat with|some k=>atW s.wr k|none=>(K a.toNat).getD 0) else 0
def getS (n:Nat) (K:Nat->Option Nat) (s:Vst) (a:Int):Vst :=
 if opn n s a then (match pos s.wr a.toNat with|some _=>s|none=>match K a.toNat with|some _=>noteS s a.toNat|none => { s with lost:=true,miss:=a.toNat }) else s
def putS (n:Nat) (s:Vst) (a:Int) (v:Nat):Vst:=if opn n s a then { s with wr:=putW s.wr a.toNat v } else s
section
variable {n : Nat} {K : Nat -> Option Nat} {s : Vst} {i v k : Nat} {a : Int}
theorem qAh (h:opn n s a=true):∃ i:Nat,a=i/\i<n/\s.lost=false:=by
 unfold opn at h
 simp at h
 exact⟨a.toNat,qo,qo,h.1⟩
theorem qP6 (h:i<n)(hl:s.lost=false):opn n s (i:Int)=true:=by unfold opn;simp[hl];omega
theorem qDi (h:opn n s a=false):getV n K s a=0:=by unfold getV;rw[h];rfl
theorem qPg (h:opn n s a=false):getS n K s a=s:=by unfold getS;rw[h];rfl
theorem qRG (h:opn n s a=false):putS n s a v=s:=by unfold putS;rw[h];rfl
theorem qPT (h:opn n s (i:Int)=true):putS n s (i:Int) v = { s with wr:=putW s.wr i v }:=by unfold putS;rw[if_pos h];rfl
theorem qCJ (h:opn n s (i:Int)=true)(hp:pos s.wr i=some k):getV n K s (i:Int)=atW s.wr k:=by
 unfold getV;rw[if_pos h,Int.toNat_natCast,hp]
theorem qZT (h:opn n s (i:Int)=true)(hp:pos s.wr i=some k):getS n K s (i:Int)=s:=by
 unfold getS;rw[if_pos h,Int.toNat_natCast,hp]
theorem qGE (h:opn n s (i:Int)=true)(hp:pos s.wr i=none)(hk:K i=some v):getV n K s (i:Int)=v:=by
 unfold getV;rw[if_pos h,Int.toNat_natCast,hp,hk];rfl
theorem qTM (h:opn n s (i:Int)=true)(hp:pos s.wr i=none)(hk:K i=some v):getS n K s (i:Int)=noteS s i:=by
 unfold getS;rw[if_pos h,Int.toNat_natCast,hp,hk]
theorem qUa (h:opn n s (i:Int)=true)(hp:pos s.wr i=none)(hk:K i=none):getV n K s (i:Int)=0:=by
 unfold getV;rw[if_pos h,Int.toNat_natCast,hp,hk];rfl
theorem qH4 (h:opn n s (i:Int)=true)(hp:pos s.wr i=none)(hk:K i=none):getS n K s (i:Int) = { s with lost:=true,miss:=i }:=by
 unfold getS;rw[if_pos h,Int.toNat_natCast,hp,hk]
theorem qDm (h:i∈s.rd):noteS s i=s:=if_pos h
theorem qLy (h:i ∉ s.rd):noteS s i = { s with rd:=s.rd ++ [i] }:=if_neg h
end

structure VOk (n:Nat) (s:Vst):Prop where
 rdLt:∀ i∈s.rd,i<n
 rdNd:s.rd.Nodup
 wrLt:∀ p∈s.wr,p.1<n/\p.2<2^32
 wrNd:∀ k,k<s.wr.length->pos s.wr (cellW s.wr k)=some k
 mLt:s.lost=true->s.miss<n
theorem VOk.fresh (n:Nat):VOk n freshS:=⟨by simp[freshS],by simp[freshS],by simp[freshS],by simp[freshS],by simp[freshS]⟩
section
variable {n : Nat} {K : Nat -> Option Nat} {s : Vst} {i v k : Nat} {a : Int}
theorem VOk.note (h:VOk n s)(hi:i<n):VOk n (noteS s i):=by
 unfold noteS
 split
 ·exact h
 ·rename_i hn
  refine { h with rdLt:=fun j hj=>?_,rdNd:=?_ }
  ·simp at hj
   rcases hj with hj|rfl
   ·exact h.rdLt j hj
   ·exact hi
  ·show (s.rd ++ [i]).Nodup
   rw[List.nodup_append]
   refine⟨h.rdNd,by simp,?_⟩
   intro x hx y hy
   simp at hy
   subst hy
   rintro rfl
   exact hn hx
theorem VOk.put (h:VOk n s)(hv:v<2^32):VOk n (putS n s a v):=by
 by_cases ho:opn n s a=true
 ·obtain⟨i,rfl,hi,hl⟩:=qAh ho
  rw[qPT ho]
  refine { h with wrLt:=fun p hp=>?_,wrNd:=fun k hk=>?_ }
  ·have hp:p∈putW s.wr i v:=hp
   unfold putW at hp
   split at hp
   ·rcases List.mem_or_eq_of_mem_set hp with h1|h1
    ·exact h.wrLt p h1
    ·subst h1;exact⟨hi,hv⟩
   ·simp at hp
    rcases hp with hp|rfl
    ·exact h.wrLt p hp
    ·exact⟨hi,hv⟩
  ·show pos (putW s.wr i v) (cellW (putW s.wr i v) k)=some k
   have hk:k<(putW s.wr i v).length:=hk
   rw[qT3]
   cases hp:pos s.wr i with
   | some m =>
    rw[qRW hp] at hk ⊢
    simp only
    have hk':k<s.wr.length:=by simpa using hk
    have:cellW (s.wr.set m (i,v)) k=cellW s.wr k:=by
     unfold cellW
     by_cases e:k=m
     ·subst e
      have h2:=(qG9 hp).2
      unfold cellW at h2
      simp[List.getD,hk']
      simpa [List.getD,hk'] using h2.symm
     ·simp[List.getD,List.getElem?_set_ne (Ne.symm e)]
    rw[this]
    exact h.wrNd k hk'
   | none =>
    rw[qWB hp] at hk ⊢
    simp only
    rcases Nat.lt_or_ge k s.wr.length with h1|h1
    ·have e1:cellW (s.wr ++ [(i,v)]) k=cellW s.wr k:=by
      unfold cellW
      simp[List.getD,List.getElem?_append_left h1]
     have e2:=h.wrNd k h1
     rw[e1,if_neg,e2]
     intro e3
     rw[e3,hp] at e2
     cases e2
    ·obtain rfl:k=s.wr.length:=by simp at hk;omega
     have e1:cellW (s.wr ++ [(i,v)]) s.wr.length=i:=by simp[cellW,List.getD]
     rw[e1,if_pos rfl]
 ·rw[qRG (by simpa using ho)];exact h
end

def nowV (K:Nat->Option Nat) (wr:List (Nat × Nat)) (i:Nat):Nat:=match pos wr i with|some k=>atW wr k|none=>(K i).getD 0
def foldW (f:Nat->Nat) (l:List (Nat × Nat)):Nat->Nat:=l.foldl (fun f p=>updF f p.1 p.2) f
theorem qUY (f:Nat->Nat)(l:List (Nat × Nat))(p:Nat × Nat):foldW f (l ++ [p])=updF (foldW f l) p.1 p.2:=by unfold foldW;rw[List.foldl_append];rfl
theorem qQp {f:Nat->Nat}{l:List (Nat × Nat)}{k:Nat}(h:k<l.length):foldW f (l.take (k+1))=updF (foldW f (l.take k)) (cellW l k) (atW l k):=by
 have:l.take (k+1)=l.take k ++ [(cellW l k,atW l k)]:=by
  have e:(cellW l k,atW l k)=l[k]:=by simp[cellW,atW,List.getD,List.getElem?_eq_getElem h]
  rw[List.take_add_one,List.getElem?_eq_getElem h,e]
  rfl
 rw[this,qUY]
theorem qKf {f:Nat->Nat}{l:List (Nat × Nat)}(hd:∀ k,k<l.length->pos l (cellW l k)=some k)(i:Nat) :
  ∀ m,m<=l.length->foldW f (l.take m) i=match pos l i with|some k=>if k<m then atW l k else f i|none=>f i
 | 0,_=>by
  simp[foldW]
  split <;> rfl
 | m+1,hm=>by
  rw[qQp qo]
  have ih:=qKf (f:=f) hd i m qo
  by_cases e:i=cellW l m
  ·have h1:=hd m qo
   rw[<- e] at h1
   rw[h1]
   simp[<- e,qJN]
  ·rw[qR2 _ _ e,ih]
   cases hp:pos l i with
   | none=>rfl
   | some k =>
    simp only
    have:k≠m:=by
     rintro rfl
     exact e (qG9 hp).2.symm
    by_cases hk:k<m
    ·rw[if_pos hk,if_pos qo]
    ·rw[if_neg hk,if_neg qo]
theorem qI3 {K:Nat->Option Nat}{n:Nat}{s:Vst}(h:VOk n s)(i:Nat):foldW (fun i=>(K i).getD 0) s.wr i=nowV K s.wr i:=by
 have:=qKf (f:=fun i=>(K i).getD 0) h.wrNd i s.wr.length (Nat.le_refl _)
 rw[List.take_length] at this
 rw[this]
 unfold nowV
 cases hp:pos s.wr i with
 | none=>rfl
 | some k=>simp[(qG9 hp).1]
end
section
theorem qDt:Keyed Tryz.prog 3 := int_keyed Tryz.underlying3
def kInt (c:Int):Lit := .int .i64 c
theorem qQX {c d:Int}(h:c≠d):kInt c≠kInt d:=fun e=>by
 unfold kInt at e
 injection e with _ e
 exact h e
theorem qAi (c:Int):WideAt.IsKeyLit (kInt c):=by unfold kInt;trivial
theorem qRS {c:Int}(h:(Lit.int .i64 c).wf=true):keyOf Tryz.prog 3 (.int .i64 c)=some (kInt c):=keyOf_int_mk Tryz.underlying3 h
theorem qEt {n:Nat}(h:n<2^63):(Lit.int .i64 (n:Int)).wf=true:=by
 simp only[Lit.wf,Bool.and_eq_true,IntKind.min,IntKind.max,IntKind.signed,IntKind.bits]
 simp
 omega
structure SetIs (D:DataW Unit) (l:List Nat):Prop where
 tidy:Tidy D
 has:∀ c:Int,Maps.has D (kInt c)=decide (0<=c/\c.toNat∈l)
theorem SetIs.none:SetIs (.map []) []:=⟨tidy_empty,fun c=>by simp[Maps.has]⟩
theorem SetIs.put {D:DataW Unit}{l:List Nat}(h:SetIs D l)(i:Nat):SetIs (D.put (kInt (i:Int)) (.agg [])) (l ++ [i]):=by
 refine⟨h.tidy.put (qAi _) _,fun c=>?_⟩
 by_cases e:c=i
 ·subst e
  rw[has_put_same h.tidy.isMap (qAi _)]
  simp
 ·rw[has_put_other (qQX e),h.has c,decide_eq_decide]
  constructor
  ·rintro ⟨h1,h2⟩
   exact⟨h1,List.mem_append_left _ h2⟩
  ·rintro ⟨h1,h2⟩
   simp at h2
   rcases h2 with h2|h2
   ·exact⟨h1,h2⟩
   ·omega

structure NumIs (D:DataW Unit) (q:IntKind) (K:Nat->Option Nat):Prop where
 tidy:Tidy D
 has:∀ c:Int,Maps.has D (kInt c)=(decide (0<=c)&&(K c.toNat).isSome)
 at_:∀ (i v:Nat),K i=some v->D.atKey (kInt (i:Int)) (.lit (.int q 0)) = .lit (.int q (v:Int))
theorem NumIs.none (q:IntKind):NumIs (.map []) q (fun _=>none):=⟨tidy_empty,fun c=>by simp[Maps.has],fun i v h=>by cases h⟩
theorem NumIs.put {D:DataW Unit}{q:IntKind}{K:Nat->Option Nat}(h:NumIs D q K)(i v:Nat):NumIs (D.put (kInt (i:Int)) (.lit (.int q (v:Int)))) q (updF K i (some v)):=by
 refine⟨h.tidy.put (qAi _) _,fun c=>?_,fun j u hj=>?_⟩
 ·by_cases e:c=i
  ·subst e
   rw[has_put_same h.tidy.isMap (qAi _)]
   simp[qJN]
  ·rw[has_put_other (qQX e),h.has c]
   by_cases h0:0<=c
   ·have:c.toNat≠i:=qo
    rw[qR2 _ _ this]
   ·simp[h0]
 ·by_cases e:j=i
  ·subst e
   rw[qJN] at hj
   injection hj with hj
   subst hj
   exact atKey_put_same h.tidy.isMap (qAi _) _ _
  ·rw[qR2 _ _ e] at hj
   rw[atKey_put_other (qQX qo)]
   exact h.at_ j u hj
theorem NumIs.congr {D:DataW Unit}{q:IntKind}{K K':Nat->Option Nat}(h:NumIs D q K)(e:∀ i,K i=K' i):NumIs D q K':=by
 obtain rfl:K=K':=funext e
 exact h
end
section
section
variable {H : Type} {w : World} {g b n m base size : Nat} {t e k : TypeId} {cs : Array Value} {v : Value} {xs : List Value} {P : Program} {R : Value -> Option (DataW H × List MemPlace)} {D : DataW H}
theorem qHz (h:Held w g t cs)(hm:w.ownsMap P k R b n D):g≠b:=by
 rintro rfl
 obtain⟨es,clock,hb,_⟩:=hm
 unfold Held at h
 rw[h] at hb
 cases hb
theorem qYZ (h:w.ownsRow base e size v m xs)(hm:w.ownsMap P k R b n D)(hg:v.ownBlock=some g):g≠b:=by
 rintro rfl
 obtain⟨es,clock,hb,_⟩:=hm
 rcases h.2 with ⟨rfl,_⟩|⟨g',cap,cur,rfl,_,hgg,_⟩
 ·simp[Value.ownBlock] at hg
 ·simp[Value.ownBlock] at hg
  subst hg
  rw[hgg] at hb
  cases hb
end
section
variable {w w' : World} {base b k : Nat} {e : Nat -> TypeId} {sz : Nat -> Nat} {v : Nat -> Value} {n n' : Nat -> Nat} {xs xs' : Nat -> List Value}
theorem OwnAll.congr (h:OwnAll w base b k e sz v n xs)(h1:∀ i,i<k->n i=n' i)(h2:∀ i,i<k->xs i=xs' i):OwnAll w base b k e sz v n' xs' :=
 ⟨fun i hi=>by rw[<- h1 i hi,<- h2 i hi];exact h.own i hi,h.apart,h.notb⟩
end

structure VGeo where
 m1:Nat
 m2:Nat
 sb:Nat
 fv:Value
 v:Nat->Value
def VGeo.F (o:VGeo) (b:Nat):Nat->Prop:=fun i=>OwnF b 2 o.v i\/i=o.m1\/i=o.m2
def VGeo.A (o:VGeo) (b:Nat):Nat->Prop:=fun i=>o.F b i\/i=o.sb
def vE (i:Nat):TypeId:=if i=0 then 3 else 107
def vSz (i:Nat):Nat:=if i=0 then 1 else 2
def ntVs (l:List Nat):List Value:=l.map fun (n:Nat)=>Value.int .i64 (n:Int)
def prVs (l:List (Nat × Nat)):List Value:=l.flatMap fun p => [Value.int .i64 (p.1:Int),.int .u32 (p.2:Int)]
def vN (s:Vst) (i:Nat):Nat:=if i=0 then s.rd.length else s.wr.length
def vX (s:Vst) (i:Nat):List Value:=if i=0 then ntVs s.rd else prVs s.wr
def valF (f:Nat->Nat):Nat->Value:=fun i => .int .u32 ((f i:Nat):Int)
theorem qUS (l:List (Nat × Nat)):(prVs l).length=l.length*2:=by
 induction l with
 | nil=>rfl
 | cons p r ih=>unfold prVs at ih ⊢;simp[ih];omega
theorem qEZ (l:List (Nat × Nat))(p:Nat × Nat):prVs (l ++ [p])=prVs l ++ [.int .i64 (p.1:Int),.int .u32 (p.2:Int)]:=by unfold prVs;simp
theorem qNC:∀ (l:List (Nat × Nat)) (k:Nat),k<l.length->(prVs l)[k*2]?=some (.int .i64 (cellW l k:Int))/\(prVs l)[k*2+1]?=some (.int .u32 (atW l k:Int))
 | [],k,h=>by simp at h
 | p :: r,0,h=>by simp[prVs,cellW,atW]
 | p :: r,k+1,h=>by
  have ih:=qNC r k (by simpa using h)
  have e:prVs (p :: r) = .int .i64 (p.1:Int) :: .int .u32 (p.2:Int) :: prVs r:=by simp[prVs]
  rw[e]
  have e1:(k+1)*2=k*2+1+1:=qo
  have e2:(k+1)*2+1=k*2+1+1+1:=qo
  rw[e2,e1,List.getElem?_cons_succ,List.getElem?_cons_succ,List.getElem?_cons_succ,List.getElem?_cons_succ]
  simpa [cellW,atW] using ih
theorem qCo:∀ (l:List (Nat × Nat)) (k v:Nat),k<l.length->(prVs l).set (k*2+1) (.int .u32 (v:Int))=prVs (l.set k (cellW l k,v))
 | [],k,v,h=>by simp at h
 | p :: r,0,v,h=>by simp[prVs,cellW]
 | p :: r,k+1,v,h=>by
  have ih:=qCo r k v (by simpa using h)
  have e:prVs (p :: r) = .int .i64 (p.1:Int) :: .int .u32 (p.2:Int) :: prVs r:=by simp[prVs]
  have e2:(k+1)*2+1=k*2+1+1+1:=qo
  rw[e,e2,List.set_cons_succ,List.set_cons_succ,ih]
  simp[prVs,cellW]

def SrcIs (w:World) (wh:Bool) (n:Nat) (o:VGeo) (K:Nat->Option Nat):Prop :=
 if wh then (∃ A c,o.fv = .iface 74 (.slice A n c)/\n<=c/\c<=maxLen/\(∀ i,i<n->∃ x,K i=some x/\x<2^32)/\(0<n->A=some ⟨o.sb,0,none⟩/\RowF w o.sb 76 n c (valF fun i=>(K i).getD 0)))
 else False
theorem SrcIs.same {w w':World}{wh:Bool}{n:Nat}{o o':VGeo}{K:Nat->Option Nat}(h:SrcIs w wh n o K)(hb:w'.heap[o.sb]?=w.heap[o.sb]?)(h1:o'.sb=o.sb)(h2:o'.fv=o.fv):SrcIs w' wh n o' K:=by
 unfold SrcIs at h ⊢
 cases wh with
 | true =>
  obtain⟨A,c,e1,e2,e3,e4,e5⟩:=h
  exact⟨A,c,by rw[h2];exact e1,e2,e3,e4,fun hn=>⟨by rw[h1];exact(e5 hn).1,by rw[h1];exact(e5 hn).2.same hb⟩⟩
 | false =>
  exact False.elim h

structure VParts (w:World) (base b n:Nat) (wh:Bool) (o:VGeo) (hd:Array Value) (nn:Nat->Nat) (xs:Nat->List Value) (k1:Nat) (D1:DataW Unit) (k2:Nat) (D2:DataW Unit) (K:Nat->Option Nat):Prop where
 head:Held w b 104 hd
 own:OwnAll w base b 2 vE vSz o.v nn xs
 m1:w.ownsMap Tryz.prog 3 unitElem o.m1 k1 D1
 m2:w.ownsMap Tryz.prog 3 (plainElem Tryz.prog 3) o.m2 k2 D2
 src:SrcIs w wh n o K
 bb:base<=b
 b1:base<=o.m1
 b2:base<=o.m2
 bs:base<=o.sb
 slt:o.sb<w.heap.size
 mm:o.m1≠o.m2
 s1:o.sb≠o.m1
 s2:o.sb≠o.m2
 sF:(wh=true/\n=0)\/¬ OwnF b 2 o.v o.sb
section
variable {w w' : World} {base b n : Nat} {wh : Bool} {o : VGeo} {hd : Array Value} {nn : Nat -> Nat} {xs : Nat -> List Value} {k1 k2 : Nat} {D1 D2 : DataW Unit} {K : Nat -> Option Nat}
theorem VParts.ge (h:VParts w base b n wh o hd nn xs k1 D1 k2 D2 K):∀ i,o.A b i->base<=i:=by
 rintro i ((hi|rfl|rfl)|rfl)
 ·exact h.own.F_new h.bb i hi
 ·exact h.b1
 ·exact h.b2
 ·exact h.bs
theorem VParts.lt (h:VParts w base b n wh o hd nn xs k1 D1 k2 D2 K):∀ i,o.A b i->i<w.heap.size:=by
 rintro i ((hi|rfl|rfl)|rfl)
 ·exact h.own.F_lt h.head.lt i hi
 ·exact h.m1.lt
 ·exact h.m2.lt
 ·exact h.slt
theorem VParts.m1F (h:VParts w base b n wh o hd nn xs k1 D1 k2 D2 K):¬ OwnF b 2 o.v o.m1:=by
 rintro (e|⟨i,hi,hg⟩)
 ·exact qHz h.head h.m1 e.symm
 ·exact qYZ (h.own.own i hi) h.m1 hg rfl
theorem VParts.m2F (h:VParts w base b n wh o hd nn xs k1 D1 k2 D2 K):¬ OwnF b 2 o.v o.m2:=by
 rintro (e|⟨i,hi,hg⟩)
 ·exact qHz h.head h.m2 e.symm
 ·exact qYZ (h.own.own i hi) h.m2 hg rfl
theorem VParts.turns {G:Nat->Prop}(h:VParts w base b n wh o hd nn xs k1 D1 k2 D2 K)(ht:Turns G w w')(hf:∀ i,o.A b i->¬ G i):VParts w' base b n wh o hd nn xs k1 D1 k2 D2 K :=
 { h with
  head:=ht.held h.head (hf _ (.inl (.inl (.inl rfl))))
  own:=h.own.turns ht (fun i g hi hg=>hf _ (.inl (.inl (.inr ⟨i,hi,hg⟩))))
  m1:=qOn h.m1 ht (hf _ (.inl (.inr (.inl rfl))))
  m2:=qOn h.m2 ht (hf _ (.inl (.inr (.inr rfl))))
  src:=h.src.same (ht.block _ h.slt (hf _ (.inr rfl))) rfl rfl
  slt:=Nat.lt_of_lt_of_le h.slt ht.size }
theorem VParts.keep (h:VParts w base b n wh o hd nn xs k1 D1 k2 D2 K)(hb:Below w.heap.size w w'):VParts w' base b n wh o hd nn xs k1 D1 k2 D2 K :=
 h.turns (G:=fun _=>False) (Turns.of_below hb _) (fun _ _ x=>x)
theorem SrcIs.of_grown {row:Option Nat}(h:VParts w base b n wh o hd nn xs k1 D1 k2 D2 K)(hg:w.grownBy w' row)(hr:∀ g,row=some g->o.F b g):SrcIs w' wh n o K:=by
 by_cases he:wh=true/\n=0
 ·have h1:=h.src
  obtain⟨rfl,rfl⟩:=he
  unfold SrcIs at h1 ⊢
  obtain⟨A,c,e1,e2,e3,e4,e5⟩:=h1
  exact⟨A,c,e1,e2,e3,e4,fun hn=>by omega⟩
 ·refine h.src.same (hg.block _ h.slt (fun e=>?_)) rfl rfl
  rcases hr _ e.symm with h1|h1|h1
  ·rcases h.sF with h2|h2
   ·exact he h2
   ·exact h2 h1
  ·exact h.s1 h1
  ·exact h.s2 h1
theorem VParts.map1 (h:VParts w base b n wh o hd nn xs k1 D1 k2 D2 K){k:Nat}{D:DataW Unit}(hg:w.grownBy w' (some o.m1))(hm:w'.ownsMap Tryz.prog 3 unitElem o.m1 k D) :
  VParts w' base b n wh o hd nn xs k D k2 D2 K/\Turns (o.F b) w w':=by
 have ht:Turns (fun i=>i=o.m1) w w':=Turns.of_grown hg rfl
 refine⟨{ h with
  head:=ht.held h.head (fun e=>h.m1F (.inl e.symm))
  own:=h.own.turns ht (fun i g hi hg e=>h.m1F (.inr ⟨i,hi,by rw[<- e];exact hg⟩))
  m1:=hm
  m2:=qOn h.m2 ht (fun e=>h.mm e.symm)
  src:=SrcIs.of_grown h hg (fun g e=>by injection e with e;exact .inr (.inl e.symm))
  slt:=Nat.lt_of_lt_of_le h.slt hg.size },ht.more (fun i e => .inr (.inl e))⟩
theorem VParts.map2 (h:VParts w base b n wh o hd nn xs k1 D1 k2 D2 K){k:Nat}{D:DataW Unit}(hg:w.grownBy w' (some o.m2))(hm:w'.ownsMap Tryz.prog 3 (plainElem Tryz.prog 3) o.m2 k D) :
  VParts w' base b n wh o hd nn xs k1 D1 k D K/\Turns (o.F b) w w':=by
 have ht:Turns (fun i=>i=o.m2) w w':=Turns.of_grown hg rfl
 refine⟨{ h with
  head:=ht.held h.head (fun e=>h.m2F (.inl e.symm))
  own:=h.own.turns ht (fun i g hi hg e=>h.m2F (.inr ⟨i,hi,by rw[<- e];exact hg⟩))
  m1:=qOn h.m1 ht (fun e=>h.mm e)
  m2:=hm
  src:=SrcIs.of_grown h hg (fun g e=>by injection e with e;exact .inr (.inr e.symm))
  slt:=Nat.lt_of_lt_of_le h.slt hg.size },ht.more (fun i e => .inr (.inr e))⟩
theorem VParts.setHead (h:VParts w base b n wh o hd nn xs k1 D1 k2 D2 K)(j:Nat)(u:Value) :
  VParts (w.setCell ⟨b,j,none⟩ u) base b n wh o (hd.setIfInBounds j u) nn xs k1 D1 k2 D2 K/\Turns (o.F b) w (w.setCell ⟨b,j,none⟩ u):=by
 have ht:Turns (fun i=>i=b) w (w.setCell ⟨b,j,none⟩ u):=(T0 (fun i=>i=b) w).put (p:=⟨b,j,none⟩) rfl u
 have hg:w.grownBy (w.setCell ⟨b,j,none⟩ u) (some b):=⟨ht.os,ht.tape,ht.output,ht.size,fun i hi hne=>ht.block i hi (fun e=>hne (by rw[e]))⟩
 refine⟨{ h with
  head:=h.head.put j u
  own:=h.own.setB j u
  m1:=qOn h.m1 ht (fun e=>qHz h.head h.m1 e.symm)
  m2:=qOn h.m2 ht (fun e=>qHz h.head h.m2 e.symm)
  src:=SrcIs.of_grown h hg (fun g e=>by injection e with e;subst e;exact .inl (.inl rfl))
  slt:=by simp;exact h.slt },ht.more (fun i e => .inl (.inl e))⟩
theorem VParts.store (h:VParts w base b n wh o hd nn xs k1 D1 k2 D2 K){i g cap:Nat}(hi:i<2)(hv:o.v i = .slice (some ⟨g,0,none⟩) (nn i) cap)(j:Nat)(u:Value) :
  VParts (w.setCell ⟨g,j,none⟩ u) base b n wh o hd nn (updF xs i ((xs i).set j u)) k1 D1 k2 D2 K/\Turns (o.F b) w (w.setCell ⟨g,j,none⟩ u):=by
 obtain⟨h1,ht⟩:=h.own.put hi hv j u
 have hgo:OwnF b 2 o.v g := .inr ⟨i,hi,by rw[hv];rfl⟩
 have hg:w.grownBy (w.setCell ⟨g,j,none⟩ u) (some g):=⟨ht.os,ht.tape,ht.output,ht.size,fun i hi hne=>ht.block i hi (fun e=>hne (by rw[e]))⟩
 refine⟨{ h with
  head:=ht.held h.head (fun e=>h.own.notb i hi (by rw[hv,e];rfl))
  own:=h1
  m1:=qOn h.m1 ht (fun e=>h.m1F (by rw[e];exact hgo))
  m2:=qOn h.m2 ht (fun e=>h.m2F (by rw[e];exact hgo))
  src:=SrcIs.of_grown h hg (fun q e=>by injection e with e;subst e;exact .inl hgo)
  slt:=by simp;exact h.slt },ht.more (fun x e=>by subst e;exact .inl hgo)⟩
theorem VParts.grow (h:VParts w base b n wh o hd nn xs k1 D1 k2 D2 K){i:Nat}(hi:i<2){v':Value}{n':Nat}{xs':List Value}(hown:w'.ownsRow base (vE i) (vSz i) v' n' xs')(hg:w.grownBy w' (o.v i).ownBlock)
  (hloc:∀ g,v'.ownBlock=some g->(o.v i).ownBlock=some g\/w.heap.size<=g) :
  VParts w' base b n wh { o with v:=updF o.v i v' } hd (updF nn i n') (updF xs i xs') k1 D1 k2 D2 K/\(∀ g,VGeo.A { o with v:=updF o.v i v' } b g->o.A b g\/w.heap.size<=g)/\Turns (o.F b) w w':=by
 have hF:=qNe (b:=b) (w:=w) hi hloc
 have hne:∀ q,¬ OwnF b 2 o.v q->q<w.heap.size->w'.heap[q]?=w.heap[q]?:=fun q hq hlt=>hg.block q hlt (fun e=>hq (.inr ⟨i,hi,e.symm⟩))
 have hbq:w'.heap[b]?=w.heap[b]?:=hg.block b h.head.lt (fun e=>h.own.notb i hi e.symm)
 have hT:Turns (o.F b) w w':=⟨hg.os,hg.tape,hg.output,hg.size,fun q hq hf=>hne q (fun x=>hf (.inl x)) hq⟩
 refine⟨{ h with
  head:=hbq.trans h.head
  own:=h.own.grown h.head.lt hi hown hg hloc
  m1:=by
   obtain⟨es,clock,e1,e2⟩:=h.m1
   exact⟨es,clock,(hne _ h.m1F h.m1.lt).trans e1,e2⟩
  m2:=by
   obtain⟨es,clock,e1,e2⟩:=h.m2
   exact⟨es,clock,(hne _ h.m2F h.m2.lt).trans e1,e2⟩
  src:=(SrcIs.of_grown h hg (fun g e => .inl (.inr ⟨i,hi,e⟩))).same rfl rfl rfl
  slt:=Nat.lt_of_lt_of_le h.slt hg.size
  sF:=by
   rcases h.sF with h1|h1
   ·exact .inl h1
   ·refine .inr (fun x=>?_)
    rcases hF _ x with h2|h2
    ·exact h1 h2
    ·have h3:=h.slt
     have h2:w.heap.size<=o.sb:=h2
     omega },?_,hT⟩
 rintro g ((hx|hx|hx)|hx)
 ·rcases hF g hx with h2|h2
  ·exact .inl (.inl (.inl h2))
  ·exact .inr h2
 ·exact .inl (.inl (.inr (.inl hx)))
 ·exact .inl (.inl (.inr (.inr hx)))
 ·exact .inl (.inr hx)
end

def vHead (n:Nat) (o:VGeo) (s:Vst):Array Value:=#[.int .i64 (n:Int),o.fv,o.v 0,.map (some o.m1),o.v 1,.map (some o.m2),.bool s.lost,.int .i64 (s.miss:Int)]
structure IsView (w:World) (base b n:Nat) (wh:Bool) (o:VGeo) (K:Nat->Option Nat) (s:Vst):Prop where
 parts:∃ k1 D1 k2 D2,k1<=s.rd.length/\k2<=s.wr.length/\SetIs D1 s.rd/\NumIs D2 .i64 (pos s.wr)/\VParts w base b n wh o (vHead n o s) (vN s) (vX s) k1 D1 k2 D2 K
 ok:VOk n s
 nmax:n<=2^40
 k32:∀ i x,K i=some x->x<2^32
section
variable {w w' : World} {base b n : Nat} {wh : Bool} {o : VGeo} {K : Nat -> Option Nat} {s : Vst}
theorem IsView.ge (h:IsView w base b n wh o K s):∀ i,o.A b i->base<=i:=by obtain⟨k1,D1,k2,D2,_,_,_,_,hp⟩:=h.parts;exact hp.ge
theorem IsView.lt (h:IsView w base b n wh o K s):∀ i,o.A b i->i<w.heap.size:=by obtain⟨k1,D1,k2,D2,_,_,_,_,hp⟩:=h.parts;exact hp.lt
theorem IsView.turns {G:Nat->Prop}(h:IsView w base b n wh o K s)(ht:Turns G w w')(hf:∀ i,o.A b i->¬ G i):IsView w' base b n wh o K s :=
 { h with
  parts:=by
   obtain⟨k1,D1,k2,D2,e1,e2,e3,e4,hp⟩:=h.parts
   exact⟨k1,D1,k2,D2,e1,e2,e3,e4,hp.turns ht hf⟩ }
theorem IsView.keep (h:IsView w base b n wh o K s)(hb:Below w.heap.size w w'):IsView w' base b n wh o K s :=
 h.turns (G:=fun _=>False) (Turns.of_below hb _) (fun _ _ x=>x)
theorem IsView.head (h:IsView w base b n wh o K s):Held w b 104 (vHead n o s):=by obtain⟨k1,D1,k2,D2,_,_,_,_,hp⟩:=h.parts;exact hp.head
theorem IsView.cells (h:IsView w base b n wh o K s):w.cell? ⟨b,0,none⟩=some (.int .i64 (n:Int))/\w.cell? ⟨b,1,none⟩=some o.fv/\w.cell? ⟨b,2,none⟩=some (o.v 0)/\w.cell? ⟨b,3,none⟩=some (.map (some o.m1)) /\
  w.cell? ⟨b,4,none⟩=some (o.v 1)/\w.cell? ⟨b,5,none⟩=some (.map (some o.m2))/\w.cell? ⟨b,6,none⟩=some (.bool s.lost)/\w.cell? ⟨b,7,none⟩=some (.int .i64 (s.miss:Int)) :=
 ⟨h.head.cell 0,h.head.cell 1,h.head.cell 2,h.head.cell 3,h.head.cell 4,h.head.cell 5,h.head.cell 6,h.head.cell 7⟩
end
end
end Go.Proofs.YtjjfcaliippgpaaGreatDoor
