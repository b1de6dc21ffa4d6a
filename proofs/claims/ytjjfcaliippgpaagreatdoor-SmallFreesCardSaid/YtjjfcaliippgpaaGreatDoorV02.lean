/-
  Views: contracts of open, known, note, Get.
-/
import Derived.Test.YtjjfcaliippgpaaGreatDoorV01
import Derived.Lib.SliceRun
import Derived.Deep.Slices
import Derived.Lib.SmallJoins
import Derived.Deep.RegionHeld3
namespace Go.Proofs.YtjjfcaliippgpaaGreatDoor
theorem Mem {P:Prop}(h:P:=by
 rintro e w2 ⟨b,o,rfl,hI,_,hA,hb2⟩
 have HI:=qh hI
 have HB2:=qh hb2
 clear hI hb2
 go_wp2
 go_ret
 exact⟨b,o,rfl,HI.o,Bgo HB.o HB2.o⟩):P:=h
theorem M6Z {P:Prop}(h:P:=by
 clear hl
 go_enter Tryz.func119,Tryz.ntmps119
 go_wp2
 go_ret
 exact⟨by rw[HV.o];rfl,rfl⟩):P:=h
theorem Mny {P:Prop}(h:P:=by
 rcases hr.2 with ⟨h1,_⟩|⟨g',cap',cur,h1,_,_,h2,h3,_⟩
 · cases h1
 · injection h1 with _ _ h1;subst h1;exact⟨h2,h3⟩):P:=h
theorem MU7 {P:Prop}(h:P:=by
  rcases HA4.o q hq with h1|h1
  · exact .inl h1
  · have h2:=HT2.o.size
    simp at h1
    exact .inr qo):P:=h
theorem MIZ {P:Prop}(h:P:=by
  have hx:xs = []:=List.eq_nil_of_length_eq_zero (by simp[hl,h])
  subst hx
  cases hu):P:=h
theorem MQM {P:Prop}(h:P:=by
 rcases Nat.eq_zero_or_pos n with h|h
 · exact h
 · obtain⟨ad,h2,_⟩:=hA h
   cases h2):P:=h
end Go.Proofs.YtjjfcaliippgpaaGreatDoor
set_option linter.unusedVariables false
set_option linter.unusedSimpArgs false
set_option maxRecDepth 100000
set_option maxHeartbeats 25600000
namespace Go.Proofs.YtjjfcaliippgpaaGreatDoor
open Go.ChangeShapes Go.WideShapes Go.ChangeAt Go.RowKit Go.Maps
section
theorem qEY {base b n:Nat}{wh:Bool}{o:VGeo}{K:Nat->Option Nat}{s:Vst}(a:Int)(w:World)(h:IsView w base b n wh o K s) :
  Calls Tryz.prog 119 #[.pointer (some ⟨b,0,none⟩),.int .i64 a] w fun e w'=>e = .returned (.bool (opn n s a))/\w'=w:=by
 obtain⟨c0,_,_,_,_,_,c6,_⟩:=h.cells
 have hn:=h.nmax
 clear h
 cases hl:s.lost with
 | true =>
  have HV:qH (opn n s a=false):=qh (by unfold opn;simp[hl])
  rw[hl] at c6
  go_enter Tryz.func119,Tryz.ntmps119
  go_wp2
  go_ret
  exact⟨by rw[HV.o];rfl,rfl⟩
 | false =>
  rw[hl] at c6
  rcases Int.lt_or_le a 0 with h1|h1
  ·have HV:qH (opn n s a=false):=qh (by unfold opn;simp;omega)
   have t0:decide ((0:Int)<=a)=false:=qf
   exact M6Z
  ·have t0:decide ((0:Int)<=a)=true:=decide_eq_true h1
   rcases Int.lt_or_le a n with h2|h2
   ·have HV:qH (opn n s a=true):=qh (by unfold opn;simp[hl];omega)
    have t1:decide (a<(n:Int))=true:=decide_eq_true h2
    exact M6Z
   ·have HV:qH (opn n s a=false):=qh (by unfold opn;simp;omega)
    have t1:decide (a<(n:Int))=false:=qf
    exact M6Z

theorem qMD (g n c i:Nat)(x:Int)(hi:i<n)(hn:n<=c)(hc:c<=maxLen)(w:World)(h:w.cell? ⟨g,i,none⟩=some (.int .u32 x)) :
  Calls Tryz.prog 241 #[.slice (some ⟨g,0,none⟩) n c,.int .i64 (i:Int)] w fun e w'=>e = .returned (.tuple #[.int .u32 x,.bool true])/\w'=w:=by
 unfold maxLen at hc
 go_enter Tryz.func241,Tryz.ntmps241
 go_wp2
 go_ret2
 exact⟨rfl,rfl⟩

theorem qF8 (w:World):(zeroValue 76).run Tryz.prog w = .ok (.int .u32 0) w:=by kernel_rfl
theorem zeroInt (w:World):(zeroValue 3).run Tryz.prog w = .ok (.int .i64 0) w:=by kernel_rfl
theorem zeroUnit (w:World):(zeroValue 191).run Tryz.prog w = .ok (.agg #[]) w:=by kernel_rfl

theorem qEf (s:Vst)(i:Nat):∀ j,j<2->updF (vN s) 0 (s.rd.length+1) j=vN { s with rd:=s.rd ++ [i] } j:=fun j hj=>by
 match j,hj with
 | 0,_=>simp[updF,vN]
 | 1,_=>simp[updF,vN]
theorem qJA (s:Vst)(i:Nat):∀ j,j<2->updF (vX s) 0 (ntVs s.rd ++ [Value.int .i64 (i:Int)]) j=vX { s with rd:=s.rd ++ [i] } j:=fun j hj=>by
 match j,hj with
 | 0,_=>simp[updF,vX,ntVs]
 | 1,_=>simp[updF,vX]
theorem qB4 {base b n:Nat}{wh:Bool}{o:VGeo}{K:Nat->Option Nat}{s:Vst}(i:Nat)(hi:i<n)(hlim:s.rd.length<2^40)(w:World)(h:IsView w base b n wh o K s) :
    Calls Tryz.prog 120 #[.pointer (some ⟨b,0,none⟩),.int .i64 (i:Int)] w fun e w'=>e = .returned (.tuple #[]) /\
      ∃ o':VGeo,IsView w' base b n wh o' K (noteS s i)/\(∀ g,o'.A b g->o.A b g\/w.heap.size<=g)/\Turns (o.F b) w w':=by
  have hn:=h.nmax
  have HH:=qh h
  obtain⟨c0,c1,c2,c3,_,_,_,_⟩:=h.cells
  obtain⟨k1,D1,k2,D2,e1,e2,e3,e4,hp⟩:=h.parts
  have hkey:=qRS (c:=(i:Int)) (qEt qo)
  have HP:=qh hp
  by_cases hm:i∈s.rd
  · have HM:qH (Maps.has D1 (kInt (i:Int))=true):=qh (by rw[e3.has];simp[hm])
    have HN:=qh (qDm hm)
    clear h hp hm e3 e4
    go_enter Tryz.func120,Tryz.ntmps120
    go_wp2_with (first
      | (at_lookup;refine wpList_lookup_own_unit _ rfl _ _ 101 rfl 3 191 qDt Tryz.underlying101 (zeroUnit _) o.m1 k1 D1 rfl HP.o.m1 _ _ rfl hkey ?_;rw[HM.o])
      | go_in)
    go_end0
    refine⟨rfl,o,?_,fun g hg => .inl hg,(T0 _ _).alloc _⟩
    rw[HN.o]
    exact HH.o.keep (Bnew (B0 _) _)
  · have HM:qH (Maps.has D1 (kInt (i:Int))=false):=qh (by rw[e3.has];simp[hm])
    have HN:=qh (qLy hm)
    have HS:=qh (e3.put i)
    have HE:=qh e4
    have HOK:=qh (h.ok.note (i:=i) hi)
    have HP1:qH (VParts (w.alloc (.cells #[] 191)) base b n wh o (vHead n o s) (vN s) (vX s) k1 D1 k2 D2 K):=qh (hp.keep (Bnew (B0 _) _))
    obtain⟨i0,hin,hz0,hz1,hz2⟩:=info_parts intInfo
    have hbl:=hp.head.lt
    clear h hp hm e3 e4
    go_enter Tryz.func120,Tryz.ntmps120
    go_wp2_with (first
      | (at_lookup;refine wpList_lookup_own_unit _ rfl _ _ 101 rfl 3 191 qDt Tryz.underlying101 (zeroUnit _) o.m1 k1 D1 rfl HP.o.m1 _ _ rfl hkey ?_;rw[HM.o])
      | (at_mapUpdate;refine wpList_mapUpdate_own _ rfl _ _ _ 101 rfl 3 191 qDt Tryz.underlying101 _ o.m1 k1 D1 rfl HP1.o.m1 (by unfold maxLen;omega) _ _ _ rfl rfl hkey _ [] unitElem_mk ?_
         intro w2 hown1 hgrow1
         obtain⟨hp2,ht2⟩:=HP1.o.map1 hgrow1 hown1
         have c2':w2.cell? ⟨b,2,none⟩=some (o.v 0):=hp2.head.cell 2
         have HP2:=qh hp2
         have HT2:=qh (((T0 (o.F b) w).alloc _).trans ht2)
         clear hp2 ht2 hown1 hgrow1)
      | (at_builtin
         refine wpList_append_lies _ rfl _ _ 42 rfl base 3 i0 (.int .i64 0) 1 8 Tryz.underlying42 hin hz0 hz1 hz2 rfl (by decide) (o.v 0) s.rd.length (ntVs s.rd) rfl ((HP2.o.own.own 0 qo).alloc _) ⟨_,0,none⟩ 1 1 [.int .i64 (i:Int)] rfl rfl ?c1 ?c2 qo ?c3 ?c4 ?c5 _ rfl ?_
         case c1=>intro j y hy;rcases j with _|j;(· simp at hy;subst hy;simp[Addr.add]);(· simp at hy)
         case c2=>simp[Value.oneCell']
         case c3=>unfold maxLen;omega
         case c4=>omega
         case c5=>have:=HP2.o.bb;have:=HP2.o.head.lt;simp;omega
         intro g cap w4 hown4 hgrow4 hat4 hlt4
         obtain⟨hp4,hA4,hT4⟩:=(HP2.o.keep (Bnew (B0 _) _)).grow (i:=0) qo hown4 hgrow4 (fun q hq=>by
           have hq:g=q:=by simpa [Value.ownBlock] using hq
           subst hq
           rcases hat4 with h1|h1
           · exact .inl h1
           · right;rw[h1];exact Nat.le_refl _)
         have c2'':w4.cell? ⟨b,2,none⟩=some (o.v 0):=hp4.head.cell 2
         have f2:=hp4.head.thawed 2
         have HP4:=qh hp4
         have HA4:=qh hA4
         have HT4:=qh (HT2.o.trans (((T0 (o.F b) w2).alloc _).trans hT4))
         clear hp4 hA4 hT4 hown4 hgrow4 hat4)
      | go_in)
    go_end0
    obtain⟨hp5,ht5⟩:=HP4.o.setHead 2 (.slice (some ⟨g,0,none⟩) (s.rd.length+1) cap)
    refine⟨rfl,{ o with v:=updF o.v 0 (.slice (some ⟨g,0,none⟩) (s.rd.length+1) cap) },?_,fun q hq=>?_,HT4.o.put (p:=⟨b,2,none⟩) (.inl (.inl rfl)) _⟩
    · rw[HN.o] at HOK ⊢
      exact { parts:=⟨_,_,k2,D2,by simp;omega,e2,HS.o,HE.o,{ hp5 with own:=hp5.own.congr (qEf s i) (qJA s i) }⟩,ok:=HOK.o,nmax:=hn,k32:=HH.o.k32 }
    ·exact MU7

theorem IsView.wvm {w:World}{base b n:Nat}{wh:Bool}{o:VGeo}{K:Nat->Option Nat}{s:Vst}(h:IsView w base b n wh o K s):∃ k D,k<=s.wr.length/\w.ownsMap Tryz.prog 3 (plainElem Tryz.prog 3) o.m2 k D/\NumIs D .i64 (pos s.wr):=by
 obtain⟨k1,D1,k2,D2,e1,e2,e3,e4,hp⟩:=h.parts
 exact⟨k2,D2,e2,hp.m2,e4⟩
theorem IsView.wrow {w:World}{base b n:Nat}{wh:Bool}{o:VGeo}{K:Nat->Option Nat}{s:Vst}(h:IsView w base b n wh o K s):w.ownsRow base 107 2 (o.v 1) s.wr.length (prVs s.wr):=by
 obtain⟨k1,D1,k2,D2,e1,e2,e3,e4,hp⟩:=h.parts
 exact hp.own.own 1 qo
theorem IsView.rrow {w:World}{base b n:Nat}{wh:Bool}{o:VGeo}{K:Nat->Option Nat}{s:Vst}(h:IsView w base b n wh o K s):w.ownsRow base 3 1 (o.v 0) s.rd.length (ntVs s.rd):=by
 obtain⟨k1,D1,k2,D2,e1,e2,e3,e4,hp⟩:=h.parts
 exact hp.own.own 0 qo
theorem IsView.src {w:World}{base b n:Nat}{wh:Bool}{o:VGeo}{K:Nat->Option Nat}{s:Vst}(h:IsView w base b n wh o K s):SrcIs w wh n o K:=by
 obtain⟨k1,D1,k2,D2,e1,e2,e3,e4,hp⟩:=h.parts
 exact hp.src
def Left11 (w:World) (base b n:Nat) (wh:Bool) (o:VGeo) (K:Nat->Option Nat) (s:Vst) (w':World):Prop :=
 ∃ o':VGeo,IsView w' base b n wh o' K s/\(∀ g,o'.A b g->o.A b g\/w.heap.size<=g)/\Turns (o.F b) w w'
theorem Left11.same {w:World}{base b n:Nat}{wh:Bool}{o:VGeo}{K:Nat->Option Nat}{s:Vst}(h:IsView w base b n wh o K s):Left11 w base b n wh o K s w:=⟨o,h,fun g hg => .inl hg,T0 _ _⟩

theorem SrcIs.list {w:World}{n:Nat}{o:VGeo}{K:Nat->Option Nat}(h:SrcIs w true n o K) :
  ∃ A c,o.fv = .iface 74 (.slice A n c)/\n<=c/\c<=maxLen/\(∀ i,i<n->∃ x,K i=some x/\x<2^32)/\(0<n->A=some ⟨o.sb,0,none⟩/\RowF w o.sb 76 n c (valF fun i=>(K i).getD 0)):=h
theorem qWE (A : Option Addr) (n c : Nat) (w : World) : (method 347 74 (.slice A n c) "nacre/view.known").run Tryz.prog w = .ok (241, .slice A n c) w := by kernel_rfl
theorem qIP {base b n:Nat}{wh:Bool}{o:VGeo}{K:Nat->Option Nat}{s:Vst}(a:Int)(ho:opn n s a=false)(w:World)(h:IsView w base b n wh o K s) :
  Calls Tryz.prog 82 #[.pointer (some ⟨b,0,none⟩),.int .i64 a] w fun e w'=>e = .returned (.int .u32 0)/\w'=w:=by
 have HH:=qh h
 have HO:=qh ho
 clear h ho
 go_enter Tryz.func82,Tryz.ntmps82
 go_wp2_with fail
 refine(qEY a _ HH.o).mono ?_
 rintro e w1 ⟨rfl,rfl⟩
 rw[HO.o]
 go_wp2
 go_ret
 exact⟨rfl,rfl⟩

theorem qUE {base b n:Nat}{wh:Bool}{o:VGeo}{K:Nat->Option Nat}{s:Vst}(i k:Nat)(ho:opn n s (i:Int)=true)(hk:pos s.wr i=some k)(hi:i<n)(hlim:s.wr.length<2^40)(w:World)(h:IsView w base b n wh o K s) :
    Calls Tryz.prog 82 #[.pointer (some ⟨b,0,none⟩),.int .i64 (i:Int)] w fun e w'=>e = .returned (.int .u32 ((atW s.wr k:Nat):Int))/\w'=w:=by
  have hn:=h.nmax
  have hkl:=(qG9 hk).1
  obtain⟨c0,c1,c2,c3,c4,c5,c6,c7⟩:=h.cells
  obtain⟨kk,D,e1,hown,hD⟩:=h.wvm
  obtain⟨g,cap,hv,_,_⟩:=h.wrow.form qo
  have hr:=h.wrow
  rw[hv] at hr c4
  have d0:w.cell? ⟨g,k*2+1,none⟩=some (.int .u32 ((atW s.wr k:Nat):Int)):=(hr.cellAt _ qo).trans (qNC s.wr k hkl).2
  have hcap:s.wr.length<=cap/\cap<=maxLen:=by
    exact Mny
  obtain⟨hc1,hc2⟩:=hcap
  unfold maxLen at hc2
  have hkey:=qRS (c:=(i:Int)) (qEt qo)
  have HH:=qh h
  have HO:=qh ho
  have HM:qH (Maps.has D (kInt (i:Int))=true):=qh (by rw[hD.has];simp[hk])
  have HA:qH (∀ c:Int,D.atKey (kInt (i:Int)) (.lit (.int .i64 0)) = .lit (.int .i64 c)->c=k):=qh (fun c hc=>by
    rw[hD.at_ i k hk] at hc
    injection hc with hc
    injection hc with _ hc
    exact hc.symm)
  have HW:=qh hown
  generalize atW s.wr k=x at *
  generalize s.wr.length=m at *
  clear h ho hk hr hv hD c1 c2 c3 hown
  go_enter Tryz.func82,Tryz.ntmps82
  go_wp2_with fail
  refine(qEY (i:Int) _ HH.o).mono ?_
  rintro e w1 ⟨rfl,rfl⟩
  rw[HO.o]
  go_wp2_with (first
    | (at_lookup;refine wpList_lookup_own_ok_int _ rfl _ _ 102 rfl 3 3 .i64 qDt Tryz.underlying102 Tryz.underlying3 (zeroInt _) o.m2 kk D rfl HW.o _ _ rfl hkey ?_
       intro c hat hwc
       obtain rfl:c=(k:Int):=HA.o c hat
       rw[HM.o]
       clear hat hwc)
    | go_in)
  go_ret
  exact⟨rfl,rfl⟩

theorem qM2 {base b n:Nat}{o:VGeo}{K:Nat->Option Nat}{s:Vst}(i v:Nat)(ho:opn n s (i:Int)=true)(hk:pos s.wr i=none)(hi:i<n)(hv:K i=some v)(hlim:s.rd.length<2^40)(w:World)(h:IsView w base b n true o K s) :
    Calls Tryz.prog 82 #[.pointer (some ⟨b,0,none⟩),.int .i64 (i:Int)] w fun e w'=>e = .returned (.int .u32 (v:Int))/\Left11 w base b n true o K (noteS s i) w':=by
  have hn:=h.nmax
  obtain⟨c0,c1,c2,c3,c4,c5,c6,c7⟩:=h.cells
  obtain⟨kk,D,e1,hown,hD⟩:=h.wvm
  obtain⟨A,c,hf,hc1,hc2,_,hR⟩:=h.src.list
  obtain⟨rfl,hR2⟩:=hR qo
  have d0:w.cell? ⟨o.sb,i,none⟩=some (.int .u32 (v:Int)):=by
    rw[hR2.cell hi]
    show some (Value.int .u32 (((K i).getD 0:Nat):Int))=_
    rw[hv]
    rfl
  rw[hf] at c1
  have hkey:=qRS (c:=(i:Int)) (qEt qo)
  have HH:=qh h
  have HO:=qh ho
  have HM:qH (Maps.has D (kInt (i:Int))=false):=qh (by rw[hD.has];simp[hk])
  have HW:=qh hown
  have HL:=qh hlim
  generalize o.sb=g at *
  clear h ho hk hv hD c2 c3 c4 hown hf hR hR2 hlim
  have hmt:=qWE
  go_enter Tryz.func82,Tryz.ntmps82
  go_wp2_with fail
  refine(qEY (i:Int) _ HH.o).mono ?_
  rintro e w1 ⟨rfl,rfl⟩
  rw[HO.o]
  go_wp2_with (first
    | (at_lookup;refine wpList_lookup_own_ok_int _ rfl _ _ 102 rfl 3 3 .i64 qDt Tryz.underlying102 Tryz.underlying3 (zeroInt _) o.m2 kk D rfl HW.o _ _ rfl hkey ?_
       intro c hat hwc
       rw[HM.o]
       clear hat hwc)
    | fail)
  refine(qMD g n _ i (v:Int) hi hc1 hc2 _ d0).mono ?_
  rintro e w2 ⟨rfl,rfl⟩
  go_wp2_with fail
  refine(qB4 i hi HL.o _ HH.o).mono ?_
  rintro e w2 ⟨rfl,hL⟩
  go_wp2
  go_ret
  exact⟨rfl,hL⟩

theorem qM8 {base b n:Nat}{wh:Bool}{o:VGeo}{K:Nat->Option Nat}{s:Vst}(a:Int)(h1:s.rd.length<2^40)(h2:s.wr.length<2^40)(w:World)(h:IsView w base b n wh o K s) :
  Calls Tryz.prog 82 #[.pointer (some ⟨b,0,none⟩),.int .i64 a] w fun e w'=>e = .returned (.int .u32 ((getV n K s a:Nat):Int))/\Left11 w base b n wh o K (getS n K s a) w':=by
 by_cases ho:opn n s a=true
 ·obtain⟨i,rfl,hi,hl⟩:=qAh ho
  cases hp:pos s.wr i with
  | some k =>
   rw[qWv ho hp,qZT ho hp]
   refine(qUE i k ho hp hi h2 w h).mono ?_
   rintro e w1 ⟨rfl,rfl⟩
   exact⟨rfl,Left11.same h⟩
  | none =>
   cases hk:K i with
   | some v =>
    rw[qGE ho hp hk,qTM ho hp hk]
    cases wh with
    | true=>exact qM2 i v ho hp hi hk h1 w h
    | false=>exact False.elim (h.src:SrcIs w false n o K)
   | none =>
    rw[qUa ho hp hk,qH4 ho hp hk]
    cases wh with
    | true =>
     obtain⟨A,c,_,_,_,h3,_⟩:=h.src.list
     obtain⟨x,hx,_⟩:=h3 i hi
     rw[hx] at hk
     cases hk
    | false=>exact False.elim (h.src:SrcIs w false n o K)
 ·have ho:opn n s a=false:=by simpa using ho
  rw[qDi ho,qPg ho]
  refine(qIP a ho w h).mono ?_
  rintro e w1 ⟨rfl,rfl⟩
  exact⟨rfl,Left11.same h⟩
end
section
theorem valInfo:(Tryz.prog.info? 76).map (fun i=>(i.zero,i.size,i.bytes))=some (some (.int .u32 0),1,4):=by kernel_rfl
theorem pairInfo:(Tryz.prog.info? 107).map (fun i=>(i.zero,i.size,i.bytes))=some (some (.agg #[.int .i64 0,.int .u32 0]),2,16):=by kernel_rfl

theorem qCn (A:Option Addr)(n c:Nat)(xs:List Value)(hl:xs.length=n*1)(hmx:n*4<=140737488355328)(h1:∀ u∈xs,u.oneCell'=true)(w:World)
    (hA:0<n->∃ ad,A=some ad/\∀ j u,xs[j]?=some u->w.cell? (ad.add j)=some u) :
    Calls Tryz.prog 35 #[.slice A n c] w fun e w'=>∃ v,e = .returned v/\w'.ownsRow w.heap.size 76 1 v n xs/\(A=none->v = .slice none 0 0)/\Below w.heap.size w w':=by
  have q22:∀ (w:World) (a:Option Addr) (n c n' c':Nat),(binOp .eql 24 (.slice a n c) (.slice none n' c')).run Tryz.prog w = .ok (.bool a.isNone) w:=fun w a n c n' c'=>Lib.run_eql_slice_nil w _ _ a n c n' c' Tryz.underlying24
  cases A with
  | none =>
    have hn:n=0:=by
      exact MQM
    subst hn
    have hx:xs = []:=List.eq_nil_of_length_eq_zero qo
    subst hx
    go_enter Tryz.func35,Tryz.ntmps35
    go_wp2
    go_ret
    exact⟨_,rfl,World.ownsRow_nil _ _ _ _,fun _=>rfl,B0 _⟩
  | some ad =>
    obtain⟨i0,hi,hz0,hz1,hz2⟩:=info_parts valInfo
    have HC:qH (∀ j u,xs[j]?=some u->w.cell? (ad.add j)=some u):=qh (fun j u hu=>by
      rcases Nat.eq_zero_or_pos n with h|h
      ·exact MIZ
      · obtain⟨ad',h2,h3⟩:=hA h
        injection h2 with h2
        subst h2
        exact h3 j u hu)
    clear hA
    go_enter Tryz.func35,Tryz.ntmps35
    go_wp2_with (at_builtin
                 refine wpList_append_own _ rfl _ _ 24 rfl w.heap.size 76 i0 (.int .u32 0) 1 4 Tryz.underlying24 hi hz0 hz1 hz2 rfl (by decide) _ 0 [] rfl (World.ownsRow_made w #[] 0 (Nat.le_refl _) (Nat.zero_le _) (by simp)) ad n c xs rfl ?c1 ?c2 ?c3 ?c4 ?c5 ?c6 ?_)
    case c1=>exact hl
    case c2=>exact fun j u hj=>Lib.cell?_alloc_some _ (HC.o j u hj)
    case c3=>exact h1
    case c4=>rw[Nat.zero_add];unfold maxLen;omega
    case c5=>rw[Nat.zero_add];exact hmx
    case c6=>simp
    intro v' w1 hown hgrow hnil
    have HB:=qh (((Below.refl _ w).alloc (Nat.le_refl _) (.cells #[] 76)).grown hgrow (by simp) (by intro k hk;simp[Value.ownBlock] at hk;omega))
    have HO:=qh hown
    clear hgrow hown hnil
    go_wp2
    go_ret
    exact⟨_,rfl,by simpa using HO.o,fun h=>(by cases h),HB.o⟩

theorem qBV (A:Option Addr)(n c:Nat)(xs:List Value)(hl:xs.length=n*1)(hmx:n*8<=140737488355328)(h1:∀ u∈xs,u.oneCell'=true)(w:World)
    (hA:0<n->∃ ad,A=some ad/\∀ j u,xs[j]?=some u->w.cell? (ad.add j)=some u) :
    Calls Tryz.prog 51 #[.slice A n c] w fun e w'=>∃ v,e = .returned v/\w'.ownsRow w.heap.size 3 1 v n xs/\(A=none->v = .slice none 0 0)/\Below w.heap.size w w':=by
  have q22:∀ (w:World) (a:Option Addr) (n c n' c':Nat),(binOp .eql 42 (.slice a n c) (.slice none n' c')).run Tryz.prog w = .ok (.bool a.isNone) w:=fun w a n c n' c'=>Lib.run_eql_slice_nil w _ _ a n c n' c' Tryz.underlying42
  cases A with
  | none =>
    have hn:n=0:=by
      exact MQM
    subst hn
    have hx:xs = []:=List.eq_nil_of_length_eq_zero qo
    subst hx
    go_enter Tryz.func51,Tryz.ntmps51
    go_wp2
    go_ret
    exact⟨_,rfl,World.ownsRow_nil _ _ _ _,fun _=>rfl,B0 _⟩
  | some ad =>
    obtain⟨i0,hi,hz0,hz1,hz2⟩:=info_parts intInfo
    have HC:qH (∀ j u,xs[j]?=some u->w.cell? (ad.add j)=some u):=qh (fun j u hu=>by
      rcases Nat.eq_zero_or_pos n with h|h
      ·exact MIZ
      · obtain⟨ad',h2,h3⟩:=hA h
        injection h2 with h2
        subst h2
        exact h3 j u hu)
    clear hA
    go_enter Tryz.func51,Tryz.ntmps51
    go_wp2_with (at_builtin
                 refine wpList_append_own _ rfl _ _ 42 rfl w.heap.size 3 i0 (.int .i64 0) 1 8 Tryz.underlying42 hi hz0 hz1 hz2 rfl (by decide) _ 0 [] rfl (World.ownsRow_made w #[] 0 (Nat.le_refl _) (Nat.zero_le _) (by simp)) ad n c xs rfl ?c1 ?c2 ?c3 ?c4 ?c5 ?c6 ?_)
    case c1=>exact hl
    case c2=>exact fun j u hj=>Lib.cell?_alloc_some _ (HC.o j u hj)
    case c3=>exact h1
    case c4=>rw[Nat.zero_add];unfold maxLen;omega
    case c5=>rw[Nat.zero_add];exact hmx
    case c6=>simp
    intro v' w1 hown hgrow hnil
    have HB:=qh (((Below.refl _ w).alloc (Nat.le_refl _) (.cells #[] 3)).grown hgrow (by simp) (by intro k hk;simp[Value.ownBlock] at hk;omega))
    have HO:=qh hown
    clear hgrow hown hnil
    go_wp2
    go_ret
    exact⟨_,rfl,by simpa using HO.o,fun h=>(by cases h),HB.o⟩

theorem qSl (A:Option Addr)(n c:Nat)(xs:List Value)(hl:xs.length=n*2)(hmx:n*16<=140737488355328)(h1:∀ u∈xs,u.oneCell'=true)(w:World)
    (hA:0<n->∃ ad,A=some ad/\∀ j u,xs[j]?=some u->w.cell? (ad.add j)=some u) :
    Calls Tryz.prog 52 #[.slice A n c] w fun e w'=>∃ v,e = .returned v/\w'.ownsRow w.heap.size 107 2 v n xs/\(A=none->v = .slice none 0 0)/\Below w.heap.size w w':=by
  have q22:∀ (w:World) (a:Option Addr) (n c n' c':Nat),(binOp .eql 44 (.slice a n c) (.slice none n' c')).run Tryz.prog w = .ok (.bool a.isNone) w:=fun w a n c n' c'=>Lib.run_eql_slice_nil w _ _ a n c n' c' Tryz.underlying44
  cases A with
  | none =>
    have hn:n=0:=by
      exact MQM
    subst hn
    have hx:xs = []:=List.eq_nil_of_length_eq_zero qo
    subst hx
    go_enter Tryz.func52,Tryz.ntmps52
    go_wp2
    go_ret
    exact⟨_,rfl,World.ownsRow_nil _ _ _ _,fun _=>rfl,B0 _⟩
  | some ad =>
    obtain⟨i0,hi,hz0,hz1,hz2⟩:=info_parts pairInfo
    have HC:qH (∀ j u,xs[j]?=some u->w.cell? (ad.add j)=some u):=qh (fun j u hu=>by
      rcases Nat.eq_zero_or_pos n with h|h
      ·exact MIZ
      · obtain⟨ad',h2,h3⟩:=hA h
        injection h2 with h2
        subst h2
        exact h3 j u hu)
    clear hA
    go_enter Tryz.func52,Tryz.ntmps52
    go_wp2_with (at_builtin
                 refine wpList_append_own _ rfl _ _ 44 rfl w.heap.size 107 i0 (.agg #[.int .i64 0,.int .u32 0]) 2 16 Tryz.underlying44 hi hz0 hz1 hz2 rfl (by decide) _ 0 [] rfl (World.ownsRow_made w #[] 0 (Nat.le_refl _) (Nat.zero_le _) (by simp)) ad n c xs rfl ?c1 ?c2 ?c3 ?c4 ?c5 ?c6 ?_)
    case c1=>exact hl
    case c2=>exact fun j u hj=>Lib.cell?_alloc_some _ (HC.o j u hj)
    case c3=>exact h1
    case c4=>rw[Nat.zero_add];unfold maxLen;omega
    case c5=>rw[Nat.zero_add];exact hmx
    case c6=>simp
    intro v' w1 hown hgrow hnil
    have HB:=qh (((Below.refl _ w).alloc (Nat.le_refl _) (.cells #[] 107)).grown hgrow (by simp) (by intro k hk;simp[Value.ownBlock] at hk;omega))
    have HO:=qh hown
    clear hgrow hown hnil
    go_wp2
    go_ret
    exact⟨_,rfl,by simpa using HO.o,fun h=>(by cases h),HB.o⟩
end
section
theorem qRq {base b n:Nat}{wh:Bool}{o:VGeo}{K:Nat->Option Nat}{s:Vst}(a:Int)(v:Int)(ho:opn n s a=false)(w:World)(h:IsView w base b n wh o K s) :
  Calls Tryz.prog 81 #[.pointer (some ⟨b,0,none⟩),.int .i64 a,.int .u32 v] w fun e w'=>e = .returned (.tuple #[])/\w'=w:=by
 have HH:=qh h
 have HO:=qh ho
 clear h ho
 go_enter Tryz.func81,Tryz.ntmps81
 go_wp2_with fail
 refine(qEY a _ HH.o).mono ?_
 rintro e w1 ⟨rfl,rfl⟩
 rw[HO.o]
 go_wp2
 (try simp only[Exit.inBlock,Exit.then])
 refine bodyPost_ret (results_none rfl _ _ _) rfl ?_
 exact⟨rfl,rfl⟩

theorem qAO {s:Vst}{k v i:Nat}(hk:k<s.wr.length)(hc:cellW s.wr k=i):∀ j,j<2->updF (vX s) 1 ((vX s 1).set (k*2+1) (.int .u32 (v:Int))) j=vX { s with wr:=s.wr.set k (i,v) } j:=fun j hj=>by
 match j,hj with
 | 0,_=>simp[updF,vX]
 | 1,_ =>
  rw[qJN]
  show (prVs s.wr).set (k*2+1) (.int .u32 (v:Int))=prVs (s.wr.set k (i,v))
  rw[qCo _ _ _ hk,hc]
theorem qYv {s:Vst}{k v i:Nat}:∀ j,j<2->vN s j=vN { s with wr:=s.wr.set k (i,v) } j:=fun j hj=>by
 match j,hj with
 | 0,_=>simp[vN]
 | 1,_=>simp[vN]

theorem qSS {base b n:Nat}{wh:Bool}{o:VGeo}{K:Nat->Option Nat}{s:Vst}(i k v:Nat)(ho:opn n s (i:Int)=true)(hk:pos s.wr i=some k)(hi:i<n)(hv32:v<2^32)(hlim:s.wr.length<2^40)(w:World)(h:IsView w base b n wh o K s) :
    Calls Tryz.prog 81 #[.pointer (some ⟨b,0,none⟩),.int .i64 (i:Int),.int .u32 (v:Int)] w fun e w'=>e = .returned (.tuple #[])/\Left11 w base b n wh o K (putS n s (i:Int) v) w':=by
  have hn:=h.nmax
  have hkl:=(qG9 hk).1
  obtain⟨c0,c1,c2,c3,c4,c5,c6,c7⟩:=h.cells
  obtain⟨kk,D,e1,hown,hD⟩:=h.wvm
  obtain⟨g,cap,hv,_,_⟩:=h.wrow.form qo
  have hr:=h.wrow
  rw[hv] at hr c4
  have d0:w.cell? ⟨g,k*2+1,none⟩=some (.int .u32 ((atW s.wr k:Nat):Int)):=(hr.cellAt _ qo).trans (qNC s.wr k hkl).2
  have f0:=hr.frozenAt (k*2+1)
  have hcap:s.wr.length<=cap/\cap<=maxLen:=by
    exact Mny
  obtain⟨hc1,hc2⟩:=hcap
  unfold maxLen at hc2
  have hkey:=qRS (c:=(i:Int)) (qEt qo)
  have HH:=qh h
  have HO:=qh ho
  have HK:=qh hk
  have HV:=qh hv
  have HV32:=qh hv32
  have HM:qH (Maps.has D (kInt (i:Int))=true):=qh (by rw[hD.has];simp[hk])
  have HA:qH (∀ c:Int,D.atKey (kInt (i:Int)) (.lit (.int .i64 0)) = .lit (.int .i64 c)->c=k):=qh (fun c hc=>by
    rw[hD.at_ i k hk] at hc
    injection hc with hc
    injection hc with _ hc
    exact hc.symm)
  have HW:=qh hown
  generalize atW s.wr k=x at *
  obtain⟨m,hm⟩:∃ m,s.wr.length=m:=⟨_,rfl⟩
  have HMM:=qh hm
  rw[hm] at c4 hkl hlim hc1
  clear h ho hk hr hv hD c1 c2 c3 hown hm hv32 e1
  go_enter Tryz.func81,Tryz.ntmps81
  go_wp2_with fail
  refine(qEY (i:Int) _ HH.o).mono ?_
  rintro e w1 ⟨rfl,rfl⟩
  rw[HO.o]
  go_wp2_with (first
    | (at_lookup;refine wpList_lookup_own_ok_int _ rfl _ _ 102 rfl 3 3 .i64 qDt Tryz.underlying102 Tryz.underlying3 (zeroInt _) o.m2 kk D rfl HW.o _ _ rfl hkey ?_
       intro c hat hwc
       obtain rfl:c=(k:Int):=HA.o c hat
       rw[HM.o]
       clear hat hwc)
    | go_in)
  go_end0
  obtain⟨k1,D1,k2,D2,e1,e2,e3,e4,hp⟩:=HH.o.parts
  have hkl':k<s.wr.length:=by rw[HMM.o];exact hkl
  obtain⟨hp1,ht1⟩:=hp.store (i:=1) (g:=g) (cap:=cap) qo HV.o (k*2+1) (.int .u32 (v:Int))
  have hok:=HH.o.ok.put (a:=(i:Int)) HV32.o
  rw[qPT HO.o,qRW HK.o] at hok ⊢
  exact⟨rfl,o,{ parts:=⟨k1,D1,k2,D2,e1,by simp;omega,e3,e4.congr (fun j=>by
                     have:=qYT s.wr k v j
                     rw[(qG9 HK.o).2] at this
                     exact this.symm),{ hp1 with own:=hp1.own.congr qYv (qAO hkl' (qG9 HK.o).2) }⟩,ok:=hok,nmax:=hn,k32:=HH.o.k32 },fun g hg => .inl hg,ht1⟩

theorem qEL (s:Vst)(i v:Nat):∀ j,j<2->updF (vN s) 1 (s.wr.length+1) j=vN { s with wr:=s.wr ++ [(i,v)] } j:=fun j hj=>by
 match j,hj with
 | 0,_=>simp[updF,vN]
 | 1,_=>simp[updF,vN]
theorem qT4 (s:Vst)(i v:Nat):∀ j,j<2->updF (updF (vX s) 1 (prVs s.wr ++ [Value.int .i64 (i:Int),Value.int .u32 0])) 1 ((updF (vX s) 1 (prVs s.wr ++ [Value.int .i64 (i:Int),Value.int .u32 0]) 1).set (s.wr.length*2+1) (.int .u32 (v:Int))) j=vX { s with wr:=s.wr ++ [(i,v)] } j:=fun j hj=>by
 match j,hj with
 | 0,_=>simp[updF,vX]
 | 1,_ =>
  rw[qJN,qJN]
  show (prVs s.wr ++ [Value.int .i64 (i:Int),Value.int .u32 0]).set (s.wr.length*2+1) (.int .u32 (v:Int))=prVs (s.wr ++ [(i,v)])
  have hl:=qUS s.wr
  rw[qEZ,List.set_append_right _ _ qo,hl]
  simp

theorem qVb {base b n:Nat}{wh:Bool}{o:VGeo}{K:Nat->Option Nat}{s:Vst}(i v:Nat)(ho:opn n s (i:Int)=true)(hk:pos s.wr i=none)(hi:i<n)(hv32:v<2^32)(hlim:s.wr.length<2^40)(w:World)(h:IsView w base b n wh o K s) :
    Calls Tryz.prog 81 #[.pointer (some ⟨b,0,none⟩),.int .i64 (i:Int),.int .u32 (v:Int)] w fun e w'=>e = .returned (.tuple #[])/\Left11 w base b n wh o K (putS n s (i:Int) v) w':=by
  have hn:=h.nmax
  obtain⟨c0,c1,c2,c3,c4,c5,c6,c7⟩:=h.cells
  obtain⟨k1,D1,kk,D,e1,e2,e3,hD,hp⟩:=h.parts
  obtain⟨A,cap,hv⟩:=qKK h.wrow
  rw[hv] at c4
  obtain⟨i0,hin,hz0,hz1,hz2⟩:=info_parts pairInfo
  have hkey:=qRS (c:=(i:Int)) (qEt qo)
  have HH:=qh h
  have HO:=qh ho
  have HK:=qh hk
  have HV:=qh hv
  have HV32:=qh hv32
  have HM:qH (Maps.has D (kInt (i:Int))=false):=qh (by rw[hD.has];simp[hk])
  have HP:=qh hp
  have HD:=qh (hD.put i s.wr.length)
  have HS:=qh e3
  have HE1:=qh e1
  have hbl:=hp.head.lt
  obtain⟨m,hm⟩:∃ m,s.wr.length=m:=⟨_,rfl⟩
  have HMM:=qh hm
  rw[hm] at c4 hlim HD e2
  clear h ho hk hv hD c1 c2 c3 hp hm hv32 e1 e3
  go_enter Tryz.func81,Tryz.ntmps81
  go_wp2_with fail
  refine(qEY (i:Int) _ HH.o).mono ?_
  rintro e w1 ⟨rfl,rfl⟩
  rw[HO.o]
  go_wp2_with (first
    | (at_lookup;refine wpList_lookup_own_ok_int _ rfl _ _ 102 rfl 3 3 .i64 qDt Tryz.underlying102 Tryz.underlying3 (zeroInt _) o.m2 kk D rfl HP.o.m2 _ _ rfl hkey ?_
       intro c hat hwc
       rw[HM.o]
       clear hat hwc)
    | (at_mapUpdate;refine wpList_mapUpdate_own _ rfl _ _ _ 102 rfl 3 3 qDt Tryz.underlying102 _ o.m2 kk D rfl HP.o.m2 (by unfold maxLen;omega) _ _ _ rfl rfl hkey _ [] (plainElem_int Tryz.underlying3 (qEt qo)) ?_
       intro w2 hown1 hgrow1
       obtain⟨hp2,ht2⟩:=HP.o.map2 hgrow1 hown1
       have c4':w2.cell? ⟨b,4,none⟩=some (.slice A m cap):=(hp2.head.cell 4).trans (by rw[<- HMM.o,<- HV.o];rfl)
       have HP2:=qh hp2
       have HT2:=qh ht2
       have hbl2:=hp2.head.lt
       clear hp2 ht2 hown1 hgrow1)
    | (at_builtin
       refine wpList_append_lies _ rfl _ _ 44 rfl base 107 i0 (.agg #[.int .i64 0,.int .u32 0]) 2 16 Tryz.underlying44 hin hz0 hz1 hz2 rfl (by decide) (.slice A m cap) m (prVs s.wr) rfl ?c0 ⟨_,0,none⟩ 1 1 [.int .i64 (i:Int),.int .u32 0] rfl rfl ?c1 ?c2 qo ?c3 ?c4 ?c5 _ rfl ?_
       case c0 =>
         have:=HP2.o.own.own 1 qo
         rw[HV.o] at this
         have:=this.alloc (.cells #[.int .i64 (i:Int),.int .u32 0] 107)
         rw[<- HMM.o]
         exact this
       case c1=>intro j y hy;rcases j with _|_|j;(· simp at hy;subst hy;simp[Addr.add]);(· simp at hy;subst hy;simp[Addr.add]);(· simp at hy)
       case c2=>simp[Value.oneCell']
       case c3=>unfold maxLen;omega
       case c4=>omega
       case c5=>have:=HP2.o.bb;have:=HP2.o.head.lt;simp;omega
       intro g cap w4 hown4 hgrow4 hat4 hlt4
       obtain⟨hp4,hA4,hT4⟩:=(HP2.o.keep (Bnew (B0 _) (.cells #[.int .i64 (i:Int),.int .u32 0] 107))).grow (i:=1) qo hown4 (by rw[HV.o,HMM.o];exact hgrow4) (fun q hq=>by
         have hq:g=q:=by simpa [Value.ownBlock] using hq
         subst hq
         rcases hat4 with h1|h1
         · left;rw[HV.o,HMM.o];exact h1
         · right;rw[h1];exact Nat.le_refl _)
       have c4'':w4.cell? ⟨b,4,none⟩=some (.slice A m _):=(hp4.head.cell 4).trans (by rw[<- HMM.o,<- HV.o];rfl)
       have f4:=hp4.head.thawed 4
       have d4:w4.cell? ⟨g,m*2+1,none⟩=some (.int .u32 0):=(hown4.cellAt _ qo).trans (by
         rw[List.getElem?_append_right (by rw[qUS,HMM.o];omega),qUS,HMM.o]
         simp)
       have f5:=hown4.frozenAt (m*2+1)
       have hgb:¬ g=b:=fun e=>hp4.own.notb 1 qo (by rw[e];rfl)
       have hbg:¬ b=g:=fun e=>hgb e.symm
       have HG:qH (o.F b g\/w1.heap.size<=g):=qh (by
         rcases hat4 with h1|h1
         · left;exact .inl (.inr ⟨1,qo,by rw[HV.o,HMM.o];exact h1⟩)
         · right;have:=HT2.o.size;simp at h1;omega)
       have HP4:=qh hp4
       have HA4:=qh hA4
       have HT4:=qh (HT2.o.trans (((T0 (o.F b) w2).alloc (.cells #[.int .i64 (i:Int),.int .u32 0] 107)).trans hT4))
       clear hp4 hA4 hT4 hown4 hgrow4 hat4)
    | go_in)
  go_end0
  obtain⟨hp5,ht5⟩:=HP4.o.setHead 4 (.slice (some ⟨g,0,none⟩) (m+1) cap)
  obtain⟨hp6,ht6⟩:=hp5.store (i:=1) (g:=g) (cap:=cap) qo rfl (m*2+1) (.int .u32 (v:Int))
  have hok:=HH.o.ok.put (a:=(i:Int)) HV32.o
  rw[qPT HO.o,qWB HK.o] at hok ⊢
  have hT5:=HT4.o.put (p:=⟨b,4,none⟩) (.inl (.inl rfl)) (.slice (some ⟨g,0,none⟩) (m+1) cap)
  refine⟨rfl,{ o with v:=updF o.v 1 (.slice (some ⟨g,0,none⟩) (m+1) cap) },{ parts:=⟨k1,D1,kk+1,_,HE1.o,by simp;have:=HMM.o;omega,HS.o,HD.o.congr (fun j=>?_),{ hp6 with own:=hp6.own.congr ?_ ?_ }⟩,ok:=hok,nmax:=hn,k32:=HH.o.k32 },fun q hq=>?_,?_⟩
  · have:=qNI v HK.o j
    rw[HMM.o] at this
    rw[this]
    unfold updF
    split <;> rfl
  · rw[<- HMM.o]
    exact qEL s i v
  · rw[<- HMM.o]
    exact qT4 s i v
  ·exact MU7
  · rcases HG.o with h1|h1
    · exact hT5.put (p:=⟨g,m*2+1,none⟩) h1 _
    · exact hT5.put_new (p:=⟨g,m*2+1,none⟩) h1 _

theorem qYd {base b n:Nat}{wh:Bool}{o:VGeo}{K:Nat->Option Nat}{s:Vst}(a:Int)(v:Nat)(hv32:v<2^32)(h2:s.wr.length<2^40)(w:World)(h:IsView w base b n wh o K s) :
  Calls Tryz.prog 81 #[.pointer (some ⟨b,0,none⟩),.int .i64 a,.int .u32 (v:Int)] w fun e w'=>e = .returned (.tuple #[])/\Left11 w base b n wh o K (putS n s a v) w':=by
 by_cases ho:opn n s a=true
 ·obtain⟨i,rfl,hi,hl⟩:=qAh ho
  cases hp:pos s.wr i with
  | some k=>exact qSS i k v ho hp hi hv32 h2 w h
  | none=>exact qVb i v ho hp hi hv32 h2 w h
 ·have ho:opn n s a=false:=by simpa using ho
  rw[qRG ho]
  refine(qRq a _ ho w h).mono ?_
  rintro e w1 ⟨rfl,rfl⟩
  exact⟨rfl,Left11.same h⟩
end
section
structure PairV where
 cell:Int
 val:Nat
instance:Inhabited PairV:=⟨⟨0,0⟩⟩
section
variable {H : Type} {enc : TypeId × Value -> H} {w : World} {base : Nat} {sp : Nat -> Bool} {held : Bool}
end
end
section
theorem qIp {base b n:Nat}{wh:Bool}{o:VGeo}{K:Nat->Option Nat}{s:Vst}(w:World)(h:IsView w base b n wh o K s) :
  Calls Tryz.prog 17 #[.pointer (some ⟨b,0,none⟩)] w fun e w'=>e = .returned (.int .i64 (missI s))/\w'=w:=by
 obtain⟨_,_,_,_,_,_,c6,c7⟩:=h.cells
 clear h
 cases hl:s.lost with
 | true =>
  have HV:qH (missI s=(s.miss:Int)):=qh (by unfold missI;simp[hl])
  rw[hl] at c6
  clear hl
  go_enter Tryz.func17,Tryz.ntmps17
  go_wp2
  go_ret
  exact⟨by rw[HV.o];rfl,rfl⟩
 | false =>
  have HV:qH (missI s = -1):=qh (by unfold missI;simp[hl])
  rw[hl] at c6
  clear hl
  go_enter Tryz.func17,Tryz.ntmps17
  go_wp2
  go_ret
  exact⟨by rw[HV.o];rfl,rfl⟩

theorem qC9 {w:World}{base size n c:Nat}{e:TypeId}{A:Option Addr}{xs:List Value}(h:w.ownsRow base e size (.slice A n c) n xs) :
  0<n->∃ ad,A=some ad/\∀ j u,xs[j]?=some u->w.cell? (ad.add j)=some u:=fun hn=>by
 obtain⟨ad,e1,_,h2⟩:=(Reads.of_own h).2 hn
 exact⟨ad,e1,h2⟩
theorem qDM (l:List Nat):∀ u∈ntVs l,u.oneCell'=true:=fun u hu=>by
 obtain⟨x,_,rfl⟩:=List.mem_map.1 hu
 rfl
theorem qKH (l:List (Nat × Nat)):∀ u∈prVs l,u.oneCell'=true:=fun u hu=>by
 obtain⟨x,_,hx⟩:=List.mem_flatMap.1 hu
 simp at hx
 rcases hx with rfl|rfl <;> rfl

theorem qLN {base b n:Nat}{wh:Bool}{o:VGeo}{K:Nat->Option Nat}{s:Vst}(hlim:s.rd.length<2^40)(w:World)(h:IsView w base b n wh o K s) :
  Calls Tryz.prog 15 #[.pointer (some ⟨b,0,none⟩)] w fun e w'=>∃ v,e = .returned v/\w'.ownsRow w.heap.size 3 1 v s.rd.length (ntVs s.rd)/\Below w.heap.size w w':=by
 obtain⟨A,cap,hv⟩:=qKK h.rrow
 have hr:=h.rrow
 have c2:=h.cells.2.2.1
 rw[hv] at hr c2
 have HR:=qh hr
 clear h hr hv
 go_enter Tryz.func15,Tryz.ntmps15
 go_wp2_with fail
 refine(qBV A s.rd.length cap (ntVs s.rd) (by simp[ntVs]) qo (qDM _) _ (qC9 HR.o)).mono ?_
 rintro e w1 ⟨v,rfl,ho,_,hb⟩
 have HO:=qh ho
 have HB:=qh hb
 clear ho hb
 go_wp2
 go_ret
 exact⟨v,rfl,HO.o,HB.o⟩
theorem qD3 {base b n:Nat}{wh:Bool}{o:VGeo}{K:Nat->Option Nat}{s:Vst}(hlim:s.wr.length<2^40)(w:World)(h:IsView w base b n wh o K s) :
  Calls Tryz.prog 16 #[.pointer (some ⟨b,0,none⟩)] w fun e w'=>∃ v,e = .returned v/\w'.ownsRow w.heap.size 107 2 v s.wr.length (prVs s.wr)/\Below w.heap.size w w':=by
 obtain⟨A,cap,hv⟩:=qKK h.wrow
 have hr:=h.wrow
 have c4:=h.cells.2.2.2.2.1
 rw[hv] at hr c4
 have HR:=qh hr
 clear h hr hv
 go_enter Tryz.func16,Tryz.ntmps16
 go_wp2_with fail
 refine(qSl A s.wr.length cap (prVs s.wr) (qUS _) qo (qKH _) _ (qC9 HR.o)).mono ?_
 rintro e w1 ⟨v,rfl,ho,_,hb⟩
 have HO:=qh ho
 have HB:=qh hb
 clear ho hb
 go_wp2
 go_ret
 exact⟨v,rfl,HO.o,HB.o⟩

theorem of_c (base n sb:Nat)(wh:Bool)(T:TypeId)(u:Value)(K:Nat->Option Nat)(hn:n<=2^40)(h32:∀ i x,K i=some x->x<2^32)(w:World)
  (hsb:base<=w.heap.size/\base<=sb/\(sb<w.heap.size\/(wh=true/\n=0/\sb=w.heap.size+2))) (hs:∀ m1 m2 v,SrcIs w wh n ⟨m1,m2,sb,.iface T u,v⟩ K) :
  Calls Tryz.prog 34 #[.int .i64 (n:Int),.iface T u] w fun e w'=>∃ (b:Nat) (o:VGeo),e = .returned (.pointer (some ⟨b,0,none⟩))/\IsView w' base b n wh o K freshS/\w.heap.size<=b/\(∀ g,o.A b g->w.heap.size<=g\/g=sb)/\Below w.heap.size w w':=by
 have hmm:=@run_makeMap Tryz.prog
 have HS:=qh hs
 have HSB:=qh hsb
 have H32:=qh h32
 clear hs hsb h32
 go_enter Tryz.func34,Tryz.ntmps34
 go_wp2
 go_ret
 have hB1:=Bnew (B0 w) (.map #[] 0)
 have hB2:=Bnew hB1 (.map #[] 0)
 have hB3:=Bnew hB2 (.cells #[.int .i64 (n:Int),.iface T u,.slice none 0 0,.map (some w.heap.size),.slice none 0 0,.map (some (w.heap.size+1)),.bool false,.int .i64 0] 104)
 have hz1:(w.alloc (.map #[] 0)).heap.size=w.heap.size+1:=by simp
 have hz2:((w.alloc (.map #[] 0)).alloc (.map #[] 0)).heap.size=w.heap.size+2:=by simp
 have hm1:=(((World.ownsMap_made w Tryz.prog 3 (unitElem (H:=Unit))).alloc (.map #[] 0)).alloc (.cells #[.int .i64 (n:Int),.iface T u,.slice none 0 0,.map (some w.heap.size),.slice none 0 0,.map (some (w.heap.size+1)),.bool false,.int .i64 0] 104))
 have hm2:=(World.ownsMap_made (w.alloc (.map #[] 0)) Tryz.prog 3 (plainElem (H:=Unit) Tryz.prog 3)).alloc (.cells #[.int .i64 (n:Int),.iface T u,.slice none 0 0,.map (some w.heap.size),.slice none 0 0,.map (some (w.heap.size+1)),.bool false,.int .i64 0] 104)
 have hh:=Held.new ((w.alloc (.map #[] 0)).alloc (.map #[] 0)) 104 #[.int .i64 (n:Int),.iface T u,.slice none 0 0,.map (some w.heap.size),.slice none 0 0,.map (some (w.heap.size+1)),.bool false,.int .i64 0]
 rw[hz1] at hm2
 rw[hz2] at hh
 obtain⟨q1,q2,q3⟩:=HSB.o
 have hF:¬ ∃ i,i<2/\(Value.slice none 0 0).ownBlock=some sb:=by
  rintro ⟨i,_,h⟩
  simp[Value.ownBlock] at h
 have hsz:=hh.lt
 refine⟨w.heap.size+2,⟨w.heap.size,w.heap.size+1,sb,.iface T u,fun _ => .slice none 0 0⟩,rfl,{ parts:=⟨0,_,0,_,Nat.zero_le _,Nat.zero_le _,SetIs.none,NumIs.none _,?_⟩,ok:=VOk.fresh n,nmax:=hn,k32:=H32.o },qo,?_,hB3⟩
 ·refine { head:=hh,own:=(OwnAll.nil _ base _ 2 vE vSz).congr (fun i hi=>?_) (fun i hi=>?_),m1:=hm1,m2:=hm2,src:=?_,bb:=by omega,b1:=q1,b2:=Nat.le_succ_of_le q1,bs:=q2,slt:=by show sb<_;rcases q3 with h|⟨_,_,h⟩ <;> (simp;omega),mm:=by simp,s1:=by show sb≠w.heap.size;rcases q3 with h|⟨_,_,h⟩ <;> omega,s2:=by show sb≠w.heap.size+1;rcases q3 with h|⟨_,_,h⟩ <;> omega,sF:=?_ }
  ·unfold vN freshS;split <;> rfl
  ·unfold vX freshS;split <;> rfl
  ·rcases q3 with h|⟨rfl,rfl,h⟩
   ·exact(HS.o w.heap.size (w.heap.size+1) (fun _ => .slice none 0 0)).same (hB3.block _ h) rfl rfl
   ·obtain⟨A,c,e1,e2,e3,e4,e5⟩:=(HS.o 0 0 (fun _ => .slice none 0 0)).list
    exact⟨A,c,e1,e2,e3,e4,fun hn=>by omega⟩
  ·rcases q3 with h|⟨h1,h2,h⟩
   ·refine .inr ?_
    rintro (h1|h1)
    ·have h1:sb=w.heap.size+2:=h1
     omega
    ·exact hF h1
   ·exact .inl ⟨h1,h2⟩
 ·rintro g (((h|⟨i,hi,h⟩)|h|h)|h)
  ·left;have h:g=w.heap.size+2:=h;omega
  ·simp[Value.ownBlock] at h
  ·left;have h:g=w.heap.size:=h;omega
  ·left;have h:g=w.heap.size+1:=h;omega
  ·right;exact h

def valVs (l:List Nat):List Value:=l.map fun (n:Nat)=>Value.int .u32 (n:Int)
theorem qKu (l:List Nat):valVs l=(List.range l.length).map (valF fun i=>(l[i]?).getD 0):=by
 apply List.ext_getElem?
 intro i
 unfold valVs valF
 rw[List.getElem?_map,List.getElem?_map]
 rcases Nat.lt_or_ge i l.length with h|h
 ·rw[List.getElem?_range h,List.getElem?_eq_getElem h]
  simp[h]
 ·rw[List.getElem?_eq_none h,List.getElem?_eq_none (by simpa using h)]
  rfl
theorem qFa (l:List Nat):∀ u∈valVs l,u.oneCell'=true:=fun u hu=>by
 obtain⟨x,_,rfl⟩:=List.mem_map.1 hu
 rfl
def qR5 (n:Nat) (wh:Bool) (K:Nat->Option Nat) (w:World) (e:Ending) (w':World):Prop :=
 ∃ (b:Nat) (o:VGeo),e = .returned (.pointer (some ⟨b,0,none⟩))/\IsView w' w.heap.size b n wh o K freshS/\Below w.heap.size w w'

theorem qWm (A:Option Addr)(c:Nat)(vals:List Nat)(n:Nat)(hl:vals.length=n)(hmx:n<=2^40)(h32:∀ x∈vals,x<2^32)(w:World)
  (hA:0<n->∃ ad,A=some ad/\∀ j u,(valVs vals)[j]?=some u->w.cell? (ad.add j)=some u) :
  Calls Tryz.prog 9 #[.slice A n c] w (qR5 n true (fun i=>vals[i]?) w):=by
 have HA:=qh hA
 have HL:=qh hl
 have H32:qH (∀ i x,vals[i]?=some x->x<2^32):=qh (fun i x h=>h32 x (List.mem_of_getElem? h))
 have HS:qH (∀ i,i<n->∃ x,vals[i]?=some x/\x<2^32):=qh (fun i hi=>⟨vals[i],List.getElem?_eq_getElem qo,h32 _ (List.getElem_mem _)⟩)
 clear hA hl h32
 go_enter Tryz.func9,Tryz.ntmps9
 go_wp2_with fail
 refine(qCn A n c (valVs vals) (by have:=HL.o;simp[valVs];omega) qo (qFa _) _ HA.o).mono ?_
 rintro e w1 ⟨v,rfl,ho,_,hb⟩
 have HB:=qh hb
 rcases ho.2 with ⟨rfl,hz⟩|⟨g,cap,cur,rfl,hbg,hg,hnc,hcm,hcs,htake⟩
 ·subst hz
  clear ho hb
  go_wp2_with fail
  refine(of_c w.heap.size 0 (w1.heap.size+2) true 74 (.slice none 0 0) (fun i=>vals[i]?) qo H32.o _ ⟨HB.o.size,by have:=HB.o.size;omega,.inr ⟨rfl,rfl,rfl⟩⟩ (fun m1 m2 v=>⟨none,0,rfl,Nat.le_refl _,Nat.zero_le _,HS.o,fun h=>by omega⟩)).mono ?_
  exact Mem
 ·have hgl:=(ho.lt g rfl).2
  have hr:RowF w1 g 76 n cap (valF fun i=>(vals[i]?).getD 0):=by
   rw[qKu,HL.o] at ho
   exact(RowF.of_own ho).2
  have HR:=qh hr
  clear ho hb hg hcs htake hr
  go_wp2_with fail
  refine(of_c w.heap.size n g true 74 (.slice (some ⟨g,0,none⟩) n cap) (fun i=>vals[i]?) hmx H32.o _ ⟨HB.o.size,hbg,.inl hgl⟩ (fun m1 m2 v=>⟨_,cap,rfl,hnc,hcm,HS.o,fun h=>⟨rfl,HR.o⟩⟩)).mono ?_
  exact Mem
end
section
theorem qNY {w:World}{base size n c m:Nat}{e:TypeId}{A:Option Addr}{xs:List Value}(h:w.ownsRow base e size (.slice A n c) m xs):m<=c/\c<=maxLen:=by
 rcases h.2 with ⟨h1,h2⟩|⟨g',cap',cur,h1,_,_,h2,h3,_⟩
 ·injection h1 with _ _ h1;subst h1;omega
 ·injection h1 with _ _ h1;subst h1;exact⟨h2,h3⟩
end
section
def rE (i:Nat):TypeId:=if i=0 then 4 else if i=1 then 76 else if i=2 then 4 else if i=3 then 76 else 3
def rSz (_:Nat):Nat:=1
def rowL (n:Nat) (f:Nat->Value):List Value:=(List.range n).map f
def bitF (f:Nat->Bool):Nat->Value:=fun i => .bool (f i)
def toV (wr:List (Nat × Nat)) (i:Nat):Nat:=match pos wr i with|some k=>atW wr k|none=>0
def rN (n:Nat) (s:Vst) (i:Nat):Nat:=if i<4 then n else if i=4 then s.rd.length else s.wr.length
def rX (n:Nat) (K:Nat->Option Nat) (s:Vst) (i:Nat):List Value :=
 if i=0 then rowL n (bitF fun j=>(K j).isSome) else if i=1 then rowL n (valF fun j=>(K j).getD 0) else if i=2 then rowL n (bitF fun j=>(pos s.wr j).isSome)
 else if i=3 then rowL n (valF (toV s.wr)) else if i=4 then ntVs s.rd else ntVs (s.wr.map (·.1))
def rHead (n:Nat) (v:Nat->Value) (s:Vst) (all:Bool):Array Value:=#[.int .i64 (n:Int),v 0,v 1,v 2,v 3,v 4,v 5,.int .i64 (missI s),.bool all]

theorem qPL {n:Nat}(f:Nat->Value){j:Nat}(h:j<n):(rowL n f)[j]?=some (f j):=by
 unfold rowL
 rw[List.getElem?_map,List.getElem?_range h]
 rfl
theorem qHB {n:Nat}(f:Nat->Value)(j:Nat)(u:Value):(rowL n f).set j u=rowL n (updF f j u):=by
 apply List.ext_getElem?
 intro i
 rw[List.getElem?_set]
 unfold rowL
 rw[List.getElem?_map,List.getElem?_map]
 rcases Nat.lt_or_ge i n with h|h
 ·rw[List.getElem?_range h]
  by_cases e:j=i
  ·subst e
   simp[h,qJN]
  ·simp[e,qR2 _ _ (fun x=>e x.symm)]
 ·rw[List.getElem?_eq_none (by simpa using h)]
  by_cases e:j=i
  ·subst e
   simp;omega
  ·simp[e]
theorem qMB (n:Nat)(f:Nat->Value):rowL (n+1) f=rowL n f ++ [f n]:=by
 unfold rowL
 rw[List.range_succ,List.map_append]
 rfl
theorem qWZ {n:Nat}{f g:Nat->Value}(h:∀ i,i<n->f i=g i):rowL n f=rowL n g:=by
 unfold rowL
 exact List.map_congr_left (fun i hi=>h i (List.mem_range.1 hi))

structure RParts (w:World) (base b:Nat) (v:Nat->Value) (hd:Array Value) (nn:Nat->Nat) (xs:Nat->List Value):Prop where
 head:Held w b 80 hd
 own:OwnAll w base b 6 rE rSz v nn xs
 bb:base<=b
section
variable {w w' : World} {base b : Nat} {v : Nat -> Value} {hd : Array Value} {nn : Nat -> Nat} {xs : Nat -> List Value}
theorem RParts.ge (h:RParts w base b v hd nn xs):∀ i,OwnF b 6 v i->base<=i:=h.own.F_new h.bb
theorem RParts.lt (h:RParts w base b v hd nn xs):∀ i,OwnF b 6 v i->i<w.heap.size:=h.own.F_lt h.head.lt
theorem RParts.turns {G:Nat->Prop}(h:RParts w base b v hd nn xs)(ht:Turns G w w')(hf:∀ i,OwnF b 6 v i->¬ G i):RParts w' base b v hd nn xs :=
 ⟨ht.held h.head (hf _ (.inl rfl)),h.own.turns ht (fun i g hi hg=>hf _ (.inr ⟨i,hi,hg⟩)),h.bb⟩
theorem RParts.keep (h:RParts w base b v hd nn xs)(hb:Below w.heap.size w w'):RParts w' base b v hd nn xs:=h.turns (G:=fun _=>False) (Turns.of_below hb _) (fun _ _ x=>x)
theorem RParts.setHead (h:RParts w base b v hd nn xs)(j:Nat)(u:Value):RParts (w.setCell ⟨b,j,none⟩ u) base b v (hd.setIfInBounds j u) nn xs/\Turns (OwnF b 6 v) w (w.setCell ⟨b,j,none⟩ u) :=
 ⟨⟨h.head.put j u,h.own.setB j u,h.bb⟩,(T0 (OwnF b 6 v) w).put (p:=⟨b,j,none⟩) (.inl rfl) u⟩
theorem RParts.store (h:RParts w base b v hd nn xs){i g cap:Nat}(hi:i<6)(hv:v i = .slice (some ⟨g,0,none⟩) (nn i) cap)(j:Nat)(u:Value) :
  RParts (w.setCell ⟨g,j,none⟩ u) base b v hd nn (updF xs i ((xs i).set j u))/\Turns (OwnF b 6 v) w (w.setCell ⟨g,j,none⟩ u):=by
 obtain⟨h1,ht⟩:=h.own.put hi hv j u
 refine⟨⟨ht.held h.head (fun e=>h.own.notb i hi (by rw[hv,e];rfl)),h1,h.bb⟩,ht.more (fun x e=>by subst e;exact .inr ⟨i,hi,by rw[hv];rfl⟩)⟩
theorem RParts.grow (h:RParts w base b v hd nn xs){i:Nat}(hi:i<6){v':Value}{n':Nat}{xs':List Value}(hown:w'.ownsRow base (rE i) (rSz i) v' n' xs')(hg:w.grownBy w' (v i).ownBlock)
  (hloc:∀ g,v'.ownBlock=some g->(v i).ownBlock=some g\/w.heap.size<=g) :
  RParts w' base b (updF v i v') hd (updF nn i n') (updF xs i xs')/\(∀ g,OwnF b 6 (updF v i v') g->OwnF b 6 v g\/w.heap.size<=g)/\Turns (OwnF b 6 v) w w':=by
 have hF:=qNe (b:=b) (w:=w) hi hloc
 have hbq:w'.heap[b]?=w.heap[b]?:=hg.block b h.head.lt (fun e=>h.own.notb i hi e.symm)
 exact⟨⟨hbq.trans h.head,h.own.grown h.head.lt hi hown hg hloc,h.bb⟩,hF,⟨hg.os,hg.tape,hg.output,hg.size,fun q hq hf=>hg.block q hq (fun e=>hf (.inr ⟨i,hi,e.symm⟩))⟩⟩
theorem RParts.congr {hd':Array Value}{nn':Nat->Nat}{xs':Nat->List Value}(h:RParts w base b v hd nn xs)(e:hd=hd')(h1:∀ i,i<6->nn i=nn' i)(h2:∀ i,i<6->xs i=xs' i):RParts w base b v hd' nn' xs':=by
 subst e
 exact⟨h.head,h.own.congr h1 h2,h.bb⟩
theorem RParts.form (h:RParts w base b v hd nn xs){i:Nat}(hi:i<6)(hn:0<nn i):∃ g cap,v i = .slice (some ⟨g,0,none⟩) (nn i) cap/\nn i<=cap/\cap<=9223372036854775807/\g≠b/\g<w.heap.size:=by
 obtain⟨g,cap,hv,_,hg⟩:=h.own.form hi hn
 refine⟨g,cap,hv,?_,?_,fun e=>h.own.notb i hi (by rw[hv,e];rfl),hg⟩
 ·have h1:=h.own.own i hi
  rw[hv] at h1
  rcases h1.2 with ⟨h2,_⟩|⟨g',cap',cur,h2,_,_,h3,h4,_⟩
  ·cases h2
  ·injection h2 with _ _ h2;subst h2;exact h3
 ·have h1:=h.own.own i hi
  rw[hv] at h1
  rcases h1.2 with ⟨h2,_⟩|⟨g',cap',cur,h2,_,_,h3,h4,_⟩
  ·cases h2
  ·injection h2 with _ _ h2;subst h2;exact h4
theorem RParts.at_ (h:RParts w base b v hd nn xs){i g cap:Nat}(hi:i<6)(hv:v i = .slice (some ⟨g,0,none⟩) (nn i) cap){j:Nat}(hj:j<nn i):w.cell? ⟨g,j,none⟩=(xs i)[j]?/\w.frozen? ⟨g,j,none⟩=false :=
 h.own.cell hi hv (by show j<nn i*1;omega)
end

structure IsRefV (w:World) (base b n:Nat) (all:Bool) (v:Nat->Value) (K:Nat->Option Nat) (s:Vst):Prop where
 parts:RParts w base b v (rHead n v s all) (rN n s) (rX n K s)
 ok:VOk n s
 nmax:n<=2^40
 k32:∀ i x,K i=some x->x<2^32
section
variable {w w' : World} {base b n : Nat} {all : Bool} {v : Nat -> Value} {K : Nat -> Option Nat} {s : Vst}
theorem IsRefV.turns {G:Nat->Prop}(h:IsRefV w base b n all v K s)(ht:Turns G w w')(hf:∀ i,OwnF b 6 v i->¬ G i):IsRefV w' base b n all v K s := { h with parts:=h.parts.turns ht hf }
theorem IsRefV.keep (h:IsRefV w base b n all v K s)(hb:Below w.heap.size w w'):IsRefV w' base b n all v K s := { h with parts:=h.parts.keep hb }
theorem IsRefV.cells (h:IsRefV w base b n all v K s):w.cell? ⟨b,0,none⟩=some (.int .i64 (n:Int))/\w.cell? ⟨b,1,none⟩=some (v 0)/\w.cell? ⟨b,2,none⟩=some (v 1)/\w.cell? ⟨b,3,none⟩=some (v 2) /\
  w.cell? ⟨b,4,none⟩=some (v 3)/\w.cell? ⟨b,5,none⟩=some (v 4)/\w.cell? ⟨b,6,none⟩=some (v 5)/\w.cell? ⟨b,7,none⟩=some (.int .i64 (missI s))/\w.cell? ⟨b,8,none⟩=some (.bool all) :=
 ⟨h.parts.head.cell 0,h.parts.head.cell 1,h.parts.head.cell 2,h.parts.head.cell 3,h.parts.head.cell 4,h.parts.head.cell 5,h.parts.head.cell 6,h.parts.head.cell 7,h.parts.head.cell 8⟩
theorem IsRefV.row (h:IsRefV w base b n all v K s){i:Nat}(hi:i<4)(hn:0<n):∃ g cap,v i = .slice (some ⟨g,0,none⟩) n cap/\n<=cap/\cap<=9223372036854775807/\g≠b/\g<w.heap.size/\∀ j,j<n->w.cell? ⟨g,j,none⟩=(rX n K s i)[j]?/\w.frozen? ⟨g,j,none⟩=false:=by
 have hnn:rN n s i=n:=if_pos hi
 obtain⟨g,cap,hv,h1,h2,h3,h4⟩:=h.parts.form (i:=i) qo (by rw[hnn];exact hn)
 refine⟨g,cap,by rw[hv,hnn],qo,h2,h3,h4,fun j hj=>h.parts.at_ qo hv (by rw[hnn];exact hj)⟩
theorem rX_0 (n:Nat)(K:Nat->Option Nat)(s:Vst){j:Nat}(h:j<n):(rX n K s 0)[j]?=some (.bool (K j).isSome):=qPL _ h
theorem rX_1 (n:Nat)(K:Nat->Option Nat)(s:Vst){j:Nat}(h:j<n):(rX n K s 1)[j]?=some (.int .u32 (((K j).getD 0:Nat):Int)):=qPL _ h
theorem rX_2 (n:Nat)(K:Nat->Option Nat)(s:Vst){j:Nat}(h:j<n):(rX n K s 2)[j]?=some (.bool (pos s.wr j).isSome):=qPL _ h
theorem rX_3 (n:Nat)(K:Nat->Option Nat)(s:Vst){j:Nat}(h:j<n):(rX n K s 3)[j]?=some (.int .u32 ((toV s.wr j:Nat):Int)):=qPL _ h
end
def LeftR (w:World) (base b n:Nat) (all:Bool) (v:Nat->Value) (K:Nat->Option Nat) (s:Vst) (w':World):Prop :=
 ∃ v',IsRefV w' base b n all v' K s/\(∀ g,OwnF b 6 v' g->OwnF b 6 v g\/w.heap.size<=g)/\Turns (OwnF b 6 v) w w'
theorem LeftR.same {w:World}{base b n:Nat}{all:Bool}{v:Nat->Value}{K:Nat->Option Nat}{s:Vst}(h:IsRefV w base b n all v K s):LeftR w base b n all v K s w:=⟨v,h,fun g hg => .inl hg,T0 _ _⟩
theorem six {p:Nat->Prop}(h0:p 0)(h1:p 1)(h2:p 2)(h3:p 3)(h4:p 4)(h5:p 5):∀ i,i<6->p i:=fun i hi=>by
 rcases(by omega:i=0\/i=1\/i=2\/i=3\/i=4\/i=5) with rfl|rfl|rfl|rfl|rfl|rfl <;> assumption
end
end Go.Proofs.YtjjfcaliippgpaaGreatDoor
