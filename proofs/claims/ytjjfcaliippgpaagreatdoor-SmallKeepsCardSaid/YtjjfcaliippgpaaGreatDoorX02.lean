/-
  Views: contracts of open, known, note, Get.
-/
import Derived.Test.YtjjfcaliippgpaaGreatDoorX01
import Derived.Lib.SliceRun
import Derived.Deep.Slices
import Derived.Lib.SmallJoins
import Derived.Deep.RegionHeld3
import Derived.Below
namespace Go.Proofs.YtjjfcaliippgpaaGreatDoor
theorem Mem {P:Prop}(h:P:=by
 rintro e w2 ⟨b,o,rfl,hI,_,hA,hb2⟩
 have HI:=qh hI
 have HB2:=qh hb2
 clear hI hb2
 go_wp2
 go_ret
 exact⟨b,o,rfl,HI.o,Bgo HB.o HB2.o⟩):P:=h
theorem M6Z {P:Prop}(h:P:=by
 clear hl
 go_enter Tryz.func119,Tryz.ntmps119
 go_wp2
 go_ret
 exact⟨by rw[HV.o];rfl,rfl⟩):P:=h
theorem Mny {P:Prop}(h:P:=by
 rcases hr.2 with ⟨h1,_⟩|⟨g',cap',cur,h1,_,_,h2,h3,_⟩
 · cases h1
 · injection h1 with _ _ h1;subst h1;exact⟨h2,h3⟩):P:=h
theorem MU7 {P:Prop}(h:P:=by
  rcases HA4.o q hq with h1|h1
  · exact .inl h1
  · have h2:=HT2.o.size
    simp at h1
    exact .inr qo):P:=h
theorem MIZ {P:Prop}(h:P:=by
  have hx:xs = []:=List.eq_nil_of_length_eq_zero (by simp[hl,h])
  subst hx
  cases hu):P:=h
theorem MQM {P:Prop}(h:P:=by
 rcases Nat.eq_zero_or_pos n with h|h
 · exact h
 · obtain⟨ad,h2,_⟩:=hA h
   cases h2):P:=h
end Go.Proofs.YtjjfcaliippgpaaGreatDoor
set_option linter.unusedVariables false
set_option linter.unusedSimpArgs false
set_option maxRecDepth 100000
set_option maxHeartbeats 25600000
namespace Go.Proofs.YtjjfcaliippgpaaGreatDoor
open Go.ChangeShapes Go.WideShapes Go.ChangeAt Go.RowKit Go.Maps
section
theorem qEY {base b n:Nat}{wh:Bool}{o:VGeo}{K:Nat->Option Nat}{s:Vst}(a:Int)(w:World)(h:IsView w base b n wh o K s) :
  Calls Tryz.prog 119 #[.pointer (some ⟨b,0,none⟩),.int .i64 a] w fun e w'=>e = .returned (.bool (opn n s a))/\w'=w:=by
 obtain⟨c0,_,_,_,_,_,c6,_⟩:=h.cells
 have hn:=h.nmax
 clear h
 cases hl:s.lost with
 | true =>
  have HV:qH (opn n s a=false):=qh (by unfold opn;simp[hl])
  rw[hl] at c6
  go_enter Tryz.func119,Tryz.ntmps119
  go_wp2
  go_ret
  exact⟨by rw[HV.o];rfl,rfl⟩
 | false =>
  rw[hl] at c6
  rcases Int.lt_or_le a 0 with h1|h1
  ·have HV:qH (opn n s a=false):=qh (by unfold opn;simp;omega)
   have t0:decide ((0:Int)<=a)=false:=qf
   exact M6Z
  ·have t0:decide ((0:Int)<=a)=true:=decide_eq_true h1
   rcases Int.lt_or_le a n with h2|h2
   ·have HV:qH (opn n s a=true):=qh (by unfold opn;simp[hl];omega)
    have t1:decide (a<(n:Int))=true:=decide_eq_true h2
    exact M6Z
   ·have HV:qH (opn n s a=false):=qh (by unfold opn;simp;omega)
    have t1:decide (a<(n:Int))=false:=qf
    exact M6Z

theorem qMD (g n c i:Nat)(x:Int)(hi:i<n)(hn:n<=c)(hc:c<=maxLen)(w:World)(h:w.cell? ⟨g,i,none⟩=some (.int .u32 x)) :
  Calls Tryz.prog 241 #[.slice (some ⟨g,0,none⟩) n c,.int .i64 (i:Int)] w fun e w'=>e = .returned (.tuple #[.int .u32 x,.bool true])/\w'=w:=by
 unfold maxLen at hc
 go_enter Tryz.func241,Tryz.ntmps241
 go_wp2
 go_ret2
 exact⟨rfl,rfl⟩

theorem qF8 (w:World):(zeroValue 76).run Tryz.prog w = .ok (.int .u32 0) w:=by kernel_rfl
theorem zeroInt (w:World):(zeroValue 3).run Tryz.prog w = .ok (.int .i64 0) w:=by kernel_rfl
theorem zeroUnit (w:World):(zeroValue 191).run Tryz.prog w = .ok (.agg #[]) w:=by kernel_rfl

theorem qEf (s:Vst)(i:Nat):∀ j,j<2->updF (vN s) 0 (s.rd.length+1) j=vN { s with rd:=s.rd ++ [i] } j:=fun j hj=>by
 match j,hj with
 | 0,_=>simp[updF,vN]
 | 1,_=>simp[updF,vN]
theorem qJA (s:Vst)(i:Nat):∀ j,j<2->updF (vX s) 0 (ntVs s.rd ++ [Value.int .i64 (i:Int)]) j=vX { s with rd:=s.rd ++ [i] } j:=fun j hj=>by
 match j,hj with
 | 0,_=>simp[updF,vX,ntVs]
 | 1,_=>simp[updF,vX]
theorem qB4 {base b n:Nat}{wh:Bool}{o:VGeo}{K:Nat->Option Nat}{s:Vst}(i:Nat)(hi:i<n)(hlim:s.rd.length<2^40)(w:World)(h:IsView w base b n wh o K s) :
    Calls Tryz.prog 120 #[.pointer (some ⟨b,0,none⟩),.int .i64 (i:Int)] w fun e w'=>e = .returned (.tuple #[]) /\
      ∃ o':VGeo,IsView w' base b n wh o' K (noteS s i)/\(∀ g,o'.A b g->o.A b g\/w.heap.size<=g)/\Turns (o.F b) w w':=by
  have hn:=h.nmax
  have HH:=qh h
  obtain⟨c0,c1,c2,c3,_,_,_,_⟩:=h.cells
  obtain⟨k1,D1,k2,D2,e1,e2,e3,e4,hp⟩:=h.parts
  have hkey:=qRS (c:=(i:Int)) (qEt qo)
  have HP:=qh hp
  by_cases hm:i∈s.rd
  · have HM:qH (Maps.has D1 (kInt (i:Int))=true):=qh (by rw[e3.has];simp[hm])
    have HN:=qh (qDm hm)
    clear h hp hm e3 e4
    go_enter Tryz.func120,Tryz.ntmps120
    go_wp2_with (first
      | (at_lookup;refine wpList_lookup_own_unit _ rfl _ _ 101 rfl 3 191 qDt Tryz.underlying101 (zeroUnit _) o.m1 k1 D1 rfl HP.o.m1 _ _ rfl hkey ?_;rw[HM.o])
      | go_in)
    go_end0
    refine⟨rfl,o,?_,fun g hg => .inl hg,(T0 _ _).alloc _⟩
    rw[HN.o]
    exact HH.o.keep (Bnew (B0 _) _)
  · have HM:qH (Maps.has D1 (kInt (i:Int))=false):=qh (by rw[e3.has];simp[hm])
    have HN:=qh (qLy hm)
    have HS:=qh (e3.put i)
    have HE:=qh e4
    have HOK:=qh (h.ok.note (i:=i) hi)
    have HP1:qH (VParts (w.alloc (.cells #[] 191)) base b n wh o (vHead n o s) (vN s) (vX s) k1 D1 k2 D2 K):=qh (hp.keep (Bnew (B0 _) _))
    obtain⟨i0,hin,hz0,hz1,hz2⟩:=info_parts intInfo
    have hbl:=hp.head.lt
    clear h hp hm e3 e4
    go_enter Tryz.func120,Tryz.ntmps120
    go_wp2_with (first
      | (at_lookup;refine wpList_lookup_own_unit _ rfl _ _ 101 rfl 3 191 qDt Tryz.underlying101 (zeroUnit _) o.m1 k1 D1 rfl HP.o.m1 _ _ rfl hkey ?_;rw[HM.o])
      | (at_mapUpdate;refine wpList_mapUpdate_own _ rfl _ _ _ 101 rfl 3 191 qDt Tryz.underlying101 _ o.m1 k1 D1 rfl HP1.o.m1 (by unfold maxLen;omega) _ _ _ rfl rfl hkey _ [] unitElem_mk ?_
         intro w2 hown1 hgrow1
         obtain⟨hp2,ht2⟩:=HP1.o.map1 hgrow1 hown1
         have c2':w2.cell? ⟨b,2,none⟩=some (o.v 0):=hp2.head.cell 2
         have HP2:=qh hp2
         have HT2:=qh (((T0 (o.F b) w).alloc _).trans ht2)
         clear hp2 ht2 hown1 hgrow1)
      | (at_builtin
         refine wpList_append_lies _ rfl _ _ 42 rfl base 3 i0 (.int .i64 0) 1 8 Tryz.underlying42 hin hz0 hz1 hz2 rfl (by decide) (o.v 0) s.rd.length (ntVs s.rd) rfl ((HP2.o.own.own 0 qo).alloc _) ⟨_,0,none⟩ 1 1 [.int .i64 (i:Int)] rfl rfl ?c1 ?c2 qo ?c3 ?c4 ?c5 _ rfl ?_
         case c1=>intro j y hy;rcases j with _|j;(· simp at hy;subst hy;simp[Addr.add]);(· simp at hy)
         case c2=>simp[Value.oneCell']
         case c3=>unfold maxLen;omega
         case c4=>omega
         case c5=>have:=HP2.o.bb;have:=HP2.o.head.lt;simp;omega
         intro g cap w4 hown4 hgrow4 hat4 hlt4
         obtain⟨hp4,hA4,hT4⟩:=(HP2.o.keep (Bnew (B0 _) _)).grow (i:=0) qo hown4 hgrow4 (fun q hq=>by
           have hq:g=q:=by simpa [Value.ownBlock] using hq
           subst hq
           rcases hat4 with h1|h1
           · exact .inl h1
           · right;rw[h1];exact Nat.le_refl _)
         have c2'':w4.cell? ⟨b,2,none⟩=some (o.v 0):=hp4.head.cell 2
         have f2:=hp4.head.thawed 2
         have HP4:=qh hp4
         have HA4:=qh hA4
         have HT4:=qh (HT2.o.trans (((T0 (o.F b) w2).alloc _).trans hT4))
         clear hp4 hA4 hT4 hown4 hgrow4 hat4)
      | go_in)
    go_end0
    obtain⟨hp5,ht5⟩:=HP4.o.setHead 2 (.slice (some ⟨g,0,none⟩) (s.rd.length+1) cap)
    refine⟨rfl,{ o with v:=updF o.v 0 (.slice (some ⟨g,0,none⟩) (s.rd.length+1) cap) },?_,fun q hq=>?_,HT4.o.put (p:=⟨b,2,none⟩) (.inl (.inl rfl)) _⟩
    · rw[HN.o] at HOK ⊢
      exact { parts:=⟨_,_,k2,D2,by simp;omega,e2,HS.o,HE.o,{ hp5 with own:=hp5.own.congr (qEf s i) (qJA s i) }⟩,ok:=HOK.o,nmax:=hn,k32:=HH.o.k32 }
    ·exact MU7

theorem IsView.wvm {w:World}{base b n:Nat}{wh:Bool}{o:VGeo}{K:Nat->Option Nat}{s:Vst}(h:IsView w base b n wh o K s):∃ k D,k<=s.wr.length/\w.ownsMap Tryz.prog 3 (plainElem Tryz.prog 3) o.m2 k D/\NumIs D .i64 (pos s.wr):=by
 obtain⟨k1,D1,k2,D2,e1,e2,e3,e4,hp⟩:=h.parts
 exact⟨k2,D2,e2,hp.m2,e4⟩
theorem IsView.wrow {w:World}{base b n:Nat}{wh:Bool}{o:VGeo}{K:Nat->Option Nat}{s:Vst}(h:IsView w base b n wh o K s):w.ownsRow base 107 2 (o.v 1) s.wr.length (prVs s.wr):=by
 obtain⟨k1,D1,k2,D2,e1,e2,e3,e4,hp⟩:=h.parts
 exact hp.own.own 1 qo
theorem IsView.src {w:World}{base b n:Nat}{wh:Bool}{o:VGeo}{K:Nat->Option Nat}{s:Vst}(h:IsView w base b n wh o K s):SrcIs w wh n o K:=by
 obtain⟨k1,D1,k2,D2,e1,e2,e3,e4,hp⟩:=h.parts
 exact hp.src
def Left11 (w:World) (base b n:Nat) (wh:Bool) (o:VGeo) (K:Nat->Option Nat) (s:Vst) (w':World):Prop :=
 ∃ o':VGeo,IsView w' base b n wh o' K s/\(∀ g,o'.A b g->o.A b g\/w.heap.size<=g)/\Turns (o.F b) w w'
theorem Left11.same {w:World}{base b n:Nat}{wh:Bool}{o:VGeo}{K:Nat->Option Nat}{s:Vst}(h:IsView w base b n wh o K s):Left11 w base b n wh o K s w:=⟨o,h,fun g hg => .inl hg,T0 _ _⟩

theorem SrcIs.list {w:World}{n:Nat}{o:VGeo}{K:Nat->Option Nat}(h:SrcIs w true n o K) :
  ∃ A c,o.fv = .iface 74 (.slice A n c)/\n<=c/\c<=maxLen/\(∀ i,i<n->∃ x,K i=some x/\x<2^32)/\(0<n->A=some ⟨o.sb,0,none⟩/\RowF w o.sb 76 n c (valF fun i=>(K i).getD 0)):=h
theorem qWE (A : Option Addr) (n c : Nat) (w : World) : (method 347 74 (.slice A n c) "nacre/view.known").run Tryz.prog w = .ok (241, .slice A n c) w := by kernel_rfl
theorem qIP {base b n:Nat}{wh:Bool}{o:VGeo}{K:Nat->Option Nat}{s:Vst}(a:Int)(ho:opn n s a=false)(w:World)(h:IsView w base b n wh o K s) :
  Calls Tryz.prog 82 #[.pointer (some ⟨b,0,none⟩),.int .i64 a] w fun e w'=>e = .returned (.int .u32 0)/\w'=w:=by
 have HH:=qh h
 have HO:=qh ho
 clear h ho
 go_enter Tryz.func82,Tryz.ntmps82
 go_wp2_with fail
 refine(qEY a _ HH.o).mono ?_
 rintro e w1 ⟨rfl,rfl⟩
 rw[HO.o]
 go_wp2
 go_ret
 exact⟨rfl,rfl⟩

theorem qUE {base b n:Nat}{wh:Bool}{o:VGeo}{K:Nat->Option Nat}{s:Vst}(i k:Nat)(ho:opn n s (i:Int)=true)(hk:pos s.wr i=some k)(hi:i<n)(hlim:s.wr.length<2^40)(w:World)(h:IsView w base b n wh o K s) :
    Calls Tryz.prog 82 #[.pointer (some ⟨b,0,none⟩),.int .i64 (i:Int)] w fun e w'=>e = .returned (.int .u32 ((atW s.wr k:Nat):Int))/\w'=w:=by
  have hn:=h.nmax
  have hkl:=(qG9 hk).1
  obtain⟨c0,c1,c2,c3,c4,c5,c6,c7⟩:=h.cells
  obtain⟨kk,D,e1,hown,hD⟩:=h.wvm
  obtain⟨g,cap,hv,_,_⟩:=h.wrow.form qo
  have hr:=h.wrow
  rw[hv] at hr c4
  have d0:w.cell? ⟨g,k*2+1,none⟩=some (.int .u32 ((atW s.wr k:Nat):Int)):=(hr.cellAt _ qo).trans (qNC s.wr k hkl).2
  have hcap:s.wr.length<=cap/\cap<=maxLen:=by
    exact Mny
  obtain⟨hc1,hc2⟩:=hcap
  unfold maxLen at hc2
  have hkey:=qRS (c:=(i:Int)) (qEt qo)
  have HH:=qh h
  have HO:=qh ho
  have HM:qH (Maps.has D (kInt (i:Int))=true):=qh (by rw[hD.has];simp[hk])
  have HA:qH (∀ c:Int,D.atKey (kInt (i:Int)) (.lit (.int .i64 0)) = .lit (.int .i64 c)->c=k):=qh (fun c hc=>by
    rw[hD.at_ i k hk] at hc
    injection hc with hc
    injection hc with _ hc
    exact hc.symm)
  have HW:=qh hown
  generalize atW s.wr k=x at *
  generalize s.wr.length=m at *
  clear h ho hk hr hv hD c1 c2 c3 hown
  go_enter Tryz.func82,Tryz.ntmps82
  go_wp2_with fail
  refine(qEY (i:Int) _ HH.o).mono ?_
  rintro e w1 ⟨rfl,rfl⟩
  rw[HO.o]
  go_wp2_with (first
    | (at_lookup;refine wpList_lookup_own_ok_int _ rfl _ _ 102 rfl 3 3 .i64 qDt Tryz.underlying102 Tryz.underlying3 (zeroInt _) o.m2 kk D rfl HW.o _ _ rfl hkey ?_
       intro c hat hwc
       obtain rfl:c=(k:Int):=HA.o c hat
       rw[HM.o]
       clear hat hwc)
    | go_in)
  go_ret
  exact⟨rfl,rfl⟩

theorem qM2 {base b n:Nat}{o:VGeo}{K:Nat->Option Nat}{s:Vst}(i v:Nat)(ho:opn n s (i:Int)=true)(hk:pos s.wr i=none)(hi:i<n)(hv:K i=some v)(hlim:s.rd.length<2^40)(w:World)(h:IsView w base b n true o K s) :
    Calls Tryz.prog 82 #[.pointer (some ⟨b,0,none⟩),.int .i64 (i:Int)] w fun e w'=>e = .returned (.int .u32 (v:Int))/\Left11 w base b n true o K (noteS s i) w':=by
  have hn:=h.nmax
  obtain⟨c0,c1,c2,c3,c4,c5,c6,c7⟩:=h.cells
  obtain⟨kk,D,e1,hown,hD⟩:=h.wvm
  obtain⟨A,c,hf,hc1,hc2,_,hR⟩:=h.src.list
  obtain⟨rfl,hR2⟩:=hR qo
  have d0:w.cell? ⟨o.sb,i,none⟩=some (.int .u32 (v:Int)):=by
    rw[hR2.cell hi]
    show some (Value.int .u32 (((K i).getD 0:Nat):Int))=_
    rw[hv]
    rfl
  rw[hf] at c1
  have hkey:=qRS (c:=(i:Int)) (qEt qo)
  have HH:=qh h
  have HO:=qh ho
  have HM:qH (Maps.has D (kInt (i:Int))=false):=qh (by rw[hD.has];simp[hk])
  have HW:=qh hown
  have HL:=qh hlim
  generalize o.sb=g at *
  clear h ho hk hv hD c2 c3 c4 hown hf hR hR2 hlim
  have hmt:=qWE
  go_enter Tryz.func82,Tryz.ntmps82
  go_wp2_with fail
  refine(qEY (i:Int) _ HH.o).mono ?_
  rintro e w1 ⟨rfl,rfl⟩
  rw[HO.o]
  go_wp2_with (first
    | (at_lookup;refine wpList_lookup_own_ok_int _ rfl _ _ 102 rfl 3 3 .i64 qDt Tryz.underlying102 Tryz.underlying3 (zeroInt _) o.m2 kk D rfl HW.o _ _ rfl hkey ?_
       intro c hat hwc
       rw[HM.o]
       clear hat hwc)
    | fail)
  refine(qMD g n _ i (v:Int) hi hc1 hc2 _ d0).mono ?_
  rintro e w2 ⟨rfl,rfl⟩
  go_wp2_with fail
  refine(qB4 i hi HL.o _ HH.o).mono ?_
  rintro e w2 ⟨rfl,hL⟩
  go_wp2
  go_ret
  exact⟨rfl,hL⟩

theorem qM8 {base b n:Nat}{wh:Bool}{o:VGeo}{K:Nat->Option Nat}{s:Vst}(a:Int)(h1:s.rd.length<2^40)(h2:s.wr.length<2^40)(w:World)(h:IsView w base b n wh o K s) :
  Calls Tryz.prog 82 #[.pointer (some ⟨b,0,none⟩),.int .i64 a] w fun e w'=>e = .returned (.int .u32 ((getV n K s a:Nat):Int))/\Left11 w base b n wh o K (getS n K s a) w':=by
 by_cases ho:opn n s a=true
 ·obtain⟨i,rfl,hi,hl⟩:=qAh ho
  cases hp:pos s.wr i with
  | some k =>
   rw[qCJ ho hp,qZT ho hp]
   refine(qUE i k ho hp hi h2 w h).mono ?_
   rintro e w1 ⟨rfl,rfl⟩
   exact⟨rfl,Left11.same h⟩
  | none =>
   cases hk:K i with
   | some v =>
    rw[qGE ho hp hk,qTM ho hp hk]
    cases wh with
    | true=>exact qM2 i v ho hp hi hk h1 w h
    | false=>exact False.elim (h.src:SrcIs w false n o K)
   | none =>
    rw[qUa ho hp hk,qH4 ho hp hk]
    cases wh with
    | true =>
     obtain⟨A,c,_,_,_,h3,_⟩:=h.src.list
     obtain⟨x,hx,_⟩:=h3 i hi
     rw[hx] at hk
     cases hk
    | false=>exact False.elim (h.src:SrcIs w false n o K)
 ·have ho:opn n s a=false:=by simpa using ho
  rw[qDi ho,qPg ho]
  refine(qIP a ho w h).mono ?_
  rintro e w1 ⟨rfl,rfl⟩
  exact⟨rfl,Left11.same h⟩
end
section
theorem valInfo:(Tryz.prog.info? 76).map (fun i=>(i.zero,i.size,i.bytes))=some (some (.int .u32 0),1,4):=by kernel_rfl
theorem pairInfo:(Tryz.prog.info? 107).map (fun i=>(i.zero,i.size,i.bytes))=some (some (.agg #[.int .i64 0,.int .u32 0]),2,16):=by kernel_rfl

theorem qCn (A:Option Addr)(n c:Nat)(xs:List Value)(hl:xs.length=n*1)(hmx:n*4<=140737488355328)(h1:∀ u∈xs,u.oneCell'=true)(w:World)
    (hA:0<n->∃ ad,A=some ad/\∀ j u,xs[j]?=some u->w.cell? (ad.add j)=some u) :
    Calls Tryz.prog 35 #[.slice A n c] w fun e w'=>∃ v,e = .returned v/\w'.ownsRow w.heap.size 76 1 v n xs/\(A=none->v = .slice none 0 0)/\Below w.heap.size w w':=by
  have q22:∀ (w:World) (a:Option Addr) (n c n' c':Nat),(binOp .eql 24 (.slice a n c) (.slice none n' c')).run Tryz.prog w = .ok (.bool a.isNone) w:=fun w a n c n' c'=>Lib.run_eql_slice_nil w _ _ a n c n' c' Tryz.underlying24
  cases A with
  | none =>
    have hn:n=0:=by
      exact MQM
    subst hn
    have hx:xs = []:=List.eq_nil_of_length_eq_zero qo
    subst hx
    go_enter Tryz.func35,Tryz.ntmps35
    go_wp2
    go_ret
    exact⟨_,rfl,World.ownsRow_nil _ _ _ _,fun _=>rfl,B0 _⟩
  | some ad =>
    obtain⟨i0,hi,hz0,hz1,hz2⟩:=info_parts valInfo
    have HC:qH (∀ j u,xs[j]?=some u->w.cell? (ad.add j)=some u):=qh (fun j u hu=>by
      rcases Nat.eq_zero_or_pos n with h|h
      ·exact MIZ
      · obtain⟨ad',h2,h3⟩:=hA h
        injection h2 with h2
        subst h2
        exact h3 j u hu)
    clear hA
    go_enter Tryz.func35,Tryz.ntmps35
    go_wp2_with (at_builtin
                 refine wpList_append_own _ rfl _ _ 24 rfl w.heap.size 76 i0 (.int .u32 0) 1 4 Tryz.underlying24 hi hz0 hz1 hz2 rfl (by decide) _ 0 [] rfl (World.ownsRow_made w #[] 0 (Nat.le_refl _) (Nat.zero_le _) (by simp)) ad n c xs rfl ?c1 ?c2 ?c3 ?c4 ?c5 ?c6 ?_)
    case c1=>exact hl
    case c2=>exact fun j u hj=>Lib.cell?_alloc_some _ (HC.o j u hj)
    case c3=>exact h1
    case c4=>rw[Nat.zero_add];unfold maxLen;omega
    case c5=>rw[Nat.zero_add];exact hmx
    case c6=>simp
    intro v' w1 hown hgrow hnil
    have HB:=qh (((Below.refl _ w).alloc (Nat.le_refl _) (.cells #[] 76)).grown hgrow (by simp) (by intro k hk;simp[Value.ownBlock] at hk;omega))
    have HO:=qh hown
    clear hgrow hown hnil
    go_wp2
    go_ret
    exact⟨_,rfl,by simpa using HO.o,fun h=>(by cases h),HB.o⟩

theorem qS7 (A:Option Addr)(n c:Nat)(xs:List Value)(hl:xs.length=n*1)(hmx:n*4<=140737488355328)(h1:∀ u∈xs,u.oneCell'=true)(w:World)
    (hA:0<n->∃ ad,A=some ad/\∀ j u,xs[j]?=some u->w.cell? (ad.add j)=some u) :
    Calls Tryz.prog 242 #[.slice A n c] w fun e w'=>∃ v,e = .returned v/\w'.ownsRow w.heap.size 76 1 v n xs/\(A=none->v = .slice none 0 0)/\Below w.heap.size w w':=by
  have q22:∀ (w:World) (a:Option Addr) (n c n' c':Nat),(binOp .eql 74 (.slice a n c) (.slice none n' c')).run Tryz.prog w = .ok (.bool a.isNone) w:=fun w a n c n' c'=>Lib.run_eql_slice_nil w _ _ a n c n' c' Tryz.underlying74
  cases A with
  | none =>
    have hn:n=0:=by
      exact MQM
    subst hn
    have hx:xs = []:=List.eq_nil_of_length_eq_zero qo
    subst hx
    go_enter Tryz.func242,Tryz.ntmps242
    go_wp2
    go_ret
    exact⟨_,rfl,World.ownsRow_nil _ _ _ _,fun _=>rfl,B0 _⟩
  | some ad =>
    obtain⟨i0,hi,hz0,hz1,hz2⟩:=info_parts valInfo
    have HC:qH (∀ j u,xs[j]?=some u->w.cell? (ad.add j)=some u):=qh (fun j u hu=>by
      rcases Nat.eq_zero_or_pos n with h|h
      ·exact MIZ
      · obtain⟨ad',h2,h3⟩:=hA h
        injection h2 with h2
        subst h2
        exact h3 j u hu)
    clear hA
    go_enter Tryz.func242,Tryz.ntmps242
    go_wp2_with (at_builtin
                 refine wpList_append_own _ rfl _ _ 74 rfl w.heap.size 76 i0 (.int .u32 0) 1 4 Tryz.underlying74 hi hz0 hz1 hz2 rfl (by decide) _ 0 [] rfl (World.ownsRow_made w #[] 0 (Nat.le_refl _) (Nat.zero_le _) (by simp)) ad n c xs rfl ?c1 ?c2 ?c3 ?c4 ?c5 ?c6 ?_)
    case c1=>exact hl
    case c2=>exact fun j u hj=>Lib.cell?_alloc_some _ (HC.o j u hj)
    case c3=>exact h1
    case c4=>rw[Nat.zero_add];unfold maxLen;omega
    case c5=>rw[Nat.zero_add];exact hmx
    case c6=>simp
    intro v' w1 hown hgrow hnil
    have HB:=qh (((Below.refl _ w).alloc (Nat.le_refl _) (.cells #[] 76)).grown hgrow (by simp) (by intro k hk;simp[Value.ownBlock] at hk;omega))
    have HO:=qh hown
    clear hgrow hown hnil
    go_wp2
    go_ret
    exact⟨_,rfl,by simpa using HO.o,fun h=>(by cases h),HB.o⟩

theorem qSl (A:Option Addr)(n c:Nat)(xs:List Value)(hl:xs.length=n*2)(hmx:n*16<=140737488355328)(h1:∀ u∈xs,u.oneCell'=true)(w:World)
    (hA:0<n->∃ ad,A=some ad/\∀ j u,xs[j]?=some u->w.cell? (ad.add j)=some u) :
    Calls Tryz.prog 52 #[.slice A n c] w fun e w'=>∃ v,e = .returned v/\w'.ownsRow w.heap.size 107 2 v n xs/\(A=none->v = .slice none 0 0)/\Below w.heap.size w w':=by
  have q22:∀ (w:World) (a:Option Addr) (n c n' c':Nat),(binOp .eql 44 (.slice a n c) (.slice none n' c')).run Tryz.prog w = .ok (.bool a.isNone) w:=fun w a n c n' c'=>Lib.run_eql_slice_nil w _ _ a n c n' c' Tryz.underlying44
  cases A with
  | none =>
    have hn:n=0:=by
      exact MQM
    subst hn
    have hx:xs = []:=List.eq_nil_of_length_eq_zero qo
    subst hx
    go_enter Tryz.func52,Tryz.ntmps52
    go_wp2
    go_ret
    exact⟨_,rfl,World.ownsRow_nil _ _ _ _,fun _=>rfl,B0 _⟩
  | some ad =>
    obtain⟨i0,hi,hz0,hz1,hz2⟩:=info_parts pairInfo
    have HC:qH (∀ j u,xs[j]?=some u->w.cell? (ad.add j)=some u):=qh (fun j u hu=>by
      rcases Nat.eq_zero_or_pos n with h|h
      ·exact MIZ
      · obtain⟨ad',h2,h3⟩:=hA h
        injection h2 with h2
        subst h2
        exact h3 j u hu)
    clear hA
    go_enter Tryz.func52,Tryz.ntmps52
    go_wp2_with (at_builtin
                 refine wpList_append_own _ rfl _ _ 44 rfl w.heap.size 107 i0 (.agg #[.int .i64 0,.int .u32 0]) 2 16 Tryz.underlying44 hi hz0 hz1 hz2 rfl (by decide) _ 0 [] rfl (World.ownsRow_made w #[] 0 (Nat.le_refl _) (Nat.zero_le _) (by simp)) ad n c xs rfl ?c1 ?c2 ?c3 ?c4 ?c5 ?c6 ?_)
    case c1=>exact hl
    case c2=>exact fun j u hj=>Lib.cell?_alloc_some _ (HC.o j u hj)
    case c3=>exact h1
    case c4=>rw[Nat.zero_add];unfold maxLen;omega
    case c5=>rw[Nat.zero_add];exact hmx
    case c6=>simp
    intro v' w1 hown hgrow hnil
    have HB:=qh (((Below.refl _ w).alloc (Nat.le_refl _) (.cells #[] 107)).grown hgrow (by simp) (by intro k hk;simp[Value.ownBlock] at hk;omega))
    have HO:=qh hown
    clear hgrow hown hnil
    go_wp2
    go_ret
    exact⟨_,rfl,by simpa using HO.o,fun h=>(by cases h),HB.o⟩
end
section
theorem qRq {base b n:Nat}{wh:Bool}{o:VGeo}{K:Nat->Option Nat}{s:Vst}(a:Int)(v:Int)(ho:opn n s a=false)(w:World)(h:IsView w base b n wh o K s) :
  Calls Tryz.prog 81 #[.pointer (some ⟨b,0,none⟩),.int .i64 a,.int .u32 v] w fun e w'=>e = .returned (.tuple #[])/\w'=w:=by
 have HH:=qh h
 have HO:=qh ho
 clear h ho
 go_enter Tryz.func81,Tryz.ntmps81
 go_wp2_with fail
 refine(qEY a _ HH.o).mono ?_
 rintro e w1 ⟨rfl,rfl⟩
 rw[HO.o]
 go_wp2
 (try simp only[Exit.inBlock,Exit.then])
 refine bodyPost_ret (results_none rfl _ _ _) rfl ?_
 exact⟨rfl,rfl⟩

theorem qAO {s:Vst}{k v i:Nat}(hk:k<s.wr.length)(hc:cellW s.wr k=i):∀ j,j<2->updF (vX s) 1 ((vX s 1).set (k*2+1) (.int .u32 (v:Int))) j=vX { s with wr:=s.wr.set k (i,v) } j:=fun j hj=>by
 match j,hj with
 | 0,_=>simp[updF,vX]
 | 1,_ =>
  rw[qJN]
  show (prVs s.wr).set (k*2+1) (.int .u32 (v:Int))=prVs (s.wr.set k (i,v))
  rw[qCo _ _ _ hk,hc]
theorem qYv {s:Vst}{k v i:Nat}:∀ j,j<2->vN s j=vN { s with wr:=s.wr.set k (i,v) } j:=fun j hj=>by
 match j,hj with
 | 0,_=>simp[vN]
 | 1,_=>simp[vN]

theorem qSS {base b n:Nat}{wh:Bool}{o:VGeo}{K:Nat->Option Nat}{s:Vst}(i k v:Nat)(ho:opn n s (i:Int)=true)(hk:pos s.wr i=some k)(hi:i<n)(hv32:v<2^32)(hlim:s.wr.length<2^40)(w:World)(h:IsView w base b n wh o K s) :
    Calls Tryz.prog 81 #[.pointer (some ⟨b,0,none⟩),.int .i64 (i:Int),.int .u32 (v:Int)] w fun e w'=>e = .returned (.tuple #[])/\Left11 w base b n wh o K (putS n s (i:Int) v) w':=by
  have hn:=h.nmax
  have hkl:=(qG9 hk).1
  obtain⟨c0,c1,c2,c3,c4,c5,c6,c7⟩:=h.cells
  obtain⟨kk,D,e1,hown,hD⟩:=h.wvm
  obtain⟨g,cap,hv,_,_⟩:=h.wrow.form qo
  have hr:=h.wrow
  rw[hv] at hr c4
  have d0:w.cell? ⟨g,k*2+1,none⟩=some (.int .u32 ((atW s.wr k:Nat):Int)):=(hr.cellAt _ qo).trans (qNC s.wr k hkl).2
  have f0:=hr.frozenAt (k*2+1)
  have hcap:s.wr.length<=cap/\cap<=maxLen:=by
    exact Mny
  obtain⟨hc1,hc2⟩:=hcap
  unfold maxLen at hc2
  have hkey:=qRS (c:=(i:Int)) (qEt qo)
  have HH:=qh h
  have HO:=qh ho
  have HK:=qh hk
  have HV:=qh hv
  have HV32:=qh hv32
  have HM:qH (Maps.has D (kInt (i:Int))=true):=qh (by rw[hD.has];simp[hk])
  have HA:qH (∀ c:Int,D.atKey (kInt (i:Int)) (.lit (.int .i64 0)) = .lit (.int .i64 c)->c=k):=qh (fun c hc=>by
    rw[hD.at_ i k hk] at hc
    injection hc with hc
    injection hc with _ hc
    exact hc.symm)
  have HW:=qh hown
  generalize atW s.wr k=x at *
  obtain⟨m,hm⟩:∃ m,s.wr.length=m:=⟨_,rfl⟩
  have HMM:=qh hm
  rw[hm] at c4 hkl hlim hc1
  clear h ho hk hr hv hD c1 c2 c3 hown hm hv32 e1
  go_enter Tryz.func81,Tryz.ntmps81
  go_wp2_with fail
  refine(qEY (i:Int) _ HH.o).mono ?_
  rintro e w1 ⟨rfl,rfl⟩
  rw[HO.o]
  go_wp2_with (first
    | (at_lookup;refine wpList_lookup_own_ok_int _ rfl _ _ 102 rfl 3 3 .i64 qDt Tryz.underlying102 Tryz.underlying3 (zeroInt _) o.m2 kk D rfl HW.o _ _ rfl hkey ?_
       intro c hat hwc
       obtain rfl:c=(k:Int):=HA.o c hat
       rw[HM.o]
       clear hat hwc)
    | go_in)
  go_end0
  obtain⟨k1,D1,k2,D2,e1,e2,e3,e4,hp⟩:=HH.o.parts
  have hkl':k<s.wr.length:=by rw[HMM.o];exact hkl
  obtain⟨hp1,ht1⟩:=hp.store (i:=1) (g:=g) (cap:=cap) qo HV.o (k*2+1) (.int .u32 (v:Int))
  have hok:=HH.o.ok.put (a:=(i:Int)) HV32.o
  rw[qPT HO.o,qRW HK.o] at hok ⊢
  exact⟨rfl,o,{ parts:=⟨k1,D1,k2,D2,e1,by simp;omega,e3,e4.congr (fun j=>by
                     have:=qYT s.wr k v j
                     rw[(qG9 HK.o).2] at this
                     exact this.symm),{ hp1 with own:=hp1.own.congr qYv (qAO hkl' (qG9 HK.o).2) }⟩,ok:=hok,nmax:=hn,k32:=HH.o.k32 },fun g hg => .inl hg,ht1⟩

theorem qVn (s:Vst)(i v:Nat):∀ j,j<2->updF (vN s) 1 (s.wr.length+1) j=vN { s with wr:=s.wr ++ [(i,v)] } j:=fun j hj=>by
 match j,hj with
 | 0,_=>simp[updF,vN]
 | 1,_=>simp[updF,vN]
theorem qT4 (s:Vst)(i v:Nat):∀ j,j<2->updF (updF (vX s) 1 (prVs s.wr ++ [Value.int .i64 (i:Int),Value.int .u32 0])) 1 ((updF (vX s) 1 (prVs s.wr ++ [Value.int .i64 (i:Int),Value.int .u32 0]) 1).set (s.wr.length*2+1) (.int .u32 (v:Int))) j=vX { s with wr:=s.wr ++ [(i,v)] } j:=fun j hj=>by
 match j,hj with
 | 0,_=>simp[updF,vX]
 | 1,_ =>
  rw[qJN,qJN]
  show (prVs s.wr ++ [Value.int .i64 (i:Int),Value.int .u32 0]).set (s.wr.length*2+1) (.int .u32 (v:Int))=prVs (s.wr ++ [(i,v)])
  have hl:=qUS s.wr
  rw[qEZ,List.set_append_right _ _ qo,hl]
  simp

theorem qVb {base b n:Nat}{wh:Bool}{o:VGeo}{K:Nat->Option Nat}{s:Vst}(i v:Nat)(ho:opn n s (i:Int)=true)(hk:pos s.wr i=none)(hi:i<n)(hv32:v<2^32)(hlim:s.wr.length<2^40)(w:World)(h:IsView w base b n wh o K s) :
    Calls Tryz.prog 81 #[.pointer (some ⟨b,0,none⟩),.int .i64 (i:Int),.int .u32 (v:Int)] w fun e w'=>e = .returned (.tuple #[])/\Left11 w base b n wh o K (putS n s (i:Int) v) w':=by
  have hn:=h.nmax
  obtain⟨c0,c1,c2,c3,c4,c5,c6,c7⟩:=h.cells
  obtain⟨k1,D1,kk,D,e1,e2,e3,hD,hp⟩:=h.parts
  obtain⟨A,cap,hv⟩:=qKK h.wrow
  rw[hv] at c4
  obtain⟨i0,hin,hz0,hz1,hz2⟩:=info_parts pairInfo
  have hkey:=qRS (c:=(i:Int)) (qEt qo)
  have HH:=qh h
  have HO:=qh ho
  have HK:=qh hk
  have HV:=qh hv
  have HV32:=qh hv32
  have HM:qH (Maps.has D (kInt (i:Int))=false):=qh (by rw[hD.has];simp[hk])
  have HP:=qh hp
  have HD:=qh (hD.put i s.wr.length)
  have HS:=qh e3
  have HE1:=qh e1
  have hbl:=hp.head.lt
  obtain⟨m,hm⟩:∃ m,s.wr.length=m:=⟨_,rfl⟩
  have HMM:=qh hm
  rw[hm] at c4 hlim HD e2
  clear h ho hk hv hD c1 c2 c3 hp hm hv32 e1 e3
  go_enter Tryz.func81,Tryz.ntmps81
  go_wp2_with fail
  refine(qEY (i:Int) _ HH.o).mono ?_
  rintro e w1 ⟨rfl,rfl⟩
  rw[HO.o]
  go_wp2_with (first
    | (at_lookup;refine wpList_lookup_own_ok_int _ rfl _ _ 102 rfl 3 3 .i64 qDt Tryz.underlying102 Tryz.underlying3 (zeroInt _) o.m2 kk D rfl HP.o.m2 _ _ rfl hkey ?_
       intro c hat hwc
       rw[HM.o]
       clear hat hwc)
    | (at_mapUpdate;refine wpList_mapUpdate_own _ rfl _ _ _ 102 rfl 3 3 qDt Tryz.underlying102 _ o.m2 kk D rfl HP.o.m2 (by unfold maxLen;omega) _ _ _ rfl rfl hkey _ [] (plainElem_int Tryz.underlying3 (qEt qo)) ?_
       intro w2 hown1 hgrow1
       obtain⟨hp2,ht2⟩:=HP.o.map2 hgrow1 hown1
       have c4':w2.cell? ⟨b,4,none⟩=some (.slice A m cap):=(hp2.head.cell 4).trans (by rw[<- HMM.o,<- HV.o];rfl)
       have HP2:=qh hp2
       have HT2:=qh ht2
       have hbl2:=hp2.head.lt
       clear hp2 ht2 hown1 hgrow1)
    | (at_builtin
       refine wpList_append_lies _ rfl _ _ 44 rfl base 107 i0 (.agg #[.int .i64 0,.int .u32 0]) 2 16 Tryz.underlying44 hin hz0 hz1 hz2 rfl (by decide) (.slice A m cap) m (prVs s.wr) rfl ?c0 ⟨_,0,none⟩ 1 1 [.int .i64 (i:Int),.int .u32 0] rfl rfl ?c1 ?c2 qo ?c3 ?c4 ?c5 _ rfl ?_
       case c0 =>
         have:=HP2.o.own.own 1 qo
         rw[HV.o] at this
         have:=this.alloc (.cells #[.int .i64 (i:Int),.int .u32 0] 107)
         rw[<- HMM.o]
         exact this
       case c1=>intro j y hy;rcases j with _|_|j;(· simp at hy;subst hy;simp[Addr.add]);(· simp at hy;subst hy;simp[Addr.add]);(· simp at hy)
       case c2=>simp[Value.oneCell']
       case c3=>unfold maxLen;omega
       case c4=>omega
       case c5=>have:=HP2.o.bb;have:=HP2.o.head.lt;simp;omega
       intro g cap w4 hown4 hgrow4 hat4 hlt4
       obtain⟨hp4,hA4,hT4⟩:=(HP2.o.keep (Bnew (B0 _) (.cells #[.int .i64 (i:Int),.int .u32 0] 107))).grow (i:=1) qo hown4 (by rw[HV.o,HMM.o];exact hgrow4) (fun q hq=>by
         have hq:g=q:=by simpa [Value.ownBlock] using hq
         subst hq
         rcases hat4 with h1|h1
         · left;rw[HV.o,HMM.o];exact h1
         · right;rw[h1];exact Nat.le_refl _)
       have c4'':w4.cell? ⟨b,4,none⟩=some (.slice A m _):=(hp4.head.cell 4).trans (by rw[<- HMM.o,<- HV.o];rfl)
       have f4:=hp4.head.thawed 4
       have d4:w4.cell? ⟨g,m*2+1,none⟩=some (.int .u32 0):=(hown4.cellAt _ qo).trans (by
         rw[List.getElem?_append_right (by rw[qUS,HMM.o];omega),qUS,HMM.o]
         simp)
       have f5:=hown4.frozenAt (m*2+1)
       have hgb:¬ g=b:=fun e=>hp4.own.notb 1 qo (by rw[e];rfl)
       have hbg:¬ b=g:=fun e=>hgb e.symm
       have HG:qH (o.F b g\/w1.heap.size<=g):=qh (by
         rcases hat4 with h1|h1
         · left;exact .inl (.inr ⟨1,qo,by rw[HV.o,HMM.o];exact h1⟩)
         · right;have:=HT2.o.size;simp at h1;omega)
       have HP4:=qh hp4
       have HA4:=qh hA4
       have HT4:=qh (HT2.o.trans (((T0 (o.F b) w2).alloc (.cells #[.int .i64 (i:Int),.int .u32 0] 107)).trans hT4))
       clear hp4 hA4 hT4 hown4 hgrow4 hat4)
    | go_in)
  go_end0
  obtain⟨hp5,ht5⟩:=HP4.o.setHead 4 (.slice (some ⟨g,0,none⟩) (m+1) cap)
  obtain⟨hp6,ht6⟩:=hp5.store (i:=1) (g:=g) (cap:=cap) qo rfl (m*2+1) (.int .u32 (v:Int))
  have hok:=HH.o.ok.put (a:=(i:Int)) HV32.o
  rw[qPT HO.o,qWB HK.o] at hok ⊢
  have hT5:=HT4.o.put (p:=⟨b,4,none⟩) (.inl (.inl rfl)) (.slice (some ⟨g,0,none⟩) (m+1) cap)
  refine⟨rfl,{ o with v:=updF o.v 1 (.slice (some ⟨g,0,none⟩) (m+1) cap) },{ parts:=⟨k1,D1,kk+1,_,HE1.o,by simp;have:=HMM.o;omega,HS.o,HD.o.congr (fun j=>?_),{ hp6 with own:=hp6.own.congr ?_ ?_ }⟩,ok:=hok,nmax:=hn,k32:=HH.o.k32 },fun q hq=>?_,?_⟩
  · have:=qFh v HK.o j
    rw[HMM.o] at this
    rw[this]
    unfold updF
    split <;> rfl
  · rw[<- HMM.o]
    exact qVn s i v
  · rw[<- HMM.o]
    exact qT4 s i v
  ·exact MU7
  · rcases HG.o with h1|h1
    · exact hT5.put (p:=⟨g,m*2+1,none⟩) h1 _
    · exact hT5.put_new (p:=⟨g,m*2+1,none⟩) h1 _

theorem qYd {base b n:Nat}{wh:Bool}{o:VGeo}{K:Nat->Option Nat}{s:Vst}(a:Int)(v:Nat)(hv32:v<2^32)(h2:s.wr.length<2^40)(w:World)(h:IsView w base b n wh o K s) :
  Calls Tryz.prog 81 #[.pointer (some ⟨b,0,none⟩),.int .i64 a,.int .u32 (v:Int)] w fun e w'=>e = .returned (.tuple #[])/\Left11 w base b n wh o K (putS n s a v) w':=by
 by_cases ho:opn n s a=true
 ·obtain⟨i,rfl,hi,hl⟩:=qAh ho
  cases hp:pos s.wr i with
  | some k=>exact qSS i k v ho hp hi hv32 h2 w h
  | none=>exact qVb i v ho hp hi hv32 h2 w h
 ·have ho:opn n s a=false:=by simpa using ho
  rw[qRG ho]
  refine(qRq a _ ho w h).mono ?_
  rintro e w1 ⟨rfl,rfl⟩
  exact⟨rfl,Left11.same h⟩
end
section
structure PairV where
 cell:Int
 val:Nat
instance:Inhabited PairV:=⟨⟨0,0⟩⟩
def PairV.cells (a:PairV):List Value := [.int .i64 a.cell,.int .u32 (a.val:Int)]
def PairVs (w:World) (A:Option Addr) (l:List PairV):Prop :=
 ∀ i a,l[i]?=some a->∃ ad,A=some ad/\ad.block<w.heap.size/\∀ j u,a.cells[j]?=some u->w.cell? (ad.add (i*2+j))=some u
theorem PairVs.below {w w':World}{A:Option Addr}{l:List PairV}(h:PairVs w A l)(hb:Below w.heap.size w w'):PairVs w' A l:=fun i a ha=>by
 obtain⟨ad,e,h1,h2⟩:=h i a ha
 exact⟨ad,e,Nat.lt_of_lt_of_le h1 hb.size,fun j u hu=>(hb.cell (p:=ad.add (i*2+j)) (by rw[qXL];exact h1)).trans (h2 j u hu)⟩
def PairVAt (w:World) (p:Addr) (a:PairV):Prop :=
 w.cell? p=some (.int .i64 a.cell)/\w.cell? ⟨p.block,p.off+1,none⟩=some (.int .u32 (a.val:Int))
theorem qDb (p:Addr)(j:Nat)(h:j≠0):p.add j=⟨p.block,p.off+j,none⟩:=by unfold Addr.add;rw[if_neg h]
theorem PairVs.cells {w:World}{ad:Addr}{l:List PairV}(h:PairVs w (some ad) l){i:Nat}{a:PairV}(ha:l[i]?=some a):PairVAt w (ad.add (i*2)) a:=by
 obtain⟨ad',e,_,h2⟩:=h i a ha
 injection e with e
 subst e
 have h10:=h2 0 _ rfl
 have h11:=h2 1 _ rfl
 rw[<- qUN] at h10 h11
 rw[qDb _ _ qo] at h11
 exact⟨h10,h11⟩

section
variable {H : Type} {enc : TypeId × Value -> H} {w : World} {base : Nat} {sp : Nat -> Bool} {held : Bool}
end
end
section
theorem qC9 {w:World}{base size n c:Nat}{e:TypeId}{A:Option Addr}{xs:List Value}(h:w.ownsRow base e size (.slice A n c) n xs) :
  0<n->∃ ad,A=some ad/\∀ j u,xs[j]?=some u->w.cell? (ad.add j)=some u:=fun hn=>by
 obtain⟨ad,e1,_,h2⟩:=(Reads.of_own h).2 hn
 exact⟨ad,e1,h2⟩
theorem qW6 (l:List (Nat × Nat)):∀ u∈prVs l,u.oneCell'=true:=fun u hu=>by
 obtain⟨x,_,hx⟩:=List.mem_flatMap.1 hu
 simp at hx
 rcases hx with rfl|rfl <;> rfl

theorem qFD {base b n:Nat}{wh:Bool}{o:VGeo}{K:Nat->Option Nat}{s:Vst}(hlim:s.wr.length<2^40)(w:World)(h:IsView w base b n wh o K s) :
  Calls Tryz.prog 16 #[.pointer (some ⟨b,0,none⟩)] w fun e w'=>∃ v,e = .returned v/\w'.ownsRow w.heap.size 107 2 v s.wr.length (prVs s.wr)/\Below w.heap.size w w':=by
 obtain⟨A,cap,hv⟩:=qKK h.wrow
 have hr:=h.wrow
 have c4:=h.cells.2.2.2.2.1
 rw[hv] at hr c4
 have HR:=qh hr
 clear h hr hv
 go_enter Tryz.func16,Tryz.ntmps16
 go_wp2_with fail
 refine(qSl A s.wr.length cap (prVs s.wr) (qUS _) qo (qW6 _) _ (qC9 HR.o)).mono ?_
 rintro e w1 ⟨v,rfl,ho,_,hb⟩
 have HO:=qh ho
 have HB:=qh hb
 clear ho hb
 go_wp2
 go_ret
 exact⟨v,rfl,HO.o,HB.o⟩

theorem of_c (base n sb:Nat)(wh:Bool)(T:TypeId)(u:Value)(K:Nat->Option Nat)(hn:n<=2^40)(h32:∀ i x,K i=some x->x<2^32)(w:World)
  (hsb:base<=w.heap.size/\base<=sb/\(sb<w.heap.size\/(wh=true/\n=0/\sb=w.heap.size+2))) (hs:∀ m1 m2 v,SrcIs w wh n ⟨m1,m2,sb,.iface T u,v⟩ K) :
  Calls Tryz.prog 34 #[.int .i64 (n:Int),.iface T u] w fun e w'=>∃ (b:Nat) (o:VGeo),e = .returned (.pointer (some ⟨b,0,none⟩))/\IsView w' base b n wh o K freshS/\w.heap.size<=b/\(∀ g,o.A b g->w.heap.size<=g\/g=sb)/\Below w.heap.size w w':=by
 have hmm:=@run_makeMap Tryz.prog
 have HS:=qh hs
 have HSB:=qh hsb
 have H32:=qh h32
 clear hs hsb h32
 go_enter Tryz.func34,Tryz.ntmps34
 go_wp2
 go_ret
 have hB1:=Bnew (B0 w) (.map #[] 0)
 have hB2:=Bnew hB1 (.map #[] 0)
 have hB3:=Bnew hB2 (.cells #[.int .i64 (n:Int),.iface T u,.slice none 0 0,.map (some w.heap.size),.slice none 0 0,.map (some (w.heap.size+1)),.bool false,.int .i64 0] 104)
 have hz1:(w.alloc (.map #[] 0)).heap.size=w.heap.size+1:=by simp
 have hz2:((w.alloc (.map #[] 0)).alloc (.map #[] 0)).heap.size=w.heap.size+2:=by simp
 have hm1:=(((World.ownsMap_made w Tryz.prog 3 (unitElem (H:=Unit))).alloc (.map #[] 0)).alloc (.cells #[.int .i64 (n:Int),.iface T u,.slice none 0 0,.map (some w.heap.size),.slice none 0 0,.map (some (w.heap.size+1)),.bool false,.int .i64 0] 104))
 have hm2:=(World.ownsMap_made (w.alloc (.map #[] 0)) Tryz.prog 3 (plainElem (H:=Unit) Tryz.prog 3)).alloc (.cells #[.int .i64 (n:Int),.iface T u,.slice none 0 0,.map (some w.heap.size),.slice none 0 0,.map (some (w.heap.size+1)),.bool false,.int .i64 0] 104)
 have hh:=Held.new ((w.alloc (.map #[] 0)).alloc (.map #[] 0)) 104 #[.int .i64 (n:Int),.iface T u,.slice none 0 0,.map (some w.heap.size),.slice none 0 0,.map (some (w.heap.size+1)),.bool false,.int .i64 0]
 rw[hz1] at hm2
 rw[hz2] at hh
 obtain⟨q1,q2,q3⟩:=HSB.o
 have hF:¬ ∃ i,i<2/\(Value.slice none 0 0).ownBlock=some sb:=by
  rintro ⟨i,_,h⟩
  simp[Value.ownBlock] at h
 have hsz:=hh.lt
 refine⟨w.heap.size+2,⟨w.heap.size,w.heap.size+1,sb,.iface T u,fun _ => .slice none 0 0⟩,rfl,{ parts:=⟨0,_,0,_,Nat.zero_le _,Nat.zero_le _,SetIs.none,NumIs.none _,?_⟩,ok:=VOk.fresh n,nmax:=hn,k32:=H32.o },qo,?_,hB3⟩
 ·refine { head:=hh,own:=(OwnAll.nil _ base _ 2 vE vSz).congr (fun i hi=>?_) (fun i hi=>?_),m1:=hm1,m2:=hm2,src:=?_,bb:=by omega,b1:=q1,b2:=Nat.le_succ_of_le q1,bs:=q2,slt:=by show sb<_;rcases q3 with h|⟨_,_,h⟩ <;> (simp;omega),mm:=by simp,s1:=by show sb≠w.heap.size;rcases q3 with h|⟨_,_,h⟩ <;> omega,s2:=by show sb≠w.heap.size+1;rcases q3 with h|⟨_,_,h⟩ <;> omega,sF:=?_ }
  ·unfold vN freshS;split <;> rfl
  ·unfold vX freshS;split <;> rfl
  ·rcases q3 with h|⟨rfl,rfl,h⟩
   ·exact(HS.o w.heap.size (w.heap.size+1) (fun _ => .slice none 0 0)).same (hB3.block _ h) rfl rfl
   ·obtain⟨A,c,e1,e2,e3,e4,e5⟩:=(HS.o 0 0 (fun _ => .slice none 0 0)).list
    exact⟨A,c,e1,e2,e3,e4,fun hn=>by omega⟩
  ·rcases q3 with h|⟨h1,h2,h⟩
   ·refine .inr ?_
    rintro (h1|h1)
    ·have h1:sb=w.heap.size+2:=h1
     omega
    ·exact hF h1
   ·exact .inl ⟨h1,h2⟩
 ·rintro g (((h|⟨i,hi,h⟩)|h|h)|h)
  ·left;have h:g=w.heap.size+2:=h;omega
  ·simp[Value.ownBlock] at h
  ·left;have h:g=w.heap.size:=h;omega
  ·left;have h:g=w.heap.size+1:=h;omega
  ·right;exact h

def valVs (l:List Nat):List Value:=l.map fun (n:Nat)=>Value.int .u32 (n:Int)
theorem qFT (l:List Nat):valVs l=(List.range l.length).map (valF fun i=>(l[i]?).getD 0):=by
 apply List.ext_getElem?
 intro i
 unfold valVs valF
 rw[List.getElem?_map,List.getElem?_map]
 rcases Nat.lt_or_ge i l.length with h|h
 ·rw[List.getElem?_range h,List.getElem?_eq_getElem h]
  simp[h]
 ·rw[List.getElem?_eq_none h,List.getElem?_eq_none (by simpa using h)]
  rfl
theorem qFa (l:List Nat):∀ u∈valVs l,u.oneCell'=true:=fun u hu=>by
 obtain⟨x,_,rfl⟩:=List.mem_map.1 hu
 rfl
def qR5 (n:Nat) (wh:Bool) (K:Nat->Option Nat) (w:World) (e:Ending) (w':World):Prop :=
 ∃ (b:Nat) (o:VGeo),e = .returned (.pointer (some ⟨b,0,none⟩))/\IsView w' w.heap.size b n wh o K freshS/\Below w.heap.size w w'

theorem qWm (A:Option Addr)(c:Nat)(vals:List Nat)(n:Nat)(hl:vals.length=n)(hmx:n<=2^40)(h32:∀ x∈vals,x<2^32)(w:World)
  (hA:0<n->∃ ad,A=some ad/\∀ j u,(valVs vals)[j]?=some u->w.cell? (ad.add j)=some u) :
  Calls Tryz.prog 9 #[.slice A n c] w (qR5 n true (fun i=>vals[i]?) w):=by
 have HA:=qh hA
 have HL:=qh hl
 have H32:qH (∀ i x,vals[i]?=some x->x<2^32):=qh (fun i x h=>h32 x (List.mem_of_getElem? h))
 have HS:qH (∀ i,i<n->∃ x,vals[i]?=some x/\x<2^32):=qh (fun i hi=>⟨vals[i],List.getElem?_eq_getElem qo,h32 _ (List.getElem_mem _)⟩)
 clear hA hl h32
 go_enter Tryz.func9,Tryz.ntmps9
 go_wp2_with fail
 refine(qCn A n c (valVs vals) (by have:=HL.o;simp[valVs];omega) qo (qFa _) _ HA.o).mono ?_
 rintro e w1 ⟨v,rfl,ho,_,hb⟩
 have HB:=qh hb
 rcases ho.2 with ⟨rfl,hz⟩|⟨g,cap,cur,rfl,hbg,hg,hnc,hcm,hcs,htake⟩
 ·subst hz
  clear ho hb
  go_wp2_with fail
  refine(of_c w.heap.size 0 (w1.heap.size+2) true 74 (.slice none 0 0) (fun i=>vals[i]?) qo H32.o _ ⟨HB.o.size,by have:=HB.o.size;omega,.inr ⟨rfl,rfl,rfl⟩⟩ (fun m1 m2 v=>⟨none,0,rfl,Nat.le_refl _,Nat.zero_le _,HS.o,fun h=>by omega⟩)).mono ?_
  exact Mem
 ·have hgl:=(ho.lt g rfl).2
  have hr:RowF w1 g 76 n cap (valF fun i=>(vals[i]?).getD 0):=by
   rw[qFT,HL.o] at ho
   exact(RowF.of_own ho).2
  have HR:=qh hr
  clear ho hb hg hcs htake hr
  go_wp2_with fail
  refine(of_c w.heap.size n g true 74 (.slice (some ⟨g,0,none⟩) n cap) (fun i=>vals[i]?) hmx H32.o _ ⟨HB.o.size,hbg,.inl hgl⟩ (fun m1 m2 v=>⟨_,cap,rfl,hnc,hcm,HS.o,fun h=>⟨rfl,HR.o⟩⟩)).mono ?_
  exact Mem
end
section
def toPV (l:List (Nat × Nat)):List PairV:=l.map fun p=>⟨(p.1:Int),p.2⟩
theorem qKw {l:List (Nat × Nat)}{k:Nat}(h:k<l.length):(toPV l)[k]?=some ⟨(cellW l k:Int),atW l k⟩:=by
 unfold toPV
 rw[List.getElem?_map,List.getElem?_eq_getElem h]
 simp[cellW,atW,List.getD,List.getElem?_eq_getElem h]
theorem qIc {w:World}{base m cap:Nat}{B:Option Addr}{l:List (Nat × Nat)}(h:w.ownsRow base 107 2 (.slice B m cap) m (prVs l))(hl:l.length=m):PairVs w B (toPV l):=fun i a ha=>by
 have hi:i<l.length:=by
  rcases Nat.lt_or_ge i l.length with h1|h1
  ·exact h1
  ·rw[List.getElem?_eq_none (by simpa [toPV] using h1)] at ha;cases ha
 rw[qKw hi] at ha
 injection ha with ha
 subst ha
 obtain⟨ad,e1,e2,e3⟩:=(Reads.of_own h).2 qo
 obtain⟨p1,p2⟩:=qNC l i hi
 refine⟨ad,e1,e2,fun j u hu=>?_⟩
 unfold PairV.cells at hu
 rcases j with _|_|j
 ·simp at hu;subst hu;exact e3 _ _ p1
 ·simp at hu;subst hu;exact e3 _ _ p2
 ·simp at hu

theorem qLY (f:Nat->Nat)(i v j:Nat):updF (valF f) i (.int .u32 (v:Int)) j=valF (updF f i v) j:=by
 by_cases e:j=i
 ·subst e;simp[valF,qJN]
 ·simp[valF,qR2 _ _ e]
theorem qNY {w:World}{base size n c m:Nat}{e:TypeId}{A:Option Addr}{xs:List Value}(h:w.ownsRow base e size (.slice A n c) m xs):m<=c/\c<=maxLen:=by
 rcases h.2 with ⟨h1,h2⟩|⟨g',cap',cur,h1,_,_,h2,h3,_⟩
 ·injection h1 with _ _ h1;subst h1;omega
 ·injection h1 with _ _ h1;subst h1;exact⟨h2,h3⟩

theorem qXd (A B:Option Addr)(n c m cap:Nat)(f:Nat->Nat)(wl:List (Nat × Nat))(hn:0<n)(hmx:n<=2^40)(hl:wl.length=m)(hmc:m<=cap)(hcap:cap<=maxLen)(hlt:∀ p∈wl,p.1<n)(w:World)
  (hA:0<n->∃ ad,A=some ad/\∀ j u,((List.range n).map (valF f))[j]?=some u->w.cell? (ad.add j)=some u) (hB:PairVs w B (toPV wl)) :
  Calls Tryz.prog 240 #[.slice A n c,.slice B m cap] w fun e w'=>∃ g cp,e = .returned (.slice (some ⟨g,0,none⟩) n cp)/\w.heap.size<=g/\RowF w' g 76 n cp (valF (foldW f wl))/\Below w.heap.size w w':=by
 have HB:=qh hB
 have HL:=qh hl
 have HLT:=qh hlt
 unfold maxLen at hcap
 have hone:∀ u∈(List.range n).map (valF f),u.oneCell'=true:=fun u hu=>by
  obtain⟨j,_,rfl⟩:=List.mem_map.1 hu
  rfl
 have HCL:=qh (qS7 A n c ((List.range n).map (valF f)) (by simp) qo hone w hA)
 clear hA hB hl hlt hone
 go_enter Tryz.func240,Tryz.ntmps240
 go_wp2_with fail
 refine HCL.o.mono ?_
 rintro e w1 ⟨v,rfl,ho,_,hb⟩
 obtain⟨g,cp,rfl,hg,_⟩:=ho.form hn
 have HR:=qh (RowF.of_own ho).2
 have HB1:=qh hb
 have hcp:=(RowF.of_own ho).2.max
 have hncp:=(RowF.of_own ho).2.le
 unfold maxLen at hcp
 clear ho hb HCL
 go_wp2_with fail
 go_loopw [7,12] (fun _ i wr=>∃ k:Nat,k<=m/\i = .int .i64 k/\qH (RowF wr g 76 n cp (valF (foldW f (wl.take k))))/\qH (Below w.heap.size w wr)) (fun _ i _=>m-(intOf i).toNat)
 case atStart=>exact⟨0,qo,rfl,HR,HB1⟩
 case round =>
  clear HR HB1
  obtain⟨k,hk,rfl,HR,HB1⟩:=hrel
  by_cases hlt:k<m
  ·have hkl:k<wl.length:=by rw[HL.o];exact hlt
   have hp:=qKw hkl
   obtain⟨ad,rfl,hadb,_⟩:=HB.o k _ hp
   obtain⟨x0,x1⟩:=(HB.o.below HB1.o).cells hp
   simp only at x0 x1
   have hcn:cellW wl k<n:=by
    have:=HLT.o wl[k] (List.getElem_mem _)
    simpa [cellW,List.getD,List.getElem?_eq_getElem hkl] using this
   have HF:=qh (qQp (f:=f) hkl)
   have d0:=HR.o.cell hcn
   have f0:=HR.o.thawed (cellW wl k)
   have hgl:=HR.o.lt
   have hab:(ad.add (k*2)).block<wr.heap.size:=by rw[qXL];have:=HB1.o.size;omega
   unfold valF at d0
   clear hp hkl
   generalize cellW wl k=i at *
   generalize atW wl k=x at *
   generalize foldW f (wl.take k) i=y at *
   go_wp2
   go_roundw
   case rel=>exact⟨k+1,qo,by go_num,qh (by
     rw[HF.o]
     refine((HR.o.put hcn _).congr (fun j _=>?_)).keep (Bnew (B0 _) _)
     exact qLY _ _ _ j),qh (Bnew (Bput HB1.o (p:=⟨g,i,none⟩) hg _) _)⟩
   case measure=>simp[intOf];omega
  ·obtain rfl:k=m:=qo
   have HKL:qH (wl.take k=wl):=qh (List.take_of_length_le (by have:=HL.o;omega))
   go_wp2
   go_ret
   exact⟨g,cp,rfl,hg,by have:=HR.o;rwa [HKL.o] at this,HB1.o⟩

theorem qOW (A : Option Addr) (n c : Nat) (w : World) : (method 347 74 (.slice A n c) "nacre/view.behind").run Tryz.prog w = .ok (240, .slice A n c) w := by kernel_rfl
theorem qKm {base b n:Nat}{o:VGeo}{Kn:Nat->Option Nat}{s:Vst}(hn:0<n)(hlim:s.wr.length<2^40)(w:World)(h:IsView w base b n true o Kn s) :
  Calls Tryz.prog 24 #[.pointer (some ⟨b,0,none⟩)] w fun e w'=>∃ g cp,e = .returned (.slice (some ⟨g,0,none⟩) n cp)/\w.heap.size<=g/\RowF w' g 76 n cp (valF (nowV Kn s.wr))/\Below w.heap.size w w':=by
 obtain⟨B,cap,hv⟩:=qKK h.wrow
 obtain⟨_,c1,_,_,c4,_,_,_⟩:=h.cells
 have hr:=h.wrow
 rw[hv] at hr c4
 obtain⟨A,c,hf,_,_,_,hR⟩:=h.src.list
 rw[hf] at c1
 have hnmx:=h.nmax
 have HA:qH (∀ w',Below w.heap.size w w'->(0<n->∃ ad,A=some ad/\∀ j u,((List.range n).map (valF fun i=>(Kn i).getD 0))[j]?=some u->w'.cell? (ad.add j)=some u)):=qh (fun w' hb hn=>by
  obtain⟨e1,e2⟩:=hR hn
  obtain⟨ad,e3,_,e4⟩:=((e2.keep hb).reads (B:=w'.heap.size) (e2.keep hb).lt).2 hn
  exact⟨ad,e1.trans e3,e4⟩)
 have HP:qH (∀ w',Below w.heap.size w w'->PairVs w' B (toPV s.wr)):=qh (fun w' hb=>(qIc hr rfl).below hb)
 have HLT:qH (∀ p∈s.wr,p.1<n):=qh (fun p hp=>(h.ok.wrLt p hp).1)
 have HF:qH (foldW (fun i=>(Kn i).getD 0) s.wr=nowV Kn s.wr):=qh (by funext i;exact qI3 h.ok i)
 obtain⟨hmc,hcm⟩:=qNY hr
 obtain⟨m,hm2⟩:∃ m,s.wr.length=m:=⟨_,rfl⟩
 have HM:=qh hm2
 rw[hm2] at c4 hmc
 clear h hr hv hf hm2 hR
 have hmt:=qOW
 go_enter Tryz.func24,Tryz.ntmps24
 go_wp2_with fail
 refine wp_region_held_drew (S:=(fun w'=>w'.cell? ⟨b,1,none⟩=some (.iface 74 (.slice A n c))/\w'.cell? ⟨b,4,none⟩=some (.slice B m cap))) qr ?_ (fun hHeld=>?_)
 ·(try dsimp only)
  first|exact⟨c1,c4⟩|exact⟨hst _ _ hHeld.1,hst _ _ hHeld.2⟩|exact hHeld
 refine tkz 0 ?_
 refine tkz 1 ?_
 refine tkz 2 ?_
 refine tkz 3 ?_
 refine tkz 4 ?_
 refine tkz 5 ?_
 refine tkz 6 ?_
 refine tkz 7 ?_
 refine tkz 8 ?_
 refine tkz 9 ?_
 refine rdz 10 fun K hK=>?_
 go_simp
 refine(qXd A B n c m cap (fun i=>(Kn i).getD 0) s.wr hn hnmx HM.o hmc hcm HLT.o _ (HA.o _ (Bdrew (B0 _))) (HP.o _ (Bdrew (B0 _)))).mono ?_;rintro e w2 ⟨g,cp,rfl,hg,hr2,hb⟩;have HR:=qh hr2;have HG:=qh hg;have HB:=qh (Bgo (Bdrew (B0 w)) hb);have hst:=qE1 hb;clear hr2 hb hg
 refine qk ?_ (fun hHeld=>?_)
 ·first|exact⟨c1,c4⟩|exact⟨hst _ _ hHeld.1,hst _ _ hHeld.2⟩|exact hHeld
 clear hK K
 refine tkz 11 ?_
 refine dnz ?_
 go_wp2
 go_ret
 refine⟨g,cp,rfl,HG.o,?_,HB.o⟩
 have:=HR.o
 rwa [HF.o] at this
end
section
theorem qBt (l:List Nat):(valVs l).length=l.length:=by unfold valVs;simp
end
section
structure Ob where
 I:World->Vst->(Nat->Prop)->Prop
 lt:∀ {w:World} {s:Vst} {A:Nat->Prop},I w s A->∀ i,A i->i<w.heap.size
 turns:∀ {w w':World} {s:Vst} {A G:Nat->Prop},I w s A->Turns G w w'->(∀ i,A i->¬ G i)->I w' s A

def vOb (base b n:Nat) (wh:Bool) (K:Nat->Option Nat):Ob where
 I w s A:=∃ o,IsView w base b n wh o K s/\A=o.A b
 lt:=by
  rintro w s A ⟨o,h,rfl⟩
  exact h.lt
 turns:=by
  rintro w w' s A G ⟨o,h,rfl⟩ ht hf
  exact⟨o,h.turns ht hf,rfl⟩
def Ob.Left (O:Ob) (w:World) (A:Nat->Prop) (s:Vst) (w':World):Prop:=∃ A',O.I w' s A'/\(∀ g,A' g->A g\/w.heap.size<=g)/\Turns A w w'
def Ob.At (O:Ob) (w0:World) (A G:Nat->Prop) (s:Vst) (w:World):Prop :=
 ∃ A',O.I w s A'/\(∀ g,A' g->A g\/w0.heap.size<=g)/\Turns A w0 w/\∀ g,G g->w0.heap.size<=g/\g<w.heap.size/\¬ A' g
def Stay (G:Nat->Prop) (w w':World):Prop:=w.heap.size<=w'.heap.size/\∀ g,G g->g<w.heap.size->w'.heap[g]?=w.heap[g]?
def And1 (G:Nat->Prop) (N:Nat):Nat->Prop:=fun g=>G g\/g=N
def GU (G:Nat->Prop) (u:Value):Nat->Prop:=fun g=>G g\/u.ownBlock=some g

section
variable {O : Ob} {w w' w0 : World} {A G : Nat -> Prop} {s s' : Vst} {N : Nat}
theorem Ob.keep {A:Nat->Prop}(h:O.I w s A)(hb:Below w.heap.size w w'):O.I w' s A:=O.turns h (Turns.of_below hb (fun _=>False)) (fun _ _ x=>x)
theorem Ob.Left.size (h:O.Left w A s w'):w.heap.size<=w'.heap.size:=by obtain⟨A',_,_,h⟩:=h;exact h.size
theorem Ob.At.start (h:O.I w s A):O.At w A (fun _=>False) s w:=⟨A,h,fun g hg => .inl hg,T0 _ _,fun g hg=>hg.elim⟩
theorem Ob.At.left (h:O.At w0 A G s w):O.Left w0 A s w:=by
 obtain⟨A',h1,h2,h3,_⟩:=h
 exact⟨A',h1,h2,h3⟩
theorem Ob.At.size (h:O.At w0 A G s w):w0.heap.size<=w.heap.size:=h.left.size
theorem Ob.At.keep (h:O.At w0 A G s w)(hb:Below w.heap.size w w'):O.At w0 A G s w':=by
 obtain⟨A',h1,h2,h3,h4⟩:=h
 exact⟨A',Ob.keep h1 hb,h2,h3.trans (Turns.of_below hb A),fun g hg=>⟨(h4 g hg).1,Nat.lt_of_lt_of_le (h4 g hg).2.1 hb.size,(h4 g hg).2.2⟩⟩
theorem Ob.At.alloc (h:O.At w0 A G s w)(o:Obj):O.At w0 A G s (w.alloc o):=h.keep (Bnew (B0 w) o)
theorem Ob.At.drew (h:O.At w0 A G s w):O.At w0 A G s w.drew:=h.keep (Bdrew (B0 w))
theorem Ob.At.box (h:O.At w0 A G s w)(o:Obj):O.At w0 A (And1 G w.heap.size) s (w.alloc o):=by
 obtain⟨A',h1,h2,h3,h4⟩:=h
 have hs:=h3.size
 refine⟨A',Ob.keep h1 (Bnew (B0 w) o),h2,h3.alloc o,?_⟩
 rintro g (hg|rfl)
 ·exact⟨(h4 g hg).1,Nat.lt_of_lt_of_le (h4 g hg).2.1 (Bnew (B0 w) o).size,(h4 g hg).2.2⟩
 ·exact⟨hs,by simp,fun x=>by have:=O.lt h1 _ x;omega⟩
theorem Ob.At.put (h:O.At w0 A G s w){p:Addr}(hp:G p.block)(u:Value):O.At w0 A G s (w.setCell p u):=by
 obtain⟨A',h1,h2,h3,h4⟩:=h
 have hq:=h4 _ hp
 refine⟨A',O.turns h1 ((T0 (fun i=>i=p.block) w).put (p:=p) rfl u) (fun i hi e=>hq.2.2 (by rw[<- e];exact hi)),h2,h3.put_new hq.1 u,fun g hg=>⟨(h4 g hg).1,by simp;exact(h4 g hg).2.1,(h4 g hg).2.2⟩⟩
theorem Ob.At.less {G':Nat->Prop}(h:O.At w0 A G s w)(hg:∀ g,G' g->G g):O.At w0 A G' s w:=by
 obtain⟨A',h1,h2,h3,h4⟩:=h
 exact⟨A',h1,h2,h3,fun g x=>h4 g (hg g x)⟩
theorem Ob.At.call (h:O.At w0 A G s w){P:Program}{f:FuncId}{args:Array Value}{R:Ending->Prop}(hc:∀ B,O.I w s B->Calls P f args w fun e w'=>R e/\O.Left w B s' w') :
  Calls P f args w fun e w'=>R e/\O.At w0 A G s' w'/\Stay G w w':=by
 obtain⟨A',h1,h2,h3,h4⟩:=h
 refine(hc A' h1).mono ?_
 rintro e w' ⟨hr,B,k1,k2,k3⟩
 have hs:=h3.size
 refine⟨hr,⟨B,k1,fun g hg=>?_,k3.more_new hs h3 h2,fun g hg=>?_⟩,k3.size,fun g hg hl=>k3.block g hl (h4 g hg).2.2⟩
 ·rcases k2 g hg with h5|h5
  ·exact h2 g h5
  ·exact .inr qo
 ·refine⟨(h4 g hg).1,Nat.lt_of_lt_of_le (h4 g hg).2.1 k3.size,fun x=>?_⟩
  rcases k2 g x with h5|h5
  ·exact(h4 g hg).2.2 h5
  ·have:=(h4 g hg).2.1;omega
theorem Stay.of_below (hb:Below w.heap.size w w')(G:Nat->Prop):Stay G w w':=⟨hb.size,fun g _ hl=>hb.block g hl⟩
theorem Stay.trans {w'':World}(h:Stay G w w')(k:Stay G w' w''):Stay G w w'':=⟨Nat.le_trans h.1 k.1,fun g hg hl=>(k.2 g hg (Nat.lt_of_lt_of_le hl h.1)).trans (h.2 g hg hl)⟩
theorem Stay.less {G':Nat->Prop}(h:Stay G w w')(hg:∀ g,G' g->G g):Stay G' w w':=⟨h.1,fun g x hl=>h.2 g (hg g x) hl⟩
theorem Stay.held {g:Nat}{t:TypeId}{cs:Array Value}(h:Stay G w w')(hg:G g)(hh:Held w g t cs):Held w' g t cs:=(h.2 g hg hh.lt).trans hh
theorem Stay.own {base n size:Nat}{e:TypeId}{v:Value}{xs:List Value}(h:Stay G w w')(hg:∀ g,v.ownBlock=some g->G g)(ho:w.ownsRow base e size v n xs):w'.ownsRow base e size v n xs :=
 qWQ ho (fun g e=>h.2 g (hg g e) (ho.lt g e).2)
theorem Ob.At.grown {row:Option Nat}{G':Nat->Prop}(h:O.At w0 A G s w)(hg:w.grownBy w' row)(hr:∀ g,row=some g->G g)(hG:∀ g,G' g->G g\/(w.heap.size<=g/\g<w'.heap.size)):O.At w0 A G' s w':=by
 obtain⟨A',h1,h2,h3,h4⟩:=h
 have hs:=h3.size
 refine⟨A',O.turns h1 (G:=fun i=>row=some i) ⟨hg.os,hg.tape,hg.output,hg.size,fun i hi hn=>hg.block i hi (fun e=>hn e.symm)⟩ (fun i hi e=>(h4 i (hr i e)).2.2 hi),h2,
  ⟨hg.os.trans h3.os,hg.tape.trans h3.tape,hg.output.trans h3.output,Nat.le_trans hs hg.size,fun i hi hf=>(hg.block i qo (fun e=>by have:=(h4 i (hr i e.symm)).1;omega)).trans (h3.block i hi hf)⟩,fun g x=>?_⟩
 rcases hG g x with h5|h5
 ·exact⟨(h4 g h5).1,Nat.lt_of_lt_of_le (h4 g h5).2.1 hg.size,(h4 g h5).2.2⟩
 ·exact⟨qo,h5.2,fun y=>by have:=O.lt h1 _ y;omega⟩
theorem Ob.At.keep2 {G':Nat->Prop}(h:O.At w0 A G s w)(hb:Below w.heap.size w w')(hG:∀ g,G' g->G g\/(w.heap.size<=g/\g<w'.heap.size)):O.At w0 A G' s w' :=
 h.grown (row:=none) ⟨hb.os,hb.tape,hb.output,hb.size,fun i hi _=>hb.block i hi⟩ (fun g e=>by cases e) hG
end

theorem qFE:∀ (n:Nat) (l:List Nat),(∀ i∈l,i<n)->l.Nodup->l.length<=n
 | 0,l,h,_=>by
  cases l with
  | nil=>simp
  | cons a r=>have:=h a (List.mem_cons_self ..);omega
 | n+1,l,h,hd=>by
  by_cases hn:n∈l
  ·have h1:=qFE n (l.erase n) (fun i hi=>by
    have h2:=(hd.mem_erase_iff).1 hi
    have h3:=h i h2.2
    have h4:=h2.1
    omega) (hd.erase n)
   rw[List.length_erase_of_mem hn] at h1
   omega
  ·have h1:=qFE n l (fun i hi=>by
    have h3:=h i hi
    have h4:i≠n:=fun e=>hn (e ▸ hi)
    omega) hd
   omega
theorem VOk.few {n:Nat}{s:Vst}(h:VOk n s):s.rd.length<=n/\s.wr.length<=n:=by
 refine⟨qFE _ _ h.rdLt h.rdNd,?_⟩
 have:(s.wr.map (·.1)).length<=n:=by
  refine qFE _ _ (fun i hi=>?_) ?_
  ·obtain⟨p,hp,rfl⟩:=List.mem_map.1 hi
   exact(h.wrLt p hp).1
  ·unfold List.Nodup
   rw[List.pairwise_iff_getElem]
   intro i j hi hj hij e
   have hj':j<s.wr.length:=by simpa using hj
   have h1:=h.wrNd i qo
   have h2:=h.wrNd j hj'
   have e1:cellW s.wr i=cellW s.wr j:=by
    unfold cellW
    simp[List.getD,List.getElem?_eq_getElem (show i<s.wr.length by omega),List.getElem?_eq_getElem hj'] at e ⊢
    exact e
   rw[e1,h2] at h1
   injection h1 with h1
   omega
 simpa using this

section
variable {base b n : Nat} {wh all : Bool} {K : Nat -> Option Nat} {s : Vst} {w w0 : World} {A G : Nat -> Prop}
theorem vGetA (hn:n<2^40)(a:Int)(h:(vOb base b n wh K).At w0 A G s w) :
  Calls Tryz.prog 82 #[.pointer (some ⟨b,0,none⟩),.int .i64 a] w fun e w'=>e = .returned (.int .u32 ((getV n K s a:Nat):Int))/\(vOb base b n wh K).At w0 A G (getS n K s a) w'/\Stay G w w':=by
 refine h.call ?_
 rintro B ⟨o,hI,rfl⟩
 refine(qM8 a (by have:=hI.ok.few;omega) (by have:=hI.ok.few;omega) w hI).mono ?_
 rintro e w' ⟨rfl,o',h1,h2,h3⟩
 exact⟨rfl,_,⟨o',h1,rfl⟩,h2,h3.more (fun i hi => .inl hi)⟩
theorem vPutA (hn:n<2^40)(a:Int)(v:Nat)(hv:v<2^32)(h:(vOb base b n wh K).At w0 A G s w) :
  Calls Tryz.prog 81 #[.pointer (some ⟨b,0,none⟩),.int .i64 a,.int .u32 (v:Int)] w fun e w'=>e = .returned (.tuple #[])/\(vOb base b n wh K).At w0 A G (putS n s a v) w'/\Stay G w w':=by
 refine h.call ?_
 rintro B ⟨o,hI,rfl⟩
 refine(qYd a v hv (by have:=hI.ok.few;omega) w hI).mono ?_
 rintro e w' ⟨rfl,o',h1,h2,h3⟩
 exact⟨rfl,_,⟨o',h1,rfl⟩,h2,h3.more (fun i hi => .inl hi)⟩
end
end
end Go.Proofs.YtjjfcaliippgpaaGreatDoor
namespace Go.Proofs.YtjjfcaliippgpaaGreatDoor.HM

theorem bit_eq (x k:Nat):x / 2^k%2=(x.testBit k).toNat:=by
 rw[Nat.testBit_eq_decide_div_mod_eq]
 rcases Nat.mod_two_eq_zero_or_one (x / 2^k) with h|h <;> simp[h]

def getN (w a k:Nat):Nat:=w / 2^a%2^k
def putN (w a k v:Nat):Nat:=(w &&& (2^64-1-(2^k-1)*2^a)) ||| v*2^a

theorem mask_lt (a k:Nat)(h:a+k<=64):(2^k-1)*2^a<2^64:=by
 have h1:(2^k-1)*2^a<2^k*2^a:=(Nat.mul_lt_mul_right (Nat.two_pow_pos a)).2 (by have:=Nat.two_pow_pos k;omega)
 rw[<- Nat.pow_add] at h1
 exact Nat.lt_of_lt_of_le h1 (Nat.pow_le_pow_right qo qo)

theorem bit_putN (w a k v i:Nat)(h:a+k<=64)(hv:v<2^k)(hi:i<64):(putN w a k v).testBit i=if a<=i/\i<a+k then v.testBit (i-a) else w.testBit i:=by
 unfold putN
 rw[Nat.testBit_or,Nat.testBit_and,Nat.sub_sub,Nat.add_comm 1,Nat.testBit_two_pow_sub_succ (mask_lt a k h),Nat.testBit_mul_two_pow,Nat.testBit_mul_two_pow,Nat.testBit_two_pow_sub_one]
 by_cases h1:a<=i
 ·by_cases h2:i<a+k
  ·have h3:i-a<k:=qo
   simp[h1,h2,h3,hi]
  ·have h3:¬ i-a<k:=qo
   have h4:v.testBit (i-a)=false:=Nat.testBit_lt_two_pow (Nat.lt_of_lt_of_le hv (Nat.pow_le_pow_right qo qo))
   simp[h1,h2,h3,h4,hi]
 ·simp[h1,hi]

theorem putN_lt (w a k v:Nat)(h:a+k<=64)(hv:v<2^k):putN w a k v<2^64:=by
 have h1:v*2^a<2^64:=by
  have h2:v*2^a<2^k*2^a:=(Nat.mul_lt_mul_right (Nat.two_pow_pos a)).2 hv
  rw[<- Nat.pow_add] at h2
  exact Nat.lt_of_lt_of_le h2 (Nat.pow_le_pow_right qo qo)
 unfold putN
 refine Nat.or_lt_two_pow (Nat.lt_of_le_of_lt Nat.and_le_right ?_) h1
 have:=Nat.two_pow_pos 64
 omega

theorem bit_high {x i:Nat}(h:x<2^64)(hi:64<=i):x.testBit i=false :=
 Nat.testBit_lt_two_pow (Nat.lt_of_lt_of_le h (Nat.pow_le_pow_right qo hi))

def onesTo (v k:Nat):Nat:=((List.range k).filter fun i=>v.testBit i).length
def freeTo (v k:Nat):List Nat:=(List.range k).filter fun i => !v.testBit i
theorem onesTo_succ (v k:Nat):onesTo v (k+1)=onesTo v k+if v.testBit k then 1 else 0:=by
 unfold onesTo
 rw[List.range_succ,List.filter_append,List.length_append]
 cases h:v.testBit k <;> simp[h]
theorem onesTo_le (v k:Nat):onesTo v k<=k:=by
 unfold onesTo
 exact Nat.le_trans (List.length_filter_le _ _) (by simp)
theorem freeTo_succ (v k:Nat):freeTo v (k+1)=freeTo v k++if v.testBit k then [] else [k]:=by
 unfold freeTo
 rw[List.range_succ,List.filter_append]
 cases h:v.testBit k <;> simp[h]
theorem freeTo_le (v k:Nat):(freeTo v k).length<=k:=by
 unfold freeTo
 exact Nat.le_trans (List.length_filter_le _ _) (by simp)
theorem ones_free (v k:Nat):onesTo v k+(freeTo v k).length=k:=by
 induction k with
 | zero=>rfl
 | succ k ih =>
  rw[onesTo_succ,freeTo_succ,List.length_append]
  cases h:v.testBit k <;> simp <;> omega

def logI (n:Int):Int:=if n<1 then -1 else (Nat.log2 n.toNat:Int)
theorem logI_at (n:Int)(k:Nat)(h1:1<=n / 2^k)(h2:n / 2^(k+1)<1):logI n=k:=by
 have hp:(0:Int)<2^k:=Int.pow_pos qo
 have hn:1<=n:=by
  have h3:=(Int.le_ediv_iff_mul_le hp).1 h1
  omega
 obtain⟨m,rfl⟩:=Int.eq_ofNat_of_zero_le (show 0<=n by omega)
 unfold logI
 rw[if_neg qo,Int.toNat_natCast]
 have h4:2^k<=m:=by
  have h3:=(Int.le_ediv_iff_mul_le hp).1 h1
  rw[Int.one_mul] at h3
  exact_mod_cast h3
 have h5:m<2^(k+1):=by
  have h3:=(Int.ediv_lt_iff_lt_mul (Int.pow_pos qo)).1 h2
  rw[Int.one_mul] at h3
  exact_mod_cast h3
 have:m≠0:=by have:=Nat.two_pow_pos k;omega
 have e:Nat.log2 m=k:=by
  rw[Nat.log2_eq_iff this]
  exact⟨h4,h5⟩
 rw[e]
theorem logI_no (n:Int)(h:n<1):logI n = -1:=by unfold logI;rw[if_pos h]

end Go.Proofs.YtjjfcaliippgpaaGreatDoor.HM

