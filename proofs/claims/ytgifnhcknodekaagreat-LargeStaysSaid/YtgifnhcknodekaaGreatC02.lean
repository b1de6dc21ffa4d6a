/-
  Views: contract of Put.
-/
import Derived.Test.YtgifnhcknodekaaGreatC01
import Derived.Deep.Slices
import Derived.Lib.SmallJoins
import Derived.Deep.RegionHeld3
import Derived.Below
import Derived.Test.YtgifnhcknodekaaGreatCKit
import Derived.WalkKit
import Derived.ProofKit
import Derived.BigQuiet
import Derived.Outline
import Derived.Deep.QuietTactic
namespace Go.Proofs.YtgifnhcknodekaaGreat
theorem Rjo {P Q:Prop}(kq:Q)(h:HQ Q->P:=by
 intro kq
 refine(qTb 0 t 1 16 _).mono ?_
 rintro e w1 ⟨rfl,hb0⟩
 rw[HX0.o]
 have hc1:=hc.keep hb0
 obtain⟨d0,d1,d2,d3,d4,d5,d6,d7,d8,d9,d10,d11⟩:=qID hc1
 revert w1 hb0 hc1 d0 d1 d2 d3 d4 d5 d6 d7 d8 d9 d10 d11
 exact kq.o):P:=h ⟨kq⟩
theorem MVv {P:Prop}(h:P:=by
 have HR:=qh hr
 clear hr
 go_enter Tryz.func152,Tryz.ntmps152
 go_wp2_with fail
 refine(qOU t p s _).mono ?_
 rintro e w1 ⟨rfl,hb1⟩
 go_wp2_with fail
 refine(qDe t p s _ _ (Held.new w1 _ _)).mono ?_
 rintro e w2 ⟨rfl,hb2⟩
 rw[HR.o]
 go_wp2
 go_ret
 exact⟨by rw[HK.o];rfl,Bgo (Bnew (Bgo (Bnew (B0 _) _) hb1) _) hb2⟩):P:=h
theorem M4N {P:Prop}(h:P:=by
 go_enter Tryz.func158,Tryz.ntmps158
 go_wp2_with fail
 refine(qXH t p s g _ hc).mono ?_
 rintro e w1 ⟨rfl,hb⟩
 rw[HK.o]
 go_wp2
 go_ret
 exact⟨by first|rfl|trivial,hb⟩):P:=h
theorem Mpd {P:Prop}(h:P:=by
 have H:=qh (qS8 (t:=t) (p:=p) (s:=s) qo)
 exact MoO):P:=h
theorem MV6 {P:Prop}(h:P:=by
 have H:=qh (qDV (a:=a) (k:=k) qo)
 exact M0u):P:=h
theorem Mem {P:Prop}(h:P:=by
 rintro e w2 ⟨b,o,rfl,hI,_,hA,hb2⟩
 have HI:=qh hI
 have HB2:=qh hb2
 clear hI hb2
 go_wp2
 go_ret
 exact⟨b,o,rfl,HI.o,Bgo HB.o HB2.o⟩):P:=h
theorem MoO {P:Prop}(h:P:=by
 go_enter Tryz.func55,Tryz.ntmps55
 go_wp2
 go_ret
 exact⟨by rw[H.o];rfl,Bnew (B0 _) _⟩):P:=h
theorem Ms9 {P:Prop}(h:P:=by
 go_enter Tryz.func157,Tryz.ntmps157
 go_wp2
 go_ret
 exact⟨by rw[H.o];rfl,Bnew (B0 _) _⟩):P:=h
theorem MRH {P:Prop}(h:P:=by
 unfold rightB at h
 unfold idxI
 cases h0:outB t 1 16 <;> cases h1:outB p 4 1024 <;> cases h2:outB s 10 20 <;> simp_all):P:=h
theorem M0u {P:Prop}(h:P:=by
 go_enter Tryz.func143,Tryz.ntmps143
 go_wp2
 go_ret
 exact⟨by rw[H.o];rfl,rfl⟩):P:=h
end Go.Proofs.YtgifnhcknodekaaGreat
set_option linter.unusedVariables false
set_option linter.unusedSimpArgs false
set_option maxRecDepth 100000
set_option maxHeartbeats 25600000
namespace Go.Proofs.YtgifnhcknodekaaGreat
open Go.ChangeShapes Go.WideShapes Go.ChangeAt Go.RowKit Go.Maps
section
theorem qWZ {base b n:Nat}{wh:Bool}{o:VGeo}{K:Nat->Option Nat}{s:Vst}(a:Int)(v:Int)(ho:opn n s a=false)(w:World)(h:IsView w base b n wh o K s) :
  Calls Tryz.prog 74 #[.pointer (some ⟨b,0,none⟩),.int .i64 a,.int .u32 v] w fun e w'=>e = .returned (.tuple #[])/\w'=w:=by
 have HH:=qh h
 have HO:=qh ho
 clear h ho
 go_enter Tryz.func74,Tryz.ntmps74
 go_wp2_with fail
 refine(qEY a _ HH.o).mono ?_
 rintro e w1 ⟨rfl,rfl⟩
 rw[HO.o]
 go_wp2
 (try simp only[Exit.inBlock,Exit.then])
 refine bodyPost_ret (results_none rfl _ _ _) rfl ?_
 exact⟨rfl,rfl⟩

theorem qAO {s:Vst}{k v i:Nat}(hk:k<s.wr.length)(hc:cellW s.wr k=i):∀ j,j<2->updF (vX s) 1 ((vX s 1).set (k*2+1) (.int .u32 (v:Int))) j=vX { s with wr:=s.wr.set k (i,v) } j:=fun j hj=>by
 match j,hj with
 | 0,_=>simp[updF,vX]
 | 1,_ =>
  rw[qJN]
  show (prVs s.wr).set (k*2+1) (.int .u32 (v:Int))=prVs (s.wr.set k (i,v))
  rw[qCo _ _ _ hk,hc]
theorem qYv {s:Vst}{k v i:Nat}:∀ j,j<2->vN s j=vN { s with wr:=s.wr.set k (i,v) } j:=fun j hj=>by
 match j,hj with
 | 0,_=>simp[vN]
 | 1,_=>simp[vN]

theorem qSS {base b n:Nat}{wh:Bool}{o:VGeo}{K:Nat->Option Nat}{s:Vst}(i k v:Nat)(ho:opn n s (i:Int)=true)(hk:pos s.wr i=some k)(hi:i<n)(hv32:v<2^32)(hlim:s.wr.length<2^40)(w:World)(h:IsView w base b n wh o K s) :
    Calls Tryz.prog 74 #[.pointer (some ⟨b,0,none⟩),.int .i64 (i:Int),.int .u32 (v:Int)] w fun e w'=>e = .returned (.tuple #[])/\Left11 w base b n wh o K (putS n s (i:Int) v) w':=by
  have hn:=h.nmax
  have hkl:=(qG9 hk).1
  obtain⟨c0,c1,c2,c3,c4,c5,c6,c7⟩:=h.cells
  obtain⟨kk,D,e1,hown,hD⟩:=h.wvm
  obtain⟨g,cap,hv,_,_⟩:=h.wrow.form qo
  have hr:=h.wrow
  rw[hv] at hr c4
  have d0:w.cell? ⟨g,k*2+1,none⟩=some (.int .u32 ((atW s.wr k:Nat):Int)):=(hr.cellAt _ qo).trans (qNC s.wr k hkl).2
  have f0:=hr.frozenAt (k*2+1)
  have hcap:s.wr.length<=cap/\cap<=maxLen:=by
    exact Mny
  obtain⟨hc1,hc2⟩:=hcap
  unfold maxLen at hc2
  have hkey:=qRS (c:=(i:Int)) (qEt qo)
  have HH:=qh h
  have HO:=qh ho
  have HK:=qh hk
  have HV:=qh hv
  have HV32:=qh hv32
  have HM:qH (Maps.has D (kInt (i:Int))=true):=qh (by rw[hD.has];simp[hk])
  have HA:qH (∀ c:Int,D.atKey (kInt (i:Int)) (.lit (.int .i64 0)) = .lit (.int .i64 c)->c=k):=qh (fun c hc=>by
    rw[hD.at_ i k hk] at hc
    injection hc with hc
    injection hc with _ hc
    exact hc.symm)
  have HW:=qh hown
  generalize atW s.wr k=x at *
  obtain⟨m,hm⟩:∃ m,s.wr.length=m:=⟨_,rfl⟩
  have HMM:=qh hm
  rw[hm] at c4 hkl hlim hc1
  clear h ho hk hr hv hD c1 c2 c3 hown hm hv32 e1
  go_enter Tryz.func74,Tryz.ntmps74
  go_wp2_with fail
  refine(qEY (i:Int) _ HH.o).mono ?_
  rintro e w1 ⟨rfl,rfl⟩
  rw[HO.o]
  go_wp2_with (first
    | (at_lookup;refine wpList_lookup_own_ok_int _ rfl _ _ 81 rfl 3 3 .i64 qDt Tryz.underlying81 Tryz.underlying3 (zeroInt _) o.m2 kk D rfl HW.o _ _ rfl hkey ?_
       intro c hat hwc
       obtain rfl:c=(k:Int):=HA.o c hat
       rw[HM.o]
       clear hat hwc)
    | go_in)
  go_end0
  obtain⟨k1,D1,k2,D2,e1,e2,e3,e4,hp⟩:=HH.o.parts
  have hkl':k<s.wr.length:=by rw[HMM.o];exact hkl
  obtain⟨hp1,ht1⟩:=hp.store (i:=1) (g:=g) (cap:=cap) qo HV.o (k*2+1) (.int .u32 (v:Int))
  have hok:=HH.o.ok.put (a:=(i:Int)) HV32.o
  rw[qPT HO.o,qRW HK.o] at hok ⊢
  exact⟨rfl,o,{ parts:=⟨k1,D1,k2,D2,e1,by simp;omega,e3,e4.congr (fun j=>by
                     have:=qYT s.wr k v j
                     rw[(qG9 HK.o).2] at this
                     exact this.symm),{ hp1 with own:=hp1.own.congr qYv (qAO hkl' (qG9 HK.o).2) }⟩,ok:=hok,nmax:=hn,k32:=HH.o.k32 },fun g hg => .inl hg,ht1⟩

theorem qOv (s:Vst)(i v:Nat):∀ j,j<2->updF (vN s) 1 (s.wr.length+1) j=vN { s with wr:=s.wr ++ [(i,v)] } j:=fun j hj=>by
 match j,hj with
 | 0,_=>simp[updF,vN]
 | 1,_=>simp[updF,vN]
theorem qC0 (s:Vst)(i v:Nat):∀ j,j<2->updF (updF (vX s) 1 (prVs s.wr ++ [Value.int .i64 (i:Int),Value.int .u32 0])) 1 ((updF (vX s) 1 (prVs s.wr ++ [Value.int .i64 (i:Int),Value.int .u32 0]) 1).set (s.wr.length*2+1) (.int .u32 (v:Int))) j=vX { s with wr:=s.wr ++ [(i,v)] } j:=fun j hj=>by
 match j,hj with
 | 0,_=>simp[updF,vX]
 | 1,_ =>
  rw[qJN,qJN]
  show (prVs s.wr ++ [Value.int .i64 (i:Int),Value.int .u32 0]).set (s.wr.length*2+1) (.int .u32 (v:Int))=prVs (s.wr ++ [(i,v)])
  have hl:=qUS s.wr
  rw[qEZ,List.set_append_right _ _ qo,hl]
  simp

theorem qVb {base b n:Nat}{wh:Bool}{o:VGeo}{K:Nat->Option Nat}{s:Vst}(i v:Nat)(ho:opn n s (i:Int)=true)(hk:pos s.wr i=none)(hi:i<n)(hv32:v<2^32)(hlim:s.wr.length<2^40)(w:World)(h:IsView w base b n wh o K s) :
    Calls Tryz.prog 74 #[.pointer (some ⟨b,0,none⟩),.int .i64 (i:Int),.int .u32 (v:Int)] w fun e w'=>e = .returned (.tuple #[])/\Left11 w base b n wh o K (putS n s (i:Int) v) w':=by
  have hn:=h.nmax
  obtain⟨c0,c1,c2,c3,c4,c5,c6,c7⟩:=h.cells
  obtain⟨k1,D1,kk,D,e1,e2,e3,hD,hp⟩:=h.parts
  obtain⟨A,cap,hv⟩:=qKK h.wrow
  rw[hv] at c4
  obtain⟨i0,hin,hz0,hz1,hz2⟩:=info_parts pairInfo
  have hkey:=qRS (c:=(i:Int)) (qEt qo)
  have HH:=qh h
  have HO:=qh ho
  have HK:=qh hk
  have HV:=qh hv
  have HV32:=qh hv32
  have HM:qH (Maps.has D (kInt (i:Int))=false):=qh (by rw[hD.has];simp[hk])
  have HP:=qh hp
  have HD:=qh (hD.put i s.wr.length)
  have HS:=qh e3
  have HE1:=qh e1
  have hbl:=hp.head.lt
  obtain⟨m,hm⟩:∃ m,s.wr.length=m:=⟨_,rfl⟩
  have HMM:=qh hm
  rw[hm] at c4 hlim HD e2
  clear h ho hk hv hD c1 c2 c3 hp hm hv32 e1 e3
  go_enter Tryz.func74,Tryz.ntmps74
  go_wp2_with fail
  refine(qEY (i:Int) _ HH.o).mono ?_
  rintro e w1 ⟨rfl,rfl⟩
  rw[HO.o]
  go_wp2_with (first
    | (at_lookup;refine wpList_lookup_own_ok_int _ rfl _ _ 81 rfl 3 3 .i64 qDt Tryz.underlying81 Tryz.underlying3 (zeroInt _) o.m2 kk D rfl HP.o.m2 _ _ rfl hkey ?_
       intro c hat hwc
       rw[HM.o]
       clear hat hwc)
    | (at_mapUpdate;refine wpList_mapUpdate_own _ rfl _ _ _ 81 rfl 3 3 qDt Tryz.underlying81 _ o.m2 kk D rfl HP.o.m2 (by unfold maxLen;omega) _ _ _ rfl rfl hkey _ [] (plainElem_int Tryz.underlying3 (qEt qo)) ?_
       intro w2 hown1 hgrow1
       obtain⟨hp2,ht2⟩:=HP.o.map2 hgrow1 hown1
       have c4':w2.cell? ⟨b,4,none⟩=some (.slice A m cap):=(hp2.head.cell 4).trans (by rw[<- HMM.o,<- HV.o];rfl)
       have HP2:=qh hp2
       have HT2:=qh ht2
       have hbl2:=hp2.head.lt
       clear hp2 ht2 hown1 hgrow1)
    | (at_builtin
       refine wpList_append_lies _ rfl _ _ 39 rfl base 86 i0 (.agg #[.int .i64 0,.int .u32 0]) 2 16 Tryz.underlying39 hin hz0 hz1 hz2 rfl (by decide) (.slice A m cap) m (prVs s.wr) rfl ?c0 ⟨_,0,none⟩ 1 1 [.int .i64 (i:Int),.int .u32 0] rfl rfl ?c1 ?c2 qo ?c3 ?c4 ?c5 _ rfl ?_
       case c0 =>
         have:=HP2.o.own.own 1 qo
         rw[HV.o] at this
         have:=this.alloc (.cells #[.int .i64 (i:Int),.int .u32 0] 86)
         rw[<- HMM.o]
         exact this
       case c1=>intro j y hy;rcases j with _|_|j;(· simp at hy;subst hy;simp[Addr.add]);(· simp at hy;subst hy;simp[Addr.add]);(· simp at hy)
       case c2=>simp[Value.oneCell']
       case c3=>unfold maxLen;omega
       case c4=>omega
       case c5=>have:=HP2.o.bb;have:=HP2.o.head.lt;simp;omega
       intro g cap w4 hown4 hgrow4 hat4 hlt4
       obtain⟨hp4,hA4,hT4⟩:=(HP2.o.keep (Bnew (B0 _) (.cells #[.int .i64 (i:Int),.int .u32 0] 86))).grow (i:=1) qo hown4 (by rw[HV.o,HMM.o];exact hgrow4) (fun q hq=>by
         have hq:g=q:=by simpa [Value.ownBlock] using hq
         subst hq
         rcases hat4 with h1|h1
         · left;rw[HV.o,HMM.o];exact h1
         · right;rw[h1];exact Nat.le_refl _)
       have c4'':w4.cell? ⟨b,4,none⟩=some (.slice A m _):=(hp4.head.cell 4).trans (by rw[<- HMM.o,<- HV.o];rfl)
       have f4:=hp4.head.thawed 4
       have d4:w4.cell? ⟨g,m*2+1,none⟩=some (.int .u32 0):=(hown4.cellAt _ qo).trans (by
         rw[List.getElem?_append_right (by rw[qUS,HMM.o];omega),qUS,HMM.o]
         simp)
       have f5:=hown4.frozenAt (m*2+1)
       have hgb:¬ g=b:=fun e=>hp4.own.notb 1 qo (by rw[e];rfl)
       have hbg:¬ b=g:=fun e=>hgb e.symm
       have HG:qH (o.F b g\/w1.heap.size<=g):=qh (by
         rcases hat4 with h1|h1
         · left;exact .inl (.inr ⟨1,qo,by rw[HV.o,HMM.o];exact h1⟩)
         · right;have:=HT2.o.size;simp at h1;omega)
       have HP4:=qh hp4
       have HA4:=qh hA4
       have HT4:=qh (HT2.o.trans (((T0 (o.F b) w2).alloc (.cells #[.int .i64 (i:Int),.int .u32 0] 86)).trans hT4))
       clear hp4 hA4 hT4 hown4 hgrow4 hat4)
    | go_in)
  go_end0
  obtain⟨hp5,ht5⟩:=HP4.o.setHead 4 (.slice (some ⟨g,0,none⟩) (m+1) cap)
  obtain⟨hp6,ht6⟩:=hp5.store (i:=1) (g:=g) (cap:=cap) qo rfl (m*2+1) (.int .u32 (v:Int))
  have hok:=HH.o.ok.put (a:=(i:Int)) HV32.o
  rw[qPT HO.o,qWB HK.o] at hok ⊢
  have hT5:=HT4.o.put (p:=⟨b,4,none⟩) (.inl (.inl rfl)) (.slice (some ⟨g,0,none⟩) (m+1) cap)
  refine⟨rfl,{ o with v:=updF o.v 1 (.slice (some ⟨g,0,none⟩) (m+1) cap) },{ parts:=⟨k1,D1,kk+1,_,HE1.o,by simp;have:=HMM.o;omega,HS.o,HD.o.congr (fun j=>?_),{ hp6 with own:=hp6.own.congr ?_ ?_ }⟩,ok:=hok,nmax:=hn,k32:=HH.o.k32 },fun q hq=>?_,?_⟩
  · have:=qFh v HK.o j
    rw[HMM.o] at this
    rw[this]
    unfold updF
    split <;> rfl
  · rw[<- HMM.o]
    exact qOv s i v
  · rw[<- HMM.o]
    exact qC0 s i v
  ·exact MU7
  · rcases HG.o with h1|h1
    · exact hT5.put (p:=⟨g,m*2+1,none⟩) h1 _
    · exact hT5.put_new (p:=⟨g,m*2+1,none⟩) h1 _

theorem qYd {base b n:Nat}{wh:Bool}{o:VGeo}{K:Nat->Option Nat}{s:Vst}(a:Int)(v:Nat)(hv32:v<2^32)(h2:s.wr.length<2^40)(w:World)(h:IsView w base b n wh o K s) :
  Calls Tryz.prog 74 #[.pointer (some ⟨b,0,none⟩),.int .i64 a,.int .u32 (v:Int)] w fun e w'=>e = .returned (.tuple #[])/\Left11 w base b n wh o K (putS n s a v) w':=by
 by_cases ho:opn n s a=true
 ·obtain⟨i,rfl,hi,hl⟩:=qAh ho
  cases hp:pos s.wr i with
  | some k=>exact qSS i k v ho hp hi hv32 h2 w h
  | none=>exact qVb i v ho hp hi hv32 h2 w h
 ·have ho:opn n s a=false:=by simpa using ho
  rw[qRG ho]
  refine(qWZ a _ ho w h).mono ?_
  rintro e w1 ⟨rfl,rfl⟩
  exact⟨rfl,Left11.same h⟩
end
section
structure PairV where
 cell:Int
 val:Nat
instance:Inhabited PairV:=⟨⟨0,0⟩⟩
def PairV.cells (a:PairV):List Value := [.int .i64 a.cell,.int .u32 (a.val:Int)]
def PairVs (w:World) (A:Option Addr) (l:List PairV):Prop :=
 ∀ i a,l[i]?=some a->∃ ad,A=some ad/\ad.block<w.heap.size/\∀ j u,a.cells[j]?=some u->w.cell? (ad.add (i*2+j))=some u
theorem PairVs.below {w w':World}{A:Option Addr}{l:List PairV}(h:PairVs w A l)(hb:Below w.heap.size w w'):PairVs w' A l:=fun i a ha=>by
 obtain⟨ad,e,h1,h2⟩:=h i a ha
 exact⟨ad,e,Nat.lt_of_lt_of_le h1 hb.size,fun j u hu=>(hb.cell (p:=ad.add (i*2+j)) (by rw[qXL];exact h1)).trans (h2 j u hu)⟩
def PairVAt (w:World) (p:Addr) (a:PairV):Prop :=
 w.cell? p=some (.int .i64 a.cell)/\w.cell? ⟨p.block,p.off+1,none⟩=some (.int .u32 (a.val:Int))
theorem qDb (p:Addr)(j:Nat)(h:j≠0):p.add j=⟨p.block,p.off+j,none⟩:=by unfold Addr.add;rw[if_neg h]
theorem PairVs.cells {w:World}{ad:Addr}{l:List PairV}(h:PairVs w (some ad) l){i:Nat}{a:PairV}(ha:l[i]?=some a):PairVAt w (ad.add (i*2)) a:=by
 obtain⟨ad',e,_,h2⟩:=h i a ha
 injection e with e
 subst e
 have h10:=h2 0 _ rfl
 have h11:=h2 1 _ rfl
 rw[<- qUN] at h10 h11
 rw[qDb _ _ qo] at h11
 exact⟨h10,h11⟩

section
variable {H : Type} {enc : TypeId × Value -> H} {w : World} {base : Nat} {sp : Nat -> Bool} {held : Bool}
end
end
section
theorem qC9 {w:World}{base size n c:Nat}{e:TypeId}{A:Option Addr}{xs:List Value}(h:w.ownsRow base e size (.slice A n c) n xs) :
  0<n->∃ ad,A=some ad/\∀ j u,xs[j]?=some u->w.cell? (ad.add j)=some u:=fun hn=>by
 obtain⟨ad,e1,_,h2⟩:=(Reads.of_own h).2 hn
 exact⟨ad,e1,h2⟩
theorem qW6 (l:List (Nat × Nat)):∀ u∈prVs l,u.oneCell'=true:=fun u hu=>by
 obtain⟨x,_,hx⟩:=List.mem_flatMap.1 hu
 simp at hx
 rcases hx with rfl|rfl <;> rfl

theorem qD3 {base b n:Nat}{wh:Bool}{o:VGeo}{K:Nat->Option Nat}{s:Vst}(hlim:s.wr.length<2^40)(w:World)(h:IsView w base b n wh o K s) :
  Calls Tryz.prog 15 #[.pointer (some ⟨b,0,none⟩)] w fun e w'=>∃ v,e = .returned v/\w'.ownsRow w.heap.size 86 2 v s.wr.length (prVs s.wr)/\Below w.heap.size w w':=by
 obtain⟨A,cap,hv⟩:=qKK h.wrow
 have hr:=h.wrow
 have c4:=h.cells.2.2.2.2.1
 rw[hv] at hr c4
 have HR:=qh hr
 clear h hr hv
 go_enter Tryz.func15,Tryz.ntmps15
 go_wp2_with fail
 refine(qSl A s.wr.length cap (prVs s.wr) (qUS _) qo (qW6 _) _ (qC9 HR.o)).mono ?_
 rintro e w1 ⟨v,rfl,ho,_,hb⟩
 have HO:=qh ho
 have HB:=qh hb
 clear ho hb
 go_wp2
 go_ret
 exact⟨v,rfl,HO.o,HB.o⟩

theorem of_c (base n sb:Nat)(wh:Bool)(T:TypeId)(u:Value)(K:Nat->Option Nat)(hn:n<=2^40)(h32:∀ i x,K i=some x->x<2^32)(w:World)
  (hsb:base<=w.heap.size/\base<=sb/\(sb<w.heap.size\/(wh=true/\n=0/\sb=w.heap.size+2))) (hs:∀ m1 m2 v,SrcIs w wh n ⟨m1,m2,sb,.iface T u,v⟩ K) :
  Calls Tryz.prog 29 #[.int .i64 (n:Int),.iface T u] w fun e w'=>∃ (b:Nat) (o:VGeo),e = .returned (.pointer (some ⟨b,0,none⟩))/\IsView w' base b n wh o K freshS/\w.heap.size<=b/\(∀ g,o.A b g->w.heap.size<=g\/g=sb)/\Below w.heap.size w w':=by
 have hmm:=@run_makeMap Tryz.prog
 have HS:=qh hs
 have HSB:=qh hsb
 have H32:=qh h32
 clear hs hsb h32
 go_enter Tryz.func29,Tryz.ntmps29
 go_wp2
 go_ret
 have hB1:=Bnew (B0 w) (.map #[] 0)
 have hB2:=Bnew hB1 (.map #[] 0)
 have hB3:=Bnew hB2 (.cells #[.int .i64 (n:Int),.iface T u,.slice none 0 0,.map (some w.heap.size),.slice none 0 0,.map (some (w.heap.size+1)),.bool false,.int .i64 0] 83)
 have hz1:(w.alloc (.map #[] 0)).heap.size=w.heap.size+1:=by simp
 have hz2:((w.alloc (.map #[] 0)).alloc (.map #[] 0)).heap.size=w.heap.size+2:=by simp
 have hm1:=(((World.ownsMap_made w Tryz.prog 3 (unitElem (H:=Unit))).alloc (.map #[] 0)).alloc (.cells #[.int .i64 (n:Int),.iface T u,.slice none 0 0,.map (some w.heap.size),.slice none 0 0,.map (some (w.heap.size+1)),.bool false,.int .i64 0] 83))
 have hm2:=(World.ownsMap_made (w.alloc (.map #[] 0)) Tryz.prog 3 (plainElem (H:=Unit) Tryz.prog 3)).alloc (.cells #[.int .i64 (n:Int),.iface T u,.slice none 0 0,.map (some w.heap.size),.slice none 0 0,.map (some (w.heap.size+1)),.bool false,.int .i64 0] 83)
 have hh:=Held.new ((w.alloc (.map #[] 0)).alloc (.map #[] 0)) 83 #[.int .i64 (n:Int),.iface T u,.slice none 0 0,.map (some w.heap.size),.slice none 0 0,.map (some (w.heap.size+1)),.bool false,.int .i64 0]
 rw[hz1] at hm2
 rw[hz2] at hh
 obtain⟨q1,q2,q3⟩:=HSB.o
 have hF:¬ ∃ i,i<2/\(Value.slice none 0 0).ownBlock=some sb:=by
  rintro ⟨i,_,h⟩
  simp[Value.ownBlock] at h
 have hsz:=hh.lt
 refine⟨w.heap.size+2,⟨w.heap.size,w.heap.size+1,sb,.iface T u,fun _ => .slice none 0 0⟩,rfl,{ parts:=⟨0,_,0,_,Nat.zero_le _,Nat.zero_le _,SetIs.none,NumIs.none _,?_⟩,ok:=VOk.fresh n,nmax:=hn,k32:=H32.o },qo,?_,hB3⟩
 ·refine { head:=hh,own:=(OwnAll.nil _ base _ 2 vE vSz).congr (fun i hi=>?_) (fun i hi=>?_),m1:=hm1,m2:=hm2,src:=?_,bb:=by omega,b1:=q1,b2:=Nat.le_succ_of_le q1,bs:=q2,slt:=by show sb<_;rcases q3 with h|⟨_,_,h⟩ <;> (simp;omega),mm:=by simp,s1:=by show sb≠w.heap.size;rcases q3 with h|⟨_,_,h⟩ <;> omega,s2:=by show sb≠w.heap.size+1;rcases q3 with h|⟨_,_,h⟩ <;> omega,sF:=?_ }
  ·unfold vN freshS;split <;> rfl
  ·unfold vX freshS;split <;> rfl
  ·rcases q3 with h|⟨rfl,rfl,h⟩
   ·exact(HS.o w.heap.size (w.heap.size+1) (fun _ => .slice none 0 0)).same (hB3.block _ h) rfl rfl
   ·obtain⟨A,c,e1,e2,e3,e4,e5⟩:=(HS.o 0 0 (fun _ => .slice none 0 0)).list
    exact⟨A,c,e1,e2,e3,e4,fun hn=>by omega⟩
  ·rcases q3 with h|⟨h1,h2,h⟩
   ·refine .inr ?_
    rintro (h1|h1)
    ·have h1:sb=w.heap.size+2:=h1
     omega
    ·exact hF h1
   ·exact .inl ⟨h1,h2⟩
 ·rintro g (((h|⟨i,hi,h⟩)|h|h)|h)
  ·left;have h:g=w.heap.size+2:=h;omega
  ·simp[Value.ownBlock] at h
  ·left;have h:g=w.heap.size:=h;omega
  ·left;have h:g=w.heap.size+1:=h;omega
  ·right;exact h

def valVs (l:List Nat):List Value:=l.map fun (n:Nat)=>Value.int .u32 (n:Int)
theorem qFT (l:List Nat):valVs l=(List.range l.length).map (valF fun i=>(l[i]?).getD 0):=by
 apply List.ext_getElem?
 intro i
 unfold valVs valF
 rw[List.getElem?_map,List.getElem?_map]
 rcases Nat.lt_or_ge i l.length with h|h
 ·rw[List.getElem?_range h,List.getElem?_eq_getElem h]
  simp[h]
 ·rw[List.getElem?_eq_none h,List.getElem?_eq_none (by simpa using h)]
  rfl
theorem qNI (l:List Nat):∀ u∈valVs l,u.oneCell'=true:=fun u hu=>by
 obtain⟨x,_,rfl⟩:=List.mem_map.1 hu
 rfl
def qR5 (n:Nat) (wh:Bool) (K:Nat->Option Nat) (w:World) (e:Ending) (w':World):Prop :=
 ∃ (b:Nat) (o:VGeo),e = .returned (.pointer (some ⟨b,0,none⟩))/\IsView w' w.heap.size b n wh o K freshS/\Below w.heap.size w w'

theorem qWm (A:Option Addr)(c:Nat)(vals:List Nat)(n:Nat)(hl:vals.length=n)(hmx:n<=2^40)(h32:∀ x∈vals,x<2^32)(w:World)
  (hA:0<n->∃ ad,A=some ad/\∀ j u,(valVs vals)[j]?=some u->w.cell? (ad.add j)=some u) :
  Calls Tryz.prog 9 #[.slice A n c] w (qR5 n true (fun i=>vals[i]?) w):=by
 have HA:=qh hA
 have HL:=qh hl
 have H32:qH (∀ i x,vals[i]?=some x->x<2^32):=qh (fun i x h=>h32 x (List.mem_of_getElem? h))
 have HS:qH (∀ i,i<n->∃ x,vals[i]?=some x/\x<2^32):=qh (fun i hi=>⟨vals[i],List.getElem?_eq_getElem qo,h32 _ (List.getElem_mem _)⟩)
 clear hA hl h32
 go_enter Tryz.func9,Tryz.ntmps9
 go_wp2_with fail
 refine(qL7 A n c (valVs vals) (by have:=HL.o;simp[valVs];omega) qo (qNI _) _ HA.o).mono ?_
 rintro e w1 ⟨v,rfl,ho,_,hb⟩
 have HB:=qh hb
 rcases ho.2 with ⟨rfl,hz⟩|⟨g,cap,cur,rfl,hbg,hg,hnc,hcm,hcs,htake⟩
 ·subst hz
  clear ho hb
  go_wp2_with fail
  refine(of_c w.heap.size 0 (w1.heap.size+2) true 67 (.slice none 0 0) (fun i=>vals[i]?) qo H32.o _ ⟨HB.o.size,by have:=HB.o.size;omega,.inr ⟨rfl,rfl,rfl⟩⟩ (fun m1 m2 v=>⟨none,0,rfl,Nat.le_refl _,Nat.zero_le _,HS.o,fun h=>by omega⟩)).mono ?_
  exact Mem
 ·have hgl:=(ho.lt g rfl).2
  have hr:RowF w1 g 57 n cap (valF fun i=>(vals[i]?).getD 0):=by
   rw[qFT,HL.o] at ho
   exact(RowF.of_own ho).2
  have HR:=qh hr
  clear ho hb hg hcs htake hr
  go_wp2_with fail
  refine(of_c w.heap.size n g true 67 (.slice (some ⟨g,0,none⟩) n cap) (fun i=>vals[i]?) hmx H32.o _ ⟨HB.o.size,hbg,.inl hgl⟩ (fun m1 m2 v=>⟨_,cap,rfl,hnc,hcm,HS.o,fun h=>⟨rfl,HR.o⟩⟩)).mono ?_
  exact Mem
end
section
def toPV (l:List (Nat × Nat)):List PairV:=l.map fun p=>⟨(p.1:Int),p.2⟩
theorem qKw {l:List (Nat × Nat)}{k:Nat}(h:k<l.length):(toPV l)[k]?=some ⟨(cellW l k:Int),atW l k⟩:=by
 unfold toPV
 rw[List.getElem?_map,List.getElem?_eq_getElem h]
 simp[cellW,atW,List.getD,List.getElem?_eq_getElem h]
theorem qIc {w:World}{base m cap:Nat}{B:Option Addr}{l:List (Nat × Nat)}(h:w.ownsRow base 86 2 (.slice B m cap) m (prVs l))(hl:l.length=m):PairVs w B (toPV l):=fun i a ha=>by
 have hi:i<l.length:=by
  rcases Nat.lt_or_ge i l.length with h1|h1
  ·exact h1
  ·rw[List.getElem?_eq_none (by simpa [toPV] using h1)] at ha;cases ha
 rw[qKw hi] at ha
 injection ha with ha
 subst ha
 obtain⟨ad,e1,e2,e3⟩:=(Reads.of_own h).2 qo
 obtain⟨p1,p2⟩:=qNC l i hi
 refine⟨ad,e1,e2,fun j u hu=>?_⟩
 unfold PairV.cells at hu
 rcases j with _|_|j
 ·simp at hu;subst hu;exact e3 _ _ p1
 ·simp at hu;subst hu;exact e3 _ _ p2
 ·simp at hu

theorem qLY (f:Nat->Nat)(i v j:Nat):updF (valF f) i (.int .u32 (v:Int)) j=valF (updF f i v) j:=by
 by_cases e:j=i
 ·subst e;simp[valF,qJN]
 ·simp[valF,qR2 _ _ e]
theorem qNY {w:World}{base size n c m:Nat}{e:TypeId}{A:Option Addr}{xs:List Value}(h:w.ownsRow base e size (.slice A n c) m xs):m<=c/\c<=maxLen:=by
 rcases h.2 with ⟨h1,h2⟩|⟨g',cap',cur,h1,_,_,h2,h3,_⟩
 ·injection h1 with _ _ h1;subst h1;omega
 ·injection h1 with _ _ h1;subst h1;exact⟨h2,h3⟩

theorem qXd (A B:Option Addr)(n c m cap:Nat)(f:Nat->Nat)(wl:List (Nat × Nat))(hn:0<n)(hmx:n<=2^40)(hl:wl.length=m)(hmc:m<=cap)(hcap:cap<=maxLen)(hlt:∀ p∈wl,p.1<n)(w:World)
  (hA:0<n->∃ ad,A=some ad/\∀ j u,((List.range n).map (valF f))[j]?=some u->w.cell? (ad.add j)=some u) (hB:PairVs w B (toPV wl)) :
  Calls Tryz.prog 175 #[.slice A n c,.slice B m cap] w fun e w'=>∃ g cp,e = .returned (.slice (some ⟨g,0,none⟩) n cp)/\w.heap.size<=g/\RowF w' g 57 n cp (valF (foldW f wl))/\Below w.heap.size w w':=by
 have HB:=qh hB
 have HL:=qh hl
 have HLT:=qh hlt
 unfold maxLen at hcap
 have hone:∀ u∈(List.range n).map (valF f),u.oneCell'=true:=fun u hu=>by
  obtain⟨j,_,rfl⟩:=List.mem_map.1 hu
  rfl
 have HCL:=qh (qS7 A n c ((List.range n).map (valF f)) (by simp) qo hone w hA)
 clear hA hB hl hlt hone
 go_enter Tryz.func175,Tryz.ntmps175
 go_wp2_with fail
 refine HCL.o.mono ?_
 rintro e w1 ⟨v,rfl,ho,_,hb⟩
 obtain⟨g,cp,rfl,hg,_⟩:=ho.form hn
 have HR:=qh (RowF.of_own ho).2
 have HB1:=qh hb
 have hcp:=(RowF.of_own ho).2.max
 have hncp:=(RowF.of_own ho).2.le
 unfold maxLen at hcp
 clear ho hb HCL
 go_wp2_with fail
 go_loopw [7,12] (fun _ i wr=>∃ k:Nat,k<=m/\i = .int .i64 k/\qH (RowF wr g 57 n cp (valF (foldW f (wl.take k))))/\qH (Below w.heap.size w wr)) (fun _ i _=>m-(intOf i).toNat)
 case atStart=>exact⟨0,qo,rfl,HR,HB1⟩
 case round =>
  clear HR HB1
  obtain⟨k,hk,rfl,HR,HB1⟩:=hrel
  by_cases hlt:k<m
  ·have hkl:k<wl.length:=by rw[HL.o];exact hlt
   have hp:=qKw hkl
   obtain⟨ad,rfl,hadb,_⟩:=HB.o k _ hp
   obtain⟨x0,x1⟩:=(HB.o.below HB1.o).cells hp
   simp only at x0 x1
   have hcn:cellW wl k<n:=by
    have:=HLT.o wl[k] (List.getElem_mem _)
    simpa [cellW,List.getD,List.getElem?_eq_getElem hkl] using this
   have HF:=qh (qPM (f:=f) hkl)
   have d0:=HR.o.cell hcn
   have f0:=HR.o.thawed (cellW wl k)
   have hgl:=HR.o.lt
   have hab:(ad.add (k*2)).block<wr.heap.size:=by rw[qXL];have:=HB1.o.size;omega
   unfold valF at d0
   clear hp hkl
   generalize cellW wl k=i at *
   generalize atW wl k=x at *
   generalize foldW f (wl.take k) i=y at *
   go_wp2
   go_roundw
   case rel=>exact⟨k+1,qo,by go_num,qh (by
     rw[HF.o]
     refine((HR.o.put hcn _).congr (fun j _=>?_)).keep (Bnew (B0 _) _)
     exact qLY _ _ _ j),qh (Bnew (Bput HB1.o (p:=⟨g,i,none⟩) hg _) _)⟩
   case measure=>simp[intOf];omega
  ·obtain rfl:k=m:=qo
   have HKL:qH (wl.take k=wl):=qh (List.take_of_length_le (by have:=HL.o;omega))
   go_wp2
   go_ret
   exact⟨g,cp,rfl,hg,by have:=HR.o;rwa [HKL.o] at this,HB1.o⟩

theorem qOW (A : Option Addr) (n c : Nat) (w : World) : (method 291 67 (.slice A n c) "nacre/view.behind").run Tryz.prog w = .ok (175, .slice A n c) w := by kernel_rfl
theorem qKm {base b n:Nat}{o:VGeo}{Kn:Nat->Option Nat}{s:Vst}(hn:0<n)(hlim:s.wr.length<2^40)(w:World)(h:IsView w base b n true o Kn s) :
  Calls Tryz.prog 23 #[.pointer (some ⟨b,0,none⟩)] w fun e w'=>∃ g cp,e = .returned (.slice (some ⟨g,0,none⟩) n cp)/\w.heap.size<=g/\RowF w' g 57 n cp (valF (nowV Kn s.wr))/\Below w.heap.size w w':=by
 obtain⟨B,cap,hv⟩:=qKK h.wrow
 obtain⟨_,c1,_,_,c4,_,_,_⟩:=h.cells
 have hr:=h.wrow
 rw[hv] at hr c4
 obtain⟨A,c,hf,_,_,_,hR⟩:=h.src.list
 rw[hf] at c1
 have hnmx:=h.nmax
 have HA:qH (∀ w',Below w.heap.size w w'->(0<n->∃ ad,A=some ad/\∀ j u,((List.range n).map (valF fun i=>(Kn i).getD 0))[j]?=some u->w'.cell? (ad.add j)=some u)):=qh (fun w' hb hn=>by
  obtain⟨e1,e2⟩:=hR hn
  obtain⟨ad,e3,_,e4⟩:=((e2.keep hb).reads (B:=w'.heap.size) (e2.keep hb).lt).2 hn
  exact⟨ad,e1.trans e3,e4⟩)
 have HP:qH (∀ w',Below w.heap.size w w'->PairVs w' B (toPV s.wr)):=qh (fun w' hb=>(qIc hr rfl).below hb)
 have HLT:qH (∀ p∈s.wr,p.1<n):=qh (fun p hp=>(h.ok.wrLt p hp).1)
 have HF:qH (foldW (fun i=>(Kn i).getD 0) s.wr=nowV Kn s.wr):=qh (by funext i;exact qI3 h.ok i)
 obtain⟨hmc,hcm⟩:=qNY hr
 obtain⟨m,hm2⟩:∃ m,s.wr.length=m:=⟨_,rfl⟩
 have HM:=qh hm2
 rw[hm2] at c4 hmc
 clear h hr hv hf hm2 hR
 have hmt:=qOW
 go_enter Tryz.func23,Tryz.ntmps23
 go_wp2_with fail
 refine wp_region_held_drew (S:=(fun w'=>w'.cell? ⟨b,1,none⟩=some (.iface 67 (.slice A n c))/\w'.cell? ⟨b,4,none⟩=some (.slice B m cap))) qr ?_ (fun hHeld=>?_)
 ·(try dsimp only)
  first|exact⟨c1,c4⟩|exact⟨hst _ _ hHeld.1,hst _ _ hHeld.2⟩|exact hHeld
 refine tkz 0 ?_
 refine tkz 1 ?_
 refine tkz 2 ?_
 refine tkz 3 ?_
 refine tkz 4 ?_
 refine tkz 5 ?_
 refine tkz 6 ?_
 refine tkz 7 ?_
 refine tkz 8 ?_
 refine tkz 9 ?_
 refine rdz 10 fun K hK=>?_
 go_simp
 refine(qXd A B n c m cap (fun i=>(Kn i).getD 0) s.wr hn hnmx HM.o hmc hcm HLT.o _ (HA.o _ (Bdrew (B0 _))) (HP.o _ (Bdrew (B0 _)))).mono ?_;rintro e w2 ⟨g,cp,rfl,hg,hr2,hb⟩;have HR:=qh hr2;have HG:=qh hg;have HB:=qh (Bgo (Bdrew (B0 w)) hb);have hst:=qE1 hb;clear hr2 hb hg
 refine qk ?_ (fun hHeld=>?_)
 ·first|exact⟨c1,c4⟩|exact⟨hst _ _ hHeld.1,hst _ _ hHeld.2⟩|exact hHeld
 clear hK K
 refine tkz 11 ?_
 refine dnz ?_
 go_wp2
 go_ret
 refine⟨g,cp,rfl,HG.o,?_,HB.o⟩
 have:=HR.o
 rwa [HF.o] at this
end
section
def firstK (vals:List Nat) (k:Nat):Nat->Option Nat:=fun i=>if i<k then vals[i]? else none
end
section
theorem qRT (l:List Nat):(valVs l).length=l.length:=by unfold valVs;simp
end
section
structure Ob where
 I:World->Vst->(Nat->Prop)->Prop
 lt:∀ {w:World} {s:Vst} {A:Nat->Prop},I w s A->∀ i,A i->i<w.heap.size
 turns:∀ {w w':World} {s:Vst} {A G:Nat->Prop},I w s A->Turns G w w'->(∀ i,A i->¬ G i)->I w' s A

def vOb (base b n:Nat) (wh:Bool) (K:Nat->Option Nat):Ob where
 I w s A:=∃ o,IsView w base b n wh o K s/\A=o.A b
 lt:=by
  rintro w s A ⟨o,h,rfl⟩
  exact h.lt
 turns:=by
  rintro w w' s A G ⟨o,h,rfl⟩ ht hf
  exact⟨o,h.turns ht hf,rfl⟩
def Ob.Left (O:Ob) (w:World) (A:Nat->Prop) (s:Vst) (w':World):Prop:=∃ A',O.I w' s A'/\(∀ g,A' g->A g\/w.heap.size<=g)/\Turns A w w'
def Ob.At (O:Ob) (w0:World) (A G:Nat->Prop) (s:Vst) (w:World):Prop :=
 ∃ A',O.I w s A'/\(∀ g,A' g->A g\/w0.heap.size<=g)/\Turns A w0 w/\∀ g,G g->w0.heap.size<=g/\g<w.heap.size/\¬ A' g
def Stay (G:Nat->Prop) (w w':World):Prop:=w.heap.size<=w'.heap.size/\∀ g,G g->g<w.heap.size->w'.heap[g]?=w.heap[g]?
def And1 (G:Nat->Prop) (N:Nat):Nat->Prop:=fun g=>G g\/g=N
section
variable {O : Ob} {w w' w0 : World} {A G : Nat -> Prop} {s s' : Vst} {N : Nat}
theorem Ob.keep {A:Nat->Prop}(h:O.I w s A)(hb:Below w.heap.size w w'):O.I w' s A:=O.turns h (Turns.of_below hb (fun _=>False)) (fun _ _ x=>x)
theorem Ob.At.start (h:O.I w s A):O.At w A (fun _=>False) s w:=⟨A,h,fun g hg => .inl hg,T0 _ _,fun g hg=>hg.elim⟩
theorem Ob.At.left (h:O.At w0 A G s w):O.Left w0 A s w:=by
 obtain⟨A',h1,h2,h3,_⟩:=h
 exact⟨A',h1,h2,h3⟩
theorem Ob.At.keep (h:O.At w0 A G s w)(hb:Below w.heap.size w w'):O.At w0 A G s w':=by
 obtain⟨A',h1,h2,h3,h4⟩:=h
 exact⟨A',Ob.keep h1 hb,h2,h3.trans (Turns.of_below hb A),fun g hg=>⟨(h4 g hg).1,Nat.lt_of_lt_of_le (h4 g hg).2.1 hb.size,(h4 g hg).2.2⟩⟩
theorem Ob.At.alloc (h:O.At w0 A G s w)(o:Obj):O.At w0 A G s (w.alloc o):=h.keep (Bnew (B0 w) o)
theorem Ob.At.drew (h:O.At w0 A G s w):O.At w0 A G s w.drew:=h.keep (Bdrew (B0 w))
theorem Ob.At.box (h:O.At w0 A G s w)(o:Obj):O.At w0 A (And1 G w.heap.size) s (w.alloc o):=by
 obtain⟨A',h1,h2,h3,h4⟩:=h
 have hs:=h3.size
 refine⟨A',Ob.keep h1 (Bnew (B0 w) o),h2,h3.alloc o,?_⟩
 rintro g (hg|rfl)
 ·exact⟨(h4 g hg).1,Nat.lt_of_lt_of_le (h4 g hg).2.1 (Bnew (B0 w) o).size,(h4 g hg).2.2⟩
 ·exact⟨hs,by simp,fun x=>by have:=O.lt h1 _ x;omega⟩
theorem Ob.At.put (h:O.At w0 A G s w){p:Addr}(hp:G p.block)(u:Value):O.At w0 A G s (w.setCell p u):=by
 obtain⟨A',h1,h2,h3,h4⟩:=h
 have hq:=h4 _ hp
 refine⟨A',O.turns h1 ((T0 (fun i=>i=p.block) w).put (p:=p) rfl u) (fun i hi e=>hq.2.2 (by rw[<- e];exact hi)),h2,h3.put_new hq.1 u,fun g hg=>⟨(h4 g hg).1,by simp;exact(h4 g hg).2.1,(h4 g hg).2.2⟩⟩
theorem Ob.At.less {G':Nat->Prop}(h:O.At w0 A G s w)(hg:∀ g,G' g->G g):O.At w0 A G' s w:=by
 obtain⟨A',h1,h2,h3,h4⟩:=h
 exact⟨A',h1,h2,h3,fun g x=>h4 g (hg g x)⟩
theorem Ob.At.call (h:O.At w0 A G s w){P:Program}{f:FuncId}{args:Array Value}{R:Ending->Prop}(hc:∀ B,O.I w s B->Calls P f args w fun e w'=>R e/\O.Left w B s' w') :
  Calls P f args w fun e w'=>R e/\O.At w0 A G s' w'/\Stay G w w':=by
 obtain⟨A',h1,h2,h3,h4⟩:=h
 refine(hc A' h1).mono ?_
 rintro e w' ⟨hr,B,k1,k2,k3⟩
 have hs:=h3.size
 refine⟨hr,⟨B,k1,fun g hg=>?_,k3.more_new hs h3 h2,fun g hg=>?_⟩,k3.size,fun g hg hl=>k3.block g hl (h4 g hg).2.2⟩
 ·rcases k2 g hg with h5|h5
  ·exact h2 g h5
  ·exact .inr qo
 ·refine⟨(h4 g hg).1,Nat.lt_of_lt_of_le (h4 g hg).2.1 k3.size,fun x=>?_⟩
  rcases k2 g x with h5|h5
  ·exact(h4 g hg).2.2 h5
  ·have:=(h4 g hg).2.1;omega
theorem Stay.of_below (hb:Below w.heap.size w w')(G:Nat->Prop):Stay G w w':=⟨hb.size,fun g _ hl=>hb.block g hl⟩
theorem Stay.trans {w'':World}(h:Stay G w w')(k:Stay G w' w''):Stay G w w'':=⟨Nat.le_trans h.1 k.1,fun g hg hl=>(k.2 g hg (Nat.lt_of_lt_of_le hl h.1)).trans (h.2 g hg hl)⟩
theorem Stay.less {G':Nat->Prop}(h:Stay G w w')(hg:∀ g,G' g->G g):Stay G' w w':=⟨h.1,fun g x hl=>h.2 g (hg g x) hl⟩
theorem Stay.held {g:Nat}{t:TypeId}{cs:Array Value}(h:Stay G w w')(hg:G g)(hh:Held w g t cs):Held w' g t cs:=(h.2 g hg hh.lt).trans hh
theorem Stay.own {base n size:Nat}{e:TypeId}{v:Value}{xs:List Value}(h:Stay G w w')(hg:∀ g,v.ownBlock=some g->G g)(ho:w.ownsRow base e size v n xs):w'.ownsRow base e size v n xs :=
 qWQ ho (fun g e=>h.2 g (hg g e) (ho.lt g e).2)
end

theorem qFE:∀ (n:Nat) (l:List Nat),(∀ i∈l,i<n)->l.Nodup->l.length<=n
 | 0,l,h,_=>by
  cases l with
  | nil=>simp
  | cons a r=>have:=h a (List.mem_cons_self ..);omega
 | n+1,l,h,hd=>by
  by_cases hn:n∈l
  ·have h1:=qFE n (l.erase n) (fun i hi=>by
    have h2:=(hd.mem_erase_iff).1 hi
    have h3:=h i h2.2
    have h4:=h2.1
    omega) (hd.erase n)
   rw[List.length_erase_of_mem hn] at h1
   omega
  ·have h1:=qFE n l (fun i hi=>by
    have h3:=h i hi
    have h4:i≠n:=fun e=>hn (e ▸ hi)
    omega) hd
   omega
theorem VOk.few {n:Nat}{s:Vst}(h:VOk n s):s.rd.length<=n/\s.wr.length<=n:=by
 refine⟨qFE _ _ h.rdLt h.rdNd,?_⟩
 have:(s.wr.map (·.1)).length<=n:=by
  refine qFE _ _ (fun i hi=>?_) ?_
  ·obtain⟨p,hp,rfl⟩:=List.mem_map.1 hi
   exact(h.wrLt p hp).1
  ·unfold List.Nodup
   rw[List.pairwise_iff_getElem]
   intro i j hi hj hij e
   have hj':j<s.wr.length:=by simpa using hj
   have h1:=h.wrNd i qo
   have h2:=h.wrNd j hj'
   have e1:cellW s.wr i=cellW s.wr j:=by
    unfold cellW
    simp[List.getD,List.getElem?_eq_getElem (show i<s.wr.length by omega),List.getElem?_eq_getElem hj'] at e ⊢
    exact e
   rw[e1,h2] at h1
   injection h1 with h1
   omega
 simpa using this

section
variable {base b n : Nat} {wh all : Bool} {K : Nat -> Option Nat} {s : Vst} {w w0 : World} {A G : Nat -> Prop}
theorem vGetA (hn:n<2^40)(a:Int)(h:(vOb base b n wh K).At w0 A G s w) :
  Calls Tryz.prog 28 #[.pointer (some ⟨b,0,none⟩),.int .i64 a] w fun e w'=>e = .returned (.int .u32 ((getV n K s a:Nat):Int))/\(vOb base b n wh K).At w0 A G (getS n K s a) w'/\Stay G w w':=by
 refine h.call ?_
 rintro B ⟨o,hI,rfl⟩
 refine(qLn a (by have:=hI.ok.few;omega) (by have:=hI.ok.few;omega) w hI).mono ?_
 rintro e w' ⟨rfl,o',h1,h2,h3⟩
 exact⟨rfl,_,⟨o',h1,rfl⟩,h2,h3.more (fun i hi => .inl hi)⟩
theorem vPutA (hn:n<2^40)(a:Int)(v:Nat)(hv:v<2^32)(h:(vOb base b n wh K).At w0 A G s w) :
  Calls Tryz.prog 74 #[.pointer (some ⟨b,0,none⟩),.int .i64 a,.int .u32 (v:Int)] w fun e w'=>e = .returned (.tuple #[])/\(vOb base b n wh K).At w0 A G (putS n s a v) w'/\Stay G w w':=by
 refine h.call ?_
 rintro B ⟨o,hI,rfl⟩
 refine(qYd a v hv (by have:=hI.ok.few;omega) w hI).mono ?_
 rintro e w' ⟨rfl,o',h1,h2,h3⟩
 exact⟨rfl,_,⟨o',h1,rfl⟩,h2,h3.more (fun i hi => .inl hi)⟩
end
end
end Go.Proofs.YtgifnhcknodekaaGreat
namespace Go.Proofs.YtgifnhcknodekaaGreat.HM

theorem bit_eq (x k:Nat):x / 2^k%2=(x.testBit k).toNat:=by
 rw[Nat.testBit_eq_decide_div_mod_eq]
 rcases Nat.mod_two_eq_zero_or_one (x / 2^k) with h|h <;> simp[h]

def getN (w a k:Nat):Nat:=w / 2^a%2^k
def putN (w a k v:Nat):Nat:=(w &&& (2^64-1-(2^k-1)*2^a)) ||| v*2^a

theorem mask_lt (a k:Nat)(h:a+k<=64):(2^k-1)*2^a<2^64:=by
 have h1:(2^k-1)*2^a<2^k*2^a:=(Nat.mul_lt_mul_right (Nat.two_pow_pos a)).2 (by have:=Nat.two_pow_pos k;omega)
 rw[<- Nat.pow_add] at h1
 exact Nat.lt_of_lt_of_le h1 (Nat.pow_le_pow_right qo qo)

theorem bit_putN (w a k v i:Nat)(h:a+k<=64)(hv:v<2^k)(hi:i<64):(putN w a k v).testBit i=if a<=i/\i<a+k then v.testBit (i-a) else w.testBit i:=by
 unfold putN
 rw[Nat.testBit_or,Nat.testBit_and,Nat.sub_sub,Nat.add_comm 1,Nat.testBit_two_pow_sub_succ (mask_lt a k h),Nat.testBit_mul_two_pow,Nat.testBit_mul_two_pow,Nat.testBit_two_pow_sub_one]
 by_cases h1:a<=i
 ·by_cases h2:i<a+k
  ·have h3:i-a<k:=qo
   simp[h1,h2,h3,hi]
  ·have h3:¬ i-a<k:=qo
   have h4:v.testBit (i-a)=false:=Nat.testBit_lt_two_pow (Nat.lt_of_lt_of_le hv (Nat.pow_le_pow_right qo qo))
   simp[h1,h2,h3,h4,hi]
 ·simp[h1,hi]

theorem putN_lt (w a k v:Nat)(h:a+k<=64)(hv:v<2^k):putN w a k v<2^64:=by
 have h1:v*2^a<2^64:=by
  have h2:v*2^a<2^k*2^a:=(Nat.mul_lt_mul_right (Nat.two_pow_pos a)).2 hv
  rw[<- Nat.pow_add] at h2
  exact Nat.lt_of_lt_of_le h2 (Nat.pow_le_pow_right qo qo)
 unfold putN
 refine Nat.or_lt_two_pow (Nat.lt_of_le_of_lt Nat.and_le_right ?_) h1
 have:=Nat.two_pow_pos 64
 omega

theorem bit_high {x i:Nat}(h:x<2^64)(hi:64<=i):x.testBit i=false :=
 Nat.testBit_lt_two_pow (Nat.lt_of_lt_of_le h (Nat.pow_le_pow_right qo hi))

def onesTo (v k:Nat):Nat:=((List.range k).filter fun i=>v.testBit i).length
def freeTo (v k:Nat):List Nat:=(List.range k).filter fun i => !v.testBit i
theorem onesTo_succ (v k:Nat):onesTo v (k+1)=onesTo v k+if v.testBit k then 1 else 0:=by
 unfold onesTo
 rw[List.range_succ,List.filter_append,List.length_append]
 cases h:v.testBit k <;> simp[h]
theorem onesTo_le (v k:Nat):onesTo v k<=k:=by
 unfold onesTo
 exact Nat.le_trans (List.length_filter_le _ _) (by simp)
theorem qEJ (v k:Nat):freeTo v (k+1)=freeTo v k++if v.testBit k then [] else [k]:=by
 unfold freeTo
 rw[List.range_succ,List.filter_append]
 cases h:v.testBit k <;> simp[h]
theorem ones_free (v k:Nat):onesTo v k+(freeTo v k).length=k:=by
 induction k with
 | zero=>rfl
 | succ k ih =>
  rw[onesTo_succ,qEJ,List.length_append]
  cases h:v.testBit k <;> simp <;> omega

def logI (n:Int):Int:=if n<1 then -1 else (Nat.log2 n.toNat:Int)
theorem logI_at (n:Int)(k:Nat)(h1:1<=n / 2^k)(h2:n / 2^(k+1)<1):logI n=k:=by
 have hp:(0:Int)<2^k:=Int.pow_pos qo
 have hn:1<=n:=by
  have h3:=(Int.le_ediv_iff_mul_le hp).1 h1
  omega
 obtain⟨m,rfl⟩:=Int.eq_ofNat_of_zero_le (show 0<=n by omega)
 unfold logI
 rw[if_neg qo,Int.toNat_natCast]
 have h4:2^k<=m:=by
  have h3:=(Int.le_ediv_iff_mul_le hp).1 h1
  rw[Int.one_mul] at h3
  exact_mod_cast h3
 have h5:m<2^(k+1):=by
  have h3:=(Int.ediv_lt_iff_lt_mul (Int.pow_pos qo)).1 h2
  rw[Int.one_mul] at h3
  exact_mod_cast h3
 have:m≠0:=by have:=Nat.two_pow_pos k;omega
 have e:Nat.log2 m=k:=by
  rw[Nat.log2_eq_iff this]
  exact⟨h4,h5⟩
 rw[e]
theorem logI_no (n:Int)(h:n<1):logI n = -1:=by unfold logI;rw[if_pos h]

end Go.Proofs.YtgifnhcknodekaaGreat.HM

namespace Go.Proofs.YtgifnhcknodekaaGreat
open Go.ChangeShapes Go.WideShapes Go.ChangeAt Go.RowKit
section
def fieldB (a k:Int):Bool:=decide (0<=a/\1<=k/\a<=64-k)
theorem qVM {a k:Int}(h0:0<=a)(h1:1<=k)(h2:a<=64-k):fieldB a k=true:=by unfold fieldB;simp[h0,h1,h2]
theorem qDV {a k:Int}(h:¬ (0<=a/\1<=k/\a<=64-k)):fieldB a k=false:=by unfold fieldB;exact decide_eq_false h
theorem qIz (a k:Int)(ha : -9223372036854775808<=a)(ha':a<=9223372036854775807)(hk : -9223372036854775808<=k)(hk':k<=9223372036854775807)(w:World) :
  Calls Tryz.prog 143 #[.int .i64 a,.int .i64 k] w fun e w'=>e = .returned (.bool (fieldB a k))/\w=w':=by
 by_cases h0:0<=a
 ·by_cases h1:1<=k
  ·by_cases h2:a<=64-k
   ·have H:=qh (qVM (a:=a) (k:=k) qo qo qo)
    exact M0u
   ·exact MV6
  ·exact MV6
 ·exact MV6
theorem qC2:∀ k:Fin 65,1<=k.val->IntKind.u64.wrap (IntKind.u64.wrap (2^k.val)-1)=((2^k.val-1:Nat):Int):=by decide +kernel
theorem qKr (k:Int)(h0:1<=k)(h1:k<=64)(w:World) :
  Calls Tryz.prog 144 #[.int .i64 k] w fun e w'=>e = .returned (.int .u64 ((2^k.toNat-1:Nat):Int))/\w=w':=by
 have H:=qh (qC2 ⟨k.toNat,qo⟩ qs)
 go_enter Tryz.func144,Tryz.ntmps144
 go_wp2
 go_ret
 exact⟨qYg H.o,rfl⟩
theorem qH5 (v k:Nat):((((v / 2^k%2:Nat):Int))==1)=v.testBit k:=by
 rw[HM.bit_eq]
 cases v.testBit k <;> rfl
theorem qA0 (v:Nat)(i:Int)(b:Bool)(hv:v<2^32)(h0:0<=i)(h1:i<32)(hb:v.testBit i.toNat=b)(w:World) :
  Calls Tryz.prog 92 #[.int .u32 (v:Int),.int .i64 i] w fun e w'=>e = .returned (.bool b)/\w=w':=by
 have H:=qh hb
 clear hb
 go_enter Tryz.func92,Tryz.ntmps92
 go_wp2
 go_ret
 exact⟨qM8 (by rw[qKV,qEn,qH5,H.o]),rfl⟩
theorem qTN (v:Nat)(hv:v<2^32)(w:World) :
  Calls Tryz.prog 105 #[.int .u32 (v:Int)] w fun e w'=>e = .returned (.int .i64 ((HM.onesTo v 32:Nat):Int))/\w=w':=by
 go_enter Tryz.func105,Tryz.ntmps105
 go_wp2
 go_loop [3,4] (fun s i=>∃ k:Nat,k<=32/\i = .int .i64 k/\s = .int .i64 ((HM.onesTo v k:Nat):Int)) (fun _ i=>32-(intOf i).toNat)
 case atStart=>exact⟨0,qo,rfl,rfl⟩
 case round =>
  obtain⟨k,hk,rfl,rfl⟩:=hrel
  have hle:=HM.onesTo_le v k
  by_cases hlt:k<32
  ·have HS:=qh (HM.onesTo_succ v k)
   cases hb:v.testBit k
   all_goals
    have HT:=qh ((congrArg v.testBit (Int.toNat_natCast k)).trans hb)
    have HB:=qh hb
    clear hb
    go_wp2_with (go_at_call 92;refine(qA0 v k _ hv qo qo HT.o _).mono ?_;rintro e w' ⟨rfl,rfl⟩)
    go_round
    case rel=>exact⟨k+1,qo,by go_num,by rw[HS.o,HB.o];go_num⟩
    case measure=>simp[intOf];omega
  ·obtain rfl:k=32:=qo
   go_wp2
   go_ret
   exact⟨rfl,rfl⟩
theorem qLV (n:Int)(h0 : -9223372036854775808<=n)(h1:n<=9223372036854775807)(w:World) :
  Calls Tryz.prog 130 #[.int .i64 n] w fun e w'=>e = .returned (.int .i64 (HM.logI n))/\w=w':=by
 go_enter Tryz.func130,Tryz.ntmps130
 go_wp2
 go_loop [3,5] (fun l i=>∃ k:Nat,k<=63/\i = .int .i64 k/\l = .int .i64 ((k:Int)-1)/\qH (0<k->1<=n / 2^(k-1))) (fun _ i=>63-(intOf i).toNat)
 case atStart=>exact⟨0,qo,rfl,rfl,qh (fun h=>absurd h qo)⟩
 case round =>
  obtain⟨k,hk,rfl,rfl,HF⟩:=hrel
  by_cases hlt:n / 2^k<1
  ·have HL:qH (HM.logI n=(k:Int)-1):=by
    by_cases hk0:k=0
    ·subst hk0
     exact qh (HM.logI_no n (by simpa using hlt))
    ·have hs:k-1+1=k:=qo
     refine qh ((HM.logI_at n (k-1) (HF.o qo) (by rw[hs];exact hlt)).trans qo)
   go_wp2
   go_ret
   exact⟨qYg HL.o.symm,rfl⟩
  ·have hk2:k<63:=by
    rcases Nat.lt_or_ge k 63 with h|h
    ·exact h
    ·obtain rfl:k=63:=qo
     exact absurd (show n / 2^63<1 from by omega) hlt
   have HN:=qh hlt
   go_wp2
   go_round
   case rel=>exact⟨k+1,qo,by go_num,by go_num,qh (fun _=>by have:=HN.o;simp only[Nat.add_sub_cancel];omega)⟩
   case measure=>simp[intOf];omega
theorem qWT (n:Int)(h0 : -9223372036854775808<=n)(h1:n<=9223372036854775807)(w:World) :
  Calls Tryz.prog 129 #[.int .i64 n] w fun e w'=>e = .returned (.int .i64 (HM.logI n))/\w=w':=by
 go_enter Tryz.func129,Tryz.ntmps129
 go_wp2
 go_loop [0,3] (fun m l=>∃ (q:Int) (k:Nat),k<=63/\m = .int .i64 q /\ -9223372036854775808<=q/\q<=9223372036854775807/\qH (q=n / 2^k)/\l = .int .i64 ((k:Int)-1)/\qH (0<k->1<=n / 2^(k-1))) (fun m _=>(intOf m).toNat)
 case atStart=>exact⟨n,0,qo,rfl,h0,h1,qh (by simp),rfl,qh (fun h=>absurd h qo)⟩
 case round =>
  obtain⟨q,k,hk,rfl,hq0,hq1,HQ,rfl,HF⟩:=hrel
  by_cases hlt:q<1
  ·have HL:qH (HM.logI n=(k:Int)-1):=by
    have hq:=HQ.o
    by_cases hk0:k=0
    ·subst hk0
     exact qh (HM.logI_no n (by rw[hq] at hlt;simpa using hlt))
    ·have hs:k-1+1=k:=qo
     refine qh ((HM.logI_at n (k-1) (HF.o qo) (by rw[hs,<- hq];exact hlt)).trans qo)
   go_wp2
   go_ret
   exact⟨qYg HL.o.symm,rfl⟩
  ·have hk2:k<63:=by
    rcases Nat.lt_or_ge k 63 with h|h
    ·exact h
    ·obtain rfl:k=63:=qo
     have hq:=HQ.o
     omega
   have HS:qH (q / 2=n / 2^(k+1)):=qh (by rw[HQ.o,Int.pow_succ,Int.ediv_ediv_of_nonneg (Int.le_of_lt (Int.pow_pos qo))])
   have hp:1<=q:=qo
   clear hlt
   go_wp2
   go_round
   case rel=>exact⟨q / 2,k+1,qo,rfl,qo,qo,HS,by go_num,qh (fun _=>by have:=HQ.o;simp only[Nat.add_sub_cancel];omega)⟩
   case measure=>simp[intOf];omega
theorem qL0 (h l:Nat)(hh:h<2^32)(hl:l<2^32):bits .or .u64 ((h:Int)*4294967296) (l:Int)=((h*4294967296+l:Nat):Int):=by
 have e:(h:Int)*4294967296=((h*4294967296:Nat):Int):=qo
 rw[e,u64_or_nat _ _ qo qo,nat_join 32 _ _ qo hl]
theorem qPo (h l:Nat)(hh:h<2^32)(hl:l<2^32)(w:World) :
  Calls Tryz.prog 122 #[.int .u32 (h:Int),.int .u32 (l:Int)] w fun e w'=>e = .returned (.int .u64 ((h*4294967296+l:Nat):Int))/\w=w':=by
 go_enter Tryz.func122,Tryz.ntmps122
 go_wp2
 go_ret
 exact⟨qYg (qL0 h l hh hl),rfl⟩
theorem Lo_c (x:Nat)(hx:x<2^64)(w:World) :
  Calls Tryz.prog 141 #[.int .u64 (x:Int)] w fun e w'=>e = .returned (.int .u32 ((x%4294967296:Nat):Int))/\w=w':=by
 go_enter Tryz.func141,Tryz.ntmps141
 go_wp2
 go_ret
 exact⟨qYg (by first|omega|(rw[Int.tmod_eq_emod_of_nonneg qo];omega)|(rw[IntKind.wrap_u32];omega)),rfl⟩
theorem qYb {a k:Int}(h:fieldB a k=true):∃ a' k':Nat,a=a'/\k=k'/\1<=k'/\a'+k'<=64:=by
 unfold fieldB at h
 have:=of_decide_eq_true h
 exact⟨a.toNat,k.toNat,qo,qo,qo,qo⟩
def getI (x:Nat) (a k:Int):Nat:=if fieldB a k then HM.getN x a.toNat k.toNat else 0
theorem qCB (y k:Nat)(hy:y<2^64)(hk:k<=64):bits .and .u64 (y:Int) ((2^k-1:Nat):Int)=((y%2^k:Nat):Int):=by
 have h2:2^k<=2^64:=Nat.pow_le_pow_right qo hk
 rw[u64_and_nat y _ hy qo,Nat.and_two_pow_sub_one_eq_mod]
theorem qUM (x:Nat)(a k:Int)(hx:x<2^64)(ha : -9223372036854775808<=a)(ha':a<=9223372036854775807)(hk : -9223372036854775808<=k)(hk':k<=9223372036854775807)(w:World) :
  Calls Tryz.prog 124 #[.int .u64 (x:Int),.int .i64 a,.int .i64 k] w fun e w'=>e = .returned (.int .u64 ((getI x a k:Nat):Int))/\∃ n,w'=w.drewN n:=by
 cases hf:fieldB a k
 ·have H:=qh hf
  clear hf
  go_enter Tryz.func124,Tryz.ntmps124
  go_wp2_with (go_at_call 143;refine(qIz a k ha ha' hk hk' _).mono ?_;rintro e w' ⟨rfl,rfl⟩;rw[H.o])
  go_ret
  exact⟨qYg (by unfold getI;rw[H.o];rfl),0,rfl⟩
 ·have H:=qh hf
  obtain⟨a',k',rfl,rfl,h1,h2⟩:=qYb hf
  clear hf
  go_enter Tryz.func124,Tryz.ntmps124
  go_wp2_with (go_at_call 143;refine(qIz a' k' ha ha' hk hk' _).mono ?_;rintro e w' ⟨rfl,rfl⟩;rw[H.o])
  go_quiet ((go_at_call 144;exact qIx (qKr k' qo qo _)))
  go_wp2
  go_ret
  exact⟨qYg (by rw[qKV,qCB _ _ (Nat.lt_of_le_of_lt (Nat.div_le_self _ _) hx) qo];unfold getI;rw[H.o,if_pos rfl,Int.toNat_natCast,Int.toNat_natCast];rfl),nq,rfl⟩
def putOk (a k:Int) (v:Nat):Bool:=fieldB a k&&decide (v<2^k.toNat)
def putI (x:Nat) (a k:Int) (v:Nat):Nat:=if putOk a k v then HM.putN x a.toNat k.toNat v else 0
theorem qRB (n:Nat)(h:n<2^64):IntKind.u64.wrap (n:Int)=(n:Int):=by
 exact MMY
theorem qU1 (x a k v:Nat)(hx:x<2^64)(h:a+k<=64)(hv:v<2^k) :
  bits .or .u64 (bits .andNot .u64 (x:Int) (IntKind.u64.wrap (((2^k-1:Nat):Int)*2^a))) (IntKind.u64.wrap ((v:Int)*2^a))=((HM.putN x a k v:Nat):Int):=by
 have h1:=HM.mask_lt a k h
 have h2:v*2^a<2^64:=Nat.lt_of_le_of_lt (Nat.mul_le_mul_right _ qo) h1
 have e1:((2^k-1:Nat):Int)*2^a=(((2^k-1)*2^a:Nat):Int):=by rw[Int.natCast_mul,Int.natCast_pow];rfl
 have e2:(v:Int)*2^a=((v*2^a:Nat):Int):=by rw[Int.natCast_mul,Int.natCast_pow];rfl
 rw[e1,e2,qRB _ h1,qRB _ h2,u64_andNot_nat _ _ hx h1,u64_or_nat _ _ (Nat.lt_of_le_of_lt Nat.and_le_left hx) h2]
 rfl
theorem qNM (x v:Nat)(a k:Int)(hx:x<2^64)(hv:v<2^64)(ha : -9223372036854775808<=a)(ha':a<=9223372036854775807)(hk : -9223372036854775808<=k)(hk':k<=9223372036854775807)(w:World) :
  Calls Tryz.prog 140 #[.int .u64 (x:Int),.int .i64 a,.int .i64 k,.int .u64 (v:Int)] w fun e w'=>e = .returned (.tuple #[.int .u64 ((putI x a k v:Nat):Int),.bool (putOk a k v)])/\∃ n,w'=w.drewN n:=by
 cases hf:fieldB a k
 ·have H:=qh hf
  clear hf
  go_enter Tryz.func140,Tryz.ntmps140
  go_wp2_with (go_at_call 143;refine(qIz a k ha ha' hk hk' _).mono ?_;rintro e w' ⟨rfl,rfl⟩;rw[H.o])
  go_ret2
  exact⟨by unfold putI putOk;rw[H.o];rfl,0,rfl⟩
 ·have H:=qh hf
  obtain⟨a',k',rfl,rfl,h1,h2⟩:=qYb hf
  clear hf
  by_cases hlt:v<2^k'
  ·have HO:qH (putOk a' k' v=true):=qh (by unfold putOk;rw[H.o,Int.toNat_natCast];simp[hlt])
   have HP:qH (putI x a' k' v=HM.putN x a' k' v):=qh (by unfold putI;rw[HO.o,if_pos rfl,Int.toNat_natCast,Int.toNat_natCast])
   have HB:=qh (qU1 x a' k' v hx h2 hlt)
   have hng:¬ (((2^k'-1:Nat):Int)<(v:Int)):=qo
   go_enter Tryz.func140,Tryz.ntmps140
   go_wp2_with (first|(go_at_call 143;refine(qIz a' k' ha ha' hk hk' _).mono ?_;rintro e w' ⟨rfl,rfl⟩;rw[H.o])|(go_at_call 144;refine(qKr k' qo qo _).mono ?_;rintro e w' ⟨rfl,rfl⟩;rw[Int.toNat_natCast]))
   go_quiet ((go_at_call 144;exact qIx (qKr k' qo qo _)))
   go_wp2
   go_ret2
   exact⟨by rw[HO.o,HP.o,<- HB.o];rfl,nq,rfl⟩
  ·have HO:qH (putOk a' k' v=false):=qh (by unfold putOk;rw[H.o,Int.toNat_natCast];simp[hlt])
   have HP:qH (putI x a' k' v=0):=qh (by unfold putI;rw[HO.o];rfl)
   have hg:(((2^k'-1:Nat):Int)<(v:Int)):=by have:=Nat.two_pow_pos k';omega
   go_enter Tryz.func140,Tryz.ntmps140
   go_wp2_with (first|(go_at_call 143;refine(qIz a' k' ha ha' hk hk' _).mono ?_;rintro e w' ⟨rfl,rfl⟩;rw[H.o])|(go_at_call 144;refine(qKr k' qo qo _).mono ?_;rintro e w' ⟨rfl,rfl⟩;rw[Int.toNat_natCast]))
   go_ret2
   exact⟨by rw[HO.o,HP.o];rfl,0,rfl⟩
end
section
def outB (v l m:Int):Bool:=decide (v<l\/m<v)
theorem qFX {v l m:Int}(h:v<l):outB v l m=true:=by unfold outB;simp[h]
theorem qDL {v l m:Int}(h:m<v):outB v l m=true:=by unfold outB;simp[h]
theorem qMA {v l m:Int}(h:l<=v)(h':v<=m):outB v l m=false:=by unfold outB;exact qf
def rightB (t p s:Int):Bool := !(outB t 1 16)&&(!(outB p 4 1024) && !(outB s 10 20))
theorem qQB (t p s:Int):rightB t p s=true↔(1<=t/\t<=16)/\(4<=p/\p<=1024)/\10<=s/\s<=20:=by
 unfold rightB outB
 simp only[Bool.and_eq_true,Bool.not_eq_true',decide_eq_false_iff_not]
 omega

theorem qTb (a v l m:Int)(w:World) :
  Calls Tryz.prog 157 #[.agg #[.int .i64 a,.int .i64 v,.int .i64 l,.int .i64 m]] w fun e w'=>e = .returned (.bool (outB v l m))/\Below w.heap.size w w':=by
 by_cases h0:v<l
 ·have H:=qh (qFX (m:=m) h0)
  exact Ms9
 ·by_cases h1:m<v
  ·have H:=qh (qDL (l:=l) h1)
   exact Ms9
  ·have H:=qh (qMA (v:=v) (l:=l) (m:=m) qo qo)
   exact Ms9

def numV (t p s:Int):Array Value:=#[.int .i64 0,.int .i64 t,.int .i64 1,.int .i64 16,.int .i64 16,.int .i64 p,.int .i64 4,.int .i64 1024,.int .i64 32,.int .i64 s,.int .i64 10,.int .i64 20]
theorem qOU (t p s:Int)(w:World) :
  Calls Tryz.prog 156 #[.agg #[.int .i64 t,.int .i64 p,.int .i64 s]] w fun e w'=>e = .returned (.agg #[.int .i64 0,.int .i64 t,.int .i64 1,.int .i64 16,.int .i64 16,.int .i64 p,.int .i64 4,.int .i64 1024,.int .i64 32,.int .i64 s,.int .i64 10,.int .i64 20])/\Below w.heap.size w w':=by
 go_enter Tryz.func156,Tryz.ntmps156
 go_wp2
 exact bodyPost_ret (v := .agg #[.int .i64 0,.int .i64 t,.int .i64 1,.int .i64 16,.int .i64 16,.int .i64 p,.int .i64 4,.int .i64 1024,.int .i64 32,.int .i64 s,.int .i64 10,.int .i64 20]) (by simp[results,Tryz.results156,go_sem]) rfl ⟨rfl,Bnew (Bnew (B0 _) _) _⟩

theorem qID {t p s:Int}{g:Nat}{T:TypeId}{w:World}(h:Held w g T (numV t p s)):w.cell? ⟨g,0,none⟩=some (.int .i64 0)/\w.cell? ⟨g,1,none⟩=some (.int .i64 t)/\w.cell? ⟨g,2,none⟩=some (.int .i64 1)/\w.cell? ⟨g,3,none⟩=some (.int .i64 16)/\w.cell? ⟨g,4,none⟩=some (.int .i64 16)/\w.cell? ⟨g,5,none⟩=some (.int .i64 p)/\w.cell? ⟨g,6,none⟩=some (.int .i64 4)/\w.cell? ⟨g,7,none⟩=some (.int .i64 1024)/\w.cell? ⟨g,8,none⟩=some (.int .i64 32)/\w.cell? ⟨g,9,none⟩=some (.int .i64 s)/\w.cell? ⟨g,10,none⟩=some (.int .i64 10)/\w.cell? ⟨g,11,none⟩=some (.int .i64 20) :=
 ⟨h.cell 0,h.cell 1,h.cell 2,h.cell 3,h.cell 4,h.cell 5,h.cell 6,h.cell 7,h.cell 8,h.cell 9,h.cell 10,h.cell 11⟩
def idxI (t p s:Int):Int:=if outB t 1 16 then 0 else if outB p 4 1024 then 1 else if outB s 10 20 then 2 else -1
theorem qXH (t p s:Int)(g:Nat)(w:World)(hc:Held w g 169 (numV t p s)) :
  Calls Tryz.prog 159 #[.slice (some ⟨g,0,none⟩) 3 3,.func (.func 157) #[] #[]] w fun e w'=>e = .returned (.int .i64 (idxI t p s))/\Below w.heap.size w w':=by
 obtain⟨c0,c1,c2,c3,c4,c5,c6,c7,c8,c9,c10,c11⟩:=qID hc
 cases h0:outB t 1 16
 ·cases h1:outB p 4 1024
  ·cases h2:outB s 10 20
   ·have HX0:=qh h0
    have HX1:=qh h1
    have HX2:=qh h2
    have HI:qH (idxI t p s = -1):=qh (by unfold idxI;simp[h0,h1,h2])
    clear h0 h1 h2
    go_enter Tryz.func159,Tryz.ntmps159
    go_wp2
    refine wp_loop_rounds 4 ?_
    rw[rounds_succ]
    go_wp2_with fail
    refine Rjo ?_;clear c0 c1 c2 c3 c4 c5 c6 c7 c8 c9 c10 c11;intro w1 hb0 hc1 d0 d1 d2 d3 d4 d5 d6 d7 d8 d9 d10 d11
    go_wp2_with fail
    rw[rounds_succ]
    go_wp2_with fail
    refine(qTb 16 p 4 1024 _).mono ?_
    rintro e w2 ⟨rfl,hb1⟩
    rw[HX1.o]
    have hc2:=hc1.keep hb1
    clear d0 d1 d2 d3 d4 d5 d6 d7 d8 d9 d10 d11
    obtain⟨d0,d1,d2,d3,d4,d5,d6,d7,d8,d9,d10,d11⟩:=qID hc2
    go_wp2_with fail
    rw[rounds_succ]
    go_wp2_with fail
    refine(qTb 32 s 10 20 _).mono ?_
    rintro e w3 ⟨rfl,hb2⟩
    rw[HX2.o]
    have hc3:=hc2.keep hb2
    clear d0 d1 d2 d3 d4 d5 d6 d7 d8 d9 d10 d11
    obtain⟨d0,d1,d2,d3,d4,d5,d6,d7,d8,d9,d10,d11⟩:=qID hc3
    go_wp2_with fail
    rw[rounds_succ]
    go_wp2
    go_ret
    exact⟨by rw[HI.o];rfl,Bgo (Bgo (Bgo (B0 _) hb0) hb1) hb2⟩
   ·have HX0:=qh h0
    have HX1:=qh h1
    have HX2:=qh h2
    have HI:qH (idxI t p s=2):=qh (by unfold idxI;simp[h0,h1,h2])
    clear h0 h1 h2
    go_enter Tryz.func159,Tryz.ntmps159
    go_wp2
    refine wp_loop_rounds 3 ?_
    rw[rounds_succ]
    go_wp2_with fail
    refine Rjo ?_;clear c0 c1 c2 c3 c4 c5 c6 c7 c8 c9 c10 c11;intro w1 hb0 hc1 d0 d1 d2 d3 d4 d5 d6 d7 d8 d9 d10 d11
    go_wp2_with fail
    rw[rounds_succ]
    go_wp2_with fail
    refine(qTb 16 p 4 1024 _).mono ?_
    rintro e w2 ⟨rfl,hb1⟩
    rw[HX1.o]
    have hc2:=hc1.keep hb1
    clear d0 d1 d2 d3 d4 d5 d6 d7 d8 d9 d10 d11
    obtain⟨d0,d1,d2,d3,d4,d5,d6,d7,d8,d9,d10,d11⟩:=qID hc2
    go_wp2_with fail
    rw[rounds_succ]
    go_wp2_with fail
    refine(qTb 32 s 10 20 _).mono ?_
    rintro e w3 ⟨rfl,hb2⟩
    rw[HX2.o]
    have hc3:=hc2.keep hb2
    clear d0 d1 d2 d3 d4 d5 d6 d7 d8 d9 d10 d11
    obtain⟨d0,d1,d2,d3,d4,d5,d6,d7,d8,d9,d10,d11⟩:=qID hc3
    go_wp2
    go_ret
    exact⟨by rw[HI.o];rfl,Bgo (Bgo (Bgo (B0 _) hb0) hb1) hb2⟩
  ·have HX0:=qh h0
   have HX1:=qh h1
   have HI:qH (idxI t p s=1):=qh (by unfold idxI;simp[h0,h1])
   clear h0 h1
   go_enter Tryz.func159,Tryz.ntmps159
   go_wp2
   refine wp_loop_rounds 2 ?_
   rw[rounds_succ]
   go_wp2_with fail
   refine Rjo ?_;clear c0 c1 c2 c3 c4 c5 c6 c7 c8 c9 c10 c11;intro w1 hb0 hc1 d0 d1 d2 d3 d4 d5 d6 d7 d8 d9 d10 d11
   go_wp2_with fail
   rw[rounds_succ]
   go_wp2_with fail
   refine(qTb 16 p 4 1024 _).mono ?_
   rintro e w2 ⟨rfl,hb1⟩
   rw[HX1.o]
   have hc2:=hc1.keep hb1
   clear d0 d1 d2 d3 d4 d5 d6 d7 d8 d9 d10 d11
   obtain⟨d0,d1,d2,d3,d4,d5,d6,d7,d8,d9,d10,d11⟩:=qID hc2
   go_wp2
   go_ret
   exact⟨by rw[HI.o];rfl,Bgo (Bgo (B0 _) hb0) hb1⟩
 ·have HX0:=qh h0
  have HI:qH (idxI t p s=0):=qh (by unfold idxI;simp[h0])
  clear h0
  go_enter Tryz.func159,Tryz.ntmps159
  go_wp2
  refine wp_loop_rounds 1 ?_
  rw[rounds_succ]
  go_wp2_with fail
  refine Rjo ?_;clear c0 c1 c2 c3 c4 c5 c6 c7 c8 c9 c10 c11;intro w1 hb0 hc1 d0 d1 d2 d3 d4 d5 d6 d7 d8 d9 d10 d11
  go_wp2
  go_ret
  exact⟨by rw[HI.o];rfl,Bgo (B0 _) hb0⟩

theorem qX8 {t p s:Int}(h:rightB t p s=true):idxI t p s = -1:=by
 exact MRH
theorem qYr {t p s:Int}(h:rightB t p s=false):∃ k:Int,idxI t p s=k/\0<=k/\k<=2:=by
 exact MRH

theorem qDe (t p s:Int)(g:Nat)(w:World)(hc:Held w g 169 (numV t p s)) :
  Calls Tryz.prog 158 #[.slice (some ⟨g,0,none⟩) 3 3,.func (.func 157) #[] #[]] w fun e w'=>e = .returned (.bool (!rightB t p s))/\Below w.heap.size w w':=by
 cases hr:rightB t p s
 ·obtain⟨k,hk,h0,h2⟩:=qYr hr
  have HK:=qh hk
  clear hk
  exact M4N
 ·have HK:=qh (qX8 hr)
  exact M4N

def checkI (t p s:Int):Int:=if rightB t p s then 0 else 1
theorem qU9 {t p s:Int}(h:rightB t p s=true):checkI t p s=0:=by unfold checkI;rw[h];rfl
theorem qFe {t p s:Int}(h:rightB t p s=false):checkI t p s=1:=by unfold checkI;rw[h];rfl
theorem qI2 (t p s:Int)(w:World) :
  Calls Tryz.prog 152 #[.agg #[.int .i64 t,.int .i64 p,.int .i64 s]] w fun e w'=>e = .returned (.int .i64 (checkI t p s))/\Below w.heap.size w w':=by
 cases hr:rightB t p s
 ·have HK:=qh (qFe hr)
  exact MVv
 ·have HK:=qh (qU9 hr)
  exact MVv
end
section
theorem qV7 {t p s:Int}(h:(1<=t/\t<=16)/\(4<=p/\p<=1024)/\10<=s/\s<=20):rightB t p s=true:=(qQB t p s).2 h
theorem qS8 {t p s:Int}(h:¬ ((1<=t/\t<=16)/\(4<=p/\p<=1024)/\10<=s/\s<=20)):rightB t p s=false:=by
 cases hr:rightB t p s
 ·rfl
 ·exact absurd ((qQB t p s).1 hr) h

theorem qDP (t p s:Int)(w:World) :
  Calls Tryz.prog 55 #[.agg #[.int .i64 t,.int .i64 p,.int .i64 s]] w fun e w'=>e = .returned (.bool (rightB t p s))/\Below w.heap.size w w':=by
 by_cases a1:1<=t
 ·by_cases a2:t<=16
  ·by_cases a3:4<=p
   ·by_cases a4:p<=1024
    ·by_cases a5:10<=s
     ·by_cases a6:s<=20
      ·have H:=qh (qV7 (t:=t) (p:=p) (s:=s) qo)
       exact MoO
      ·exact Mpd
     ·exact Mpd
    ·exact Mpd
   ·exact Mpd
  ·exact Mpd
 ·exact Mpd

def pageN (t p s:Int):Nat:=if rightB t p s then 2^s.toNat else 0
def bytesN (t p s:Int):Nat:=if rightB t p s then p.toNat*2^s.toNat else 0
theorem qXq {t p s:Int}(h:rightB t p s=true):pageN t p s=2^s.toNat:=by unfold pageN;rw[if_pos h]
theorem qAf {t p s:Int}(h:rightB t p s=false):pageN t p s=0:=by unfold pageN;rw[h];rfl
theorem qDH {t p s:Int}(h:rightB t p s=true):bytesN t p s=p.toNat*2^s.toNat:=by unfold bytesN;rw[if_pos h]
theorem qNu {t p s:Int}(h:rightB t p s=false):bytesN t p s=0:=by unfold bytesN;rw[h];rfl
theorem qDn (k:Nat)(h:k<=20):1<=2^k/\2^k<=1048576:=⟨Nat.one_le_two_pow,by have:=Nat.pow_le_pow_right (show 0<2 by omega) h;omega⟩
theorem qSE (k:Nat):2^(k+1)=2^k*2:=Nat.pow_succ 2 k

theorem qYE (t p s:Int)(w:World) :
  Calls Tryz.prog 147 #[.agg #[.int .i64 t,.int .i64 p,.int .i64 s]] w fun e w'=>e = .returned (.int .i64 ((pageN t p s:Nat):Int))/\Below w.heap.size w w':=by
 cases hr:rightB t p s
 ·have HP:=qh (qAf hr)
  have HR:=qh hr
  clear hr
  go_enter Tryz.func147,Tryz.ntmps147
  go_wp2_with fail
  refine(qDP t p s _).mono ?_
  rintro e w1 ⟨rfl,hb1⟩
  rw[HR.o]
  go_wp2
  go_ret
  exact⟨by rw[HP.o];rfl,Bgo (Bnew (B0 _) _) hb1⟩
 ·have HP:=qh (qXq hr)
  have HR:=qh hr
  obtain⟨_,_,hs,hs'⟩:=(qQB t p s).1 hr
  clear hr
  go_enter Tryz.func147,Tryz.ntmps147
  go_wp2_with fail
  have hc:=Held.new w 23 #[.int .i64 t,.int .i64 p,.int .i64 s]
  refine(qDP t p s _).mono ?_
  rintro e w1 ⟨rfl,hb1⟩
  rw[HR.o]
  obtain⟨c0,c1,c2⟩:=(hc.keep hb1).three
  go_wp2
  go_loop [3,4] (fun n i=>∃ k:Nat,(k:Int)<=s/\i = .int .i64 k/\n = .int .i64 ((2^k:Nat):Int)) (fun _ i=>64-(intOf i).toNat)
  case atStart=>exact⟨0,qo,rfl,rfl⟩
  case round =>
   obtain⟨k,hk,rfl,rfl⟩:=hrel
   obtain⟨b1,b2⟩:=qDn k qo
   by_cases hlt:(k:Int)<s
   ·have HS:=qh (qSE k)
    obtain⟨m,hm⟩:∃ m,m=2^k:=⟨_,rfl⟩
    rw[<- hm] at b1 b2 HS
    rw[<- hm]
    have HM:=qh hm
    clear hm
    go_wp2
    go_round
    case rel=>exact⟨k+1,qo,by go_num,by rw[HS.o];go_num⟩
    case measure=>simp[intOf];omega
   ·obtain rfl:s=k:=qo
    go_wp2
    go_ret
    exact⟨by rw[HP.o];rfl,Bgo (Bnew (B0 _) _) hb1⟩
end
section
def lT (t p s:Int):Int:=if rightB t p s then t else 0
def lP (t p s:Int):Int:=if rightB t p s then p else 0
def lS (t p s:Int):Int:=if rightB t p s then s else 0
def lA (t p s:Int):Int:=if rightB t p s then 30+4*t else 0
def lC (t p s:Int):Int:=if rightB t p s then 30+4*t+6*p else 0
def lM (t p s:Int):Int:=if rightB t p s then (16+(30+4*t+6*p)+7) / 8*8 else 0
def lK (t p s:Int):Int:=if rightB t p s then t+1 else 0
structure qWg (t p s T P S A C M K:Int):Prop where
 hT:lT t p s=T
 hP:lP t p s=P
 hS:lS t p s=S
 hA:lA t p s=A
 hC:lC t p s=C
 hM:lM t p s=M
 hK:lK t p s=K
theorem qVu {t p s:Int}(h:rightB t p s=true):qWg t p s t p s (30+4*t) (30+4*t+6*p) ((16+(30+4*t+6*p)+7) / 8*8) (t+1):=by
 constructor <;> simp[lT,lP,lS,lA,lC,lM,lK,h]
theorem qJj {t p s:Int}(h:rightB t p s=false):qWg t p s 0 0 0 0 0 0 0:=by
 constructor <;> simp[lT,lP,lS,lA,lC,lM,lK,h]
theorem qQI (t p s:Int):(0<=lT t p s/\lT t p s<=16)/\(0<=lP t p s/\lP t p s<=1024)/\(0<=lA t p s/\lA t p s<=94)/\(0<=lC t p s/\lC t p s<=6238)/\(0<=lM t p s/\lM t p s<=6256)/\(0<=lK t p s/\lK t p s<=17)/\lM t p s%8=0:=by
 cases hr:rightB t p s
 ·obtain⟨h1,h2,h3,h4,h5,h6,h7⟩:=qJj hr
  omega
 ·obtain⟨h1,h2,h3,h4,h5,h6,h7⟩:=qVu hr
  have:=(qQB t p s).1 hr
  omega
def nthI (f n e i:Int):Int:=if f = -1\/i<0\/n<=i then -1 else f+i*e
theorem qJo {f n e i:Int}(h:f = -1\/i<0\/n<=i):nthI f n e i = -1:=by unfold nthI;rw[if_pos h]
theorem qLq {f n e i:Int}(h:¬ f = -1)(h0:0<=i)(h1:i<n):nthI f n e i=f+i*e:=by unfold nthI;rw[if_neg qo]
theorem qOD {f n e i B:Int}(hf : -1<=f)(hB:f<=B)(he:0<=e)(hn:0<=n) : -1<=nthI f n e i/\nthI f n e i<=B+n*e:=by
 have h2:=Int.mul_nonneg hn he
 by_cases h:f = -1\/i<0\/n<=i
 ·rw[qJo h];omega
 ·rw[qLq qo qo qo]
  have h1:=Int.mul_nonneg (show 0<=i by omega) he
  have h3:=Int.mul_le_mul_of_nonneg_right (show i<=n by omega) he
  omega

def pageI (t p s q b:Int):Int:=nthI (nthI (lA t p s) (lP t p s) 6 q) 6 1 b
def makerI (t p s m b:Int):Int:=nthI (nthI (lM t p s) (lK t p s) 120 m) 120 1 b
def logI (t p s m i:Int):Int:=nthI (makerI t p s m 24) 96 1 i

theorem qQL {t p s q b:Int}(h:¬ (rightB t p s=true/\0<=q/\q<p)):pageI t p s q b = -1:=by
 have h1:nthI (lA t p s) (lP t p s) 6 q = -1:=by
  apply qJo
  cases hr:rightB t p s
  ·have:=qJj hr;have:=this.hP;omega
  ·have:=(qVu hr).hP;rw[hr] at h;simp at h;omega
 unfold pageI
 exact qJo (.inl h1)
theorem qKF {t p s q b:Int}(hr:rightB t p s=true)(h0:0<=q)(h1:q<p)(h2:0<=b)(h3:b<6):pageI t p s q b=30+4*t+6*q+b:=by
 obtain⟨e1,e2,e3,e4,e5,e6,e7⟩:=qVu hr
 have:=(qQB t p s).1 hr
 unfold pageI
 rw[qLq (f:=lA t p s) qo h0 qo,qLq qo h2 h3,e4]
 omega
section
variable {t p s w : Int}
end
end
end Go.Proofs.YtgifnhcknodekaaGreat
