/-
  What the program's pocket does to the pockets of one thread: taken out; what is on a page, what is not. Written by pocket/gen_turn.py.
-/
import Derived.Test.YtjjfcaliippgpaaGreatDoorX18
import Derived.Test.YtjjfcaliippgpaaGreatDoorX04
import Derived.Test.YtjjfcaliippgpaaGreatDoorX15
import Derived.Test.YtjjfcaliippgpaaGreatDoorX06
import Derived.Test.YtjjfcaliippgpaaGreatDoorX05
import Derived.Lib.SliceRun
import Derived.Test.YtjjfcaliippgpaaGreatDoorX01
import Derived.Test.YtjjfcaliippgpaaGreatDoorX17
namespace Go.Proofs.YtjjfcaliippgpaaGreatDoor
theorem RYe {P Q:Prop}(kq:Q)(h:HQ Q->P:=by
 intro kq
 refine hK.out _ _ ?_ (fun hHeld=>?_)
 ·(try dsimp only)
  all_goals trivial
 (try simp only[Act.put,gA,gB,gC,sA,sB,sC])
 revert hHeld
 exact kq.o):P:=h ⟨kq⟩
theorem MYL {P:Prop}(h:P:=by
 refine tkz 9 ?_
 refine rdz 10 fun K hK=>?_
 go_simp
 refine(qOv (some ad) n xc (lgVs ys) (by rw[qP5,HYL.o];omega) qo (qQc ys) _ (fun _=>⟨ad,rfl,HYC.o _ (Bgo HB.o (Bdrew (B0 _)))⟩)).mono ?_
 rintro e w7 ⟨v7,rfl,hown,hb⟩
 obtain⟨A7,c7,hu7⟩:=qKK hown
 subst hu7
 have HO:=qh hown
 replace HG:=qh ((HG.o.keep (Bdrew (B0 _))).keep hb)
 replace HR:=qh ((HR.o.keep (Bdrew (B0 _))).keep hb)
 have HSZ:qH (w.heap.size<=w2.drew.heap.size):=qh (Bgo HB.o (Bdrew (B0 _))).size
 replace HB:=qh (Bgo (Bgo HB.o (Bdrew (B0 _))) hb)
 clear hb hown c0
 refine RYe ?_;clear hK K;intro hHeld
 refine tkz 11 ?_
 refine rdz 12 fun K hK=>?_
 have c0:=HG.o.pk hk
 rw[HX.o] at c0
 have f0:=HG.o.thawed k
 go_simp
 refine RYe ?_;clear hK K;intro hHeld
 refine dnz ?_
 obtain⟨WF,hWF⟩:∃ WF,w7.setCell ⟨w.heap.size,k,none⟩ (.slice A7 n c7)=WF:=⟨_,rfl⟩
 have zz:Held (w7.setCell ⟨w.heap.size,k,none⟩ (.slice A7 n c7)) _ _ (pkC (updF U k ⟨A7,n,c7⟩)):=HG.o.putP hk ⟨A7,n,c7⟩
 have hBF:=Bput HB.o (p:=⟨w.heap.size,k,none⟩) (Nat.le_refl _) (.slice A7 n c7)
 have hR2:=HR.o.far (p:=⟨w.heap.size,k,none⟩) (by show w.heap.size+1≠w.heap.size;omega) (.slice A7 n c7)
 have hO2:(w7.setCell ⟨w.heap.size,k,none⟩ (.slice A7 n c7)).ownsRow w2.drew.heap.size 2 1 (.slice A7 n c7) n (lgVs ys):=qWQ HO.o (fun j hj=>by
  have h1:=(HO.o.lt j hj).1
  have h2:=HSZ.o
  have h3:w.heap.size<w2.drew.heap.size:=HLT.o
  rw[Below.heap_setCell _ _ _ _ (by show j≠w.heap.size;omega)])
 rw[hWF] at zz hBF hR2 hO2
 rw[hWF]
 clear hWF c0 f0 HG HR HB HO
 have HG:=qh zz
 have HR:=qh hR2
 have HB:=qh hBF
 have HO:=qh hO2
 have HF:qH (∀ ad,A7=some ad->w.heap.size<=ad.block):=qh (fun ad e=>by
  subst e
  have:=(HO.o.lt ad.block (by unfold Value.ownBlock;rfl)).1
  have:=HSZ.o
  omega)
 clear zz hBF hR2 hO2
 obtain⟨U2,hU2⟩:∃ U2,updF U k ⟨A7,n,c7⟩=U2:=⟨_,rfl⟩
 have HU2:=qh hU2
 rw[hU2] at HG
 clear hU2
 obtain⟨x0,x1,x2,x3,x4,x5,x6,x7,x8⟩:=HG.o.nineP
 obtain⟨z0,z1,z2,z3,z4,z5,z6,z7,z8⟩:=HR.o.nineP
 obtain⟨f0,f1,f2,f3,f4,f5,f6,f7,f8⟩:=HR.o.thawP
 go_wp2_with fail
 go_region
 obtain⟨WF2,hWF⟩:∃ WF2,setP WF (w.heap.size+1) U2=WF2:=⟨_,rfl⟩
 have zz:=Held.setP HR.o U2
 have hBF:=qMg (g:=w.heap.size+1) HB.o qo U2
 have hOF:(setP WF (w.heap.size+1) U2).ownsRow w2.drew.heap.size 2 1 (.slice A7 n c7) n (lgVs ys):=qWQ HO.o (fun j hj=>by
  have h1:=(HO.o.lt j hj).1
  have h2:w.heap.size+1<w2.drew.heap.size:=HLT2.o
  rw[qDL qo])
 rw[hWF] at zz hBF hOF
 unfold setP at hWF
 rw[hWF]
 replace zz:=zz.keep (Bdrew (B0 _))
 replace hBF:=Bgo hBF (Bdrew (B0 _))
 replace hOF:=qEc hOF (Bdrew (B0 _))
 obtain⟨y0,y1,y2,y3,y4,y5,y6,y7,y8⟩:=zz.nineP
 clear x0 x1 x2 x3 x4 x5 x6 x7 x8 z0 z1 z2 z3 z4 z5 z6 z7 z8 f0 f1 f2 f3 f4 f5 f6 f7 f8
 go_wp2
 refine bodyPost_ret (v := .tuple #[.int .i64 a,.agg (pkC U2),.bool true]) (by simp[results,Tryz.results75,go_sem,y0,y1,y2,y3,y4,y5,y6,y7,y8]) rfl ⟨⟨A7,n,c7⟩,by rw[HU2.o],HF.o,fun j hj=>?_,hBF⟩
 by_cases e:j=k
 ·subst e
  rw[qJN,qJN]
  exact qUL (base:=w2.drew.heap.size) (by rw[HYL.o];exact hOF) HYB.o
 ·rw[qR2 _ _ e,qR2 _ _ e]
  exact(HP.o j hj).below hBF):P:=h
theorem MiY {P:Prop}(h:P:=by
 refine Rbo ?_
 refine RPe ?_
 refine tkz 9 ?_
 refine tkz 10 ?_
 refine dnz ?_
 go_wp2_with fail
 go_ret
 exact⟨by rw[HBF.o];rfl,Bdraw HBW.o (d+1)⟩):P:=h
theorem MfI {P:Prop}(h:P:=by
 go_enter Tryz.func30,Tryz.ntmps30
 go_wp2_with fail
 go_ret
 exact⟨by rw[HBF.o];rfl,HBW.o⟩):P:=h
theorem MLK {P:Prop}(h:P:=by
 (try dsimp only)
 first|exact⟨p0,p1,q0,q1,x0,y0⟩|exact hHeld):P:=h
end Go.Proofs.YtjjfcaliippgpaaGreatDoor
set_option linter.unusedVariables false
set_option linter.unusedSimpArgs false
set_option maxRecDepth 100000
set_option maxHeartbeats 25600000
namespace Go.Proofs.YtjjfcaliippgpaaGreatDoor
open Go.ChangeShapes Go.WideShapes Go.ChangeAt Go.RowKit Go.Maps
section
theorem qOv (A:Option Addr)(n c:Nat)(xs:List Value)(hl:xs.length=n*1)(hmx:n*8<=140737488355328)(h1:∀ u∈xs,u.oneCell'=true)(w:World)
    (hA:0<n->∃ ad,A=some ad/\∀ j u,xs[j]?=some u->w.cell? (ad.add j)=some u) :
    Calls Tryz.prog 110 #[.slice A n c] w fun e w'=>∃ v,e = .returned v/\w'.ownsRow w.heap.size 2 1 v n xs/\Below w.heap.size w w':=by
  have q22:∀ (w:World) (a:Option Addr) (n c n' c':Nat),(binOp .eql 34 (.slice a n c) (.slice none n' c')).run Tryz.prog w = .ok (.bool a.isNone) w:=fun w a n c n' c'=>Lib.run_eql_slice_nil w _ _ a n c n' c' Tryz.underlying34
  cases A with
  | none =>
    have hn:n=0:=by
      exact MQM
    subst hn
    have hx:xs = []:=List.eq_nil_of_length_eq_zero qo
    subst hx
    go_enter Tryz.func110,Tryz.ntmps110
    go_wp2
    go_ret
    exact⟨_,rfl,World.ownsRow_nil _ _ _ _,B0 _⟩
  | some ad =>
    obtain⟨i0,hi,hz0,hz1,hz2⟩:=info_parts longInfo
    have HC:qH (∀ j u,xs[j]?=some u->w.cell? (ad.add j)=some u):=qh (fun j u hu=>by
      rcases Nat.eq_zero_or_pos n with h|h
      ·exact MIZ
      · obtain⟨ad',h2,h3⟩:=hA h
        injection h2 with h2
        subst h2
        exact h3 j u hu)
    clear hA
    go_enter Tryz.func110,Tryz.ntmps110
    go_wp2_with (at_builtin
                 refine wpList_append_own _ rfl _ _ 34 rfl w.heap.size 2 i0 (.int .i64 0) 1 8 Tryz.underlying34 hi hz0 hz1 hz2 rfl (by decide) _ 0 [] rfl (World.ownsRow_made w #[] 0 (Nat.le_refl _) (Nat.zero_le _) (by simp)) ad n c xs rfl ?c1 ?c2 ?c3 ?c4 ?c5 ?c6 ?_)
    case c1=>exact hl
    case c2=>exact fun j u hj=>Lib.cell?_alloc_some _ (HC.o j u hj)
    case c3=>exact h1
    case c4=>rw[Nat.zero_add];unfold maxLen;omega
    case c5=>rw[Nat.zero_add];exact hmx
    case c6=>simp
    intro v' w1 hown hgrow hnil
    have HB:=qh (((Below.refl _ w).alloc (Nat.le_refl _) (.cells #[] 2)).grown hgrow (by simp) (by intro k hk;simp[Value.ownBlock] at hk;omega))
    have HO:=qh hown
    clear hgrow hown hnil
    go_wp2
    go_ret
    exact⟨_,rfl,by simpa using HO.o,HB.o⟩
theorem qQc (l:List Int):∀ u∈lgVs l,u.oneCell'=true:=fun y hy=>by
 obtain⟨j,hj⟩:=List.mem_iff_getElem?.1 hy
 obtain⟨z,_,rfl⟩:=qSW hj
 simp[Value.oneCell']

theorem qAa (U:Nat->Sl)(Z:Nat->List Int)(k:Int)(h0 : -9223372036854775808<=k)(h1:k<=9223372036854775807)(w:World)(hT:SlotsLaid w)(h:PkV w U Z)(hn:lastP Z k=none) :
  Calls Tryz.prog 75 #[.agg (pkC U),.int .i64 k] w fun e w'=>e = .returned (.tuple #[.int .i64 0,.agg (pkC U),.bool false])/\Below w.heap.size w w':=by
 have HG:=qh ((Held.new w 36 (pkC U)).alloc (.cells #[.slice none 0 0,.slice none 0 0,.slice none 0 0,.slice none 0 0,.slice none 0 0,.slice none 0 0,.slice none 0 0,.slice none 0 0,.slice none 0 0] 36))
 have HR:=qh (Held.new2 w (.cells (pkC U) 36) 36 #[.slice none 0 0,.slice none 0 0,.slice none 0 0,.slice none 0 0,.slice none 0 0,.slice none 0 0,.slice none 0 0,.slice none 0 0,.slice none 0 0])
 have HB:=qh (Bnew (Bnew (B0 w) (.cells (pkC U) 36)) (.cells #[.slice none 0 0,.slice none 0 0,.slice none 0 0,.slice none 0 0,.slice none 0 0,.slice none 0 0,.slice none 0 0,.slice none 0 0,.slice none 0 0] 36))
 have HP:=qh h
 have HT:=qh hT
 have HN:=qh hn
 clear h hn hT
 obtain⟨x0,x1,x2,x3,x4,x5,x6,x7,x8⟩:=HG.o.nineP
 go_enter Tryz.func75,Tryz.ntmps75
 go_wp2_with fail
 refine(qVc U Z k h0 h1 _ (HT.o.below HB.o) (HP.o.below HB.o)).mono ?_
 rintro e w2 ⟨rfl,hb⟩
 rw[HN.o,show lastV none = .tuple #[.int .i64 0,.bool false] from rfl]
 replace HG:=qh (HG.o.keep hb)
 replace HR:qH (Held w2 (w.heap.size+1) 36 (pkC zeroU)):=qh (HR.o.keep hb)
 replace HB:=qh (Bgo HB.o hb)
 clear hb x0 x1 x2 x3 x4 x5 x6 x7 x8
 obtain⟨x0,x1,x2,x3,x4,x5,x6,x7,x8⟩:=HG.o.nineP
 obtain⟨z0,z1,z2,z3,z4,z5,z6,z7,z8⟩:=HR.o.nineP
 obtain⟨f0,f1,f2,f3,f4,f5,f6,f7,f8⟩:=HR.o.thawP
 go_wp2_with fail
 go_region
 obtain⟨WF,hWF⟩:∃ WF,setP w2 (w.heap.size+1) U=WF:=⟨_,rfl⟩
 have zz:=Held.setP HR.o U
 have hBF:=qMg (g:=w.heap.size+1) HB.o qo U
 rw[hWF] at zz hBF
 unfold setP at hWF
 rw[hWF]
 replace zz:=zz.keep (Bdrew (B0 _))
 replace hBF:=Bgo hBF (Bdrew (B0 _))
 obtain⟨y0,y1,y2,y3,y4,y5,y6,y7,y8⟩:=zz.nineP
 clear x0 x1 x2 x3 x4 x5 x6 x7 x8 z0 z1 z2 z3 z4 z5 z6 z7 z8 f0 f1 f2 f3 f4 f5 f6 f7 f8
 go_wp2
 exact bodyPost_ret (v := .tuple #[.int .i64 0,.agg (pkC U),.bool false]) (by simp[results,Tryz.results75,go_sem,y0,y1,y2,y3,y4,y5,y6,y7,y8]) rfl ⟨rfl,hBF⟩
end
section
theorem qL1 (U:Nat->Sl)(Z:Nat->List Int)(k:Nat)(ys:List Int)(a:Int)(hk:k<9)(hz:Z k=ys ++ [a])(h4:ys.length<=1000000)(w:World)(hT:SlotsLaid w)(h:PkV w U Z) :
  Calls Tryz.prog 75 #[.agg (pkC U),.int .i64 (k:Int)] w fun e w'=>∃ x:Sl,e = .returned (.tuple #[.int .i64 a,.agg (pkC (updF U k x)),.bool true])/\(∀ ad,x.a=some ad->w.heap.size<=ad.block)/\PkV w' (updF U k x) (updF Z k ys)/\Below w.heap.size w w':=by
 have HG:=qh ((Held.new w 36 (pkC U)).alloc (.cells #[.slice none 0 0,.slice none 0 0,.slice none 0 0,.slice none 0 0,.slice none 0 0,.slice none 0 0,.slice none 0 0,.slice none 0 0,.slice none 0 0] 36))
 have HR:=qh (Held.new2 w (.cells (pkC U) 36) 36 #[.slice none 0 0,.slice none 0 0,.slice none 0 0,.slice none 0 0,.slice none 0 0,.slice none 0 0,.slice none 0 0,.slice none 0 0,.slice none 0 0])
 have HB:=qh (Bnew (Bnew (B0 w) (.cells (pkC U) 36)) (.cells #[.slice none 0 0,.slice none 0 0,.slice none 0 0,.slice none 0 0,.slice none 0 0,.slice none 0 0,.slice none 0 0,.slice none 0 0,.slice none 0 0] 36))
 have HP:=qh h
 have HT:=qh hT
 have HN:qH (lastP Z (k:Int)=some a):=qh (by rw[qUw hk,hz];simp)
 obtain⟨A,c,hu,hlc,hcm,hbd,hno,hcl⟩:=h k hk
 obtain⟨n,hn⟩:∃ n,ys.length=n:=⟨_,rfl⟩
 have hl:(Z k).length=n+1:=by rw[hz,List.length_append,hn];rfl
 rw[hl] at hu hlc
 rw[hn] at h4
 have HYL:=qh hn
 obtain⟨x,hx⟩:∃ x,U k=x:=⟨_,rfl⟩
 rw[hx] at hu
 obtain⟨xa,xn,xc⟩:=x
 injection hu with e1 e2 e3
 have e1:xa=A:=e1
 have e2:xn=n+1:=e2
 have e3:xc=c:=e3
 subst e1 e2 e3
 have HX:=qh hx
 have hxa:xa≠none:=fun e=>absurd (hno e).1 (by rw[hz];simp)
 have hn9:n+1<=9223372036854775807:=by unfold maxLen at hcm;omega
 obtain⟨ad,rfl⟩:∃ ad,xa=some ad:=by cases xa with|none=>exact absurd rfl hxa|some ad=>exact⟨ad,rfl⟩
 have HYB:qH (∀ z∈ys,-9223372036854775808<=z/\z<=9223372036854775807):=qh (fun z hz2=>hbd z (by rw[hz];exact List.mem_append_left _ hz2))
 have HYC:qH (∀ w',Below w.heap.size w w'->∀ j u,(lgVs ys)[j]?=some u->w'.cell? (ad.add j)=some u):=qh (fun w' hb j u hu=>by
  obtain⟨z,hz2,rfl⟩:=qSW hu
  have h1:=(hcl ad rfl).1 (by rw[hz];simp)
  refine(hb.cell (p:=ad.add j) (by rw[qXL];exact h1)).trans ((hcl ad rfl).2 j z ?_)
  rw[hz,List.getElem?_append_left (by
   rcases Nat.lt_or_ge j ys.length with h1|h1
   ·exact h1
   ·rw[List.getElem?_eq_none h1] at hz2;cases hz2)]
  exact hz2)
 have hki:(k:Int)<9:=qo
 have hxc:n+1<=xc:=hlc
 have t3:((n+1:Nat):Int)-1=(n:Int):=qo
 have t4:IntKind.i64.wrap (n:Int)=(n:Int):=qIv qo qo
 have t5:0<=(n:Int)/\(n:Int)<=(xc:Int):=⟨qo,qo⟩
 have h0 : -9223372036854775808<=(k:Int):=qo
 have h1:(k:Int)<=9223372036854775807:=qo
 clear h hT hz hl hx hbd hno hcl hn hxa
 obtain⟨x0,x1,x2,x3,x4,x5,x6,x7,x8⟩:=HG.o.nineP
 go_enter Tryz.func75,Tryz.ntmps75
 go_wp2_with fail
 refine(qVc U Z k h0 h1 _ (HT.o.below HB.o) (HP.o.below HB.o)).mono ?_
 rintro e w2 ⟨rfl,hb⟩
 rw[HN.o,show lastV (some a) = .tuple #[.int .i64 a,.bool true] from rfl]
 replace HG:=qh (HG.o.keep hb)
 replace HR:qH (Held w2 (w.heap.size+1) 36 (pkC zeroU)):=qh (HR.o.keep hb)
 replace HB:=qh (Bgo HB.o hb)
 clear hb x0 x1 x2 x3 x4 x5 x6 x7 x8
 have HLT:qH (w.heap.size<w2.drew.heap.size):=qh HG.o.lt
 have HLT2:qH (w.heap.size+1<w2.drew.heap.size):=qh HR.o.lt
 have c0:=HG.o.pk hk
 rw[HX.o] at c0
 go_wp2_with fail
 refine wp_region_held_drew (S:=(fun _=>True)) qr ?_ (fun hHeld=>?_)
 ·trivial
 refine tkz 0 ?_
 refine tkz 1 ?_
 refine tkz 2 ?_
 refine tkz 4 ?_
 refine tkz 5 ?_
 refine wpAnyH_ready (rs := [3,6]) qr (by simp) ?_
 refine AllReadyH.cons (o:=_) rfl (fun K hK=>?_) (AllReadyH.cons (o:=_) rfl (fun K hK=>?_) AllReadyH.nil)
 ·go_simp
  refine RYe ?_;clear hK K;intro hHeld
  refine rdz 6 fun K hK=>?_
  go_simp
  skip
  refine RYe ?_;clear hK K;intro hHeld
  refine tkz 7 ?_
  refine tkz 8 ?_
  exact MYL
 ·go_simp
  refine RYe ?_;clear hK K;intro hHeld
  refine tkz 7 ?_
  refine tkz 8 ?_
  refine rdz 3 fun K hK=>?_
  go_simp
  skip
  refine RYe ?_;clear hK K;intro hHeld
  exact MYL
end
section
section
variable {O : Ob} {w w0 : World} {A Q G : Nat -> Prop} {g b : Nat} {t q s : Int} {U : Nat -> Sl} {Z : Nat -> List Int} {st : Vst}

theorem qIu (k:Nat)(hk:k<9)(p i a:Int)(ha:atI t q s (k:Int) p i=a)(hab : -9223372036854775808<=a/\a<=9223372036854775807)(h3:(Z k).length<=3)(hT:SlotsLaid w)(h:Hnd O w0 A Q G w g b t q s U Z st w) :
  Calls Tryz.prog 62 #[.pointer (some ⟨g,0,none⟩),.int .i64 (k:Int),.int .i64 p,.int .i64 i] w fun e w'=>e = .returned (.bool true)/\∃ x:Sl,(∀ ad,x.a=some ad->w.heap.size<=ad.block)/\Turns (fun i=>i=g) w w'/\Hnd O w0 A Q G w g b t q s (updF U k x) (updF Z k (Z k ++ [a])) st w':=by
 have HN:=qh h
 have HT:=qh hT
 have HA:=qh ha
 have HB:=qh (B0 w)
 clear h hT ha
 obtain⟨x0,x1,x2,x3⟩:=HN.o.held.hd4
 obtain⟨u0,u1,u2,u3,u4,u5,u6,u7,u8⟩:=HN.o.held.hdU
 go_enter Tryz.func62,Tryz.ntmps62
 go_wp2_with fail
 refine(qSa t q s (k:Int) p i qo qo _ HT.o).mono ?_
 rintro e w2 ⟨rfl,hb⟩
 rw[HA.o]
 replace HN:=qh (HN.o.keep hb)
 replace HB:=qh (Bgo HB.o hb)
 clear hb
 clear x0 x1 x2 x3 u0 u1 u2 u3 u4 u5 u6 u7 u8
 obtain⟨x0,x1,x2,x3⟩:=HN.o.held.hd4
 obtain⟨u0,u1,u2,u3,u4,u5,u6,u7,u8⟩:=HN.o.held.hdU
 go_wp2_with fail
 refine(qD8 U Z k a hab hk h3 _ (HT.o.below HB.o) HN.o.p.pk).mono ?_
 rintro e w3 ⟨x,rfl,hx,hV,hb⟩
 have HNT:=qh (HN.o.turn hb hV (fun i hi=>hi.turn_new hx))
 have HX:=qh (fun ad (e:x.a=some ad)=>Nat.le_trans HB.o.size (hx ad e))
 have HTU:=qh (fun V=>Turns.setH (F:=fun i=>i=g) (Turns.of_below (Bgo HB.o hb) _) rfl V)
 replace HN:=qh (HN.o.keep hb)
 obtain⟨U2,hU2⟩:∃ U2,(updF U k x)=U2:=⟨_,rfl⟩
 have HU2:=qh hU2
 rw[hU2] at HNT ⊢
 clear hb hx hV hU2 HB HT HA
 clear x0 x1 x2 x3 u0 u1 u2 u3 u4 u5 u6 u7 u8
 obtain⟨x0,x1,x2,x3⟩:=HN.o.held.hd4
 obtain⟨u0,u1,u2,u3,u4,u5,u6,u7,u8⟩:=HN.o.held.hdU
 obtain⟨f0,f1,f2,f3,f4,f5,f6,f7,f8⟩:=HN.o.held.hdF
 have HN4:=qh (HN.o.keep (Bnew (B0 _) (.cells (pkC U2) 36)))
 obtain⟨y0,y1,y2,y3,y4,y5,y6,y7,y8⟩:=HN4.o.held.hdU
 obtain⟨e0,e1,e2,e3,e4,e5,e6,e7,e8⟩:=HN4.o.held.hdF
 have hgl:=HN.o.held.lt
 go_wp2_with fail
 obtain⟨WF,hWF⟩:∃ WF,setH w3 g U2=WF:=⟨_,rfl⟩
 have HTW:=qh (HTU.o U2)
 rw[hWF] at HNT HTW
 unfold setH at hWF
 rw[hWF]
 replace HTW:=qh (HTW.o.trans (Turns.of_below (Bnew (B0 _) (.cells (pkC U2) 36)) _))
 clear hWF f0 f1 f2 f3 f4 f5 f6 f7 f8 x0 x1 x2 x3 u0 u1 u2 u3 u4 u5 u6 u7 u8 y0 y1 y2 y3 y4 y5 y6 y7 y8 e0 e1 e2 e3 e4 e5 e6 e7 e8 hgl HN HN4
 go_wp2
 go_ret
 exact⟨rfl,x,HX.o,HTW.o,by rw[HU2.o];exact HNT.o.keep (Bnew (B0 _) _)⟩

theorem qHY (k:Nat)(hk:k<9)(p i a:Int)(ha:atI t q s (k:Int) p i=a)(hab : -9223372036854775808<=a/\a<=9223372036854775807)(h3:3<(Z k).length)(hT:SlotsLaid w)(h:Hnd O w0 A Q G w g b t q s U Z st w) :
  Calls Tryz.prog 62 #[.pointer (some ⟨g,0,none⟩),.int .i64 (k:Int),.int .i64 p,.int .i64 i] w fun e w'=>e = .returned (.bool false)/\Hnd O w0 A Q G w g b t q s U Z st w':=by
 have HN:=qh h
 have HT:=qh hT
 have HA:=qh ha
 have HB:=qh (B0 w)
 clear h hT ha
 obtain⟨x0,x1,x2,x3⟩:=HN.o.held.hd4
 obtain⟨u0,u1,u2,u3,u4,u5,u6,u7,u8⟩:=HN.o.held.hdU
 go_enter Tryz.func62,Tryz.ntmps62
 go_wp2_with fail
 refine(qSa t q s (k:Int) p i qo qo _ HT.o).mono ?_
 rintro e w2 ⟨rfl,hb⟩
 rw[HA.o]
 replace HN:=qh (HN.o.keep hb)
 replace HB:=qh (Bgo HB.o hb)
 clear hb
 clear x0 x1 x2 x3 u0 u1 u2 u3 u4 u5 u6 u7 u8
 obtain⟨x0,x1,x2,x3⟩:=HN.o.held.hd4
 obtain⟨u0,u1,u2,u3,u4,u5,u6,u7,u8⟩:=HN.o.held.hdU
 go_wp2_with fail
 refine(qJ2 U Z (k:Int) a qo qo _ (HT.o.below HB.o) HN.o.p.pk (.inr (.inr (by rw[Int.toNat_natCast];exact h3)))).mono ?_
 rintro e w3 ⟨rfl,hb⟩
 have HNT:=qh (HN.o.turn hb (HN.o.p.pk.below hb) (fun i hi => .inl hi))
 replace HN:=qh (HN.o.keep hb)
 obtain⟨U2,hU2⟩:∃ U2,U=U2:=⟨_,rfl⟩
 have HU2:=qh hU2
 rw[hU2] at HNT ⊢
 clear hb hU2 HB HT HA
 clear x0 x1 x2 x3 u0 u1 u2 u3 u4 u5 u6 u7 u8
 obtain⟨x0,x1,x2,x3⟩:=HN.o.held.hd4
 obtain⟨u0,u1,u2,u3,u4,u5,u6,u7,u8⟩:=HN.o.held.hdU
 obtain⟨f0,f1,f2,f3,f4,f5,f6,f7,f8⟩:=HN.o.held.hdF
 have HN4:=qh (HN.o.keep (Bnew (B0 _) (.cells (pkC U2) 36)))
 obtain⟨y0,y1,y2,y3,y4,y5,y6,y7,y8⟩:=HN4.o.held.hdU
 obtain⟨e0,e1,e2,e3,e4,e5,e6,e7,e8⟩:=HN4.o.held.hdF
 have hgl:=HN.o.held.lt
 go_wp2_with fail
 obtain⟨WF,hWF⟩:∃ WF,setH w3 g U2=WF:=⟨_,rfl⟩
 skip
 rw[hWF] at HNT
 unfold setH at hWF
 rw[hWF]
 skip
 clear hWF f0 f1 f2 f3 f4 f5 f6 f7 f8 x0 x1 x2 x3 u0 u1 u2 u3 u4 u5 u6 u7 u8 y0 y1 y2 y3 y4 y5 y6 y7 y8 e0 e1 e2 e3 e4 e5 e6 e7 e8 hgl HN HN4
 go_wp2
 go_ret
 exact⟨rfl,by first|exact HNT.o.keep (Bnew (B0 _) _)|(rw[HU2.o];exact HNT.o.keep (Bnew (B0 _) _))⟩

theorem qJY (k:Int)(k0 : -9223372036854775808<=k)(k1:k<=9223372036854775807)(hn:lastP Z k=none)(hT:SlotsLaid w)(h:Hnd O w0 A Q G w g b t q s U Z st w) :
  Calls Tryz.prog 37 #[.pointer (some ⟨g,0,none⟩),.int .i64 k] w fun e w'=>e = .returned (.tuple #[.int .i64 0,.bool false])/\Hnd O w0 A Q G w g b t q s U Z st w':=by
 have HN:=qh h
 have HT:=qh hT
 have HL:=qh hn
 clear h hT hn
 obtain⟨x0,x1,x2,x3⟩:=HN.o.held.hd4
 obtain⟨u0,u1,u2,u3,u4,u5,u6,u7,u8⟩:=HN.o.held.hdU
 go_enter Tryz.func37,Tryz.ntmps37
 go_wp2_with fail
 refine(qAa U Z k k0 k1 _ HT.o HN.o.p.pk HL.o).mono ?_
 rintro e w3 ⟨rfl,hb⟩
 replace HN:=qh (HN.o.keep hb)
 clear hb
 clear x0 x1 x2 x3 u0 u1 u2 u3 u4 u5 u6 u7 u8
 obtain⟨x0,x1,x2,x3⟩:=HN.o.held.hd4
 obtain⟨u0,u1,u2,u3,u4,u5,u6,u7,u8⟩:=HN.o.held.hdU
 go_wp2
 go_ret2
 exact⟨rfl,HN.o.keep (Bnew (B0 _) _)⟩
end
section
variable {base b n : Nat} {wh : Bool} {K : Nat -> Option Nat} {st : Vst} {w w0 : World} {A Q G : Nat -> Prop} {g : Nat} {t q s : Int} {U : Nat -> Sl} {Z : Nat -> List Int}
theorem qAM (hn:n<2^40)(k:Nat)(hk:k<9)(ys:List Int)(a:Int)(hz:Z k=ys ++ [a])(h4:ys.length<=1000000)(hs:spotB t q s a=true)(hr:slotB t q s (k:Int) (spotO t q s a)=true)(p:Int)(i:Nat)(hp:spotP t q s a=p)(hi:slotR t q s (k:Int) (spotO t q s a)=(i:Int))(hi32:i<32)
  (hT:SlotsLaid w0) (hA:¬ A 0) (h:Hnd (vOb base b n wh K) w0 A Q G w g b t q s U Z st w) :
  Calls Tryz.prog 37 #[.pointer (some ⟨g,0,none⟩),.int .i64 (k:Int)] w fun e w'=>e = .returned (.tuple #[.int .i64 a,.bool true])/\∃ x:Sl,(∀ ad,x.a=some ad->w.heap.size<=ad.block) /\
   Hnd (vOb base b n wh K) w0 A Q G w g b t q s (updF U k x) (updF Z k ys) (putS n (getS n K st (pageI t q s p 4)) (pageI t q s p 4) (getV n K st (pageI t q s p 4) ||| 2^i)) w':=by
 have HN:=qh h
 have HT:=qh hT
 have HZ:=qh hz
 have HS:=qh hs
 have HR:=qh hr
 have HP:=qh hp
 have HI:=qh hi
 have hab : -9223372036854775808<=a/\a<=9223372036854775807:=by
  have:=qSv hs
  omega
 clear h hT hz hs hr hp hi
 obtain⟨x0,x1,x2,x3⟩:=HN.o.held.hd4
 obtain⟨u0,u1,u2,u3,u4,u5,u6,u7,u8⟩:=HN.o.held.hdU
 go_enter Tryz.func37,Tryz.ntmps37
 go_wp2_with fail
 refine(qL1 U Z k ys a hk HZ.o h4 _ (HT.o.at_ hA HN.o.at_) HN.o.p.pk).mono ?_
 rintro e w3 ⟨x,rfl,hx,hV,hb⟩
 have HNT:=qh (HN.o.turn hb hV (fun i hi=>hi.turn_new hx))
 have HX:=qh hx
 replace HN:=qh (HN.o.keep hb)
 obtain⟨U2,hU2⟩:∃ U2,updF U k x=U2:=⟨_,rfl⟩
 have HU2:=qh hU2
 rw[hU2] at HNT ⊢
 clear hb hx hV hU2 HZ
 clear x0 x1 x2 x3 u0 u1 u2 u3 u4 u5 u6 u7 u8
 obtain⟨x0,x1,x2,x3⟩:=HN.o.held.hd4
 obtain⟨u0,u1,u2,u3,u4,u5,u6,u7,u8⟩:=HN.o.held.hdU
 obtain⟨f0,f1,f2,f3,f4,f5,f6,f7,f8⟩:=HN.o.held.hdF
 have HN4:=qh (HN.o.keep (Bnew (B0 _) (.cells (pkC U2) 36)))
 obtain⟨y0,y1,y2,y3,y4,y5,y6,y7,y8⟩:=HN4.o.held.hdU
 obtain⟨e0,e1,e2,e3,e4,e5,e6,e7,e8⟩:=HN4.o.held.hdF
 have hgl:=HN.o.held.lt
 go_wp2_with fail
 obtain⟨WF,hWF⟩:∃ WF,setH w3 g U2=WF:=⟨_,rfl⟩
 rw[hWF] at HNT
 unfold setH at hWF
 rw[hWF]
 replace HNT:=qh (HNT.o.keep (Bnew (B0 _) (.cells (pkC U2) 36)))
 clear hWF f0 f1 f2 f3 f4 f5 f6 f7 f8 x0 x1 x2 x3 u0 u1 u2 u3 u4 u5 u6 u7 u8 y0 y1 y2 y3 y4 y5 y6 y7 y8 e0 e1 e2 e3 e4 e5 e6 e7 e8 hgl HN HN4
 generalize hw4:WF.alloc (.cells (pkC U2) 36)=w4 at *
 clear hw4
 refine(qIY k hk a hab.1 hab.2 HS.o HR.o _ (HT.o.at_ hA HNT.o.at_) HNT.o.held).mono ?_
 rintro e w5 ⟨rfl,hb⟩
 rw[HP.o,HI.o]
 replace HNT:=qh (HNT.o.keep hb)
 clear hb
 go_wp2_with fail
 refine(qUs hn p i hi32 HG.hand HNT.o.held HNT.o.at_).mono ?_
 rintro e w6 ⟨rfl,h1,h2⟩
 replace HNT:=qh (HNT.o.call h1 h2)
 clear h1 h2
 go_wp2
 go_ret2
 exact⟨rfl,x,HX.o,by rw[HU2.o];exact HNT.o⟩

end
end
section
def SeqCap (P:Program) (gf:Nat) (cap:Array Value) (enc:Nat->Array Value) (can:Nat->Bool) (next:Nat->Nat) (R:World->Prop):Prop :=
 ∀ (l:Nat) (J:Nat->(Nat->Prop)->World->Prop) (Jx:World->Prop) (W:World) (F0:Nat->Prop),R W ->
  (∀ pos F A B,J pos F A->Below A.heap.size A B->J pos F B)->(∀ A B,Jx A->Below A.heap.size A B->Jx B) ->
  (∀ pos F A,J pos F A->R A)->(∀ pos F A,J pos F A->∀ i,F i->i<A.heap.size) ->
  (∀ pos F A,J pos F A->W.heap.size<=A.heap.size->can pos=true->YieldAt Fence.wide 0 P l (enc pos) A fun e B =>
   (e = .returned (.bool true)/\∃ F',J (next pos) F' B/\A.heap.size<=B.heap.size/\(∀ k,W.heap.size<=k->k<A.heap.size->¬ F k->B.heap[k]?=A.heap[k]?)/\∀ i,F' i->F i\/A.heap.size<=i) \/
   (e = .returned (.bool false)/\Jx B)) ->
  J 0 F0 W ->
  CallsIn Fence.wide 0 P gf (#[.func (.yield l) #[] #[]]++cap) W fun e B=>(∃ v,e = .returned v)/\((∃ pos F,J pos F B/\can pos=false)\/Jx B)

theorem qT5 {P:Program}{g:Operand}{ps:Array Tmp}{assign body:Code}{Q:Exit->Act->World->Prop}{a:Act}{w:World}{gf:Nat}{cap:Array Value}
  (hg:a.eval g = .func (.func gf) #[] cap) (eg:∀ args w,(callFunc gf args).run P w = .ok (.enter gf args) w)
  {enc:Nat->Array Value} {can:Nat->Bool} {next:Nat->Nat} {R:World->Prop} (hseq:SeqCap P gf cap enc can next R) (hb0:R w) (hRB:∀ A B,R A->Below A.heap.size A B->R B) (hps:∀ pos,(enc pos).size=ps.size)
  (I:Nat->(Nat->Prop)->World->Prop) (Ix:Code->World->Prop)
  (hI:∀ pos F A B,I pos F A->Mild w.heap.size A B->I pos F B) (hIx:∀ c A B,Ix c A->Mild w.heap.size A B->Ix c B)
  (hIB:∀ pos F A,I pos F A->R A) (hIF:∀ pos F A,I pos F A->∀ i,F i->∃ o,A.heap[i]?=some o/\o.isCells=true)
  {F0:Nat->Prop} (h0:I 0 F0 w)
  (hround:∀ (l pos:Nat) (F:Nat->Prop) (A:World),can pos=true->I pos F A->w.heap.size<=A.heap.size ->
   assign.wpIn (inR l) 0 P (Exit.then (RoundGo w.heap.size P l body (seqPost I Ix (next pos) F A.heap.size) A) (fun _ _ _=>False))
    { tmps:=(ps.zip (enc pos)).foldl (fun t (p,v)=>t.setIfInBounds p v) a.tmps,defers := [] } A)
  (hdone:∀ (D pos:Nat) (F:Nat->Prop) (A:World),w.heap.size<=D->can pos=false->I pos F A->A.heap[D]?=some (.deferred (some []))->Q .normal { a with defers:=mark D :: a.defers } A)
  (hstop:∀ (D:Nat) (c:Code) (A:World),w.heap.size<=D->Ix c A->A.heap[D]?=some (.deferred (some []))->c.wp P Q { a with defers:=mark D :: a.defers } A) :
  (Code.rangeFunc g ps assign body).wp P Q a w:=by
 refine(wpIn_wide (n:=1)).1 (wpIn_rangeFunc ?_)
 intro fn hfn
 obtain⟨rec,hrec⟩:∃ rec:LoopState->Option Code->Loop,rec=fun st pe => { state:=st,pending:=pe,fn,tmps:=a.tmps,params:=ps,assign,body,defers:=w.heap.size }:=⟨_,rfl⟩
 obtain⟨W1,hW1⟩:∃ W1,(w.alloc (.deferred (some []))).alloc (.loop (rec .ready none))=W1:=⟨_,rfl⟩
 have hbw:Below w.heap.size w W1:=by rw[<- hW1];exact Bnew (Bnew (B0 w) _) _
 have hs1:W1.heap.size=w.heap.size+2:=by rw[<- hW1];simp
 have hL1:W1.heap[w.heap.size+1]?=some (.loop (rec .ready none)):=by
  exact M40
 have hK1:W1.heap[w.heap.size]?=some (.deferred (some [])):=by
  rw[<- hW1];exact(Below.heap_alloc _ _ _ (by simp)).trans (heap_alloc_new w _)
 refine⟨w.heap.size+1,[mark w.heap.size],W1,{ target := .fn (.func gf) cap,args:=#[.func (.yield (w.heap.size+1)) #[] #[]] },W1,gf,#[.func (.yield (w.heap.size+1)) #[] #[]]++cap,W1,?_,?_,?_,?_,fun _=>Nat.le_refl _,?_⟩
 ·rw[<- hW1,hrec];exact run_enterLoop_outer _ _ _ _ _
 ·simp only[resolve,hg]
  simp[go_sem]
 ·intro f' hf';exact trivial
 ·simp[invoke,go_sem,eg]
 ·have keepRow:∀ {A B:World} {k:Nat} {o:Obj},Below A.heap.size A B->A.heap[k]?=some o->B.heap[k]?=some o:=fun hb hk=>(hb.block _ (Array.getElem?_eq_some_iff.1 hk).1).trans hk
  refine(hseq (w.heap.size+1)
   (fun pos F A=>I pos F A/\w.heap.size<=A.heap.size/\A.heap[w.heap.size+1]?=some (.loop (rec .ready none))/\A.heap[w.heap.size]?=some (.deferred (some [])))
   (fun A=>∃ c,Ix c A/\w.heap.size<=A.heap.size/\A.heap[w.heap.size+1]?=some (.loop (rec .done (some c)))/\A.heap[w.heap.size]?=some (.deferred (some [])))
   W1 F0 (hRB _ _ hb0 hbw)
   (fun pos F A B h hb=>⟨hI pos F A B h.1 (Mild.of_below h.2.1 hb),Nat.le_trans h.2.1 hb.size,keepRow hb h.2.2.1,keepRow hb h.2.2.2⟩)
   (fun A B h hb=>by obtain⟨c,h1,h2,h3,h4⟩:=h;exact⟨c,hIx c A B h1 (Mild.of_below h2 hb),Nat.le_trans h2 hb.size,keepRow hb h3,keepRow hb h4⟩)
   (fun pos F A h=>hIB pos F A h.1)
   (fun pos F A h i hi=>by obtain⟨o,ho,_⟩:=hIF pos F A h.1 i hi;exact(Array.getElem?_eq_some_iff.1 ho).1)
   ?_ ⟨hI 0 F0 w W1 h0 (Mild.of_below (Nat.le_refl _) hbw),hbw.size,hL1,hK1⟩).mono ?_
  ·exact MD6
  ·exact MXu

def encB (m:Nat) (f:Nat->Int) (pos:Nat):Array Value:=#[.int .i64 ((m-1-pos:Nat):Int),.int .i64 (f (m-1-pos))]
def canB (m pos:Nat):Bool:=decide (pos<m)
def BackAt (A:Option Addr) (m c:Nat) (f:Nat->Int) (bx:Nat) (w:World):Prop:=w.cell? ⟨bx,0,none⟩=some (.slice A m c)/\∀ i,i<m->∃ ad,A=some ad/\w.cell? (ad.add i)=some (.int .i64 (f i))
section
attribute [local go_sem] Oper.semAt_some
theorem qD1 (A:Option Addr)(m c:Nat)(hmc:m<=c)(hcm:c<=maxLen)(f:Nat->Int)(bx:Nat) :
  SeqCap Tryz.prog 116 #[.pointer (some ⟨bx,0,none⟩)] (encB m f) (canB m) (· + 1) (BackAt A m c f bx):=by
 intro l J Jx W F0 hW hJ hJx hJB hJF hY h0
 refine callsIn_of_wp Tryz.func116 rfl trivial ?_ rfl
 simp only[Tryz.ntmps116,List.size_toArray,List.length_cons,List.length_nil,Nat.reduceAdd,Nat.reduceSub,Array.replicate_succ,Array.replicate_zero,List.push_toArray,List.append_toArray,List.nil_append,List.cons_append]
 have HJ0:=qh h0
 have HJ:=qh hJ
 have HJX:=qh hJx
 have HJB:=qh hJB
 have HJF:=qh hJF
 have HY:=qh hY
 have HW:=qh hW
 have hc2:c<=9223372036854775807:=by unfold maxLen at hcm;omega
 have b0:=HW.o.1
 clear hJ hJx hJB hJF hY h0 hW
 gi_wp2_with fail
 gi_loopw [3] (fun u wr=>∃ (pos:Nat) (F:Nat->Prop),u = .int .i64 ((m:Int)-1-(pos:Int))/\pos<=m/\qH (J pos F wr)/\qH (W.heap.size<=wr.heap.size)) (fun u _=>(intOf u+1).toNat)
 case atStart=>exact⟨0,F0,by simp,qo,HJ0,qh (Nat.le_refl _)⟩
 case round =>
  clear HJ0 b0
  obtain⟨pos,F,rfl,hpos,HJS,HSZ⟩:=hrel
  have HBW:=qh (HJB.o _ _ _ HJS.o)
  have b0:=HBW.o.1
  by_cases hlt:pos<m
  ·obtain⟨k,hk⟩:∃ k,m-1-pos=k:=⟨_,rfl⟩
   have hk2:(m:Int)-1-(pos:Int)=(k:Int):=qo
   obtain⟨ad,hA,c0⟩:=HBW.o.2 k qo
   subst hA
   have HEN:qH (encB m f pos=#[.int .i64 (k:Int),.int .i64 (f k)]):=qh (by unfold encB;rw[hk])
   obtain⟨fn,tmps,assign,body,hy,hR⟩:=HY.o pos F _ HJS.o HSZ.o (decide_eq_true hlt)
   rw[HEN.o] at hy
   have HRR:=qh hR
   have HK:=qh hk
   rw[hk2]
   have hkm:k<m:=qo
   clear hR hk
   gi_wp2_with fail
   refine⟨rfl,HRR.o.mono ?_⟩
   rintro e W3 (⟨rfl,F',hJ3,hsz3,hk3,hF3⟩|⟨rfl,hx⟩)
   ·have HJ3:=qh hJ3
    have HS3:qH (W.heap.size<=W3.heap.size):=qh (Nat.le_trans HSZ.o hsz3)
    clear hJ3 hk3 hF3 hsz3 HRR HY HJ HJX HJB hy c0 b0
    gi_wp2
    go_roundw
    case rel=>exact⟨pos+1,F',by have:=HK.o;go_num,qo,HJ3,HS3⟩
    case measure=>simp[intOf] <;> omega
   ·have HX:=qh hx
    clear hx HY HJ HJX HJB HRR hy c0 b0
    gi_wp2
    refine bodyPost_ret (results_none rfl _ _ _) rfl ?_
    exact⟨⟨_,rfl⟩,.inr HX.o⟩
  ·obtain rfl:pos=m:=qo
   gi_wp2
   go_end0
   exact⟨⟨_,rfl⟩,.inl ⟨pos,F,HJS.o,qf⟩⟩
end
theorem qSA (A:Option Addr)(m c:Nat)(w:World):Calls Tryz.prog 79 #[.slice A m c] w fun e w'=>e = .returned (.func (.func 116) #[] #[.pointer (some ⟨w.heap.size,0,none⟩)])/\w'=w.alloc (.cells #[.slice A m c] 42):=by
 go_enter Tryz.func79,Tryz.ntmps79
 go_wp2
 go_ret
 exact⟨rfl,rfl⟩
end
open Go.Shelf
section
def set9 (w:World) (g:Nat) (a0 a1 a2 a3 a4 a5 a6 a7 a8:Value):World:=((((((((w.setCell ⟨g,0,none⟩ a0).setCell ⟨g,1,none⟩ a1).setCell ⟨g,2,none⟩ a2).setCell ⟨g,3,none⟩ a3).setCell ⟨g,4,none⟩ a4).setCell ⟨g,5,none⟩ a5).setCell ⟨g,6,none⟩ a6).setCell ⟨g,7,none⟩ a7).setCell ⟨g,8,none⟩ a8
section
variable {w : World} {g : Nat} {t : TypeId} {c0 c1 c2 c3 c4 c5 c6 c7 c8 : Value}
theorem Held.nine (h:Held w g t #[c0,c1,c2,c3,c4,c5,c6,c7,c8]):w.cell? ⟨g,0,none⟩=some c0/\w.cell? ⟨g,1,none⟩=some c1/\w.cell? ⟨g,2,none⟩=some c2/\w.cell? ⟨g,3,none⟩=some c3/\w.cell? ⟨g,4,none⟩=some c4/\w.cell? ⟨g,5,none⟩=some c5/\w.cell? ⟨g,6,none⟩=some c6/\w.cell? ⟨g,7,none⟩=some c7/\w.cell? ⟨g,8,none⟩=some c8:=⟨h.cell 0,h.cell 1,h.cell 2,h.cell 3,h.cell 4,h.cell 5,h.cell 6,h.cell 7,h.cell 8⟩
theorem Held.thawed9 {cs:Array Value}(h:Held w g t cs):w.frozen? ⟨g,0,none⟩=false/\w.frozen? ⟨g,1,none⟩=false/\w.frozen? ⟨g,2,none⟩=false/\w.frozen? ⟨g,3,none⟩=false/\w.frozen? ⟨g,4,none⟩=false/\w.frozen? ⟨g,5,none⟩=false/\w.frozen? ⟨g,6,none⟩=false/\w.frozen? ⟨g,7,none⟩=false/\w.frozen? ⟨g,8,none⟩=false:=⟨h.thawed 0,h.thawed 1,h.thawed 2,h.thawed 3,h.thawed 4,h.thawed 5,h.thawed 6,h.thawed 7,h.thawed 8⟩
theorem Held.set9 (h:Held w g t #[c0,c1,c2,c3,c4,c5,c6,c7,c8])(a0 a1 a2 a3 a4 a5 a6 a7 a8:Value):Held (set9 w g a0 a1 a2 a3 a4 a5 a6 a7 a8) g t #[a0,a1,a2,a3,a4,a5,a6,a7,a8]:=by
 have h0:Held _ g t #[a0,c1,c2,c3,c4,c5,c6,c7,c8]:=h.put 0 a0
 have h1:Held _ g t #[a0,a1,c2,c3,c4,c5,c6,c7,c8]:=h0.put 1 a1
 have h2:Held _ g t #[a0,a1,a2,c3,c4,c5,c6,c7,c8]:=h1.put 2 a2
 have h3:Held _ g t #[a0,a1,a2,a3,c4,c5,c6,c7,c8]:=h2.put 3 a3
 have h4:Held _ g t #[a0,a1,a2,a3,a4,c5,c6,c7,c8]:=h3.put 4 a4
 have h5:Held _ g t #[a0,a1,a2,a3,a4,a5,c6,c7,c8]:=h4.put 5 a5
 have h6:Held _ g t #[a0,a1,a2,a3,a4,a5,a6,c7,c8]:=h5.put 6 a6
 have h7:Held _ g t #[a0,a1,a2,a3,a4,a5,a6,a7,c8]:=h6.put 7 a7
 have h8:Held _ g t #[a0,a1,a2,a3,a4,a5,a6,a7,a8]:=h7.put 8 a8
 exact h8
theorem qLN {W:World}(h:Below W.heap.size W w)(hg:W.heap.size<=g)(a0 a1 a2 a3 a4 a5 a6 a7 a8:Value):Below W.heap.size W (set9 w g a0 a1 a2 a3 a4 a5 a6 a7 a8) :=
 Bput (Bput (Bput (Bput (Bput (Bput (Bput (Bput (Bput h (p:=⟨g,0,none⟩) hg a0) (p:=⟨g,1,none⟩) hg a1) (p:=⟨g,2,none⟩) hg a2) (p:=⟨g,3,none⟩) hg a3) (p:=⟨g,4,none⟩) hg a4) (p:=⟨g,5,none⟩) hg a5) (p:=⟨g,6,none⟩) hg a6) (p:=⟨g,7,none⟩) hg a7) (p:=⟨g,8,none⟩) hg a8
theorem qMB {j:Nat}(hj:j≠g)(a0 a1 a2 a3 a4 a5 a6 a7 a8:Value):(set9 w g a0 a1 a2 a3 a4 a5 a6 a7 a8).heap[j]?=w.heap[j]?:=by
 unfold _root_.Go.Proofs.YtjjfcaliippgpaaGreatDoor.set9
 repeat rw[Below.heap_setCell _ _ _ _ hj]
theorem qL8 {base:Nat}{e:TypeId}{size:Nat}{v:Value}{n:Nat}{xs:List Value}(h:w.ownsRow base e size v n xs)(hg:∀ j,v.ownBlock=some j->j≠g)(a0 a1 a2 a3 a4 a5 a6 a7 a8:Value):(set9 w g a0 a1 a2 a3 a4 a5 a6 a7 a8).ownsRow base e size v n xs :=
 qWQ h (fun j hj=>qMB (hg j hj) _ _ _ _ _ _ _ _ _)
end
theorem qYK (H:AuH):∃ (r0 r1 r2 r3 r4 r5 r6 r7:Nat),rootsV H = .agg #[.int .i64 (r0:Int),.int .i64 (r1:Int),.int .i64 (r2:Int),.int .i64 (r3:Int),.int .i64 (r4:Int),.int .i64 (r5:Int),.int .i64 (r6:Int),.int .i64 (r7:Int)]/\H.V 22=r0/\H.V 23=r1/\H.V 24=r2/\H.V 25=r3/\H.V 26=r4/\H.V 27=r5/\H.V 28=r6/\H.V 29=r7:=⟨_,_,_,_,_,_,_,_,rfl,rfl,rfl,rfl,rfl,rfl,rfl,rfl,rfl⟩
end
section
def stF (H:AuH) (u:Value) (k:Nat) (i:Nat):Value:=if i=0 then u else if i<=k then .int .i64 (H.V (21+i):Nat) else .int .i64 0
theorem qJ4 {H:AuH}{n c:Nat}(HV:HeapV H n c)(ad:Addr)(m:Nat)(w:World)(hv:IsVals w ad n H.V)(hC:XCheckIs w H.t H.p H.s (some ad) n c m true) :
  Calls Tryz.prog 23 #[.agg #[.int .i64 (H.t:Int),.int .i64 (H.p:Int),.int .i64 (H.s:Int)],.slice (some ad) n c] w fun e w'=>∃ u,e = .returned (.tuple #[.agg #[u,.int .i64 (H.V 22:Nat),.int .i64 (H.V 23:Nat),.int .i64 (H.V 24:Nat),.int .i64 (H.V 25:Nat),.int .i64 (H.V 26:Nat),.int .i64 (H.V 27:Nat),.int .i64 (H.V 28:Nat),.int .i64 (H.V 29:Nat)],.bool true])/\w'.ownsRow w.heap.size 64 2 u (blocksOf H.parts).length (bkVs (blocksOf H.parts))/\Below w.heap.size w w':=by
 have HVL:=qh hv
 have HXK0:=hC
 have HX:=qh ((Held.new w 23 #[.int .i64 (H.t:Int),.int .i64 (H.p:Int),.int .i64 (H.s:Int)]).alloc (.cells #[.slice none 0 0,.int .i64 0,.int .i64 0,.int .i64 0,.int .i64 0,.int .i64 0,.int .i64 0,.int .i64 0,.int .i64 0] 56))
 obtain⟨c0,c1,c2⟩:=HX.o.three
 have HS:=qh (Held.new2 w (.cells #[.int .i64 (H.t:Int),.int .i64 (H.p:Int),.int .i64 (H.s:Int)] 23) 56 #[.slice none 0 0,.int .i64 0,.int .i64 0,.int .i64 0,.int .i64 0,.int .i64 0,.int .i64 0,.int .i64 0,.int .i64 0])
 have HBW:=qh (Bnew (Bnew (B0 w) (.cells #[.int .i64 (H.t:Int),.int .i64 (H.p:Int),.int .i64 (H.s:Int)] 23)) (.cells #[.slice none 0 0,.int .i64 0,.int .i64 0,.int .i64 0,.int .i64 0,.int .i64 0,.int .i64 0,.int .i64 0,.int .i64 0] 56))
 have HSO:=qh (qHm (H.t:Int) (H.p:Int) (H.s:Int) (some ad) n c m true _ (hC.grown HBW.o))
 have HXK:=qh hC
 have hn:=HV.nums
 have hcx:c<=9223372036854775807:=hn.2.2.2.2.2.2.2.2
 have hni:n<=6238:=hn.2.2.2.2.2.2.1
 have hnc:=HV.cap
 have hn30:30<=n:=by have:=HV.len;omega
 have hbl:ad.block<w.heap.size:=hv.1
 obtain⟨l,hl⟩:∃ l,blocksOf H.parts=l:=⟨_,rfl⟩
 have HLB:=qh hl
 obtain⟨nb,hnb⟩:∃ nb,l.length=nb:=⟨_,rfl⟩
 have HNB:=qh hnb
 clear hC hv hl hnb HXK0 hn
 go_enter Tryz.func23,Tryz.ntmps23
 go_wp2_with (first
  | (go_at_call 65;refine HSO.o.mono ?_;rintro e w2 ⟨rfl,hb2⟩;have HB2:=qh (Bgo HBW.o hb2);have HS2:=qh (HS.o.keep hb2);have HX2:=qh (HX.o.keep hb2);clear hb2 c0 c1 c2;obtain⟨c0,c1,c2⟩:=HX2.o.three)
  | (go_at_call 66;refine(qIn HV ad m _ (HVL.o.below HB2.o) (HXK.o.grown HB2.o)).mono ?_;rintro e w3 ⟨u,rfl,hown3,hb3⟩;rw[HLB.o,HNB.o] at hown3;obtain⟨Ab,cb,rfl⟩:=qKK hown3;have HG6:qH (w.heap.size+1<w3.heap.size):=qh (by have h1:=hb3.size;have h2:=HS2.o.lt;omega);have HO3:=qh (hown3.alloc (.cells #[.slice Ab nb cb,.int .i64 0,.int .i64 0,.int .i64 0,.int .i64 0,.int .i64 0,.int .i64 0,.int .i64 0,.int .i64 0] 56));have HB3:=qh (Bnew (Bgo HB2.o hb3) (.cells #[.slice Ab nb cb,.int .i64 0,.int .i64 0,.int .i64 0,.int .i64 0,.int .i64 0,.int .i64 0,.int .i64 0,.int .i64 0] 56));have HS3:=qh ((HS2.o.keep hb3).alloc (.cells #[.slice Ab nb cb,.int .i64 0,.int .i64 0,.int .i64 0,.int .i64 0,.int .i64 0,.int .i64 0,.int .i64 0,.int .i64 0] 56));have HN3:=qh (Held.new w3 56 #[.slice Ab nb cb,.int .i64 0,.int .i64 0,.int .i64 0,.int .i64 0,.int .i64 0,.int .i64 0,.int .i64 0,.int .i64 0]);have HOL:qH (∀ j,(Value.slice Ab nb cb).ownBlock=some j->w2.heap.size<=j/\j<w3.heap.size):=qh (fun j hj=>hown3.lt j hj);clear hown3 hb3 c0 c1 c2)
  | fail)
 generalize hg6:w3.heap.size=g6 at *
 generalize hw4:w3.alloc (.cells #[.slice Ab nb cb,.int .i64 0,.int .i64 0,.int .i64 0,.int .i64 0,.int .i64 0,.int .i64 0,.int .i64 0,.int .i64 0] 56)=W4 at *
 have HR0:qH (RowF W4 g6 56 9 9 (stF H (.slice Ab nb cb) 0)):=qh ⟨_,HN3.o,by simp,qo,by unfold maxLen;omega,fun i hi=>by
  rcases(by omega:i=0\/i=1\/i=2\/i=3\/i=4\/i=5\/i=6\/i=7\/i=8) with rfl|rfl|rfl|rfl|rfl|rfl|rfl|rfl|rfl <;> rfl⟩
 have hgw:=HG6.o
 clear hg6 hw4
 go_loopw [7] (fun u7 wr=>∃ k:Nat,k<=8/\u7 = .int .i64 (k:Int)/\qH (Turns (fun i=>i=g6) W4 wr)/\qH (RowF wr g6 56 9 9 (stF H (.slice Ab nb cb) k))) (fun u7 _=>8-(intOf u7).toNat)
 case atStart=>exact⟨0,qo,rfl,qh (T0 _ _),HR0⟩
 case round =>
  clear HR0
  obtain⟨k,hk,rfl,HT0,HR⟩:=hrel
  have HB:=qh (HT0.o.below HB3.o qo)
  by_cases hlt:k<8
  ·have t0:decide ((k:Int)<8)=true:=qt
   have t8:(k:Int)<8:=qo
   have HRT:qH (nthI 22 8 1 (k:Int)=((22+k:Nat):Int)):=qh (by rw[qLq qo qo qo];push_cast;omega)
   have hin:22+k<n:=qo
   have hvk:=(HVL.o.below HB.o).2 (22+k) hin
   have hv32:=HV.lt (22+k) hin
   have hrc:=HR.o.cell (show 1+k<9 by omega)
   have hrf:=HR.o.thawed (1+k)
   have HUP:qH (∀ i,i<9->updF (stF H (.slice Ab nb cb) k) (1+k) (.int .i64 (H.V (22+k):Nat)) i=stF H (.slice Ab nb cb) (k+1) i):=qh (fun i hi=>by
    unfold updF stF
    by_cases e:i=1+k
    ·subst e;rw[if_pos rfl,if_neg qo,if_pos qo,show 21+(1+k)=22+k by omega]
    ·rw[if_neg e]
     by_cases e0:i=0
     ·rw[if_pos e0,if_pos e0]
     ·rw[if_neg e0,if_neg e0]
      by_cases e2:i<=k
      ·rw[if_pos e2,if_pos qo]
      ·rw[if_neg e2,if_neg qo])
   have hr0:stF H (.slice Ab nb cb) k (1+k) = .int .i64 0:=by unfold stF;rw[if_neg qo,if_neg qo]
   rw[hr0] at hrc
   obtain⟨v,hvv⟩:∃ v,H.V (22+k)=v:=⟨_,rfl⟩
   obtain⟨ix,hHIX⟩:∃ ix,22+k=ix:=⟨_,rfl⟩
   rw[hHIX] at hin hvk HRT
   rw[<- hHIX,hvv,hHIX] at hvk
   rw[hvv] at hv32 HUP
   have hin2:(ix:Int)<n:=qo
   have wv:IntKind.i64.wrap (v:Int)=(v:Int):=qIv qo qo
   have HT9:qH (Turns (fun i=>i=g6) wr (wr.setCell ⟨g6,1+k,none⟩ (.int .i64 (v:Int)))):=qh ((T0 (fun i=>i=g6) wr).put (p:=⟨g6,1+k,none⟩) rfl _)
   clear hvv hHIX
   go_wp2_with (first
    | (go_at_call 67;refine(qSB _ _).mono ?_;rintro e w9 ⟨rfl,rfl⟩;rw[HRT.o])
    | fail)
   go_roundw
   case rel=>exact⟨k+1,qo,by go_num,qh (HT0.o.trans HT9.o),qh ((HR.o.put (show 1+k<9 by omega) (.int .i64 (v:Int))).congr HUP.o)⟩
   case measure=>simp[intOf];omega
  ·have t0:decide ((k:Int)<8)=false:=qf
   have hk8:k=8:=qo
   subst hk8
   obtain⟨r0,r1,r2,r3,r4,r5,r6,r7,hrv,e0,e1,e2,e3,e4,e5,e6,e7⟩:=qYK H
   have hf0:stF H (.slice Ab nb cb) 8 0 = .slice Ab nb cb:=rfl
   have hf1:stF H (.slice Ab nb cb) 8 1 = .int .i64 (r0:Int):=by rw[<- e0];rfl
   have hf2:stF H (.slice Ab nb cb) 8 2 = .int .i64 (r1:Int):=by rw[<- e1];rfl
   have hf3:stF H (.slice Ab nb cb) 8 3 = .int .i64 (r2:Int):=by rw[<- e2];rfl
   have hf4:stF H (.slice Ab nb cb) 8 4 = .int .i64 (r3:Int):=by rw[<- e3];rfl
   have hf5:stF H (.slice Ab nb cb) 8 5 = .int .i64 (r4:Int):=by rw[<- e4];rfl
   have hf6:stF H (.slice Ab nb cb) 8 6 = .int .i64 (r5:Int):=by rw[<- e5];rfl
   have hf7:stF H (.slice Ab nb cb) 8 7 = .int .i64 (r6:Int):=by rw[<- e6];rfl
   have hf8:stF H (.slice Ab nb cb) 8 8 = .int .i64 (r7:Int):=by rw[<- e7];rfl
   have q0:=(HR.o.cell (show 0<9 by omega)).trans (congrArg some hf0)
   have q1:=(HR.o.cell (show 1<9 by omega)).trans (congrArg some hf1)
   have q2:=(HR.o.cell (show 2<9 by omega)).trans (congrArg some hf2)
   have q3:=(HR.o.cell (show 3<9 by omega)).trans (congrArg some hf3)
   have q4:=(HR.o.cell (show 4<9 by omega)).trans (congrArg some hf4)
   have q5:=(HR.o.cell (show 5<9 by omega)).trans (congrArg some hf5)
   have q6:=(HR.o.cell (show 6<9 by omega)).trans (congrArg some hf6)
   have q7:=(HR.o.cell (show 7<9 by omega)).trans (congrArg some hf7)
   have q8:=(HR.o.cell (show 8<9 by omega)).trans (congrArg some hf8)
   have HS4:=qh (HT0.o.held HS3.o qo)
   obtain⟨z0,z1,z2,z3,z4,z5,z6,z7,z8⟩:=HS4.o.nine
   obtain⟨f0,f1,f2,f3,f4,f5,f6,f7,f8⟩:=HS4.o.thawed9
   have HO4:=qh (qWQ HO3.o (fun j hj=>HT0.o.block j (HO3.o.lt j hj).2 (by have:=(HOL.o j hj).2;omega)))
   have HRE:=qh (And.intro e0 (And.intro e1 (And.intro e2 (And.intro e3 (And.intro e4 (And.intro e5 (And.intro e6 e7)))))))
   clear hrv e0 e1 e2 e3 e4 e5 e6 e7 hf0 hf1 hf2 hf3 hf4 hf5 hf6 hf7 hf8
   go_wp2_with fail
   obtain⟨WF,hWF⟩:∃ WF,set9 (wr) (w.heap.size+1) (.slice Ab nb cb) (.int .i64 (r0:Int)) (.int .i64 (r1:Int)) (.int .i64 (r2:Int)) (.int .i64 (r3:Int)) (.int .i64 (r4:Int)) (.int .i64 (r5:Int)) (.int .i64 (r6:Int)) (.int .i64 (r7:Int))=WF:=⟨_,rfl⟩
   have zz:=HS4.o.set9 (.slice Ab nb cb) (.int .i64 (r0:Int)) (.int .i64 (r1:Int)) (.int .i64 (r2:Int)) (.int .i64 (r3:Int)) (.int .i64 (r4:Int)) (.int .i64 (r5:Int)) (.int .i64 (r6:Int)) (.int .i64 (r7:Int))
   have hBF:=qLN (g:=(w.heap.size+1)) HB.o qo (.slice Ab nb cb) (.int .i64 (r0:Int)) (.int .i64 (r1:Int)) (.int .i64 (r2:Int)) (.int .i64 (r3:Int)) (.int .i64 (r4:Int)) (.int .i64 (r5:Int)) (.int .i64 (r6:Int)) (.int .i64 (r7:Int))
   have hOF:=qL8 (g:=(w.heap.size+1)) (qIX HO4.o HB2.o.size) (fun j hj=>by have h1:=(HOL.o j hj).1;have h2:=HS2.o.lt;omega) (.slice Ab nb cb) (.int .i64 (r0:Int)) (.int .i64 (r1:Int)) (.int .i64 (r2:Int)) (.int .i64 (r3:Int)) (.int .i64 (r4:Int)) (.int .i64 (r5:Int)) (.int .i64 (r6:Int)) (.int .i64 (r7:Int))
   rw[hWF] at zz hBF hOF
   unfold set9 at hWF
   rw[hWF]
   obtain⟨y0,y1,y2,y3,y4,y5,y6,y7,y8⟩:=zz.nine
   refine bodyPost_ret (v := .tuple #[.agg #[.slice Ab nb cb,.int .i64 (r0:Int),.int .i64 (r1:Int),.int .i64 (r2:Int),.int .i64 (r3:Int),.int .i64 (r4:Int),.int .i64 (r5:Int),.int .i64 (r6:Int),.int .i64 (r7:Int)],.bool true]) (by simp[results,Tryz.results23,go_sem,y0,y1,y2,y3,y4,y5,y6,y7,y8]) rfl ⟨.slice Ab nb cb,by obtain⟨e0,e1,e2,e3,e4,e5,e6,e7⟩:=HRE.o;simp only[e0,e1,e2,e3,e4,e5,e6,e7],?_,hBF⟩
   rw[HLB.o,HNB.o]
   exact hOF
end
section
theorem eqStep (d:Nat)(xs ys:Array Value)(i:Nat)(a b:Int)(is:List Nat)(w:World)(hx:xs[i]?=some (.int .i64 a))(hy:ys[i]?=some (.int .i64 b)) :
  (Op.eqItems (d+1) 2 1 xs ys (i :: is)).run Tryz.prog w=if (a==b)=true then (Op.eqItems (d+1) 2 1 xs ys is).run Tryz.prog w else .ok false w:=by
 have p1:=run_part_plain (P := Tryz.prog) w (e := 2) qr (off:=i*1) (by rw[Nat.mul_one];exact hx)
 have p2:=run_part_plain (P := Tryz.prog) w (e := 2) qr (off:=i*1) (by rw[Nat.mul_one];exact hy)
 have p3:=run_equalIn_int (P := Tryz.prog) w d 2 .i64 .i64 a b Tryz.underlying2
 simp only[Op.eqItems,Sem.run_bind,p1,p2,p3,Result.andThen_ok]
 cases a==b <;> simp
theorem qAD (r0 r1 r2 r3 r4 r5 r6 r7 p0 p1 p2 p3 p4 p5 p6 p7:Int)(w:World) :
  (Op.equalIn 10000 54 (.agg #[.int .i64 r0,.int .i64 r1,.int .i64 r2,.int .i64 r3,.int .i64 r4,.int .i64 r5,.int .i64 r6,.int .i64 r7]) (.agg #[.int .i64 p0,.int .i64 p1,.int .i64 p2,.int .i64 p3,.int .i64 p4,.int .i64 p5,.int .i64 p6,.int .i64 p7])).run Tryz.prog w = .ok (r0==p0&&(r1==p1&&(r2==p2&&(r3==p3&&(r4==p4&&(r5==p5&&(r6==p6&&(r7==p7)))))))) w:=by
 obtain⟨i,hi⟩:∃ i,Tryz.prog.info? 2 = some i:=Option.isSome_iff_exists.1 qr
 have hc : Tryz.prog.cellsOf 2 = 1:=by kernel_rfl
 show (Op.equalIn (9999+1) _ _ _).run _ _=_
 rw[run_equalIn_array w 9999 _ _ Tryz.underlying54 hi,hc]
 show (Op.eqItems (9998+1) 2 1 _ _ [0,1,2,3,4,5,6,7]).run _ _=_
 rw[eqStep 9998 _ _ 0 r0 p0 _ w rfl rfl]
 rw[eqStep 9998 _ _ 1 r1 p1 _ w rfl rfl]
 rw[eqStep 9998 _ _ 2 r2 p2 _ w rfl rfl]
 rw[eqStep 9998 _ _ 3 r3 p3 _ w rfl rfl]
 rw[eqStep 9998 _ _ 4 r4 p4 _ w rfl rfl]
 rw[eqStep 9998 _ _ 5 r5 p5 _ w rfl rfl]
 rw[eqStep 9998 _ _ 6 r6 p6 _ w rfl rfl]
 rw[eqStep 9998 _ _ 7 r7 p7 _ w rfl rfl]
 have hn:∀ xs ys:Array Value,(Op.eqItems (9998+1) 2 1 xs ys []).run Tryz.prog w = .ok true w:=fun xs ys=>by simp[Op.eqItems]
 rw[hn]
 generalize (r0==p0)=e0
 generalize (r1==p1)=e1
 generalize (r2==p2)=e2
 generalize (r3==p3)=e3
 generalize (r4==p4)=e4
 generalize (r5==p5)=e5
 generalize (r6==p6)=e6
 generalize (r7==p7)=e7
 cases e0
 ·rfl
 cases e1
 ·rfl
 cases e2
 ·rfl
 cases e3
 ·rfl
 cases e4
 ·rfl
 cases e5
 ·rfl
 cases e6
 ·rfl
 cases e7
 ·rfl
 ·rfl

theorem qO2 (r0 r1 r2 r3 r4 r5 r6 r7 p0 p1 p2 p3 p4 p5 p6 p7:Int):(r0==p0&&(r1==p1&&(r2==p2&&(r3==p3&&(r4==p4&&(r5==p5&&(r6==p6&&(r7==p7))))))))=true ↔ [r0,r1,r2,r3,r4,r5,r6,r7] = [p0,p1,p2,p3,p4,p5,p6,p7]:=by simp
end
section
theorem qRt (l1 l2:List (Int × Int))(A1 A2:Option Addr)(nl c1 c2 b1 b2:Nat)(r0 r1 r2 r3 r4 r5 r6 r7 p0 p1 p2 p3 p4 p5 p6 p7:Int)(w:World)(h1:l1.length=nl)(h2:l2.length=nl)(hnl:nl<=100000)(hnl:nl<=100000)
  (hO1:w.ownsRow b1 64 2 (.slice A1 nl c1) nl (bkVs l1)) (hO2:w.ownsRow b2 64 2 (.slice A2 nl c2) nl (bkVs l2)) (b:Bool) (hb:b=true ↔ [r0,r1,r2,r3,r4,r5,r6,r7] = [p0,p1,p2,p3,p4,p5,p6,p7]/\l1=l2) :
  Calls Tryz.prog 30 #[.agg #[.slice A1 nl c1,.int .i64 r0,.int .i64 r1,.int .i64 r2,.int .i64 r3,.int .i64 r4,.int .i64 r5,.int .i64 r6,.int .i64 r7],.agg #[.slice A2 nl c2,.int .i64 p0,.int .i64 p1,.int .i64 p2,.int .i64 p3,.int .i64 p4,.int .i64 p5,.int .i64 p6,.int .i64 p7]] w fun e w'=>e = .returned (.bool b)/\Below w.heap.size w w':=by
 have HX1:=qh ((Held.new w 56 #[.slice A1 nl c1,.int .i64 r0,.int .i64 r1,.int .i64 r2,.int .i64 r3,.int .i64 r4,.int .i64 r5,.int .i64 r6,.int .i64 r7]).alloc (.cells #[.slice A2 nl c2,.int .i64 p0,.int .i64 p1,.int .i64 p2,.int .i64 p3,.int .i64 p4,.int .i64 p5,.int .i64 p6,.int .i64 p7] 56))
 have HX2:=qh (Held.new2 w (.cells #[.slice A1 nl c1,.int .i64 r0,.int .i64 r1,.int .i64 r2,.int .i64 r3,.int .i64 r4,.int .i64 r5,.int .i64 r6,.int .i64 r7] 56) 56 #[.slice A2 nl c2,.int .i64 p0,.int .i64 p1,.int .i64 p2,.int .i64 p3,.int .i64 p4,.int .i64 p5,.int .i64 p6,.int .i64 p7])
 obtain⟨x0,x1,x2,x3,x4,x5,x6,x7,x8⟩:=HX1.o.nine
 obtain⟨y0,y1,y2,y3,y4,y5,y6,y7,y8⟩:=HX2.o.nine
 have HBW:=qh (Bnew (Bnew (B0 w) (.cells #[.slice A1 nl c1,.int .i64 r0,.int .i64 r1,.int .i64 r2,.int .i64 r3,.int .i64 r4,.int .i64 r5,.int .i64 r6,.int .i64 r7] 56)) (.cells #[.slice A2 nl c2,.int .i64 p0,.int .i64 p1,.int .i64 p2,.int .i64 p3,.int .i64 p4,.int .i64 p5,.int .i64 p6,.int .i64 p7] 56))
 have HO1:=qh ((hO1.alloc (.cells #[.slice A1 nl c1,.int .i64 r0,.int .i64 r1,.int .i64 r2,.int .i64 r3,.int .i64 r4,.int .i64 r5,.int .i64 r6,.int .i64 r7] 56)).alloc (.cells #[.slice A2 nl c2,.int .i64 p0,.int .i64 p1,.int .i64 p2,.int .i64 p3,.int .i64 p4,.int .i64 p5,.int .i64 p6,.int .i64 p7] 56))
 have HO2:=qh ((hO2.alloc (.cells #[.slice A1 nl c1,.int .i64 r0,.int .i64 r1,.int .i64 r2,.int .i64 r3,.int .i64 r4,.int .i64 r5,.int .i64 r6,.int .i64 r7] 56)).alloc (.cells #[.slice A2 nl c2,.int .i64 p0,.int .i64 p1,.int .i64 p2,.int .i64 p3,.int .i64 p4,.int .i64 p5,.int .i64 p6,.int .i64 p7] 56))
 have HL1:=qh h1
 have HL2:=qh h2
 obtain⟨h11,h12⟩:=qJH hO1
 obtain⟨h21,h22⟩:=qJH hO2
 have h12:c1<=9223372036854775807:=h12
 have h22:c2<=9223372036854775807:=h22
 have hei:=qO2 r0 r1 r2 r3 r4 r5 r6 r7 p0 p1 p2 p3 p4 p5 p6 p7
 have he:=fun W=>qAD r0 r1 r2 r3 r4 r5 r6 r7 p0 p1 p2 p3 p4 p5 p6 p7 W
 obtain⟨eb,heb⟩:∃ eb,(r0==p0&&(r1==p1&&(r2==p2&&(r3==p3&&(r4==p4&&(r5==p5&&(r6==p6&&(r7==p7))))))))=eb:=⟨_,rfl⟩
 rw[heb] at hei
 simp only[heb] at he
 have q0:((nl:Int) != (nl:Int))=false:=by simp
 cases eb
 ·have HBF:qH (b=false):=qh (qE5 hb (fun h=>by have:=hei.2 h.1;cases this))
  clear hei heb hb h1 h2 hO1 hO2
  exact MfI
 ·have HBC:qH (b=true↔l1=l2):=qh (hb.trans ⟨fun h=>h.2,fun h=>⟨hei.1 rfl,h⟩⟩)
  clear hei heb hb h1 h2 hO1 hO2
  go_enter Tryz.func30,Tryz.ntmps30
  go_wp2_with fail
  generalize (w.alloc (.cells #[.slice A1 nl c1,.int .i64 r0,.int .i64 r1,.int .i64 r2,.int .i64 r3,.int .i64 r4,.int .i64 r5,.int .i64 r6,.int .i64 r7] 56)).alloc (.cells #[.slice A2 nl c2,.int .i64 p0,.int .i64 p1,.int .i64 p2,.int .i64 p3,.int .i64 p4,.int .i64 p5,.int .i64 p6,.int .i64 p7] 56)=WL at *
  clear he x1 x2 x3 x4 x5 x6 x7 x8 y1 y2 y3 y4 y5 y6 y7 y8 q0
  go_loopw [5] (fun u5 wr=>∃ (i d:Nat),i<=nl/\u5 = .int .i64 (i:Int)/\qH (l1.take i=l2.take i)/\wr=WL.drewN d) (fun u5 _=>nl-(intOf u5).toNat)
  case atStart=>exact⟨0,0,qo,rfl,qh rfl,rfl⟩
  case round =>
   obtain⟨i,d,hi,rfl,HTE,rfl⟩:=hrel
   by_cases hlt:i<nl
   ·obtain⟨x,hx⟩:∃ x,l1[i]?=some x:=⟨_,List.getElem?_eq_getElem (by have:=HL1.o;omega)⟩
    obtain⟨y,hy⟩:∃ y,l2[i]?=some y:=⟨_,List.getElem?_eq_getElem (by have:=HL2.o;omega)⟩
    obtain⟨g1,cv1,hv1,_,_⟩:=HO1.o.form qo
    injection hv1 with hv1 _ hc1
    subst hv1
    subst hc1
    obtain⟨g2,cv2,hv2,_,_⟩:=HO2.o.form qo
    injection hv2 with hv2 _ hc2
    subst hv2
    subst hc2
    obtain⟨p0,p1⟩:=qGH HO1.o HL1.o hx
    obtain⟨q0,q1⟩:=qGH HO2.o HL2.o hy
    have HNE:qH (x≠y->¬ l1=l2):=qh (fun h e=>h (by rw[e,hy] at hx;exact(Option.some.inj hx).symm))
    have HSU:qH (x=y->l1.take (i+1)=l2.take (i+1)):=qh (fun h=>by rw[List.take_add_one,List.take_add_one,HTE.o,hx,hy,h])
    obtain⟨a1,z1⟩:=x
    obtain⟨a2,z2⟩:=y
    have t0:decide ((i:Int)<nl)=true:=qt
    have t0n:decide (i<nl)=true:=decide_eq_true hlt
    simp only at p0 p1 q0 q1
    clear hx hy
    by_cases ha:a1=a2
    ·subst ha
     by_cases hz:z1=z2
     ·subst hz
      have HT1:=qh (HSU.o rfl)
      go_wp2_with fail
      refine wp_region_held_drew (S:=(fun w'=>w'.cell? ⟨g1,i*2,none⟩=some (.int .i64 a1)/\w'.cell? ⟨g1,i*2+1,none⟩=some (.int .i64 z1)/\w'.cell? ⟨g2,i*2,none⟩=some (.int .i64 a1)/\w'.cell? ⟨g2,i*2+1,none⟩=some (.int .i64 z1)/\w'.cell? ⟨w.heap.size,0,none⟩=some (.slice (some ⟨g1,0,none⟩) nl c1)/\w'.cell? ⟨w.heap.size+1,0,none⟩=some (.slice (some ⟨g2,0,none⟩) nl c2))) qr ?_ (fun hHeld=>?_)
      ·exact MLK
      refine Rbo ?_
      refine RPe ?_
      refine tkz 9 ?_
      refine tkz 10 ?_
      refine dnz ?_
      go_wp2_with fail
      go_roundw
      case rel=>exact⟨i+1,d+1,qo,by go_num,HT1,rfl⟩
      case measure=>simp[intOf];omega
     ·have qz:(z1==z2)=false:=by simpa using hz
      have HBF:qH (b=false):=qh (qE5 HBC.o (HNE.o (fun e=>hz (Prod.mk.inj e).2)))
      go_wp2_with fail
      refine wp_region_held_drew (S:=(fun w'=>w'.cell? ⟨g1,i*2,none⟩=some (.int .i64 a1)/\w'.cell? ⟨g1,i*2+1,none⟩=some (.int .i64 z1)/\w'.cell? ⟨g2,i*2,none⟩=some (.int .i64 a1)/\w'.cell? ⟨g2,i*2+1,none⟩=some (.int .i64 z2)/\w'.cell? ⟨w.heap.size,0,none⟩=some (.slice (some ⟨g1,0,none⟩) nl c1)/\w'.cell? ⟨w.heap.size+1,0,none⟩=some (.slice (some ⟨g2,0,none⟩) nl c2))) qr ?_ (fun hHeld=>?_)
      ·exact MLK
      exact MiY
    ·have qa:(a1==a2)=false:=by simpa using ha
     have HBF:qH (b=false):=qh (qE5 HBC.o (HNE.o (fun e=>ha (Prod.mk.inj e).1)))
     go_wp2_with fail
     refine wp_region_held_drew (S:=(fun w'=>w'.cell? ⟨g1,i*2,none⟩=some (.int .i64 a1)/\w'.cell? ⟨g1,i*2+1,none⟩=some (.int .i64 z1)/\w'.cell? ⟨g2,i*2,none⟩=some (.int .i64 a2)/\w'.cell? ⟨g2,i*2+1,none⟩=some (.int .i64 z2)/\w'.cell? ⟨w.heap.size,0,none⟩=some (.slice (some ⟨g1,0,none⟩) nl c1)/\w'.cell? ⟨w.heap.size+1,0,none⟩=some (.slice (some ⟨g2,0,none⟩) nl c2))) qr ?_ (fun hHeld=>?_)
     ·exact MLK
     exact MiY
   ·have t0:decide ((i:Int)<nl)=false:=qf
    have t0n:decide (i<nl)=false:=decide_eq_false hlt
    have HBT:qH (b=true):=qh (HBC.o.2 (by
     have h:=HTE.o
     rwa [List.take_of_length_le (by have:=HL1.o;omega),List.take_of_length_le (by have:=HL2.o;omega)] at h))
    go_wp2_with fail
    go_ret
    exact⟨by rw[HBT.o];rfl,Bdraw HBW.o d⟩
theorem qVO (l1 l2:List (Int × Int))(A1 A2:Option Addr)(n1 n2 c1 c2 b1 b2:Nat)(r0 r1 r2 r3 r4 r5 r6 r7 p0 p1 p2 p3 p4 p5 p6 p7:Int)(w:World)(h1:l1.length=n1)(h2:l2.length=n2)(hn1:n1<=100000)(hn2:n2<=100000)
  (hO1:w.ownsRow b1 64 2 (.slice A1 n1 c1) n1 (bkVs l1)) (hO2:w.ownsRow b2 64 2 (.slice A2 n2 c2) n2 (bkVs l2)) (b:Bool) (hb:b=true ↔ [r0,r1,r2,r3,r4,r5,r6,r7] = [p0,p1,p2,p3,p4,p5,p6,p7]/\l1=l2) :
  Calls Tryz.prog 30 #[.agg #[.slice A1 n1 c1,.int .i64 r0,.int .i64 r1,.int .i64 r2,.int .i64 r3,.int .i64 r4,.int .i64 r5,.int .i64 r6,.int .i64 r7],.agg #[.slice A2 n2 c2,.int .i64 p0,.int .i64 p1,.int .i64 p2,.int .i64 p3,.int .i64 p4,.int .i64 p5,.int .i64 p6,.int .i64 p7]] w fun e w'=>e = .returned (.bool b)/\Below w.heap.size w w':=by
 by_cases hne:n1=n2
 ·subst hne
  exact qRt l1 l2 A1 A2 n1 c1 c2 b1 b2 r0 r1 r2 r3 r4 r5 r6 r7 p0 p1 p2 p3 p4 p5 p6 p7 w h1 h2 hn1 hn2 hO1 hO2 b hb
 ·have q0:((n1:Int) != (n2:Int))=true:=qs
  have q0n:(n1 != n2)=true:=by simpa using hne
  have HBF:qH (b=false):=qh (qE5 hb (fun e=>hne (by rw[<- h1,<- h2,e.2])))
  have HX1:=qh ((Held.new w 56 #[.slice A1 n1 c1,.int .i64 r0,.int .i64 r1,.int .i64 r2,.int .i64 r3,.int .i64 r4,.int .i64 r5,.int .i64 r6,.int .i64 r7]).alloc (.cells #[.slice A2 n2 c2,.int .i64 p0,.int .i64 p1,.int .i64 p2,.int .i64 p3,.int .i64 p4,.int .i64 p5,.int .i64 p6,.int .i64 p7] 56))
  have HX2:=qh (Held.new2 w (.cells #[.slice A1 n1 c1,.int .i64 r0,.int .i64 r1,.int .i64 r2,.int .i64 r3,.int .i64 r4,.int .i64 r5,.int .i64 r6,.int .i64 r7] 56) 56 #[.slice A2 n2 c2,.int .i64 p0,.int .i64 p1,.int .i64 p2,.int .i64 p3,.int .i64 p4,.int .i64 p5,.int .i64 p6,.int .i64 p7])
  obtain⟨x0,x1,x2,x3,x4,x5,x6,x7,x8⟩:=HX1.o.nine
  obtain⟨y0,y1,y2,y3,y4,y5,y6,y7,y8⟩:=HX2.o.nine
  have HBW:=qh (Bnew (Bnew (B0 w) (.cells #[.slice A1 n1 c1,.int .i64 r0,.int .i64 r1,.int .i64 r2,.int .i64 r3,.int .i64 r4,.int .i64 r5,.int .i64 r6,.int .i64 r7] 56)) (.cells #[.slice A2 n2 c2,.int .i64 p0,.int .i64 p1,.int .i64 p2,.int .i64 p3,.int .i64 p4,.int .i64 p5,.int .i64 p6,.int .i64 p7] 56))
  have HO1:=qh ((hO1.alloc (.cells #[.slice A1 n1 c1,.int .i64 r0,.int .i64 r1,.int .i64 r2,.int .i64 r3,.int .i64 r4,.int .i64 r5,.int .i64 r6,.int .i64 r7] 56)).alloc (.cells #[.slice A2 n2 c2,.int .i64 p0,.int .i64 p1,.int .i64 p2,.int .i64 p3,.int .i64 p4,.int .i64 p5,.int .i64 p6,.int .i64 p7] 56))
  have HO2:=qh ((hO2.alloc (.cells #[.slice A1 n1 c1,.int .i64 r0,.int .i64 r1,.int .i64 r2,.int .i64 r3,.int .i64 r4,.int .i64 r5,.int .i64 r6,.int .i64 r7] 56)).alloc (.cells #[.slice A2 n2 c2,.int .i64 p0,.int .i64 p1,.int .i64 p2,.int .i64 p3,.int .i64 p4,.int .i64 p5,.int .i64 p6,.int .i64 p7] 56))
  have HL1:=qh h1
  have HL2:=qh h2
  obtain⟨h11,h12⟩:=qJH hO1
  obtain⟨h21,h22⟩:=qJH hO2
  have h12:c1<=9223372036854775807:=h12
  have h22:c2<=9223372036854775807:=h22
  have hei:=qO2 r0 r1 r2 r3 r4 r5 r6 r7 p0 p1 p2 p3 p4 p5 p6 p7
  have he:=fun W=>qAD r0 r1 r2 r3 r4 r5 r6 r7 p0 p1 p2 p3 p4 p5 p6 p7 W
  obtain⟨eb,heb⟩:∃ eb,(r0==p0&&(r1==p1&&(r2==p2&&(r3==p3&&(r4==p4&&(r5==p5&&(r6==p6&&(r7==p7))))))))=eb:=⟨_,rfl⟩
  rw[heb] at hei
  simp only[heb] at he
  clear hei heb hb h1 h2 hO1 hO2 hne he
  exact MfI
end
end Go.Proofs.YtjjfcaliippgpaaGreatDoor
