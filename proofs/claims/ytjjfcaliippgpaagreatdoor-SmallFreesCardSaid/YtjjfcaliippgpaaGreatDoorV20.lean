/-
  What the document's answer of layer 17 does to the pockets of one thread: what is on a page, what is not. Written by pocket/gen_on.py.
-/
import Derived.Test.YtjjfcaliippgpaaGreatDoorV19
import Derived.Test.YtjjfcaliippgpaaGreatDoorV16
import Derived.Test.YtjjfcaliippgpaaGreatDoorV05
import Derived.Test.YtjjfcaliippgpaaGreatDoorV07
import Derived.Test.YtjjfcaliippgpaaGreatDoorV06
import Derived.Lib.SliceRun
import Derived.Test.YtjjfcaliippgpaaGreatDoorV09
import Derived.Test.YtjjfcaliippgpaaGreatDoorV18
import Derived.Test.YtjjfcaliippgpaaGreatDoorV04
import Derived.Test.YtjjfcaliippgpaaGreatDoorV08
import Derived.Test.YtjjfcaliippgpaaGreatDoorV01
namespace Go.Proofs.YtjjfcaliippgpaaGreatDoor
theorem RYe {P Q:Prop}(kq:Q)(h:HQ Q->P:=by
 intro kq
 refine hK.out _ _ ?_ (fun hHeld=>?_)
 ·(try dsimp only)
  all_goals trivial
 (try simp only[Act.put,gA,gB,gC,sA,sB,sC])
 revert hHeld
 exact kq.o):P:=h ⟨kq⟩
theorem MYL {P:Prop}(h:P:=by
 refine tkz 9 ?_
 refine rdz 10 fun K hK=>?_
 go_simp
 refine(qP5 (some ad) n xc (lgVs ys) (by rw[qM7,HYL.o];omega) qo (qQc ys) _ (fun _=>⟨ad,rfl,HYC.o _ (Bgo HB.o (Bdrew (B0 _)))⟩)).mono ?_
 rintro e w7 ⟨v7,rfl,hown,hb⟩
 obtain⟨A7,c7,hu7⟩:=qKK hown
 subst hu7
 have HO:=qh hown
 replace HG:=qh ((HG.o.keep (Bdrew (B0 _))).keep hb)
 replace HR:=qh ((HR.o.keep (Bdrew (B0 _))).keep hb)
 have HSZ:qH (w.heap.size<=w2.drew.heap.size):=qh (Bgo HB.o (Bdrew (B0 _))).size
 replace HB:=qh (Bgo (Bgo HB.o (Bdrew (B0 _))) hb)
 clear hb hown c0
 refine RYe ?_;clear hK K;intro hHeld
 refine tkz 11 ?_
 refine rdz 12 fun K hK=>?_
 have c0:=HG.o.pk hk
 rw[HX.o] at c0
 have f0:=HG.o.thawed k
 go_simp
 refine RYe ?_;clear hK K;intro hHeld
 refine dnz ?_
 obtain⟨WF,hWF⟩:∃ WF,w7.setCell ⟨w.heap.size,k,none⟩ (.slice A7 n c7)=WF:=⟨_,rfl⟩
 have zz:Held (w7.setCell ⟨w.heap.size,k,none⟩ (.slice A7 n c7)) _ _ (pkC (updF U k ⟨A7,n,c7⟩)):=HG.o.putP hk ⟨A7,n,c7⟩
 have hBF:=Bput HB.o (p:=⟨w.heap.size,k,none⟩) (Nat.le_refl _) (.slice A7 n c7)
 have hR2:=HR.o.far (p:=⟨w.heap.size,k,none⟩) (by show w.heap.size+1≠w.heap.size;omega) (.slice A7 n c7)
 have hO2:(w7.setCell ⟨w.heap.size,k,none⟩ (.slice A7 n c7)).ownsRow w2.drew.heap.size 2 1 (.slice A7 n c7) n (lgVs ys):=qWQ HO.o (fun j hj=>by
  have h1:=(HO.o.lt j hj).1
  have h2:=HSZ.o
  have h3:w.heap.size<w2.drew.heap.size:=HLT.o
  rw[Below.heap_setCell _ _ _ _ (by show j≠w.heap.size;omega)])
 rw[hWF] at zz hBF hR2 hO2
 rw[hWF]
 clear hWF c0 f0 HG HR HB HO
 have HG:=qh zz
 have HR:=qh hR2
 have HB:=qh hBF
 have HO:=qh hO2
 have HF:qH (∀ ad,A7=some ad->w.heap.size<=ad.block):=qh (fun ad e=>by
  subst e
  have:=(HO.o.lt ad.block (by unfold Value.ownBlock;rfl)).1
  have:=HSZ.o
  omega)
 clear zz hBF hR2 hO2
 obtain⟨U2,hU2⟩:∃ U2,updF U k ⟨A7,n,c7⟩=U2:=⟨_,rfl⟩
 have HU2:=qh hU2
 rw[hU2] at HG
 clear hU2
 obtain⟨x0,x1,x2,x3,x4,x5,x6,x7,x8⟩:=HG.o.nineP
 obtain⟨z0,z1,z2,z3,z4,z5,z6,z7,z8⟩:=HR.o.nineP
 obtain⟨f0,f1,f2,f3,f4,f5,f6,f7,f8⟩:=HR.o.thawP
 go_wp2_with fail
 go_region
 obtain⟨WF2,hWF⟩:∃ WF2,setP WF (w.heap.size+1) U2=WF2:=⟨_,rfl⟩
 have zz:=Held.setP HR.o U2
 have hBF:=qMg (g:=w.heap.size+1) HB.o qo U2
 have hOF:(setP WF (w.heap.size+1) U2).ownsRow w2.drew.heap.size 2 1 (.slice A7 n c7) n (lgVs ys):=qWQ HO.o (fun j hj=>by
  have h1:=(HO.o.lt j hj).1
  have h2:w.heap.size+1<w2.drew.heap.size:=HLT2.o
  rw[qDL qo])
 rw[hWF] at zz hBF hOF
 unfold setP at hWF
 rw[hWF]
 replace zz:=zz.keep (Bdrew (B0 _))
 replace hBF:=Bgo hBF (Bdrew (B0 _))
 replace hOF:=qEc hOF (Bdrew (B0 _))
 obtain⟨y0,y1,y2,y3,y4,y5,y6,y7,y8⟩:=zz.nineP
 clear x0 x1 x2 x3 x4 x5 x6 x7 x8 z0 z1 z2 z3 z4 z5 z6 z7 z8 f0 f1 f2 f3 f4 f5 f6 f7 f8
 go_wp2
 refine bodyPost_ret (v := .tuple #[.int .i64 a,.agg (pkC U2),.bool true]) (by simp[results,Tryz.results75,go_sem,y0,y1,y2,y3,y4,y5,y6,y7,y8]) rfl ⟨⟨A7,n,c7⟩,by rw[HU2.o],HF.o,fun j hj=>?_,hBF⟩
 by_cases e:j=k
 ·subst e
  rw[qJN,qJN]
  exact qUL (base:=w2.drew.heap.size) (by rw[HYL.o];exact hOF) HYB.o
 ·rw[qR2 _ _ e,qR2 _ _ e]
  exact(HP.o j hj).below hBF):P:=h
theorem MLB {P:Prop}(h:P:=by
  (try dsimp only)
  first|exact⟨HC.o.three,HXK.o _ HG.o,HXE.o _ HB.o⟩|exact hHeld):P:=h
theorem Mln {P:Prop}(h:P:=by
 rw[<- HM.o]
 exact MNN):P:=h
theorem MNN {P:Prop}(h:P:=by exact Nat.le_trans (List.length_filter_le _ _) (by rw[List.length_take];omega)):P:=h
end Go.Proofs.YtjjfcaliippgpaaGreatDoor
set_option linter.unusedVariables false
set_option linter.unusedSimpArgs false
set_option maxRecDepth 100000
set_option maxHeartbeats 25600000
namespace Go.Proofs.YtjjfcaliippgpaaGreatDoor
open Go.ChangeShapes Go.WideShapes Go.ChangeAt Go.RowKit Go.Maps
section
theorem qCP (t q s a p:Int)(h0 : -9223372036854775808<=a)(h1:a<=9223372036854775807)(w:World) :
  Calls Tryz.prog 97 #[.agg #[.int .i64 t,.int .i64 q,.int .i64 s],.int .i64 a,.int .i64 p] w fun e w'=>e = .returned (.bool (onPg t q s p a))/\Below w.heap.size w w':=by
 have HC:=qh (Held.new w 23 #[.int .i64 t,.int .i64 q,.int .i64 s])
 have HB:=qh (Bnew (B0 w) (.cells #[.int .i64 t,.int .i64 q,.int .i64 s] 23))
 obtain⟨x0,x1,x2⟩:=HC.o.three
 unfold onPg
 obtain⟨pp,hpp⟩:∃ pp,spotP t q s a=pp:=⟨_,rfl⟩
 obtain⟨bb,hbb⟩:∃ bb,spotB t q s a=bb:=⟨_,rfl⟩
 rw[hpp,hbb]
 have HPP:=qh hpp
 have HBB:=qh hbb
 have e1:(pp==p)=decide (pp=p):=rfl
 obtain⟨b2,hb2⟩:∃ b2,decide (pp=p)=b2:=⟨_,rfl⟩
 rw[hb2] at e1 ⊢
 clear hpp hbb hb2
 go_enter Tryz.func97,Tryz.ntmps97
 go_wp2_with fail
 refine(qRm t q s a h0 h1 _).mono ?_
 rintro e w2 ⟨rfl,hb⟩
 rw[HPP.o,HBB.o]
 replace HB:=qh (Bgo HB.o hb)
 clear hb x0 x1 x2
 cases bb with
 | false =>
  go_wp2
  go_ret
  exact⟨rfl,HB.o⟩
 | true =>
  go_wp2
  go_ret
  exact⟨rfl,HB.o⟩
theorem qKq {l:List Int}{i:Nat}{z:Int}(f:Int->Bool)(hz:l[i]?=some z):(l.take (i+1)).filter f=(l.take i).filter f++if f z=true then [z] else []:=by
 rw[List.take_add_one,hz]
 show List.filter f (l.take i ++ [z])=_
 rw[List.filter_append]
 congr 1
 by_cases h:f z=true
 ·rw[if_pos h,List.filter_cons_of_pos h];rfl
 ·rw[if_neg h,List.filter_cons_of_neg h];rfl

theorem qTT (t q s p:Int)(U:Nat->Sl)(Z:Nat->List Int)(k:Nat)(hk:k<9)(hn6:(Z k).length<=1000000)(w:World)(h:PkV w U Z) :
    Calls Tryz.prog 55 #[.agg #[.int .i64 t,.int .i64 q,.int .i64 s],.agg (pkC U),.int .i64 (k:Int),.int .i64 p] w fun e w'=>∃ u,e = .returned u/\w'.ownsRow w.heap.size 2 1 u ((Z k).filter (onPg t q s p)).length (lgVs ((Z k).filter (onPg t q s p)))/\Below w.heap.size w w':=by
  have HC:=qh ((((Held.new w 23 #[.int .i64 t,.int .i64 q,.int .i64 s]).alloc (.cells (pkC U) 36))).alloc (.cells #[] 2))
  have HG:=qh (((Held.new2 w (.cells #[.int .i64 t,.int .i64 q,.int .i64 s] 23) 36 (pkC U))).alloc (.cells #[] 2))
  have HB:=qh (Bnew ((Bnew (Bnew (B0 w) (.cells #[.int .i64 t,.int .i64 q,.int .i64 s] 23)) (.cells (pkC U) 36))) (.cells #[] 2))
  have HO:qH ((((w.alloc (.cells #[.int .i64 t,.int .i64 q,.int .i64 s] 23)).alloc (.cells (pkC U) 36)).alloc (.cells #[] 2)).ownsRow (w.heap.size+2) 2 1 (.slice (some ⟨w.heap.size+2,0,none⟩) 0 0) 0 []):=qh (by
    have:=World.ownsRow_lit (base:=w.heap.size+2) (e := 2) (size:=1) ((w.alloc (.cells #[.int .i64 t,.int .i64 q,.int .i64 s] 23)).alloc (.cells (pkC U) 36)) #[] 0 (by simp) (by unfold maxLen;omega) rfl
    simpa using this)
  have HP:=qh h
  have HS7:qH (∀ w',Below (((w.alloc (.cells #[.int .i64 t,.int .i64 q,.int .i64 s] 23)).alloc (.cells (pkC U) 36)).alloc (.cells #[] 2)).heap.size (((w.alloc (.cells #[.int .i64 t,.int .i64 q,.int .i64 s] 23)).alloc (.cells (pkC U) 36)).alloc (.cells #[] 2)) w'->w.heap.size+2<=w'.heap.size):=qh (fun w' hb=>by have h1:=hb.size;simp at h1;omega)
  obtain⟨A,c,hu,hlc,hcm,hbd,hno,hcl⟩:=h k hk
  obtain⟨l,hl⟩:∃ l,Z k=l:=⟨_,rfl⟩
  rw[hl] at hu hlc hbd hno hcl hn6 ⊢
  obtain⟨n,hn⟩:∃ n,l.length=n:=⟨_,rfl⟩
  rw[hn] at hu hlc hn6
  have HXU:=qh (fun (w':World) (hh:Held w' (w.heap.size+1) 36 (pkC U))=>(show w'.cell? ⟨w.heap.size+1,k,none⟩=some (.slice A n c) from by rw[hh.pk hk,hu]))
  have HNO:=qh hno
  have HN:=qh hn
  have HCL:=qh hcl
  have HBD:=qh hbd
  obtain⟨i0,hi0,hz0,hz1,hz2⟩:=info_parts longInfo
  have hki:(k:Int)<9:=qo
  have t0:decide ((k:Int)<0)=false:=qf
  have t1:decide (8<(k:Int))=false:=qf
  have t1n:decide (8<k)=false:=qf
  clear h hu hn hbd hcl hno
  go_enter Tryz.func55,Tryz.ntmps55
  go_wp2_with fail
  go_loopw [9,10] (fun u9 u10 wr=>∃ (i m:Nat),i<=n/\u10 = .int .i64 (i:Int)/\qH (((l.take i).filter (onPg t q s p)).length=m)/\qH (Held wr w.heap.size 23 #[.int .i64 t,.int .i64 q,.int .i64 s])/\qH (Held wr (w.heap.size+1) 36 (pkC U))/\qH (wr.ownsRow (w.heap.size+2) 2 1 u9 m (lgVs ((l.take i).filter (onPg t q s p))))/\qH (Below w.heap.size w wr)/\qH (w.heap.size+2<=wr.heap.size)) (fun _ u10 _=>n-(intOf u10).toNat)
  case atStart=>exact⟨0,0,qo,rfl,qh (by simp),HC,HG,qh (by simpa [lgVs] using HO.o),HB,qh (by simp)⟩
  case round =>
    clear HC HG HO HB HS7
    obtain⟨i,m,hi,rfl,HM,HC,HG,HO,HB,HS6⟩:=hrel
    obtain⟨A6,c6,hu6⟩:=qKK HO.o
    subst hu6
    have hcc6:=qIZ HO.o
    have hmi:m<=i:=by
      exact Mln
    have cU:=HXU.o _ HG.o
    by_cases hlt:i<n
    · obtain⟨z,hz⟩:∃ z,l[i]?=some z:=⟨_,List.getElem?_eq_getElem (by rw[HN.o];exact hlt)⟩
      cases A with
      | none=>exact absurd HN.o (by rw[(HNO.o rfl).1];simp;omega)
      | some ad =>
        have HXK:=qh HXU.o
        have hadb:=(HCL.o ad rfl).1 (fun e=>by rw[e] at hz;simp at hz)
        have hadc:=(HCL.o ad rfl).2 i z hz
        have HXE:qH (∀ w',Below w.heap.size w w'->w'.cell? (ad.add i)=some (.int .i64 z)):=qh (fun w' hb=>(hb.cell (p:=ad.add i) (by rw[qXL];exact hadb)).trans hadc)
        have hzb:=HBD.o z (List.mem_of_getElem? hz)
        have HFT:=qh (qKq (onPg t q s p) hz)
        clear hadb hadc hz
        cases hon:onPg t q s p z
        · have HON:=qh hon
          clear hon
          go_wp2_with fail
          replace HC:=qh (HC.o.keep (Bdrew (B0 _)))
          replace HG:=qh (HG.o.keep (Bdrew (B0 _)))
          replace HO:=qh (qEc HO.o (Bdrew (B0 _)))
          replace HB:=qh (Bgo HB.o (Bdrew (B0 _)))
          replace HS6:=qh (Nat.le_trans HS6.o (Bdrew (B0 _)).size)
          refine wp_region_held_drew (S:=(fun w'=>(w'.cell? ⟨w.heap.size,0,none⟩=some (.int .i64 t)/\w'.cell? ⟨w.heap.size,1,none⟩=some (.int .i64 q)/\w'.cell? ⟨w.heap.size,2,none⟩=some (.int .i64 s))/\w'.cell? ⟨w.heap.size+1,k,none⟩=some (.slice (some ad) n c)/\w'.cell? (ad.add i)=some (.int .i64 z))) qr ?_ (fun hHeld=>?_)
          ·exact MLB
          refine tkz 0 ?_
          refine tkz 1 ?_
          refine tkz 2 ?_
          refine tkz 3 ?_
          refine tkz 4 ?_
          refine tkz 5 ?_
          refine tkz 6 ?_
          refine tkz 7 ?_
          refine rdz 8 fun K hK=>?_
          go_simp
          refine(qCP t q s z p hzb.1 hzb.2 _).mono ?_
          rintro e w9 ⟨rfl,hb⟩
          rw[HON.o]
          replace HC:=qh (HC.o.keep hb)
          replace HG:=qh (HG.o.keep hb)
          replace HO:=qh (qEc HO.o hb)
          replace HB:=qh (Bgo HB.o hb)
          replace HS6:=qh (Nat.le_trans HS6.o hb.size)
          clear hb
          refine hK.out _ _ ?_ (fun hHeld=>?_)
          ·exact MLB
          clear hK K
          (try simp only[Act.put,gA,gB,gC,sA,sB,sC])
          refine dnz ?_
          have c0:=HXK.o _ HG.o
          have c1:=HXE.o _ HB.o
          go_wp2_with fail
          go_roundw
          case rel=>exact⟨i+1,m,qo,by go_num,qh (by rw[HFT.o,if_neg (by simp[HON.o]),List.append_nil];exact HM.o),HC,HG,qh (by rw[HFT.o,if_neg (by simp[HON.o]),List.append_nil];exact HO.o),HB,HS6⟩
          case measure=>simp[intOf];omega
        · have HON:=qh hon
          clear hon
          go_wp2_with fail
          replace HC:=qh (HC.o.keep (Bdrew (B0 _)))
          replace HG:=qh (HG.o.keep (Bdrew (B0 _)))
          replace HO:=qh (qEc HO.o (Bdrew (B0 _)))
          replace HB:=qh (Bgo HB.o (Bdrew (B0 _)))
          replace HS6:=qh (Nat.le_trans HS6.o (Bdrew (B0 _)).size)
          refine wp_region_held_drew (S:=(fun w'=>(w'.cell? ⟨w.heap.size,0,none⟩=some (.int .i64 t)/\w'.cell? ⟨w.heap.size,1,none⟩=some (.int .i64 q)/\w'.cell? ⟨w.heap.size,2,none⟩=some (.int .i64 s))/\w'.cell? ⟨w.heap.size+1,k,none⟩=some (.slice (some ad) n c)/\w'.cell? (ad.add i)=some (.int .i64 z))) qr ?_ (fun hHeld=>?_)
          ·exact MLB
          refine tkz 0 ?_
          refine tkz 1 ?_
          refine tkz 2 ?_
          refine tkz 3 ?_
          refine tkz 4 ?_
          refine tkz 5 ?_
          refine tkz 6 ?_
          refine tkz 7 ?_
          refine rdz 8 fun K hK=>?_
          go_simp
          refine(qCP t q s z p hzb.1 hzb.2 _).mono ?_
          rintro e w9 ⟨rfl,hb⟩
          rw[HON.o]
          replace HC:=qh (HC.o.keep hb)
          replace HG:=qh (HG.o.keep hb)
          replace HO:=qh (qEc HO.o hb)
          replace HB:=qh (Bgo HB.o hb)
          replace HS6:=qh (Nat.le_trans HS6.o hb.size)
          clear hb
          refine hK.out _ _ ?_ (fun hHeld=>?_)
          ·exact MLB
          clear hK K
          (try simp only[Act.put,gA,gB,gC,sA,sB,sC])
          refine dnz ?_
          have c0:=HXK.o _ HG.o
          have c1:=HXE.o _ HB.o
          have HGA:=qh (HG.o.alloc (.cells #[.int .i64 z] 2))
          go_wp2_with (first
            | (at_builtin
               refine wpList_append_own _ rfl _ _ 34 rfl (w.heap.size+2) 2 i0 (.int .i64 0) 1 8 Tryz.underlying34 hi0 hz0 hz1 hz2 rfl (by decide) _ _ _ rfl (HO.o.alloc _) ⟨_,0,none⟩ 1 1 [.int .i64 z] rfl rfl ?c1 ?c2 ?c3 ?c4 ?c5 ?_
               case c1=>intro j y hy;rcases j with _|j;(· simp at hy;subst hy;simp[Addr.add]);(· simp at hy)
               case c2=>simp[Value.oneCell']
               case c3=>unfold maxLen;omega
               case c4=>omega
               case c5=>have:=HS6.o;simp;omega
               intro u7 w7 hown7 hgrow hat7
               obtain⟨A7,c7,hu7⟩:=qKK hown7
               subst hu7
               have hnb:∀ j,(Value.slice A6 m c6).ownBlock=some j->w.heap.size+2<=j:=fun j hj=>(HO.o.lt j hj).1
               have HO7:qH (w7.ownsRow (w.heap.size+2) 2 1 (.slice A7 (m+1) c7) (m+1) (lgVs ((l.take (i+1)).filter (onPg t q s p)))):=qh (by rw[HFT.o,if_pos (by simp[HON.o])];unfold lgVs at hown7 ⊢;rw[List.map_append];exact hown7)
               have HB7:=qh ((Bnew HB.o (.cells #[.int .i64 z] 2)).grown hgrow (by have:=HB.o.size;simp;omega) (fun j hj=>by have:=hnb j hj;omega))
               have HC7:=qh (qQj (HC.o.alloc (.cells #[.int .i64 z] 2)) hgrow (fun e=>by have:=hnb _ e;omega))
               have HG7:=qh (qQj HGA.o hgrow (fun e=>by have:=hnb _ e;omega))
               have HS8:qH (w.heap.size+2<=w7.heap.size):=qh (by have h1:=hgrow.size;have:=HS6.o;simp at h1;omega)
               clear hown7 hgrow hat7 hnb)
            | fail)
          go_roundw
          case rel=>exact⟨i+1,m+1,qo,by go_num,qh (by rw[HFT.o,if_pos (by simp[HON.o]),List.length_append,HM.o];rfl),HC7,HG7,HO7,HB7,HS8⟩
          case measure=>simp[intOf];omega
    · obtain rfl:i=n:=qo
      have HE:qH (l.take i=l):=qh (List.take_of_length_le (by rw[HN.o];exact Nat.le_refl _))
      go_wp2
      go_ret
      exact⟨_,rfl,by rw[HE.o] at HM HO;rw[HM.o];exact qIX HO.o qo,HB.o⟩

theorem qCV (t q s p:Int)(U:Nat->Sl)(Z:Nat->List Int)(k:Nat)(hk:k<9)(hn6:(Z k).length<=1000000)(w:World)(h:PkV w U Z) :
    Calls Tryz.prog 57 #[.agg #[.int .i64 t,.int .i64 q,.int .i64 s],.agg (pkC U),.int .i64 (k:Int),.int .i64 p] w fun e w'=>∃ x:Sl,e = .returned (.agg (pkC (updF U k x)))/\(∀ ad,x.a=some ad->w.heap.size<=ad.block)/\PkV w' (updF U k x) (updF Z k ((Z k).filter (fun b => !onPg t q s p b)))/\Below w.heap.size w w':=by
  have HC:=qh ((((Held.new w 23 #[.int .i64 t,.int .i64 q,.int .i64 s]).alloc (.cells (pkC U) 36)).alloc (.cells #[.slice none 0 0,.slice none 0 0,.slice none 0 0,.slice none 0 0,.slice none 0 0,.slice none 0 0,.slice none 0 0,.slice none 0 0,.slice none 0 0] 36)).alloc (.cells #[] 2))
  have HG:=qh (((Held.new2 w (.cells #[.int .i64 t,.int .i64 q,.int .i64 s] 23) 36 (pkC U)).alloc (.cells #[.slice none 0 0,.slice none 0 0,.slice none 0 0,.slice none 0 0,.slice none 0 0,.slice none 0 0,.slice none 0 0,.slice none 0 0,.slice none 0 0] 36)).alloc (.cells #[] 2))
  have HR:qH (Held ((((w.alloc (.cells #[.int .i64 t,.int .i64 q,.int .i64 s] 23)).alloc (.cells (pkC U) 36)).alloc (.cells #[.slice none 0 0,.slice none 0 0,.slice none 0 0,.slice none 0 0,.slice none 0 0,.slice none 0 0,.slice none 0 0,.slice none 0 0,.slice none 0 0] 36)).alloc (.cells #[] 2)) (w.heap.size+2) 36 (pkC zeroU)):=qh (by
    have:=(Held.new ((w.alloc (.cells #[.int .i64 t,.int .i64 q,.int .i64 s] 23)).alloc (.cells (pkC U) 36)) 36 #[.slice none 0 0,.slice none 0 0,.slice none 0 0,.slice none 0 0,.slice none 0 0,.slice none 0 0,.slice none 0 0,.slice none 0 0,.slice none 0 0]).alloc (.cells #[] 2)
    have e:((w.alloc (.cells #[.int .i64 t,.int .i64 q,.int .i64 s] 23)).alloc (.cells (pkC U) 36)).heap.size=w.heap.size+2:=by simp
    rw[e] at this
    exact this)
  have HB:=qh (Bnew (Bnew (Bnew (Bnew (B0 w) (.cells #[.int .i64 t,.int .i64 q,.int .i64 s] 23)) (.cells (pkC U) 36)) (.cells #[.slice none 0 0,.slice none 0 0,.slice none 0 0,.slice none 0 0,.slice none 0 0,.slice none 0 0,.slice none 0 0,.slice none 0 0,.slice none 0 0] 36)) (.cells #[] 2))
  have HO:qH (((((w.alloc (.cells #[.int .i64 t,.int .i64 q,.int .i64 s] 23)).alloc (.cells (pkC U) 36)).alloc (.cells #[.slice none 0 0,.slice none 0 0,.slice none 0 0,.slice none 0 0,.slice none 0 0,.slice none 0 0,.slice none 0 0,.slice none 0 0,.slice none 0 0] 36)).alloc (.cells #[] 2)).ownsRow (w.heap.size+3) 2 1 (.slice (some ⟨w.heap.size+3,0,none⟩) 0 0) 0 []):=qh (by
    have:=World.ownsRow_lit (base:=w.heap.size+3) (e := 2) (size:=1) (((w.alloc (.cells #[.int .i64 t,.int .i64 q,.int .i64 s] 23)).alloc (.cells (pkC U) 36)).alloc (.cells #[.slice none 0 0,.slice none 0 0,.slice none 0 0,.slice none 0 0,.slice none 0 0,.slice none 0 0,.slice none 0 0,.slice none 0 0,.slice none 0 0] 36)) #[] 0 (by simp) (by unfold maxLen;omega) rfl
    simpa using this)
  have HP:=qh h
  have HS7:qH (∀ w',Below ((((w.alloc (.cells #[.int .i64 t,.int .i64 q,.int .i64 s] 23)).alloc (.cells (pkC U) 36)).alloc (.cells #[.slice none 0 0,.slice none 0 0,.slice none 0 0,.slice none 0 0,.slice none 0 0,.slice none 0 0,.slice none 0 0,.slice none 0 0,.slice none 0 0] 36)).alloc (.cells #[] 2)).heap.size ((((w.alloc (.cells #[.int .i64 t,.int .i64 q,.int .i64 s] 23)).alloc (.cells (pkC U) 36)).alloc (.cells #[.slice none 0 0,.slice none 0 0,.slice none 0 0,.slice none 0 0,.slice none 0 0,.slice none 0 0,.slice none 0 0,.slice none 0 0,.slice none 0 0] 36)).alloc (.cells #[] 2)) w'->w.heap.size+3<=w'.heap.size):=qh (fun w' hb=>by have h1:=hb.size;simp at h1;omega)
  obtain⟨A,c,hu,hlc,hcm,hbd,hno,hcl⟩:=h k hk
  obtain⟨l,hl⟩:∃ l,Z k=l:=⟨_,rfl⟩
  rw[hl] at hu hlc hbd hno hcl hn6 ⊢
  obtain⟨n,hn⟩:∃ n,l.length=n:=⟨_,rfl⟩
  rw[hn] at hu hlc hn6
  have HXU:=qh (fun (w':World) (hh:Held w' (w.heap.size+1) 36 (pkC U))=>(show w'.cell? ⟨w.heap.size+1,k,none⟩=some (.slice A n c) from by rw[hh.pk hk,hu]))
  have HNO:=qh hno
  have HN:=qh hn
  have HCL:=qh hcl
  have HBD:=qh hbd
  obtain⟨i0,hi0,hz0,hz1,hz2⟩:=info_parts longInfo
  have hki:(k:Int)<9:=qo
  have t0:decide ((k:Int)<0)=false:=qf
  have t1:decide (8<(k:Int))=false:=qf
  have t1n:decide (8<k)=false:=qf
  clear h hu hn hbd hcl hno
  go_enter Tryz.func57,Tryz.ntmps57
  go_wp2_with fail
  go_loopw [9,10] (fun u9 u10 wr=>∃ (i m:Nat),i<=n/\u10 = .int .i64 (i:Int)/\qH (((l.take i).filter (fun b => !onPg t q s p b)).length=m)/\qH (Held wr w.heap.size 23 #[.int .i64 t,.int .i64 q,.int .i64 s])/\qH (Held wr (w.heap.size+1) 36 (pkC U))/\qH (Held wr (w.heap.size+2) 36 (pkC zeroU))/\qH (wr.ownsRow (w.heap.size+3) 2 1 u9 m (lgVs ((l.take i).filter (fun b => !onPg t q s p b))))/\qH (Below w.heap.size w wr)/\qH (w.heap.size+3<=wr.heap.size)) (fun _ u10 _=>n-(intOf u10).toNat)
  case atStart=>exact⟨0,0,qo,rfl,qh (by simp),HC,HG,HR,qh (by simpa [lgVs] using HO.o),HB,qh (by simp)⟩
  case round =>
    clear HC HG HR HO HB HS7
    obtain⟨i,m,hi,rfl,HM,HC,HG,HR,HO,HB,HS6⟩:=hrel
    obtain⟨A6,c6,hu6⟩:=qKK HO.o
    subst hu6
    have hcc6:=qIZ HO.o
    have hmi:m<=i:=by
      exact Mln
    have cU:=HXU.o _ HG.o
    by_cases hlt:i<n
    · obtain⟨z,hz⟩:∃ z,l[i]?=some z:=⟨_,List.getElem?_eq_getElem (by rw[HN.o];exact hlt)⟩
      cases A with
      | none=>exact absurd HN.o (by rw[(HNO.o rfl).1];simp;omega)
      | some ad =>
        have HXK:=qh HXU.o
        have hadb:=(HCL.o ad rfl).1 (fun e=>by rw[e] at hz;simp at hz)
        have hadc:=(HCL.o ad rfl).2 i z hz
        have HXE:qH (∀ w',Below w.heap.size w w'->w'.cell? (ad.add i)=some (.int .i64 z)):=qh (fun w' hb=>(hb.cell (p:=ad.add i) (by rw[qXL];exact hadb)).trans hadc)
        have hzb:=HBD.o z (List.mem_of_getElem? hz)
        have HFT:=qh (qKq (fun b => !onPg t q s p b) hz)
        clear hadb hadc hz
        cases hon:onPg t q s p z
        · have HON:=qh hon
          clear hon
          go_wp2_with fail
          replace HC:=qh (HC.o.keep (Bdrew (B0 _)))
          replace HG:=qh (HG.o.keep (Bdrew (B0 _)))
          replace HR:=qh (HR.o.keep (Bdrew (B0 _)))
          replace HO:=qh (qEc HO.o (Bdrew (B0 _)))
          replace HB:=qh (Bgo HB.o (Bdrew (B0 _)))
          replace HS6:=qh (Nat.le_trans HS6.o (Bdrew (B0 _)).size)
          refine wp_region_held_drew (S:=(fun w'=>(w'.cell? ⟨w.heap.size,0,none⟩=some (.int .i64 t)/\w'.cell? ⟨w.heap.size,1,none⟩=some (.int .i64 q)/\w'.cell? ⟨w.heap.size,2,none⟩=some (.int .i64 s))/\w'.cell? ⟨w.heap.size+1,k,none⟩=some (.slice (some ad) n c)/\w'.cell? (ad.add i)=some (.int .i64 z))) qr ?_ (fun hHeld=>?_)
          ·exact MLB
          refine tkz 0 ?_
          refine tkz 1 ?_
          refine tkz 2 ?_
          refine tkz 3 ?_
          refine tkz 4 ?_
          refine tkz 5 ?_
          refine tkz 6 ?_
          refine tkz 7 ?_
          refine rdz 8 fun K hK=>?_
          go_simp
          refine(qCP t q s z p hzb.1 hzb.2 _).mono ?_
          rintro e w9 ⟨rfl,hb⟩
          rw[HON.o]
          replace HC:=qh (HC.o.keep hb)
          replace HG:=qh (HG.o.keep hb)
          replace HR:=qh (HR.o.keep hb)
          replace HO:=qh (qEc HO.o hb)
          replace HB:=qh (Bgo HB.o hb)
          replace HS6:=qh (Nat.le_trans HS6.o hb.size)
          clear hb
          refine hK.out _ _ ?_ (fun hHeld=>?_)
          ·exact MLB
          clear hK K
          (try simp only[Act.put,gA,gB,gC,sA,sB,sC])
          refine tkz 9 ?_
          refine dnz ?_
          have c0:=HXK.o _ HG.o
          have c1:=HXE.o _ HB.o
          have HGA:=qh (HG.o.alloc (.cells #[.int .i64 z] 2))
          go_wp2_with (first
            | (at_builtin
               refine wpList_append_own _ rfl _ _ 34 rfl (w.heap.size+3) 2 i0 (.int .i64 0) 1 8 Tryz.underlying34 hi0 hz0 hz1 hz2 rfl (by decide) _ _ _ rfl (HO.o.alloc _) ⟨_,0,none⟩ 1 1 [.int .i64 z] rfl rfl ?c1 ?c2 ?c3 ?c4 ?c5 ?_
               case c1=>intro j y hy;rcases j with _|j;(· simp at hy;subst hy;simp[Addr.add]);(· simp at hy)
               case c2=>simp[Value.oneCell']
               case c3=>unfold maxLen;omega
               case c4=>omega
               case c5=>have:=HS6.o;simp;omega
               intro u7 w7 hown7 hgrow hat7
               obtain⟨A7,c7,hu7⟩:=qKK hown7
               subst hu7
               have hnb:∀ j,(Value.slice A6 m c6).ownBlock=some j->w.heap.size+3<=j:=fun j hj=>(HO.o.lt j hj).1
               have HO7:qH (w7.ownsRow (w.heap.size+3) 2 1 (.slice A7 (m+1) c7) (m+1) (lgVs ((l.take (i+1)).filter (fun b => !onPg t q s p b)))):=qh (by rw[HFT.o,if_pos (by simp[HON.o])];unfold lgVs at hown7 ⊢;rw[List.map_append];exact hown7)
               have HB7:=qh ((Bnew HB.o (.cells #[.int .i64 z] 2)).grown hgrow (by have:=HB.o.size;simp;omega) (fun j hj=>by have:=hnb j hj;omega))
               have HC7:=qh (qQj (HC.o.alloc (.cells #[.int .i64 z] 2)) hgrow (fun e=>by have:=hnb _ e;omega))
               have HG7:=qh (qQj HGA.o hgrow (fun e=>by have:=hnb _ e;omega))
               have HS8:qH (w.heap.size+3<=w7.heap.size):=qh (by have h1:=hgrow.size;have:=HS6.o;simp at h1;omega)
               have HR7:=qh (qQj (HR.o.alloc (.cells #[.int .i64 z] 2)) hgrow (fun e=>by have:=hnb _ e;omega))
               clear hown7 hgrow hat7 hnb)
            | fail)
          go_roundw
          case rel=>exact⟨i+1,m+1,qo,by go_num,qh (by rw[HFT.o,if_pos (by simp[HON.o]),List.length_append,HM.o];rfl),HC7,HG7,HR7,HO7,HB7,HS8⟩
          case measure=>simp[intOf];omega
        · have HON:=qh hon
          clear hon
          go_wp2_with fail
          replace HC:=qh (HC.o.keep (Bdrew (B0 _)))
          replace HG:=qh (HG.o.keep (Bdrew (B0 _)))
          replace HR:=qh (HR.o.keep (Bdrew (B0 _)))
          replace HO:=qh (qEc HO.o (Bdrew (B0 _)))
          replace HB:=qh (Bgo HB.o (Bdrew (B0 _)))
          replace HS6:=qh (Nat.le_trans HS6.o (Bdrew (B0 _)).size)
          refine wp_region_held_drew (S:=(fun w'=>(w'.cell? ⟨w.heap.size,0,none⟩=some (.int .i64 t)/\w'.cell? ⟨w.heap.size,1,none⟩=some (.int .i64 q)/\w'.cell? ⟨w.heap.size,2,none⟩=some (.int .i64 s))/\w'.cell? ⟨w.heap.size+1,k,none⟩=some (.slice (some ad) n c)/\w'.cell? (ad.add i)=some (.int .i64 z))) qr ?_ (fun hHeld=>?_)
          ·exact MLB
          refine tkz 0 ?_
          refine tkz 1 ?_
          refine tkz 2 ?_
          refine tkz 3 ?_
          refine tkz 4 ?_
          refine tkz 5 ?_
          refine tkz 6 ?_
          refine tkz 7 ?_
          refine rdz 8 fun K hK=>?_
          go_simp
          refine(qCP t q s z p hzb.1 hzb.2 _).mono ?_
          rintro e w9 ⟨rfl,hb⟩
          rw[HON.o]
          replace HC:=qh (HC.o.keep hb)
          replace HG:=qh (HG.o.keep hb)
          replace HR:=qh (HR.o.keep hb)
          replace HO:=qh (qEc HO.o hb)
          replace HB:=qh (Bgo HB.o hb)
          replace HS6:=qh (Nat.le_trans HS6.o hb.size)
          clear hb
          refine hK.out _ _ ?_ (fun hHeld=>?_)
          ·exact MLB
          clear hK K
          (try simp only[Act.put,gA,gB,gC,sA,sB,sC])
          refine tkz 9 ?_
          refine dnz ?_
          have c0:=HXK.o _ HG.o
          have c1:=HXE.o _ HB.o
          go_wp2_with fail
          go_roundw
          case rel=>exact⟨i+1,m,qo,by go_num,qh (by rw[HFT.o,if_neg (by simp[HON.o]),List.append_nil];exact HM.o),HC,HG,HR,qh (by rw[HFT.o,if_neg (by simp[HON.o]),List.append_nil];exact HO.o),HB,HS6⟩
          case measure=>simp[intOf];omega
    · obtain rfl:i=n:=qo
      have HE:qH (l.take i=l):=qh (List.take_of_length_le (by rw[HN.o];exact Nat.le_refl _))
      obtain⟨U2,hU2⟩:∃ U2,updF U k ⟨A6,m,c6⟩=U2:=⟨_,rfl⟩
      have HU2:=qh hU2
      have HG8:qH (Held (wr.setCell ⟨w.heap.size+1,k,none⟩ (.slice A6 m c6)) (w.heap.size+1) 36 (pkC U2)):=qh (by rw[<- hU2];exact HG.o.putP hk ⟨A6,m,c6⟩)
      have HR8:qH (Held (wr.setCell ⟨w.heap.size+1,k,none⟩ (.slice A6 m c6)) (w.heap.size+2) 36 (pkC zeroU)):=qh (HR.o.far (p:=⟨w.heap.size+1,k,none⟩) (by show w.heap.size+2≠w.heap.size+1;omega) _)
      have g0:=HG.o.thawed k
      have g1:=HG.o.pk hk
      clear hU2
      obtain⟨x0,x1,x2,x3,x4,x5,x6,x7,x8⟩:=HG8.o.nineP
      obtain⟨z0,z1,z2,z3,z4,z5,z6,z7,z8⟩:=HR8.o.nineP
      obtain⟨f0,f1,f2,f3,f4,f5,f6,f7,f8⟩:=HR8.o.thawP
      go_wp2_with fail
      obtain⟨WF,hWF⟩:∃ WF,setP (wr.setCell ⟨w.heap.size+1,k,none⟩ (.slice A6 m c6)) (w.heap.size+2) U2=WF:=⟨_,rfl⟩
      have zz:=Held.setP HR8.o U2
      have hBF:=qMg (g:=w.heap.size+2) (Bput HB.o (p:=⟨w.heap.size+1,k,none⟩) (by show w.heap.size<=w.heap.size+1;omega) (.slice A6 m c6)) qo U2
      have hOF:(setP (wr.setCell ⟨w.heap.size+1,k,none⟩ (.slice A6 m c6)) (w.heap.size+2) U2).ownsRow (w.heap.size+3) 2 1 (.slice A6 m c6) m (lgVs ((l.take i).filter (fun b => !onPg t q s p b))):=qWQ HO.o (fun j hj=>by
        have:=(HO.o.lt j hj).1
        rw[qDL qo,Below.heap_setCell _ _ _ _ (by show j≠w.heap.size+1;omega)])
      rw[hWF] at zz hBF hOF
      unfold setP at hWF
      rw[hWF]
      obtain⟨y0,y1,y2,y3,y4,y5,y6,y7,y8⟩:=zz.nineP
      clear x0 x1 x2 x3 x4 x5 x6 x7 x8 z0 z1 z2 z3 z4 z5 z6 z7 z8 f0 f1 f2 f3 f4 f5 f6 f7 f8
      refine bodyPost_ret (v := .agg (pkC U2)) (by simp[results,Tryz.results57,go_sem,y0,y1,y2,y3,y4,y5,y6,y7,y8]) rfl ⟨⟨A6,m,c6⟩,by rw[HU2.o],fun ad e=>by
        have e:A6=some ad:=e
        subst e
        have:=(HO.o.lt ad.block (by unfold Value.ownBlock;rfl)).1
        omega,fun j hj=>?_,hBF⟩
      by_cases e:j=k
      · subst e
        rw[qJN,qJN]
        rw[HE.o] at HM hOF
        refine qUL (base:=w.heap.size+3) (by rw[HM.o];exact hOF) (fun z hz=>HBD.o z (List.mem_filter.1 hz).1)
      ·exact M53
end
section
theorem qP5 (A:Option Addr)(n c:Nat)(xs:List Value)(hl:xs.length=n*1)(hmx:n*8<=140737488355328)(h1:∀ u∈xs,u.oneCell'=true)(w:World)
    (hA:0<n->∃ ad,A=some ad/\∀ j u,xs[j]?=some u->w.cell? (ad.add j)=some u) :
    Calls Tryz.prog 110 #[.slice A n c] w fun e w'=>∃ v,e = .returned v/\w'.ownsRow w.heap.size 2 1 v n xs/\Below w.heap.size w w':=by
  have q22:∀ (w:World) (a:Option Addr) (n c n' c':Nat),(binOp .eql 34 (.slice a n c) (.slice none n' c')).run Tryz.prog w = .ok (.bool a.isNone) w:=fun w a n c n' c'=>Lib.run_eql_slice_nil w _ _ a n c n' c' Tryz.underlying34
  cases A with
  | none =>
    have hn:n=0:=by
      exact MQM
    subst hn
    have hx:xs = []:=List.eq_nil_of_length_eq_zero qo
    subst hx
    go_enter Tryz.func110,Tryz.ntmps110
    go_wp2
    go_ret
    exact⟨_,rfl,World.ownsRow_nil _ _ _ _,B0 _⟩
  | some ad =>
    obtain⟨i0,hi,hz0,hz1,hz2⟩:=info_parts longInfo
    have HC:qH (∀ j u,xs[j]?=some u->w.cell? (ad.add j)=some u):=qh (fun j u hu=>by
      rcases Nat.eq_zero_or_pos n with h|h
      ·exact MIZ
      · obtain⟨ad',h2,h3⟩:=hA h
        injection h2 with h2
        subst h2
        exact h3 j u hu)
    clear hA
    go_enter Tryz.func110,Tryz.ntmps110
    go_wp2_with (at_builtin
                 refine wpList_append_own _ rfl _ _ 34 rfl w.heap.size 2 i0 (.int .i64 0) 1 8 Tryz.underlying34 hi hz0 hz1 hz2 rfl (by decide) _ 0 [] rfl (World.ownsRow_made w #[] 0 (Nat.le_refl _) (Nat.zero_le _) (by simp)) ad n c xs rfl ?c1 ?c2 ?c3 ?c4 ?c5 ?c6 ?_)
    case c1=>exact hl
    case c2=>exact fun j u hj=>Lib.cell?_alloc_some _ (HC.o j u hj)
    case c3=>exact h1
    case c4=>rw[Nat.zero_add];unfold maxLen;omega
    case c5=>rw[Nat.zero_add];exact hmx
    case c6=>simp
    intro v' w1 hown hgrow hnil
    have HB:=qh (((Below.refl _ w).alloc (Nat.le_refl _) (.cells #[] 2)).grown hgrow (by simp) (by intro k hk;simp[Value.ownBlock] at hk;omega))
    have HO:=qh hown
    clear hgrow hown hnil
    go_wp2
    go_ret
    exact⟨_,rfl,by simpa using HO.o,HB.o⟩
theorem qQc (l:List Int):∀ u∈lgVs l,u.oneCell'=true:=fun y hy=>by
 obtain⟨j,hj⟩:=List.mem_iff_getElem?.1 hy
 obtain⟨z,_,rfl⟩:=qSW hj
 simp[Value.oneCell']

theorem qAa (U:Nat->Sl)(Z:Nat->List Int)(k:Int)(h0 : -9223372036854775808<=k)(h1:k<=9223372036854775807)(w:World)(hT:SlotsLaid w)(h:PkV w U Z)(hn:lastP Z k=none) :
  Calls Tryz.prog 75 #[.agg (pkC U),.int .i64 k] w fun e w'=>e = .returned (.tuple #[.int .i64 0,.agg (pkC U),.bool false])/\Below w.heap.size w w':=by
 have HG:=qh ((Held.new w 36 (pkC U)).alloc (.cells #[.slice none 0 0,.slice none 0 0,.slice none 0 0,.slice none 0 0,.slice none 0 0,.slice none 0 0,.slice none 0 0,.slice none 0 0,.slice none 0 0] 36))
 have HR:=qh (Held.new2 w (.cells (pkC U) 36) 36 #[.slice none 0 0,.slice none 0 0,.slice none 0 0,.slice none 0 0,.slice none 0 0,.slice none 0 0,.slice none 0 0,.slice none 0 0,.slice none 0 0])
 have HB:=qh (Bnew (Bnew (B0 w) (.cells (pkC U) 36)) (.cells #[.slice none 0 0,.slice none 0 0,.slice none 0 0,.slice none 0 0,.slice none 0 0,.slice none 0 0,.slice none 0 0,.slice none 0 0,.slice none 0 0] 36))
 have HP:=qh h
 have HT:=qh hT
 have HN:=qh hn
 clear h hn hT
 obtain⟨x0,x1,x2,x3,x4,x5,x6,x7,x8⟩:=HG.o.nineP
 go_enter Tryz.func75,Tryz.ntmps75
 go_wp2_with fail
 refine(qVc U Z k h0 h1 _ (HT.o.below HB.o) (HP.o.below HB.o)).mono ?_
 rintro e w2 ⟨rfl,hb⟩
 rw[HN.o,show lastV none = .tuple #[.int .i64 0,.bool false] from rfl]
 replace HG:=qh (HG.o.keep hb)
 replace HR:qH (Held w2 (w.heap.size+1) 36 (pkC zeroU)):=qh (HR.o.keep hb)
 replace HB:=qh (Bgo HB.o hb)
 clear hb x0 x1 x2 x3 x4 x5 x6 x7 x8
 obtain⟨x0,x1,x2,x3,x4,x5,x6,x7,x8⟩:=HG.o.nineP
 obtain⟨z0,z1,z2,z3,z4,z5,z6,z7,z8⟩:=HR.o.nineP
 obtain⟨f0,f1,f2,f3,f4,f5,f6,f7,f8⟩:=HR.o.thawP
 go_wp2_with fail
 go_region
 obtain⟨WF,hWF⟩:∃ WF,setP w2 (w.heap.size+1) U=WF:=⟨_,rfl⟩
 have zz:=Held.setP HR.o U
 have hBF:=qMg (g:=w.heap.size+1) HB.o qo U
 rw[hWF] at zz hBF
 unfold setP at hWF
 rw[hWF]
 replace zz:=zz.keep (Bdrew (B0 _))
 replace hBF:=Bgo hBF (Bdrew (B0 _))
 obtain⟨y0,y1,y2,y3,y4,y5,y6,y7,y8⟩:=zz.nineP
 clear x0 x1 x2 x3 x4 x5 x6 x7 x8 z0 z1 z2 z3 z4 z5 z6 z7 z8 f0 f1 f2 f3 f4 f5 f6 f7 f8
 go_wp2
 exact bodyPost_ret (v := .tuple #[.int .i64 0,.agg (pkC U),.bool false]) (by simp[results,Tryz.results75,go_sem,y0,y1,y2,y3,y4,y5,y6,y7,y8]) rfl ⟨rfl,hBF⟩
end
section
theorem qL1 (U:Nat->Sl)(Z:Nat->List Int)(k:Nat)(ys:List Int)(a:Int)(hk:k<9)(hz:Z k=ys ++ [a])(h4:ys.length<=1000000)(w:World)(hT:SlotsLaid w)(h:PkV w U Z) :
  Calls Tryz.prog 75 #[.agg (pkC U),.int .i64 (k:Int)] w fun e w'=>∃ x:Sl,e = .returned (.tuple #[.int .i64 a,.agg (pkC (updF U k x)),.bool true])/\(∀ ad,x.a=some ad->w.heap.size<=ad.block)/\PkV w' (updF U k x) (updF Z k ys)/\Below w.heap.size w w':=by
 have HG:=qh ((Held.new w 36 (pkC U)).alloc (.cells #[.slice none 0 0,.slice none 0 0,.slice none 0 0,.slice none 0 0,.slice none 0 0,.slice none 0 0,.slice none 0 0,.slice none 0 0,.slice none 0 0] 36))
 have HR:=qh (Held.new2 w (.cells (pkC U) 36) 36 #[.slice none 0 0,.slice none 0 0,.slice none 0 0,.slice none 0 0,.slice none 0 0,.slice none 0 0,.slice none 0 0,.slice none 0 0,.slice none 0 0])
 have HB:=qh (Bnew (Bnew (B0 w) (.cells (pkC U) 36)) (.cells #[.slice none 0 0,.slice none 0 0,.slice none 0 0,.slice none 0 0,.slice none 0 0,.slice none 0 0,.slice none 0 0,.slice none 0 0,.slice none 0 0] 36))
 have HP:=qh h
 have HT:=qh hT
 have HN:qH (lastP Z (k:Int)=some a):=qh (by rw[qUw hk,hz];simp)
 obtain⟨A,c,hu,hlc,hcm,hbd,hno,hcl⟩:=h k hk
 obtain⟨n,hn⟩:∃ n,ys.length=n:=⟨_,rfl⟩
 have hl:(Z k).length=n+1:=by rw[hz,List.length_append,hn];rfl
 rw[hl] at hu hlc
 rw[hn] at h4
 have HYL:=qh hn
 obtain⟨x,hx⟩:∃ x,U k=x:=⟨_,rfl⟩
 rw[hx] at hu
 obtain⟨xa,xn,xc⟩:=x
 injection hu with e1 e2 e3
 have e1:xa=A:=e1
 have e2:xn=n+1:=e2
 have e3:xc=c:=e3
 subst e1 e2 e3
 have HX:=qh hx
 have hxa:xa≠none:=fun e=>absurd (hno e).1 (by rw[hz];simp)
 have hn9:n+1<=9223372036854775807:=by unfold maxLen at hcm;omega
 obtain⟨ad,rfl⟩:∃ ad,xa=some ad:=by cases xa with|none=>exact absurd rfl hxa|some ad=>exact⟨ad,rfl⟩
 have HYB:qH (∀ z∈ys,-9223372036854775808<=z/\z<=9223372036854775807):=qh (fun z hz2=>hbd z (by rw[hz];exact List.mem_append_left _ hz2))
 have HYC:qH (∀ w',Below w.heap.size w w'->∀ j u,(lgVs ys)[j]?=some u->w'.cell? (ad.add j)=some u):=qh (fun w' hb j u hu=>by
  obtain⟨z,hz2,rfl⟩:=qSW hu
  have h1:=(hcl ad rfl).1 (by rw[hz];simp)
  refine(hb.cell (p:=ad.add j) (by rw[qXL];exact h1)).trans ((hcl ad rfl).2 j z ?_)
  rw[hz,List.getElem?_append_left (by
   rcases Nat.lt_or_ge j ys.length with h1|h1
   ·exact h1
   ·rw[List.getElem?_eq_none h1] at hz2;cases hz2)]
  exact hz2)
 have hki:(k:Int)<9:=qo
 have hxc:n+1<=xc:=hlc
 have t3:((n+1:Nat):Int)-1=(n:Int):=qo
 have t4:IntKind.i64.wrap (n:Int)=(n:Int):=qIv qo qo
 have t5:0<=(n:Int)/\(n:Int)<=(xc:Int):=⟨qo,qo⟩
 have h0 : -9223372036854775808<=(k:Int):=qo
 have h1:(k:Int)<=9223372036854775807:=qo
 clear h hT hz hl hx hbd hno hcl hn hxa
 obtain⟨x0,x1,x2,x3,x4,x5,x6,x7,x8⟩:=HG.o.nineP
 go_enter Tryz.func75,Tryz.ntmps75
 go_wp2_with fail
 refine(qVc U Z k h0 h1 _ (HT.o.below HB.o) (HP.o.below HB.o)).mono ?_
 rintro e w2 ⟨rfl,hb⟩
 rw[HN.o,show lastV (some a) = .tuple #[.int .i64 a,.bool true] from rfl]
 replace HG:=qh (HG.o.keep hb)
 replace HR:qH (Held w2 (w.heap.size+1) 36 (pkC zeroU)):=qh (HR.o.keep hb)
 replace HB:=qh (Bgo HB.o hb)
 clear hb x0 x1 x2 x3 x4 x5 x6 x7 x8
 have HLT:qH (w.heap.size<w2.drew.heap.size):=qh HG.o.lt
 have HLT2:qH (w.heap.size+1<w2.drew.heap.size):=qh HR.o.lt
 have c0:=HG.o.pk hk
 rw[HX.o] at c0
 go_wp2_with fail
 refine wp_region_held_drew (S:=(fun _=>True)) qr ?_ (fun hHeld=>?_)
 ·trivial
 refine tkz 0 ?_
 refine tkz 1 ?_
 refine tkz 2 ?_
 refine tkz 4 ?_
 refine tkz 5 ?_
 refine wpAnyH_ready (rs := [3,6]) qr (by simp) ?_
 refine AllReadyH.cons (o:=_) rfl (fun K hK=>?_) (AllReadyH.cons (o:=_) rfl (fun K hK=>?_) AllReadyH.nil)
 ·go_simp
  refine RYe ?_;clear hK K;intro hHeld
  refine rdz 6 fun K hK=>?_
  go_simp
  skip
  refine RYe ?_;clear hK K;intro hHeld
  refine tkz 7 ?_
  refine tkz 8 ?_
  exact MYL
 ·go_simp
  refine RYe ?_;clear hK K;intro hHeld
  refine tkz 7 ?_
  refine tkz 8 ?_
  refine rdz 3 fun K hK=>?_
  go_simp
  skip
  refine RYe ?_;clear hK K;intro hHeld
  exact MYL
end
section
section
variable {O : Ob} {w w0 : World} {A Q G : Nat -> Prop} {g b : Nat} {t q s : Int} {U : Nat -> Sl} {Z : Nat -> List Int} {st : Vst}

theorem qIu (k:Nat)(hk:k<9)(p i a:Int)(ha:atI t q s (k:Int) p i=a)(hab : -9223372036854775808<=a/\a<=9223372036854775807)(h3:(Z k).length<=3)(hT:SlotsLaid w)(h:Hnd O w0 A Q G w g b t q s U Z st w) :
  Calls Tryz.prog 62 #[.pointer (some ⟨g,0,none⟩),.int .i64 (k:Int),.int .i64 p,.int .i64 i] w fun e w'=>e = .returned (.bool true)/\∃ x:Sl,(∀ ad,x.a=some ad->w.heap.size<=ad.block)/\Turns (fun i=>i=g) w w'/\Hnd O w0 A Q G w g b t q s (updF U k x) (updF Z k (Z k ++ [a])) st w':=by
 have HN:=qh h
 have HT:=qh hT
 have HA:=qh ha
 have HB:=qh (B0 w)
 clear h hT ha
 obtain⟨x0,x1,x2,x3⟩:=HN.o.held.hd4
 obtain⟨u0,u1,u2,u3,u4,u5,u6,u7,u8⟩:=HN.o.held.hdU
 go_enter Tryz.func62,Tryz.ntmps62
 go_wp2_with fail
 refine(qSa t q s (k:Int) p i qo qo _ HT.o).mono ?_
 rintro e w2 ⟨rfl,hb⟩
 rw[HA.o]
 replace HN:=qh (HN.o.keep hb)
 replace HB:=qh (Bgo HB.o hb)
 clear hb
 clear x0 x1 x2 x3 u0 u1 u2 u3 u4 u5 u6 u7 u8
 obtain⟨x0,x1,x2,x3⟩:=HN.o.held.hd4
 obtain⟨u0,u1,u2,u3,u4,u5,u6,u7,u8⟩:=HN.o.held.hdU
 go_wp2_with fail
 refine(qD8 U Z k a hab hk h3 _ (HT.o.below HB.o) HN.o.p.pk).mono ?_
 rintro e w3 ⟨x,rfl,hx,hV,hb⟩
 have HNT:=qh (HN.o.turn hb hV (fun i hi=>hi.turn_new hx))
 have HX:=qh (fun ad (e:x.a=some ad)=>Nat.le_trans HB.o.size (hx ad e))
 have HTU:=qh (fun V=>Turns.setH (F:=fun i=>i=g) (Turns.of_below (Bgo HB.o hb) _) rfl V)
 replace HN:=qh (HN.o.keep hb)
 obtain⟨U2,hU2⟩:∃ U2,(updF U k x)=U2:=⟨_,rfl⟩
 have HU2:=qh hU2
 rw[hU2] at HNT ⊢
 clear hb hx hV hU2 HB HT HA
 clear x0 x1 x2 x3 u0 u1 u2 u3 u4 u5 u6 u7 u8
 obtain⟨x0,x1,x2,x3⟩:=HN.o.held.hd4
 obtain⟨u0,u1,u2,u3,u4,u5,u6,u7,u8⟩:=HN.o.held.hdU
 obtain⟨f0,f1,f2,f3,f4,f5,f6,f7,f8⟩:=HN.o.held.hdF
 have HN4:=qh (HN.o.keep (Bnew (B0 _) (.cells (pkC U2) 36)))
 obtain⟨y0,y1,y2,y3,y4,y5,y6,y7,y8⟩:=HN4.o.held.hdU
 obtain⟨e0,e1,e2,e3,e4,e5,e6,e7,e8⟩:=HN4.o.held.hdF
 have hgl:=HN.o.held.lt
 go_wp2_with fail
 obtain⟨WF,hWF⟩:∃ WF,setH w3 g U2=WF:=⟨_,rfl⟩
 have HTW:=qh (HTU.o U2)
 rw[hWF] at HNT HTW
 unfold setH at hWF
 rw[hWF]
 replace HTW:=qh (HTW.o.trans (Turns.of_below (Bnew (B0 _) (.cells (pkC U2) 36)) _))
 clear hWF f0 f1 f2 f3 f4 f5 f6 f7 f8 x0 x1 x2 x3 u0 u1 u2 u3 u4 u5 u6 u7 u8 y0 y1 y2 y3 y4 y5 y6 y7 y8 e0 e1 e2 e3 e4 e5 e6 e7 e8 hgl HN HN4
 go_wp2
 go_ret
 exact⟨rfl,x,HX.o,HTW.o,by rw[HU2.o];exact HNT.o.keep (Bnew (B0 _) _)⟩

theorem qHY (k:Nat)(hk:k<9)(p i a:Int)(ha:atI t q s (k:Int) p i=a)(hab : -9223372036854775808<=a/\a<=9223372036854775807)(h3:3<(Z k).length)(hT:SlotsLaid w)(h:Hnd O w0 A Q G w g b t q s U Z st w) :
  Calls Tryz.prog 62 #[.pointer (some ⟨g,0,none⟩),.int .i64 (k:Int),.int .i64 p,.int .i64 i] w fun e w'=>e = .returned (.bool false)/\Hnd O w0 A Q G w g b t q s U Z st w':=by
 have HN:=qh h
 have HT:=qh hT
 have HA:=qh ha
 have HB:=qh (B0 w)
 clear h hT ha
 obtain⟨x0,x1,x2,x3⟩:=HN.o.held.hd4
 obtain⟨u0,u1,u2,u3,u4,u5,u6,u7,u8⟩:=HN.o.held.hdU
 go_enter Tryz.func62,Tryz.ntmps62
 go_wp2_with fail
 refine(qSa t q s (k:Int) p i qo qo _ HT.o).mono ?_
 rintro e w2 ⟨rfl,hb⟩
 rw[HA.o]
 replace HN:=qh (HN.o.keep hb)
 replace HB:=qh (Bgo HB.o hb)
 clear hb
 clear x0 x1 x2 x3 u0 u1 u2 u3 u4 u5 u6 u7 u8
 obtain⟨x0,x1,x2,x3⟩:=HN.o.held.hd4
 obtain⟨u0,u1,u2,u3,u4,u5,u6,u7,u8⟩:=HN.o.held.hdU
 go_wp2_with fail
 refine(qW6 U Z (k:Int) a qo qo _ (HT.o.below HB.o) HN.o.p.pk (.inr (.inr (by rw[Int.toNat_natCast];exact h3)))).mono ?_
 rintro e w3 ⟨rfl,hb⟩
 have HNT:=qh (HN.o.turn hb (HN.o.p.pk.below hb) (fun i hi => .inl hi))
 replace HN:=qh (HN.o.keep hb)
 obtain⟨U2,hU2⟩:∃ U2,U=U2:=⟨_,rfl⟩
 have HU2:=qh hU2
 rw[hU2] at HNT ⊢
 clear hb hU2 HB HT HA
 clear x0 x1 x2 x3 u0 u1 u2 u3 u4 u5 u6 u7 u8
 obtain⟨x0,x1,x2,x3⟩:=HN.o.held.hd4
 obtain⟨u0,u1,u2,u3,u4,u5,u6,u7,u8⟩:=HN.o.held.hdU
 obtain⟨f0,f1,f2,f3,f4,f5,f6,f7,f8⟩:=HN.o.held.hdF
 have HN4:=qh (HN.o.keep (Bnew (B0 _) (.cells (pkC U2) 36)))
 obtain⟨y0,y1,y2,y3,y4,y5,y6,y7,y8⟩:=HN4.o.held.hdU
 obtain⟨e0,e1,e2,e3,e4,e5,e6,e7,e8⟩:=HN4.o.held.hdF
 have hgl:=HN.o.held.lt
 go_wp2_with fail
 obtain⟨WF,hWF⟩:∃ WF,setH w3 g U2=WF:=⟨_,rfl⟩
 skip
 rw[hWF] at HNT
 unfold setH at hWF
 rw[hWF]
 skip
 clear hWF f0 f1 f2 f3 f4 f5 f6 f7 f8 x0 x1 x2 x3 u0 u1 u2 u3 u4 u5 u6 u7 u8 y0 y1 y2 y3 y4 y5 y6 y7 y8 e0 e1 e2 e3 e4 e5 e6 e7 e8 hgl HN HN4
 go_wp2
 go_ret
 exact⟨rfl,by first|exact HNT.o.keep (Bnew (B0 _) _)|(rw[HU2.o];exact HNT.o.keep (Bnew (B0 _) _))⟩

theorem qJY (k:Int)(k0 : -9223372036854775808<=k)(k1:k<=9223372036854775807)(hn:lastP Z k=none)(hT:SlotsLaid w)(h:Hnd O w0 A Q G w g b t q s U Z st w) :
  Calls Tryz.prog 37 #[.pointer (some ⟨g,0,none⟩),.int .i64 k] w fun e w'=>e = .returned (.tuple #[.int .i64 0,.bool false])/\Hnd O w0 A Q G w g b t q s U Z st w':=by
 have HN:=qh h
 have HT:=qh hT
 have HL:=qh hn
 clear h hT hn
 obtain⟨x0,x1,x2,x3⟩:=HN.o.held.hd4
 obtain⟨u0,u1,u2,u3,u4,u5,u6,u7,u8⟩:=HN.o.held.hdU
 go_enter Tryz.func37,Tryz.ntmps37
 go_wp2_with fail
 refine(qAa U Z k k0 k1 _ HT.o HN.o.p.pk HL.o).mono ?_
 rintro e w3 ⟨rfl,hb⟩
 replace HN:=qh (HN.o.keep hb)
 clear hb
 clear x0 x1 x2 x3 u0 u1 u2 u3 u4 u5 u6 u7 u8
 obtain⟨x0,x1,x2,x3⟩:=HN.o.held.hd4
 obtain⟨u0,u1,u2,u3,u4,u5,u6,u7,u8⟩:=HN.o.held.hdU
 go_wp2
 go_ret2
 exact⟨rfl,HN.o.keep (Bnew (B0 _) _)⟩
end
section
variable {base b n : Nat} {wh : Bool} {K : Nat -> Option Nat} {st : Vst} {w w0 : World} {A Q G : Nat -> Prop} {g : Nat} {t q s : Int} {U : Nat -> Sl} {Z : Nat -> List Int}
theorem qLk (hn:n<2^40)(k:Nat)(hk:k<9)(ys:List Int)(a:Int)(hz:Z k=ys ++ [a])(h4:ys.length<=1000000)(hs:spotB t q s a=true)(hr:slotB t q s (k:Int) (spotO t q s a)=true)(p:Int)(i:Nat)(hp:spotP t q s a=p)(hi:slotR t q s (k:Int) (spotO t q s a)=(i:Int))(hi32:i<32)
  (hT:SlotsLaid w0) (hA:¬ A 0) (h:Hnd (vOb base b n wh K) w0 A Q G w g b t q s U Z st w) :
  Calls Tryz.prog 37 #[.pointer (some ⟨g,0,none⟩),.int .i64 (k:Int)] w fun e w'=>e = .returned (.tuple #[.int .i64 a,.bool true])/\∃ x:Sl,(∀ ad,x.a=some ad->w.heap.size<=ad.block) /\
   Hnd (vOb base b n wh K) w0 A Q G w g b t q s (updF U k x) (updF Z k ys) (putS n (getS n K st (pageI t q s p 4)) (pageI t q s p 4) (getV n K st (pageI t q s p 4) ||| 2^i)) w':=by
 have HN:=qh h
 have HT:=qh hT
 have HZ:=qh hz
 have HS:=qh hs
 have HR:=qh hr
 have HP:=qh hp
 have HI:=qh hi
 have hab : -9223372036854775808<=a/\a<=9223372036854775807:=by
  have:=qSv hs
  omega
 clear h hT hz hs hr hp hi
 obtain⟨x0,x1,x2,x3⟩:=HN.o.held.hd4
 obtain⟨u0,u1,u2,u3,u4,u5,u6,u7,u8⟩:=HN.o.held.hdU
 go_enter Tryz.func37,Tryz.ntmps37
 go_wp2_with fail
 refine(qL1 U Z k ys a hk HZ.o h4 _ (HT.o.at_ hA HN.o.at_) HN.o.p.pk).mono ?_
 rintro e w3 ⟨x,rfl,hx,hV,hb⟩
 have HNT:=qh (HN.o.turn hb hV (fun i hi=>hi.turn_new hx))
 have HX:=qh hx
 replace HN:=qh (HN.o.keep hb)
 obtain⟨U2,hU2⟩:∃ U2,updF U k x=U2:=⟨_,rfl⟩
 have HU2:=qh hU2
 rw[hU2] at HNT ⊢
 clear hb hx hV hU2 HZ
 clear x0 x1 x2 x3 u0 u1 u2 u3 u4 u5 u6 u7 u8
 obtain⟨x0,x1,x2,x3⟩:=HN.o.held.hd4
 obtain⟨u0,u1,u2,u3,u4,u5,u6,u7,u8⟩:=HN.o.held.hdU
 obtain⟨f0,f1,f2,f3,f4,f5,f6,f7,f8⟩:=HN.o.held.hdF
 have HN4:=qh (HN.o.keep (Bnew (B0 _) (.cells (pkC U2) 36)))
 obtain⟨y0,y1,y2,y3,y4,y5,y6,y7,y8⟩:=HN4.o.held.hdU
 obtain⟨e0,e1,e2,e3,e4,e5,e6,e7,e8⟩:=HN4.o.held.hdF
 have hgl:=HN.o.held.lt
 go_wp2_with fail
 obtain⟨WF,hWF⟩:∃ WF,setH w3 g U2=WF:=⟨_,rfl⟩
 rw[hWF] at HNT
 unfold setH at hWF
 rw[hWF]
 replace HNT:=qh (HNT.o.keep (Bnew (B0 _) (.cells (pkC U2) 36)))
 clear hWF f0 f1 f2 f3 f4 f5 f6 f7 f8 x0 x1 x2 x3 u0 u1 u2 u3 u4 u5 u6 u7 u8 y0 y1 y2 y3 y4 y5 y6 y7 y8 e0 e1 e2 e3 e4 e5 e6 e7 e8 hgl HN HN4
 generalize hw4:WF.alloc (.cells (pkC U2) 36)=w4 at *
 clear hw4
 refine(qHl k hk a hab.1 hab.2 HS.o HR.o _ (HT.o.at_ hA HNT.o.at_) HNT.o.held).mono ?_
 rintro e w5 ⟨rfl,hb⟩
 rw[HP.o,HI.o]
 replace HNT:=qh (HNT.o.keep hb)
 clear hb
 go_wp2_with fail
 refine(qUs hn p i hi32 HG.hand HNT.o.held HNT.o.at_).mono ?_
 rintro e w6 ⟨rfl,h1,h2⟩
 replace HNT:=qh (HNT.o.call h1 h2)
 clear h1 h2
 go_wp2
 go_ret2
 exact⟨rfl,x,HX.o,by rw[HU2.o];exact HNT.o⟩

end
end
section
def SeqCap (P:Program) (gf:Nat) (cap:Array Value) (enc:Nat->Array Value) (can:Nat->Bool) (next:Nat->Nat) (R:World->Prop):Prop :=
 ∀ (l:Nat) (J:Nat->(Nat->Prop)->World->Prop) (Jx:World->Prop) (W:World) (F0:Nat->Prop),R W ->
  (∀ pos F A B,J pos F A->Below A.heap.size A B->J pos F B)->(∀ A B,Jx A->Below A.heap.size A B->Jx B) ->
  (∀ pos F A,J pos F A->R A)->(∀ pos F A,J pos F A->∀ i,F i->i<A.heap.size) ->
  (∀ pos F A,J pos F A->W.heap.size<=A.heap.size->can pos=true->YieldAt Fence.wide 0 P l (enc pos) A fun e B =>
   (e = .returned (.bool true)/\∃ F',J (next pos) F' B/\A.heap.size<=B.heap.size/\(∀ k,W.heap.size<=k->k<A.heap.size->¬ F k->B.heap[k]?=A.heap[k]?)/\∀ i,F' i->F i\/A.heap.size<=i) \/
   (e = .returned (.bool false)/\Jx B)) ->
  J 0 F0 W ->
  CallsIn Fence.wide 0 P gf (#[.func (.yield l) #[] #[]]++cap) W fun e B=>(∃ v,e = .returned v)/\((∃ pos F,J pos F B/\can pos=false)\/Jx B)

theorem qT5 {P:Program}{g:Operand}{ps:Array Tmp}{assign body:Code}{Q:Exit->Act->World->Prop}{a:Act}{w:World}{gf:Nat}{cap:Array Value}
  (hg:a.eval g = .func (.func gf) #[] cap) (eg:∀ args w,(callFunc gf args).run P w = .ok (.enter gf args) w)
  {enc:Nat->Array Value} {can:Nat->Bool} {next:Nat->Nat} {R:World->Prop} (hseq:SeqCap P gf cap enc can next R) (hb0:R w) (hRB:∀ A B,R A->Below A.heap.size A B->R B) (hps:∀ pos,(enc pos).size=ps.size)
  (I:Nat->(Nat->Prop)->World->Prop) (Ix:Code->World->Prop)
  (hI:∀ pos F A B,I pos F A->Mild w.heap.size A B->I pos F B) (hIx:∀ c A B,Ix c A->Mild w.heap.size A B->Ix c B)
  (hIB:∀ pos F A,I pos F A->R A) (hIF:∀ pos F A,I pos F A->∀ i,F i->∃ o,A.heap[i]?=some o/\o.isCells=true)
  {F0:Nat->Prop} (h0:I 0 F0 w)
  (hround:∀ (l pos:Nat) (F:Nat->Prop) (A:World),can pos=true->I pos F A->w.heap.size<=A.heap.size ->
   assign.wpIn (inR l) 0 P (Exit.then (RoundGo w.heap.size P l body (seqPost I Ix (next pos) F A.heap.size) A) (fun _ _ _=>False))
    { tmps:=(ps.zip (enc pos)).foldl (fun t (p,v)=>t.setIfInBounds p v) a.tmps,defers := [] } A)
  (hdone:∀ (D pos:Nat) (F:Nat->Prop) (A:World),w.heap.size<=D->can pos=false->I pos F A->A.heap[D]?=some (.deferred (some []))->Q .normal { a with defers:=mark D :: a.defers } A)
  (hstop:∀ (D:Nat) (c:Code) (A:World),w.heap.size<=D->Ix c A->A.heap[D]?=some (.deferred (some []))->c.wp P Q { a with defers:=mark D :: a.defers } A) :
  (Code.rangeFunc g ps assign body).wp P Q a w:=by
 refine(wpIn_wide (n:=1)).1 (wpIn_rangeFunc ?_)
 intro fn hfn
 obtain⟨rec,hrec⟩:∃ rec:LoopState->Option Code->Loop,rec=fun st pe => { state:=st,pending:=pe,fn,tmps:=a.tmps,params:=ps,assign,body,defers:=w.heap.size }:=⟨_,rfl⟩
 obtain⟨W1,hW1⟩:∃ W1,(w.alloc (.deferred (some []))).alloc (.loop (rec .ready none))=W1:=⟨_,rfl⟩
 have hbw:Below w.heap.size w W1:=by rw[<- hW1];exact Bnew (Bnew (B0 w) _) _
 have hs1:W1.heap.size=w.heap.size+2:=by rw[<- hW1];simp
 have hL1:W1.heap[w.heap.size+1]?=some (.loop (rec .ready none)):=by
  exact M40
 have hK1:W1.heap[w.heap.size]?=some (.deferred (some [])):=by
  rw[<- hW1];exact(Below.heap_alloc _ _ _ (by simp)).trans (heap_alloc_new w _)
 refine⟨w.heap.size+1,[mark w.heap.size],W1,{ target := .fn (.func gf) cap,args:=#[.func (.yield (w.heap.size+1)) #[] #[]] },W1,gf,#[.func (.yield (w.heap.size+1)) #[] #[]]++cap,W1,?_,?_,?_,?_,fun _=>Nat.le_refl _,?_⟩
 ·rw[<- hW1,hrec];exact run_enterLoop_outer _ _ _ _ _
 ·simp only[resolve,hg]
  simp[go_sem]
 ·intro f' hf';exact trivial
 ·simp[invoke,go_sem,eg]
 ·have keepRow:∀ {A B:World} {k:Nat} {o:Obj},Below A.heap.size A B->A.heap[k]?=some o->B.heap[k]?=some o:=fun hb hk=>(hb.block _ (Array.getElem?_eq_some_iff.1 hk).1).trans hk
  refine(hseq (w.heap.size+1)
   (fun pos F A=>I pos F A/\w.heap.size<=A.heap.size/\A.heap[w.heap.size+1]?=some (.loop (rec .ready none))/\A.heap[w.heap.size]?=some (.deferred (some [])))
   (fun A=>∃ c,Ix c A/\w.heap.size<=A.heap.size/\A.heap[w.heap.size+1]?=some (.loop (rec .done (some c)))/\A.heap[w.heap.size]?=some (.deferred (some [])))
   W1 F0 (hRB _ _ hb0 hbw)
   (fun pos F A B h hb=>⟨hI pos F A B h.1 (Mild.of_below h.2.1 hb),Nat.le_trans h.2.1 hb.size,keepRow hb h.2.2.1,keepRow hb h.2.2.2⟩)
   (fun A B h hb=>by obtain⟨c,h1,h2,h3,h4⟩:=h;exact⟨c,hIx c A B h1 (Mild.of_below h2 hb),Nat.le_trans h2 hb.size,keepRow hb h3,keepRow hb h4⟩)
   (fun pos F A h=>hIB pos F A h.1)
   (fun pos F A h i hi=>by obtain⟨o,ho,_⟩:=hIF pos F A h.1 i hi;exact(Array.getElem?_eq_some_iff.1 ho).1)
   ?_ ⟨hI 0 F0 w W1 h0 (Mild.of_below (Nat.le_refl _) hbw),hbw.size,hL1,hK1⟩).mono ?_
  ·exact MD6
  ·exact MXu

def encB (m:Nat) (f:Nat->Int) (pos:Nat):Array Value:=#[.int .i64 ((m-1-pos:Nat):Int),.int .i64 (f (m-1-pos))]
def canB (m pos:Nat):Bool:=decide (pos<m)
def BackAt (A:Option Addr) (m c:Nat) (f:Nat->Int) (bx:Nat) (w:World):Prop:=w.cell? ⟨bx,0,none⟩=some (.slice A m c)/\∀ i,i<m->∃ ad,A=some ad/\w.cell? (ad.add i)=some (.int .i64 (f i))
section
attribute [local go_sem] Oper.semAt_some
theorem qD1 (A:Option Addr)(m c:Nat)(hmc:m<=c)(hcm:c<=maxLen)(f:Nat->Int)(bx:Nat) :
  SeqCap Tryz.prog 116 #[.pointer (some ⟨bx,0,none⟩)] (encB m f) (canB m) (· + 1) (BackAt A m c f bx):=by
 intro l J Jx W F0 hW hJ hJx hJB hJF hY h0
 refine callsIn_of_wp Tryz.func116 rfl trivial ?_ rfl
 simp only[Tryz.ntmps116,List.size_toArray,List.length_cons,List.length_nil,Nat.reduceAdd,Nat.reduceSub,Array.replicate_succ,Array.replicate_zero,List.push_toArray,List.append_toArray,List.nil_append,List.cons_append]
 have HJ0:=qh h0
 have HJ:=qh hJ
 have HJX:=qh hJx
 have HJB:=qh hJB
 have HJF:=qh hJF
 have HY:=qh hY
 have HW:=qh hW
 have hc2:c<=9223372036854775807:=by unfold maxLen at hcm;omega
 have b0:=HW.o.1
 clear hJ hJx hJB hJF hY h0 hW
 gi_wp2_with fail
 gi_loopw [3] (fun u wr=>∃ (pos:Nat) (F:Nat->Prop),u = .int .i64 ((m:Int)-1-(pos:Int))/\pos<=m/\qH (J pos F wr)/\qH (W.heap.size<=wr.heap.size)) (fun u _=>(intOf u+1).toNat)
 case atStart=>exact⟨0,F0,by simp,qo,HJ0,qh (Nat.le_refl _)⟩
 case round =>
  clear HJ0 b0
  obtain⟨pos,F,rfl,hpos,HJS,HSZ⟩:=hrel
  have HBW:=qh (HJB.o _ _ _ HJS.o)
  have b0:=HBW.o.1
  by_cases hlt:pos<m
  ·obtain⟨k,hk⟩:∃ k,m-1-pos=k:=⟨_,rfl⟩
   have hk2:(m:Int)-1-(pos:Int)=(k:Int):=qo
   obtain⟨ad,hA,c0⟩:=HBW.o.2 k qo
   subst hA
   have HEN:qH (encB m f pos=#[.int .i64 (k:Int),.int .i64 (f k)]):=qh (by unfold encB;rw[hk])
   obtain⟨fn,tmps,assign,body,hy,hR⟩:=HY.o pos F _ HJS.o HSZ.o (decide_eq_true hlt)
   rw[HEN.o] at hy
   have HRR:=qh hR
   have HK:=qh hk
   rw[hk2]
   have hkm:k<m:=qo
   clear hR hk
   gi_wp2_with fail
   refine⟨rfl,HRR.o.mono ?_⟩
   rintro e W3 (⟨rfl,F',hJ3,hsz3,hk3,hF3⟩|⟨rfl,hx⟩)
   ·have HJ3:=qh hJ3
    have HS3:qH (W.heap.size<=W3.heap.size):=qh (Nat.le_trans HSZ.o hsz3)
    clear hJ3 hk3 hF3 hsz3 HRR HY HJ HJX HJB hy c0 b0
    gi_wp2
    go_roundw
    case rel=>exact⟨pos+1,F',by have:=HK.o;go_num,qo,HJ3,HS3⟩
    case measure=>simp[intOf] <;> omega
   ·have HX:=qh hx
    clear hx HY HJ HJX HJB HRR hy c0 b0
    gi_wp2
    refine bodyPost_ret (results_none rfl _ _ _) rfl ?_
    exact⟨⟨_,rfl⟩,.inr HX.o⟩
  ·obtain rfl:pos=m:=qo
   gi_wp2
   go_end0
   exact⟨⟨_,rfl⟩,.inl ⟨pos,F,HJS.o,qf⟩⟩
end
theorem qSA (A:Option Addr)(m c:Nat)(w:World):Calls Tryz.prog 79 #[.slice A m c] w fun e w'=>e = .returned (.func (.func 116) #[] #[.pointer (some ⟨w.heap.size,0,none⟩)])/\w'=w.alloc (.cells #[.slice A m c] 42):=by
 go_enter Tryz.func79,Tryz.ntmps79
 go_wp2
 go_ret
 exact⟨rfl,rfl⟩
end
section
section
variable {W w WF : World} {O1 O2 : Ob} {A B G : Nat -> Prop} {s1 s2 : Vst} {g g2 : Nat} {t : TypeId} {cs : Array Value} {a0 a1 a2 a3 c0 c1 c2 c3 : Value}
end
theorem qUj {w:World}{base g n c:Nat}{l:List Nat}(h:w.ownsRow base 3 1 (.slice (some ⟨g,0,none⟩) n c) n (ntVs l))(hl:l.length=n) :
  ∃ cs,Held w g 3 cs/\n<=c/\c<=9223372036854775807/\∀ (w:World),Held w g 3 cs->∀ i,i<n->w.cell? ⟨g,i,none⟩=some (.int .i64 ((l.getD i 0:Nat):Int)):=by
 rcases h.2 with ⟨h1,_⟩|⟨g',cap,cur,h1,hb,hg,hnc,hcm,hcs,ht⟩
 ·cases h1
 ·injection h1 with h1 h2 h3
  injection h1 with h1
  injection h1 with h1 _
  subst h1 h3
  refine⟨cur,hg,hnc,by unfold maxLen at hcm;omega,fun w' hh i hi=>?_⟩
  have e:cur[i]?=some (Value.int .i64 ((l.getD i 0:Nat):Int)):=by
   have h4:(cur.toList.take (n*1))[i]?=(ntVs l)[i]?:=by rw[ht]
   rw[List.getElem?_take,if_pos qo] at h4
   rw[<- Array.getElem?_toList,h4]
   unfold ntVs
   simp[List.getD,List.getElem?_eq_getElem (show i<l.length by omega)]
  rw[hh.cell i,e]
section
variable {H : AuH} {n c : Nat} {K : Nat -> Option Nat} {st : Vst}
end
end
end Go.Proofs.YtjjfcaliippgpaaGreatDoor
