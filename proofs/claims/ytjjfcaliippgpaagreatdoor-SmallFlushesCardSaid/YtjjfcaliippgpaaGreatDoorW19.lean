/-
  What (*small.hand).pick does: slots are picked, the first one is made live, the others are kept. Written by small/gen_pick.py.
-/
import Derived.Test.YtjjfcaliippgpaaGreatDoorW18
import Derived.Test.YtjjfcaliippgpaaGreatDoorW17
import Derived.Test.YtjjfcaliippgpaaGreatDoorW06
import Derived.Maps.AppendAt
namespace Go.Proofs.YtjjfcaliippgpaaGreatDoor
theorem R2l {P Q:Prop}(kq:Q)(h:HQ Q->P:=by
 intro kq
 have:=Held.new ((w.alloc (.cells #[.int .i64 t,.int .i64 q,.int .i64 s] 23)).alloc (.cells (pkC U) 36)) 36 #[.slice none 0 0,.slice none 0 0,.slice none 0 0,.slice none 0 0,.slice none 0 0,.slice none 0 0,.slice none 0 0,.slice none 0 0,.slice none 0 0]
 have e:((w.alloc (.cells #[.int .i64 t,.int .i64 q,.int .i64 s] 23)).alloc (.cells (pkC U) 36)).heap.size=w.heap.size+2:=by simp
 rw[e] at this
 revert this e
 exact kq.o):P:=h ⟨kq⟩
theorem RoK {P Q:Prop}(kq:Q)(h:HQ Q->P:=by
 intro kq
 replace HB0:=qh (HB0.o.far (p:=⟨NP,0,none⟩) (by show w.heap.size≠NP;have:=HNP.o;omega) (.int .i64 (p:Int)))
 replace HB1:=qh (HB1.o.far (p:=⟨NP,0,none⟩) (by show (w.heap.size+1)≠NP;have:=HNP.o;omega) (.int .i64 (p:Int)))
 replace HR:=qh (HR.o.far (p:=⟨NP,0,none⟩) (HEN.o) (.int .i64 (p:Int)))
 replace HP:=qh (HP.o.put 0 (.int .i64 (p:Int)))
 revert HB0 HB1 HR HP
 exact kq.o):P:=h ⟨kq⟩
theorem MuZ {P:Prop}(h:P:=by
  replace HON:qH (onPg t q s p z=false):=qh HON.o
  go_wp2_with (first
    | (at_builtin
       refine wpList_append_own_at _ rfl _ _ 34 rfl (w.heap.size+1) 2 i0 (.int .i64 0) 1 8 Tryz.underlying34 hi0 hz0 hz1 hz2 rfl (by decide) _ _ _ rfl (HO2.o.alloc _) ⟨_,0,none⟩ 1 1 [.int .i64 z] rfl rfl ?c1 ?c2 ?c3 ?c4 ?c5 ?_
       case c1=>intro j y hy;rcases j with _|j;(· simp at hy;subst hy;simp[Addr.add]);(· simp at hy)
       case c2=>simp[Value.oneCell']
       case c3=>unfold maxLen;omega
       case c4=>omega
       case c5=>have:=HS6.o;simp;omega
       intro u7' w7 hown7 hgrow hnil hat7
       obtain⟨A7,c7,hu7⟩:=qKK hown7
       subst hu7
       have hnb:∀ j,(Value.slice A2 m2 c2).ownBlock=some j->w.heap.size+1<=j:=fun j hj=>(HO2.o.lt j hj).1
       have HO7:qH (w7.ownsRow (w.heap.size+1) 2 1 (.slice A7 (m2+1) c7) (m2+1) (lgVs ((l.take (i+1)).filter (fun b => !onPg t q s p b)))):=qh (by rw[HFT2.o,if_pos (by simp[HON.o])];unfold lgVs at hown7 ⊢;rw[List.map_append];exact hown7)
       have HO8:=qh (qWQ (HO1.o.alloc (.cells #[.int .i64 z] 2)) (w':=w7) (fun g hg=>hgrow.block g (by have:=(HO1.o.lt g hg).2;simp;omega) (fun e=>HAP.o g hg e.symm)))
       have HAP7:qH (∀ g,(Value.slice A1 m1 c1).ownBlock=some g->(Value.slice A7 (m2+1) c7).ownBlock≠some g):=qh (fun g hg hg2=>by
         rcases hat7 with h7|h7
         · exact HAP.o g hg (h7 ▸ hg2)
         · rw[hg2] at h7
           injection h7 with h7
           have:=(HO1.o.lt g hg).2
           simp at h7
           omega)
       have HB7:=qh ((Bnew HB.o (.cells #[.int .i64 z] 2)).grown hgrow (by have:=HB.o.size;simp;omega) (fun j hj=>by have:=hnb j hj;omega))
       have HC7:=qh (qQj (HC.o.alloc (.cells #[.int .i64 z] 2)) hgrow (fun e=>by have:=hnb _ e;omega))
       have HS8:qH (w.heap.size+1<=w7.heap.size):=qh (by have h1:=hgrow.size;have:=HS6.o;simp at h1;omega)
       clear hown7 hgrow hat7 hnil hnb)
    | fail)
  go_roundw
  case rel=>exact⟨i+1,m1,m2+1,qo,by go_num,qh (by rw[HFT1.o,if_neg (by simp[HON.o]),List.append_nil];exact HM1.o),qh (by rw[HFT2.o,if_pos (by simp[HON.o]),List.length_append,HM2.o];rfl),qh (by rw[HFT1.o,if_neg (by simp[HON.o]),List.append_nil];exact HO8.o),HO7,HAP7,HC7,HB7,HS8⟩
  case measure=>simp[intOf];omega):P:=h
theorem MSa {P:Prop}(h:P:=by
 go_wp2_with fail
 go_meet
 case rel=>exact⟨NP,g2,c2,cr,rfl,rfl,rfl,HNF.o,HB0.o,HB1.o,HP.o,HR.o,HSC.o,hcc1,hcc2⟩):P:=h
theorem MZ3 {P:Prop}(h:P:=by
 rcases(P.hand p x).1 (hh x (List.mem_cons_of_mem _ hx)) with h1|⟨_,h1⟩
 ·exact h1
 ·subst h1;exact absurd hx hnd2.1):P:=h
theorem M1n {P:Prop}(h:P:=by first|exact⟨⟨HB0.o.cell 0,HB1.o.cell 0,HP.o.cell 0,HS0.o _ HR.o⟩,HND.o.held.hd4⟩|exact hHeld):P:=h
end Go.Proofs.YtjjfcaliippgpaaGreatDoor
set_option linter.unusedVariables false
set_option linter.unusedSimpArgs false
set_option maxRecDepth 100000
set_option maxHeartbeats 25600000
namespace Go.Proofs.YtjjfcaliippgpaaGreatDoor
open Go.ChangeShapes Go.WideShapes Go.ChangeAt Go.RowKit Go.Maps
section
section
variable {base b n : Nat} {wh : Bool} {K : Nat -> Option Nat} {st : Vst} {w w0 : World} {A Q G : Nat -> Prop} {g : Nat} {t q s : Int} {U : Nat -> Sl} {Z : Nat -> List Int}
attribute [local go_sem] Oper.semAt_some

theorem qSn (hn:n<2^40)(hq:q<=1024)(k:Nat)(hk:k<9)(s2:Vst)(p:Nat)(l:List Nat)(hx:pickZ n K t q s (k:Int) 4 st=(some (p,l),s2))(nl:Nat)(hl:l.length=nl)(hl1:1<=nl)(hl4:nl<=4)(hl32:∀ i,i<nl->l.getD i 0<32)(hZ:Z k = [])
  (fa:Nat->Int) (hfa:∀ i,i<nl->atI t q s (k:Int) (p:Int) ((l.getD i 0:Nat):Int)=fa (l.getD i 0)) (hfb:∀ i,i<nl -> -9223372036854775808<=fa (l.getD i 0)/\fa (l.getD i 0)<=9223372036854775807) (hT:SlotsLaid w0) (hA:¬ A 0) (h:Hnd (vOb base b n wh K) w0 A Q G w g b t q s U Z st w) :
  Calls Tryz.prog 38 #[.pointer (some ⟨g,0,none⟩),.int .i64 (k:Int)] w fun e w'=>e = .returned (.tuple #[.int .i64 (fa (l.getD 0 0)),.bool true])/\VOk n s2/\∃ V,(∀ i,PB V (updF Z k ((l.drop 1).reverse.map fa)) i->PB U Z i\/w.heap.size<=i)/\Hnd (vOb base b n wh K) w0 A Q G w g b t q s V (updF Z k ((l.drop 1).reverse.map fa)) (putS n (getS n K s2 (pageI t q s (p:Int) 4)) (pageI t q s (p:Int) 4) (getV n K s2 (pageI t q s (p:Int) 4) ||| 2^l.getD 0 0)) w':=by
 have hk0 : -9223372036854775808<=(k:Int):=qo
 have hk1:(k:Int)<=9223372036854775807:=qo
 have HN:=qh (Hnd.more (G':=fun i=>G i\/i=w.heap.size\/i=(w.heap.size+1)) h (Bnew (Bnew (B0 w) (.cells #[.pointer (some ⟨g,0,none⟩)] 81)) (.cells #[.int .i64 (k:Int)] 3)) (fun i x=>by
  rcases x with x|x|x
  ·exact .inl x
  ·exact .inr ⟨qo,by simp;omega⟩
  ·exact .inr ⟨qo,by simp;omega⟩))
 have HB0:=qh ((Held.new w 81 #[.pointer (some ⟨g,0,none⟩)]).alloc (.cells #[.int .i64 (k:Int)] 3))
 have HB1:=qh (Held.new2 w (.cells #[.pointer (some ⟨g,0,none⟩)] 81) 3 #[.int .i64 (k:Int)])
 have HPL:qH (∀ i,PB U Z i->i<w.heap.size):=qh (fun i hi=>hi.lt h.p.pk)
 have HGL:=qh h.held.lt
 have HTL:=qh hT
 have HNA:=qh hA
 have HX:=qh hx
 have HNL:=qh hl
 have HL32:=qh hl32
 have hl0:0<nl:=hl1
 obtain⟨i0,hi0⟩:∃ i0,l.getD 0 0=i0:=⟨_,rfl⟩
 have HI0:=qh hi0
 have HL0:qH (i0<32):=qh (by rw[<- hi0];exact hl32 0 qo)
 rw[hi0]
 have HFA:=qh hfa
 have HFB:=qh hfb
 have HZ:=qh hZ
 clear h hT hA hx hl hl32 hfa hfb hZ hi0
 refine qRD Tryz.func38 rfl ?_
 simp only[Tryz.ntmps38,List.size_toArray,List.length_cons,List.length_nil,Nat.reduceAdd,Nat.reduceSub,Array.replicate_succ,Array.replicate_zero,List.push_toArray,List.append_toArray,List.nil_append,List.cons_append]
 go_wp2_with fail
 go_cut [6,7,8] from 13 to 26 (fun u6 u7 u8 wx=>∃ (NP g2 c2:Nat) (cr:Array Value),u6 = .pointer (some ⟨NP,0,none⟩)/\u7 = .slice (some ⟨g2,0,none⟩) nl c2/\u8 = .bool true/\Hnd (vOb base b n wh K) w0 A Q (GP G w.heap.size (w.heap.size+1) NP g2) w g b t q s U Z s2 wx/\Held wx w.heap.size 81 #[.pointer (some ⟨g,0,none⟩)]/\Held wx (w.heap.size+1) 3 #[.int .i64 (k:Int)]/\Held wx NP 3 #[.int .i64 (p:Int)]/\Held wx g2 3 cr/\(∀ (w:World),Held w g2 3 cr->∀ i,i<nl->w.cell? ⟨g2,i,none⟩=some (.int .i64 ((l.getD i 0:Nat):Int)))/\nl<=c2/\c2<=9223372036854775807)
 case first =>
  replace HN:=qh HN.o.drew
  replace HB0:=qh (HB0.o.keep (Bdrew (B0 _)))
  replace HB1:=qh (HB1.o.keep (Bdrew (B0 _)))
  refine wp_region_held_drew (S:=(fun w'=>(w'.cell? ⟨w.heap.size,0,none⟩=some (.pointer (some ⟨g,0,none⟩))/\w'.cell? ⟨(w.heap.size+1),0,none⟩=some (.int .i64 (k:Int)))/\w'.cell? ⟨g,0,none⟩=some (.pointer (some ⟨b,0,none⟩))/\w'.cell? ⟨g,1,none⟩=some (.int .i64 t)/\w'.cell? ⟨g,2,none⟩=some (.int .i64 q)/\w'.cell? ⟨g,3,none⟩=some (.int .i64 s))) qr ?_ (fun hHeld=>?_)
  ·exact MDu
  generalize hwd:World.drew ((w.alloc (.cells #[.pointer (some ⟨g,0,none⟩)] 81)).alloc (.cells #[.int .i64 (k:Int)] 3))=w5 at *
  clear hwd
  have HLW:qH (w.heap.size+1<w5.heap.size):=qh HB1.o.lt
  refine RLS ?_
  refine tkz 8 ?_
  refine wpAnyH_ready (rs := [9,14]) qr (by simp) ?_
  refine AllReadyH.cons (o:=_) rfl (fun K hK=>?_) (AllReadyH.cons (o:=_) rfl (fun K hK=>?_) AllReadyH.nil)
  ·skip
   refine Rvf ?_;intro w6 u u2 he2 ho h1 h2
   injection he2 with he2
   subst he2
   rw[HX.o] at ho h1 ⊢
   dsimp only[pickP,pickL,Option.isSome] at ho h1 ⊢
   have HROW:=qh (HN.o.row h1 h2 (fun i hi=>(ho.lt i hi).1))
   replace HB0:=qh (h2.held (.inl (.inl (.inr (.inl rfl)))) HB0.o)
   replace HB1:=qh (h2.held (.inl (.inl (.inr (.inr rfl)))) HB1.o)
   rw[HNL.o] at ho
   obtain⟨g2,c2,hu2,_⟩:=ho.form qo
   subst hu2
   obtain⟨cr,hcr,hcc1,hcc2,hcells⟩:=qUj ho HNL.o
   have HR:=qh hcr
   have HSC:=qh hcells
   clear hcr hcells
   replace HN:=HROW
   clear h1 h2 ho HROW
   refine qk ?_ (fun hHeld=>?_)
   ·exact Mz2
   clear hK K
   refine RNh ?_
   refine rdz 14 fun K hK=>?_
   go_simp
   have hb:=Bnew (B0 w6) (.cells #[.int .i64 0] 3)
   have HP:=qh (Held.new w6 3 #[.int .i64 0])
   replace HN:=qh (Hnd.more (G':=fun i=>GU (fun i=>G i\/i=w.heap.size\/i=(w.heap.size+1)) (.slice (some ⟨g2,0,none⟩) nl c2) i\/i=w6.heap.size) HN.o hb (fun i x=>by
    rcases x with x|x
    ·exact .inl x
    ·right;subst x;simp))
   have HNP:qH (w.heap.size+1<w6.heap.size):=qh HB1.o.lt
   have HEN:qH (g2≠w6.heap.size):=qh (by have:=HR.o.lt;omega)
   replace HB0:=qh (HB0.o.keep hb)
   replace HB1:=qh (HB1.o.keep hb)
   replace HR:=qh (HR.o.keep hb)
   generalize hnp:w6.heap.size=NP at *
   generalize hwn:w6.alloc (.cells #[.int .i64 0] 3)=w7 at *
   clear hb hnp hwn
   refine qk ?_ (fun hHeld=>?_)
   ·exact Mz2
   clear hK K
   refine Rp1 ?_;intro K hK z0 f0
   replace HN:=qh (HN.o.put (i:=NP) (.inr rfl) (fun x=>by have:=HPL.o NP x;have:=HNP.o;omega) (by have:=HNP.o;omega) 0 (.int .i64 (p:Int)))
   refine RoK ?_;clear HB0 HB1 HR HP;intro HB0 HB1 HR HP
   generalize hws:w7.setCell ⟨NP,0,none⟩ (.int .i64 (p:Int))=w8 at *
   clear z0 f0 hws
   refine qk ?_ (fun hHeld=>?_)
   ·exact Mz2
   clear hK K
   refine tkz 16 ?_
   refine tkz 17 ?_
   refine dnz ?_
   have HNF:=qh (HN.o.less (G':=GP G w.heap.size (w.heap.size+1) NP g2) (fun i x=>by
    rcases x with x|x|x|x|x
    ·exact .inl (.inl (.inl x))
    ·exact .inl (.inl (.inr (.inl x)))
    ·exact .inl (.inl (.inr (.inr x)))
    ·exact .inr x
    ·exact .inl (.inr (by rw[x];rfl))))
   exact MSa
  ·skip
   go_simp
   have hb:=Bnew (B0 w5) (.cells #[.int .i64 0] 3)
   have HP:=qh (Held.new w5 3 #[.int .i64 0])
   replace HN:=qh (Hnd.more (G':=fun i=>(G i\/i=w.heap.size\/i=(w.heap.size+1))\/i=w5.heap.size) HN.o hb (fun i x=>by
    rcases x with x|x
    ·exact .inl x
    ·right;subst x;simp))
   have HNP:qH (w.heap.size+1<w5.heap.size):=qh HB1.o.lt
   replace HB0:=qh (HB0.o.keep hb)
   replace HB1:=qh (HB1.o.keep hb)
   generalize hnp:w5.heap.size=NP at *
   generalize hwn:w5.alloc (.cells #[.int .i64 0] 3)=w7 at *
   have HLN:qH (NP<w7.heap.size):=qh HP.o.lt
   clear hb hnp hwn
   refine qk ?_ (fun hHeld=>?_)
   ·exact Mz2
   clear hK K
   refine rdz 9 fun K hK=>?_
   refine Rvf ?_;intro w6 u u2 he2 ho h1 h2
   injection he2 with he2
   subst he2
   rw[HX.o] at ho h1 ⊢
   dsimp only[pickP,pickL,Option.isSome] at ho h1 ⊢
   refine Ru8 ?_;clear HB0 HB1 HP;intro HROW HB0 HB1 HP
   rw[HNL.o] at ho
   obtain⟨g2,c2,hu2,_⟩:=ho.form qo
   subst hu2
   obtain⟨cr,hcr,hcc1,hcc2,hcells⟩:=qUj ho HNL.o
   have HR:=qh hcr
   have HSC:=qh hcells
   clear hcr hcells
   replace HN:=HROW
   have HEN:qH (g2≠NP):=qh (by have h3:=(ho.lt g2 rfl).1;have h4:=HLN.o;omega)
   clear h1 h2 ho HROW
   refine qk ?_ (fun hHeld=>?_)
   ·exact Mz2
   clear hK K
   refine RNh ?_
   refine Rp1 ?_;intro K hK z0 f0
   replace HN:=qh (HN.o.put (i:=NP) (.inl (.inr rfl)) (fun x=>by have:=HPL.o NP x;have:=HNP.o;omega) (by have:=HNP.o;omega) 0 (.int .i64 (p:Int)))
   refine RoK ?_;clear HB0 HB1 HR HP;intro HB0 HB1 HR HP
   generalize hws:w6.setCell ⟨NP,0,none⟩ (.int .i64 (p:Int))=w8 at *
   clear z0 f0 hws
   refine qk ?_ (fun hHeld=>?_)
   ·exact Mz2
   clear hK K
   refine tkz 16 ?_
   refine tkz 17 ?_
   refine dnz ?_
   have HNF:=qh (HN.o.less (G':=GP G w.heap.size (w.heap.size+1) NP g2) (fun i x=>by
    rcases x with x|x|x|x|x
    ·exact .inl (.inl (.inl x))
    ·exact .inl (.inl (.inr (.inl x)))
    ·exact .inl (.inl (.inr (.inr x)))
    ·exact .inl (.inr x)
    ·exact .inr (by rw[x];rfl)))
   exact MSa
 case rest =>
  clear HN HB0 HB1
  obtain⟨NP,g2,c2,cr,rfl,rfl,rfl,hN,hB0,hB1,hP,hR,hSC,hc1,hc2⟩:=hcut
  have HN:=qh hN
  have HB0:=qh hB0
  have HB1:=qh hB1
  have HP:=qh hP
  have HR:=qh hR
  have HSC:=qh hSC
  have HOK:qH (VOk n s2):=qh (by obtain⟨A',⟨o,hI,_⟩,_⟩:=hN.at_;exact hI.ok)
  have HS0:qH (∀ (w:World),Held w g2 3 cr->w.cell? ⟨g2,0,none⟩=some (.int .i64 (i0:Int))):=qh (fun w hw=>by rw[<- HI0.o];exact hSC w hw 0 qo)
  clear hN hB0 hB1 hP hR hSC
  go_wp2_with fail
  replace HN:=qh HN.o.drew
  replace HB0:=qh (HB0.o.keep (Bdrew (B0 _)))
  replace HB1:=qh (HB1.o.keep (Bdrew (B0 _)))
  replace HP:=qh (HP.o.keep (Bdrew (B0 _)))
  replace HR:=qh (HR.o.keep (Bdrew (B0 _)))
  refine wp_region_held_drew (S:=(fun w'=>w'.cell? ⟨w.heap.size,0,none⟩=some (.pointer (some ⟨g,0,none⟩))/\w'.cell? ⟨NP,0,none⟩=some (.int .i64 (p:Int))/\w'.cell? ⟨g2,0,none⟩=some (.int .i64 (i0:Int)))) qr ?_ (fun hHeld=>?_)
  ·(try dsimp only)
   first|exact⟨HB0.o.cell 0,HP.o.cell 0,HS0.o _ HR.o⟩|exact hHeld
  refine Ro3 ?_
  refine tkz 3 ?_
  refine tkz 4 ?_
  refine rdz 5 fun K hK=>?_
  go_simp
  refine(qUs hn (p:Int) i0 HL0.o HG.hand HN.o.held HN.o.at_).mono ?_
  rintro e w2 ⟨rfl,h1,h2⟩
  replace HB0:=qh (h2.held (.inl (.inl (.inr (.inl rfl)))) HB0.o)
  replace HB1:=qh (h2.held (.inl (.inl (.inr (.inr (.inl rfl))))) HB1.o)
  replace HP:=qh (h2.held (.inl (.inl (.inr (.inr (.inr (.inl rfl)))))) HP.o)
  replace HR:=qh (h2.held (.inl (.inl (.inr (.inr (.inr (.inr rfl)))))) HR.o)
  replace HN:=qh (HN.o.call h1 h2)
  clear h1 h2
  refine qk ?_ (fun hHeld=>?_)
  ·first|exact⟨HB0.o.cell 0,HP.o.cell 0,HS0.o _ HR.o⟩|exact hHeld
  clear hK K
  refine dnz ?_
  have y0:=HB0.o.cell 0
  have y1:=HB1.o.cell 0
  have y2:=HP.o.cell 0
  have y3:=HS0.o _ HR.o
  obtain⟨x0,x1,x2,x3⟩:=HN.o.held.hd4
  have hcut1:=cut1 g2 nl c2 hl1 hc1
  have had1:=fun j=>qZa (g:=g2) (j:=j) hc1
  generalize ad1 g2 c2=ad1 at *
  have HAD:=qh had1
  clear had1
  obtain⟨m,hm⟩:∃ m,nl-1=m:=⟨_,rfl⟩
  obtain⟨c3,hc3⟩:∃ c3,c2-1=c3:=⟨_,rfl⟩
  rw[hm,hc3] at hcut1
  have HM:=qh hm
  have HC3:=qh hc3
  clear hm hc3
  go_wp2_with fail
  refine(qSA (some ad1) m c3 _).mono ?_
  rintro e w3 ⟨rfl,hw3⟩
  replace HN:=qh (Hnd.more (G':=fun i=>GP G w.heap.size (w.heap.size+1) NP g2 i\/i=w2.heap.size) HN.o (Bnew (B0 w2) (.cells #[.slice (some ad1) m c3] 42)) (fun i x=>by
   rcases x with x|x
   ·exact .inl x
   ·right;subst x;simp))
  have HBX:=qh (Held.new w2 42 #[.slice (some ad1) m c3])
  replace HB0:=qh (HB0.o.keep (Bnew (B0 w2) (.cells #[.slice (some ad1) m c3] 42)))
  replace HB1:=qh (HB1.o.keep (Bnew (B0 w2) (.cells #[.slice (some ad1) m c3] 42)))
  replace HP:=qh (HP.o.keep (Bnew (B0 w2) (.cells #[.slice (some ad1) m c3] 42)))
  replace HR:=qh (HR.o.keep (Bnew (B0 w2) (.cells #[.slice (some ad1) m c3] 42)))
  rw[<- hw3] at HN HBX HB0 HB1 HP HR
  generalize hnb:w2.heap.size=NB at *
  clear hw3 hnb y0 y1 y2 y3 x0 x1 x2 x3 hcut1
  have HR0:qH (BackAt (some ad1) m c3 (fun i=>((l.getD (i+1) 0:Nat):Int)) NB w3):=qh ⟨HBX.o.cell 0,fun i hi=>⟨ad1,rfl,by
   have h1:=HM.o
   rw[HAD.o i qo,HSC.o _ HR.o (1+i) qo,Nat.add_comm 1 i]⟩⟩
  have HW0:qH (w0.heap.size<=w3.heap.size):=qh HN.o.at_.size
  have HWW:qH (w.heap.size<=w3.heap.size):=qh HN.o.stay.1
  have HNF:=qh HN.o.forget.begin_
  have hfu:updF Z k (ylB fa l 0)=Z:=by
   funext j
   by_cases e:j=k
   ·subst e;rw[qJN,qEO,HZ.o]
   ·rw[qR2 _ _ e]
  go_wp2_with fail
  refine qT5 (gf := 116) (cap:=#[.pointer (some ⟨NB,0,none⟩)]) (enc:=encB m (fun i=>((l.getD (i+1) 0:Nat):Int))) (can:=canB m) (next:=(· + 1)) (R:=BackAt (some ad1) m c3 (fun i=>((l.getD (i+1) 0:Nat):Int)) NB) rfl (enters_of Tryz.func116 qr rfl) (qD1 (some ad1) m c3 (by have:=HM.o;have:=HC3.o;omega) (by have:=HC3.o;unfold maxLen;omega) _ NB) HR0.o (fun A B h hb=>h.below hb) (fun _=>rfl)
   (fun pos F B=>F=(fun i=>i=g)/\pos<=m/\Turns (fun i=>i=g) w3 B/\∃ V,Hnd noOb w0 A Q (fun i=>GP G w.heap.size (w.heap.size+1) NP g2 i\/i=NB) w3 g b t q s V (updF Z k (ylB fa l pos)) freshS B/\∀ i,PB V (updF Z k (ylB fa l pos)) i->PB U Z i\/w3.heap.size<=i)
   (fun _ _=>False) ?hI ?hIx ?hIR ?hIF (F0:=fun i=>i=g) ⟨rfl,Nat.zero_le _,T0 _ _,U,by rw[hfu];exact HNF.o,fun i hi=>by rw[hfu] at hi;exact .inl hi⟩ ?round ?done ?stop
  case hI=>rintro pos F B B' ⟨h1,h2,h3,V,h4,h5⟩ hm;exact⟨h1,h2,hm.turns h3 (Nat.le_refl _),V,h4.mild hm HW0.o (Nat.le_refl _),h5⟩
  case hIx=>rintro c B B' h hm;exact h
  case hIR =>
   rintro pos F B ⟨h1,h2,h3,V,h4,h5⟩
   refine⟨(h4.stay.held (.inr rfl) HBX.o).cell 0,fun i hi=>⟨ad1,rfl,?_⟩⟩
   have h6:=HM.o
   rw[HAD.o i qo,HSC.o _ (h4.stay.held (.inl (.inr (.inr (.inr (.inr rfl))))) HR.o) (1+i) qo,Nat.add_comm 1 i]
  case hIF=>rintro pos F B ⟨rfl,h2,h3,V,h4,h5⟩ i hi;rw[hi];exact⟨_,h4.held,rfl⟩
  case stop=>rintro D c B hD h hk;exact h.elim
  case round =>
   rintro l' pos F B hc ⟨rfl,hpos,hT,V,hN,hV⟩ hsz
   have hlt:pos<m:=of_decide_eq_true hc
   obtain⟨j,hj⟩:∃ j,l.getD (l.length-1-pos) 0=j:=⟨_,rfl⟩
   have he:(fun i=>((l.getD (i+1) 0:Nat):Int)) (m-1-pos)=(j:Int):=by
    rw[<- hj]
    have h1:=HM.o
    have h2:=HNL.o
    show ((l.getD (m-1-pos+1) 0:Nat):Int)=_
    rw[show m-1-pos+1=l.length-1-pos by omega]
   have hfj:=HFA.o (l.length-1-pos) (by have:=HNL.o;omega)
   have hbj:=HFB.o (l.length-1-pos) (by have:=HNL.o;omega)
   rw[hj] at hfj hbj
   unfold encB
   rw[he]
   gi_wp2_with fail
   refine⟨B0 _,fun A2 hM hs=>?_⟩
   have HNr:=qh (hN.mild hM HW0.o (Nat.le_refl _))
   have HTr:=qh (hM.turns hT (Nat.le_refl _))
   have HVr:=qh hV
   have HYS:=qh (qDd fa l pos)
   rw[hj] at HYS
   have b0:=(HNr.o.stay.held (.inl (.inr (.inl rfl))) HB0.o).cell 0
   have b1:=(HNr.o.stay.held (.inl (.inr (.inr (.inl rfl)))) HB1.o).cell 0
   have b2:=(HNr.o.stay.held (.inl (.inr (.inr (.inr (.inl rfl))))) HP.o).cell 0
   have h3:((updF Z k (ylB fa l pos)) k).length<=3:=by rw[qJN,qH8];have:=HM.o;omega
   have hu:updF (updF Z k (ylB fa l pos)) k ((updF Z k (ylB fa l pos)) k ++ [fa j])=updF Z k (ylB fa l (pos+1)):=by
    rw[HYS.o,qJN]
    funext x
    by_cases e:x=k
    ·subst e;rw[qJN,qJN]
    ·rw[qR2 _ _ e,qR2 _ _ e,qR2 _ _ e]
   have HU:=qh hu
   have HSZ:=qh (hM.turns hT (Nat.le_refl _)).size
   clear hN hT hV hM hs hsz hc hj he HN HNF hfu hu
   gi_wp2_with (first
    | (refine⟨trivial,rfl,?_⟩;gi_at_call 62;refine(qLB (qIu k hk (p:Int) (j:Int) (fa j) hfj hbj h3 (HTL.o.at_ HNA.o HNr.o.at_) HNr.o.begin_)).mono ?_;rintro e w4 ⟨rfl,x,hx,ht,hn4⟩;have HX4:=qh hx;have HT4:=qh ht;have HN4:=qh (HNr.o.then_ hn4);clear hx ht hn4)
    | fail)
   refine⟨HT4.o,_,⟨rfl,qo,HTr.o.trans HT4.o,updF V k x,by rw[<- HU.o];exact HN4.o,fun i hi=>?_⟩,fun i hi => .inl hi⟩
   rw[<- HU.o] at hi
   rcases hi.turn_new (w:=A2) HX4.o with h1|h1
   ·exact HVr.o i h1
   ·exact .inr (Nat.le_trans HSZ.o h1)
  case done =>
   rintro D pos F B hD hc ⟨rfl,hpos,hT,V,hN,hV⟩ hkD
   have hpm:pos=m:=by have:=of_decide_eq_false hc;omega
   subst hpm
   have HY:qH (updF Z k (ylB fa l pos)=updF Z k ((l.drop 1).reverse.map fa)):=qh (by
    have h1:=HM.o
    have h2:=HNL.o
    rw[<- qPC,show l.length-1=pos by omega])
   rw[HY.o] at hN hV
   replace HB0:=qh (hN.stay.held (.inl (.inr (.inl rfl))) HB0.o)
   replace HB1:=qh (hN.stay.held (.inl (.inr (.inr (.inl rfl)))) HB1.o)
   replace HP:=qh (hN.stay.held (.inl (.inr (.inr (.inr (.inl rfl))))) HP.o)
   replace HR:=qh (hN.stay.held (.inl (.inr (.inr (.inr (.inr rfl))))) HR.o)
   have HND:=qh hN
   have HTD:=qh hT
   have HVD:=qh hV
   have HKD:=qh hkD
   have HDD:=qh hD
   have HFI:qH (atI t q s (k:Int) (p:Int) (i0:Int)=fa i0):=qh (by rw[<- HI0.o];exact HFA.o 0 qo)
   clear hN hT hV hkD hc hD hpos HNF hfu HY HR0 HBX
   go_wp2_with fail
   replace HND:=qh HND.o.drew
   replace HTD:=qh HTD.o.drew
   replace HB0:=qh (HB0.o.keep (Bdrew (B0 _)))
   replace HB1:=qh (HB1.o.keep (Bdrew (B0 _)))
   replace HP:=qh (HP.o.keep (Bdrew (B0 _)))
   replace HR:=qh (HR.o.keep (Bdrew (B0 _)))
   replace HKD:qH (B.drew.heap[D]?=some (.deferred (some []))):=qh HKD.o
   refine wp_region_held_drew (S:=(fun w'=>(w'.cell? ⟨w.heap.size,0,none⟩=some (.pointer (some ⟨g,0,none⟩))/\w'.cell? ⟨(w.heap.size+1),0,none⟩=some (.int .i64 (k:Int))/\w'.cell? ⟨NP,0,none⟩=some (.int .i64 (p:Int))/\w'.cell? ⟨g2,0,none⟩=some (.int .i64 (i0:Int)))/\w'.cell? ⟨g,0,none⟩=some (.pointer (some ⟨b,0,none⟩))/\w'.cell? ⟨g,1,none⟩=some (.int .i64 t)/\w'.cell? ⟨g,2,none⟩=some (.int .i64 q)/\w'.cell? ⟨g,3,none⟩=some (.int .i64 s))) qr ?_ (fun hHeld=>?_)
   ·(try dsimp only)
    exact M1n
   refine RLS ?_
   refine tkz 8 ?_
   refine rdz 9 fun K hK=>?_
   go_simp
   refine(qSa t q s (k:Int) (p:Int) (i0:Int) hk0 hk1 _ (HTL.o.at_ HNA.o HND.o.at_)).mono ?_
   rintro e w5 ⟨rfl,hb⟩
   rw[HFI.o]
   replace HND:=qh (HND.o.keep hb)
   replace HTD:=qh (HTD.o.trans (Turns.of_below hb _))
   replace HB0:=qh (HB0.o.keep hb)
   replace HB1:=qh (HB1.o.keep hb)
   replace HP:=qh (HP.o.keep hb)
   replace HR:=qh (HR.o.keep hb)
   replace HKD:=qh ((hb.block D (Array.getElem?_eq_some_iff.1 HKD.o).1).trans HKD.o)
   clear hb
   refine qk ?_ (fun hHeld=>?_)
   ·exact M1n
   clear hK K
   refine RNh ?_
   refine tkz 14 ?_
   refine dnz ?_
   go_wp2_with fail
   refine qDw rfl HKD.o ?_
   have hM:=Mild.put (D:=w3.heap.size) (.deferred none) HDD.o HKD.o rfl
   refine bodyPost_ret (v := .tuple #[.int .i64 (fa i0),.bool true]) (by simp[results,Tryz.results38,go_sem]) rfl ⟨rfl,HOK.o,V,fun i hi=>?_,?_⟩
   ·rcases HVD.o i hi with h1|h1
    ·exact .inl h1
    ·exact .inr (Nat.le_trans HWW.o h1)
   ·exact(HN.o.regain (HND.o.mild hM HW0.o (Nat.le_refl _)) (hM.turns HTD.o (Nat.le_refl _)) HVD.o).less fun i x => .inl (.inl x)

end
end
section
def szH (H:AuH) (k:Nat):Int:=(sizeN (H.s:Int) (k:Int):Int)
section
variable {H H' : AuH} {n c c' : Nat} {L L' : Nat -> List Nat} {T t0 k p i : Nat} {Z : Nat -> Nat -> List Int} {a : Int} {l : List Int}
theorem qYi {a:Int}{t:Nat}(ha:a∈Z t k):∀ {T:Nat},t<T->a∈haveT Z k T
 | 0,h=>absurd h (Nat.not_lt_zero _)
 | T+1,h=>by
  unfold haveT
  rw[List.mem_append]
  by_cases e:t=T
  ·subst e;exact .inr ha
  ·exact .inl (qYi ha qo)
theorem qQm (HV:HeapV H n c)(F:FitsP H.parts (szH H) T Z)(ht:t0<T)(hk:k<9)(ha:a∈Z t0 k):∃ q i,H.hand q i/\H.Cl q=(k:Int)/\H.slotA q i=a:=by
 have h1:=(F.perm k hk).mem_iff.1 (qYi ha ht)
 obtain⟨q,i,hh,hz,e⟩:=mem_pkA.1 h1
 refine⟨q,i,hh,?_,e⟩
 have h8:0<=H.Cl q/\H.Cl q<=8:=by have:=H.K_cases q;have:=hh.2.1;omega
 have hs:=HV.nums
 refine qAj (s:=(H.s:Int)) qo h8 qo ?_
 have:((H.zs q:Nat):Int)=((sizeN (H.s:Int) (k:Int):Nat):Int):=hz
 unfold AuH.zs at this
 omega
theorem qQz (HV:HeapV H n c)(hs:H'.s=H.s)(hk3:H'.K p=3)(hc:H'.Cl p=(k:Int))(hk:k<9){j:Nat}(hj:j<9)(hne:j≠k):(H'.zs p:Int)≠szH H j:=fun e=>by
 have h1:=HV.nums
 unfold AuH.zs szH at e
 rw[hs,hc] at e
 have:=qAj (s:=(H.s:Int)) (k:=(k:Int)) (j:=(j:Int)) qo qo qo qo
 omega
theorem qZp (hs:H'.s=H.s)(hc:H'.Cl p=(k:Int)):(H'.zs p:Int)=szH H k:=by
 unfold AuH.zs szH
 rw[hs,hc]
theorem qFJ (HV:HeapV H n c)(h:H.Ok L)(HV':HeapV H' n c')(h':H'.Ok L')(hs:H'.s=H.s){m:List Nat}(hm:m.Nodup)
  (h1:∀ q i,H.hand q i↔H'.hand q i\/(q=p/\i∈m)) (h2:∀ i∈m,¬ H'.hand p i) (h3:∀ q i,H'.hand q i->H'.Cl q=H.Cl q) (hk3:H.K p=3) (hc:H.Cl p=(k:Int)) (hk:k<9)
  (F:FitsP H.parts (szH H) T Z) (ht:t0<T) (hl:l.length<=4) (hp:(l++m.map (H.slotA p)).Perm (Z t0 k)):FitsP H'.parts (szH H) T (putZ Z t0 k l):=by
 have e0:szH H'=szH H:=by funext j;unfold szH;rw[hs]
 have h3':∀ q i,H'.hand q i->H.Cl q=H'.Cl q:=fun q i hq=>(h3 q i hq).symm
 refine F.turn ht hk hl (fun j hj hne=>?_) (X:=m.map (H.slotA p)) (Y := []) ?_ ?_
 ·have:=qYh HV' h' HV h hs.symm p hm h1 h2 h3' (szH H j)
  rw[if_neg (qQz (H:=H) HV rfl hk3 hc hk hj hne),List.append_nil] at this
  exact this.symm
 ·have:=qYh HV' h' HV h hs.symm p hm h1 h2 h3' (szH H k)
  rw[if_pos (qZp rfl hc)] at this
  rw[List.append_nil]
  exact this.symm
 ·rw[List.append_nil];exact hp
end
section
variable {H : AuH} {n c c' : Nat} {K : Nat -> Option Nat} {st : Vst} {L L' : Nat -> List Nat} {T t0 k p i : Nat} {Z : Nat -> Nat -> List Int} {l : List Int}
theorem GivenBack.fits (P:GivenBack H n K st L' p i)(HV:HeapV H n c)(h:H.Ok L)(HV':HeapV (nowH H n K st) n c')(hh:H.hand p i)(hc:H.Cl p=(k:Int))(hk:k<9)
  (F:FitsP H.parts (szH H) T Z) (ht:t0<T) (hp:(l ++ [H.slotA p i]).Perm (Z t0 k)):FitsP (nowH H n K st).parts (szH H) T (putZ Z t0 k l):=by
 refine qFJ (m := [i]) HV h HV' P.ok rfl (by simp) (fun q j=>?_) (fun j hj hx=>?_) (fun q j hq=>(P.cls_ q hq.1 ((P.hand q j).2 (.inl hq)).2.1 hq.2.1).1) hh.2.1 hc hk F ht ?_ hp
 ·rw[P.hand q j,List.mem_singleton]
 ·rw[List.mem_singleton] at hj
  subst hj
  exact P.gone hx
 ·have h1:=hp.length_eq
  have h2:=F.few k hk t0 ht
  rw[List.length_append] at h1
  omega
end
end
section
section
variable {H : AuH} {n c : Nat} {q i : Nat}
structure SlotAt (H:AuH) (q i:Nat):Prop where
 spot:spotB H.t H.p H.s (H.slotA q i)=true
 page:spotP H.t H.p H.s (H.slotA q i)=q
 off:spotO H.t H.p H.s (H.slotA q i)=((i*H.zs q:Nat):Int)
 isB:slotB H.t H.p H.s (H.Cl q) (spotO H.t H.p H.s (H.slotA q i))=true
 slot:slotR H.t H.p H.s (H.Cl q) (spotO H.t H.p H.s (H.slotA q i))=i
 atB_:atB H.t H.p H.s (H.Cl q) q i=true
 atI_:atI H.t H.p H.s (H.Cl q) q i=H.slotA q i
 low:1024<=H.slotA q i
theorem qQD (HV:HeapV H n c)(hq:q<H.p)(hk:H.K q=3)(hi:i<slotI (H.Cl q)):SlotAt H q i:=by
 obtain⟨z1,z2⟩:=qSR HV hk hi
 have ho:i*H.zs q<H.pg:=qo
 have e:H.slotA q i=H.first q+((i*H.zs q:Nat):Int):=by unfold AuH.slotA;push_cast;rfl
 obtain⟨g1,g2,g3⟩:=AuH.spot_at HV hq ho
 obtain⟨a1,a2⟩:=AuH.addr_at HV hq ho
 have hcast:((i*H.zs q:Nat):Int)=(i:Int)*(sizeN (H.s:Int) (H.Cl q):Int):=by push_cast;rfl
 have hsl:=qF9 (t:=H.t) (p:=H.p) (s:=H.s) (k:=H.Cl q) HV.right i hi (o:=((i*H.zs q:Nat):Int)) hcast
 have hat:=qUV (t:=H.t) (p:=H.p) (s:=H.s) (k:=H.Cl q) (i:=(q:Int)) (j:=(i:Int)) ⟨qo,qo⟩
 rw[<- hcast,a1,a2] at hat
 rw[<- e] at g1 g2 g3 hat
 have hf:=qFR HV hq
 exact⟨g1,g2,g3,by rw[g3];exact hsl.1,by rw[g3];exact hsl.2,hat.1,hat.2,by rw[e];omega⟩
theorem qQ7 (HV:HeapV H n c)(hh:H.hand q i):SlotAt H q i:=qQD HV hh.1 hh.2.1 hh.2.2.1
end
end
section
section
variable (n : Nat) (K : Nat -> Option Nat) (t q s : Int)
def allocI (k:Int) (l:List Int) (st:Vst):Option (Int × List Int) × Vst :=
 if k<0\/8<k then (none,st)
 else match l.getLast? with
  | some a=>(some (a,l.dropLast),onS n K t q s (spotP t q s a).toNat (slotR t q s k (spotO t q s a)).toNat st)
  | none=>match (pickI n K t q s k 4 st).1 with
   | some (p,m)=>(some (atI t q s k (p:Int) ((m.getD 0 0:Nat):Int),(m.drop 1).reverse.map fun (i:Nat)=>atI t q s k (p:Int) (i:Int)),onS n K t q s p (m.getD 0 0) (pickI n K t q s k 4 st).2)
   | none=>(none,(pickI n K t q s k 4 st).2)
def gives (p:Nat):List Nat->Vst->Vst
 | [],st=>st
 | i :: r,st=>gives p r (giveS n K t q s p i st)
end
section
variable {H : AuH} {n c : Nat} {K : Nat -> Option Nat} {st st1 : Vst} {L L' : Nat -> List Nat} {T t0 k p i : Nat} {Z : Nat -> Nat -> List Int} {a : Int} {l : List Int}
theorem qVJ (H:AuH)(n:Nat)(K:Nat->Option Nat)(st st1:Vst):nowH (nowH H n K st) n K st1=nowH H n K st1:=by
 unfold nowH AuH.re
 congr 1
 funext i
 unfold curV
 split
 ·rfl
 ·rename_i h
  show (if i<n then getV n K st (i:Int) else H.V i)=H.V i
  rw[if_neg h]
end
end
section
section
variable {H H' : AuH} {n c : Nat} {K : Nat -> Option Nat} {st st1 : Vst} {L L' : Nat -> List Nat} {T t0 k p i : Nat} {Z : Nat -> Nat -> List Int} {a : Int} {l : List Int}
structure Flushed (H H':AuH) (L:Nat->List Nat) (T:Nat) (Z:Nat->Nat->List Int) (t0 k:Nat) (l:List Int):Prop where
 ok:H'.Ok L
 roots:∀ i,i<8->H'.V (22+i)=H.V (22+i)
 live:H'.V 1=H.V 1
 blocks:blocksOf H'.parts=blocksOf H.parts
 fits:FitsP H'.parts (szH H) T (putZ Z t0 k l)
theorem qYV {l':List Int}:putZ (putZ Z t0 k l') t0 k l=putZ Z t0 k l:=by
 funext t j
 unfold putZ
 split
 ·rfl
 ·rfl
theorem qQV (h32:∀ i x,K i=some x->x<2^32)(hk:k<9)(ht:t0<T):∀ (r:List Nat) (i:Nat) {H:AuH} {st:Vst} {L:Nat->List Nat} {Z:Nat->Nat->List Int} {l:List Int},HeapV H n c->H.Ok L->Work H.t H.p H.s n K st L H.V ->
  (∀ j∈i :: r,H.hand p j)->H.Cl p=(k:Int)->(i :: r).Nodup->FitsP H.parts (szH H) T Z->(l++(i :: r).map (H.slotA p)).Perm (Z t0 k) ->
  (∀ j,1<=j->j<=(i :: r).length->VOk n (gives n K H.t H.p H.s p ((i :: r).take j) st)) ->
  VW n K (gives n K H.t H.p H.s p (i :: r) st)/\∃ L',(∃ g,Work H.t H.p H.s n K (gives n K H.t H.p H.s p (i :: r) st) L' g)/\Flushed H (nowH H n K (gives n K H.t H.p H.s p (i :: r) st)) L' T Z t0 k l
 | [],i,H,st,L,Z,l,HV,h,W,hh,hc,hnd,F,hp,hvs=>by
  have h0:=hh i (List.mem_cons_self ..)
  obtain⟨_,L1,w1,P,g1,W1⟩:=qIY HV h W (qCi h0.1 h0.2.1 h0.2.2.2.1 h0.2.2.2.2)
  have hv1:VOk n (giveS n K H.t H.p H.s p i st):=hvs 1 (Nat.le_refl _) (Nat.le_refl _)
  have HV1:=qN5 HV hv1 h32 HV.cap HV.max
  exact⟨w1,L1,⟨g1,W1⟩,P.ok,P.roots,P.live,P.blocks,P.fits HV h HV1 h0 hc hk F ht hp⟩
 | j :: r,i,H,st,L,Z,l,HV,h,W,hh,hc,hnd,F,hp,hvs=>by
  have h0:=hh i (List.mem_cons_self ..)
  have hnd2:=List.nodup_cons.1 hnd
  obtain⟨_,L1,w1,P,g1,W1⟩:=qIY HV h W (qCi h0.1 h0.2.1 h0.2.2.2.1 h0.2.2.2.2)
  have hv1:VOk n (giveS n K H.t H.p H.s p i st):=hvs 1 (Nat.le_refl _) (by simp)
  have HV1:=qN5 HV hv1 h32 HV.cap HV.max
  have hl1:((l++(j :: r).map (H.slotA p)) ++ [H.slotA p i]).Perm (Z t0 k):=by
   refine List.Perm.trans ?_ hp
   rw[List.append_assoc]
   refine List.Perm.append_left l ?_
   rw[List.map_cons (f:=H.slotA p) (a:=i)]
   exact List.perm_append_comm
  have F1:=P.fits HV h HV1 h0 hc hk F ht hl1
  have hh1:∀ x∈j :: r,(nowH H n K (giveS n K H.t H.p H.s p i st)).hand p x:=fun x hx=>by
   exact MZ3
  have hcl:=(P.cls_ p h0.1 h0.2.1 (hh1 j (List.mem_cons_self ..)).2.1).1
  have hc1:(nowH H n K (giveS n K H.t H.p H.s p i st)).Cl p=(k:Int):=hcl.trans hc
  have es:(nowH H n K (giveS n K H.t H.p H.s p i st)).slotA p=H.slotA p:=by
   funext x
   unfold AuH.slotA AuH.zs
   rw[hcl]
   rfl
  have W1':Work (nowH H n K (giveS n K H.t H.p H.s p i st)).t (nowH H n K (giveS n K H.t H.p H.s p i st)).p (nowH H n K (giveS n K H.t H.p H.s p i st)).s n K (giveS n K H.t H.p H.s p i st) L1 (nowH H n K (giveS n K H.t H.p H.s p i st)).V:=W1.again
  obtain⟨v1,L2,⟨g2,W2⟩,Q⟩:=qQV h32 hk ht r j (l:=l) HV1 P.ok W1' hh1 hc1 hnd2.2 F1 (by rw[es,qYc]) (fun x hx1 hx2=>by
   have:=hvs (x+1) qo (by simp only[List.length_cons] at hx2 ⊢;omega)
   exact this)
  refine⟨v1,L2,⟨g2,W2⟩,?_⟩
  have eh:=qVJ H n K (giveS n K H.t H.p H.s p i st) (gives n K H.t H.p H.s p (j :: r) (giveS n K H.t H.p H.s p i st))
  have Q:Flushed (nowH H n K (giveS n K H.t H.p H.s p i st)) (nowH (nowH H n K (giveS n K H.t H.p H.s p i st)) n K (gives n K H.t H.p H.s p (j :: r) (giveS n K H.t H.p H.s p i st))) L2 T _ t0 k l:=Q
  rw[eh] at Q
  obtain⟨q1,q2,q3,q4,q5⟩:=Q
  refine⟨q1,fun x hx=>(q2 x hx).trans (P.roots x hx),q3.trans P.live,q4.trans P.blocks,?_⟩
  rw[qYV] at q5
  exact q5
theorem qDe {t:Nat}:∀ {T:Nat},t<T->(Z t k).Sublist (haveT Z k T)
 | 0,h=>absurd h (Nat.not_lt_zero _)
 | T+1,h=>by
  unfold haveT
  by_cases e:t=T
  ·subst e;exact List.sublist_append_right _ _
  ·exact(qDe qo).trans (List.sublist_append_left _ _)
theorem qYy (HV:HeapV H n c)(h:H.Ok L)(F:FitsP H.parts (szH H) T Z)(ht:t0<T)(hk:k<9):(Z t0 k).Nodup :=
 ((F.perm k hk).symm.nodup (qAC HV h _)).sublist (qDe ht)
theorem qUD (f:Int->Bool):∀ l:List Int,(l.filter (fun a => !f a)++l.filter f).Perm l
 | []=>List.Perm.refl _
 | a :: l=>by
  by_cases h:f a=true
  ·rw[List.filter_cons_of_neg (by simp[h]),List.filter_cons_of_pos h]
   exact List.perm_middle.trans ((qUD f l).cons a)
  ·rw[List.filter_cons_of_pos (by simp[h]),List.filter_cons_of_neg h]
   exact(qUD f l).cons a
end
def flushI (n:Nat) (K:Nat->Option Nat) (t q s:Int) (k:Int) (l:List Int) (st:Vst):(Nat × List Int) × Vst :=
 match l.getLast? with
 | none=>((0,l),st)
 | some a=>(((l.filter (onPg t q s (spotP t q s a))).length,l.filter fun b => !onPg t q s (spotP t q s a) b),
   gives n K t q s (spotP t q s a).toNat ((l.filter (onPg t q s (spotP t q s a))).map fun b=>(slotR t q s k (spotO t q s b)).toNat) st)
section
variable {H : AuH} {n c : Nat} {K : Nat -> Option Nat} {st : Vst} {L : Nat -> List Nat} {T t0 k : Nat} {Z : Nat -> Nat -> List Int} {a : Int} {l : List Int}
theorem qZo (HV:HeapV H n c)(h:H.Ok L)(F:FitsP H.parts (szH H) T Z)(ht:t0<T)(hk:k<9)(hl:Z t0 k=l)(ha:l.getLast?=some a) :
  ∃ (p i:Nat) (r:List Nat),p<H.p/\spotP H.t H.p H.s a=(p:Int)/\((l.filter (onPg H.t H.p H.s (p:Int))).map fun b=>(slotR H.t H.p H.s (k:Int) (spotO H.t H.p H.s b)).toNat)=i :: r /\
   (∀ j∈i :: r,H.hand p j)/\H.Cl p=(k:Int)/\(i :: r).Nodup/\l.filter (onPg H.t H.p H.s (p:Int))=(i :: r).map (H.slotA p) /\
   ((l.filter fun b => !onPg H.t H.p H.s (p:Int) b)++(i :: r).map (H.slotA p)).Perm (Z t0 k):=by
 obtain⟨ys,hy⟩:=List.getLast?_eq_some_iff.1 ha
 have hnd:=qYy HV h F ht hk
 rw[hl] at hnd
 have each:∀ b∈l,∃ q i,H.hand q i/\H.Cl q=(k:Int)/\H.slotA q i=b:=fun b hb=>qQm HV F ht hk (by rw[hl];exact hb)
 obtain⟨p,i0,h0,hc,e0⟩:=each a (by rw[hy];simp)
 have A0:=qQ7 HV h0
 have hp:spotP H.t H.p H.s a=(p:Int):=by rw[<- e0];exact A0.page
 have honp:∀ b∈l,onPg H.t H.p H.s (p:Int) b=true->∃ i,H.hand p i/\H.slotA p i=b/\(slotR H.t H.p H.s (k:Int) (spotO H.t H.p H.s b)).toNat=i:=fun b hb ho=>by
  obtain⟨q,i,hq,hcq,eb⟩:=each b hb
  have A:=qQ7 HV hq
  unfold onPg at ho
  rw[Bool.and_eq_true,decide_eq_true_eq] at ho
  have e1:=A.page
  rw[eb,ho.2] at e1
  have e1:q=p:=qo
  subst e1
  refine⟨i,hq,eb,?_⟩
  have e2:=A.slot
  rw[hcq,eb] at e2
  rw[e2,Int.toNat_natCast]
 have hm:l.filter (onPg H.t H.p H.s (p:Int))=(((l.filter (onPg H.t H.p H.s (p:Int))).map fun b=>(slotR H.t H.p H.s (k:Int) (spotO H.t H.p H.s b)).toNat)).map (H.slotA p):=by
  rw[List.map_map]
  have hid:∀ m:List Int,(∀ b∈m,(H.slotA p ∘ fun b=>(slotR H.t H.p H.s (k:Int) (spotO H.t H.p H.s b)).toNat) b=b)->m=m.map (H.slotA p ∘ fun b=>(slotR H.t H.p H.s (k:Int) (spotO H.t H.p H.s b)).toNat):=fun m=>by
   induction m with
   | nil=>intro _;rfl
   | cons b m ih =>
    intro hm
    rw[List.map_cons,hm b (List.mem_cons_self ..),<- ih (fun x hx=>hm x (List.mem_cons_of_mem _ hx))]
  refine hid _ fun b hb=>?_
  obtain⟨hb1,hb2⟩:=List.mem_filter.1 hb
  obtain⟨i,_,e1,e2⟩:=honp b hb1 hb2
  show H.slotA p ((slotR H.t H.p H.s (k:Int) (spotO H.t H.p H.s b)).toNat)=b
  rw[e2,e1]
 have hall:∀ j∈((l.filter (onPg H.t H.p H.s (p:Int))).map fun b=>(slotR H.t H.p H.s (k:Int) (spotO H.t H.p H.s b)).toNat),H.hand p j:=fun j hj=>by
  obtain⟨b,hb,rfl⟩:=List.mem_map.1 hj
  obtain⟨hb1,hb2⟩:=List.mem_filter.1 hb
  obtain⟨i,hi,_,e2⟩:=honp b hb1 hb2
  rw[e2]
  exact hi
 have hne:a∈l.filter (onPg H.t H.p H.s (p:Int)):=List.mem_filter.2 ⟨by rw[hy];simp,by unfold onPg;rw[<- e0,A0.spot,A0.page,decide_eq_true rfl];rfl⟩
 obtain⟨m,hmm⟩:∃ m,((l.filter (onPg H.t H.p H.s (p:Int))).map fun b=>(slotR H.t H.p H.s (k:Int) (spotO H.t H.p H.s b)).toNat)=m:=⟨_,rfl⟩
 rw[hmm] at hm hall
 cases m with
 | nil=>rw[hm] at hne;simp at hne
 | cons i r =>
  refine⟨p,i,r,h0.1,hp,hmm,hall,hc,?_,hm,?_⟩
  ·have h1:((i :: r).map (H.slotA p)).Nodup:=by rw[<- hm];exact hnd.sublist List.filter_sublist
   exact(List.pairwise_map.1 h1).imp fun hab e=>hab (by rw[e])
  ·rw[<- hm,hl]
   exact qUD _ l
theorem qH3 (HV:HeapV H n c)(h:H.Ok L)(W:Work H.t H.p H.s n K st L H.V)(h32:∀ i x,K i=some x->x<2^32)(hk:k<9)(F:FitsP H.parts (szH H) T Z)(ht:t0<T)(hl:Z t0 k=l)(ha:l.getLast?=some a)
  (hvs:∀ j,1<=j->j<=(l.filter (onPg H.t H.p H.s (spotP H.t H.p H.s a))).length->VOk n (gives n K H.t H.p H.s (spotP H.t H.p H.s a).toNat (((l.filter (onPg H.t H.p H.s (spotP H.t H.p H.s a))).map fun b=>(slotR H.t H.p H.s (k:Int) (spotO H.t H.p H.s b)).toNat).take j) st)) :
  1<=(flushI n K H.t H.p H.s (k:Int) l st).1.1/\(flushI n K H.t H.p H.s (k:Int) l st).1.2.length+(flushI n K H.t H.p H.s (k:Int) l st).1.1=l.length/\VW n K (flushI n K H.t H.p H.s (k:Int) l st).2 /\
   ∃ L',(∃ g,Work H.t H.p H.s n K (flushI n K H.t H.p H.s (k:Int) l st).2 L' g)/\Flushed H (nowH H n K (flushI n K H.t H.p H.s (k:Int) l st).2) L' T Z t0 k (flushI n K H.t H.p H.s (k:Int) l st).1.2:=by
 obtain⟨p,i,r,hp,ep,em,hh,hc,hnd,eon,hperm⟩:=qZo HV h F ht hk hl ha
 have e:flushI n K H.t H.p H.s (k:Int) l st=(((l.filter (onPg H.t H.p H.s (p:Int))).length,l.filter fun b => !onPg H.t H.p H.s (p:Int) b),gives n K H.t H.p H.s p (i :: r) st):=by
  unfold flushI
  rw[ha]
  simp only[ep,em,Int.toNat_natCast]
 rw[ep,em,Int.toNat_natCast] at hvs
 rw[e]
 obtain⟨v1,L',W1,Q⟩:=qQV h32 hk ht r i HV h W hh hc hnd F hperm (fun j h1 h2=>hvs j h1 (by rw[eon,List.length_map];exact h2))
 refine⟨?_,?_,v1,L',W1,Q⟩
 ·show 1<=(l.filter (onPg H.t H.p H.s (p:Int))).length
  rw[eon]
  simp
 ·have:=(qUD (onPg H.t H.p H.s (p:Int)) l).length_eq
  rw[List.length_append] at this
  exact this
end
end
section
theorem qJC (t q s p:Int)(u:Value)(l:List Int)(hn6:l.length<=1000000)(w:World)(h:LongsAt w u l) :
    Calls Tryz.prog 130 #[.agg #[.int .i64 t,.int .i64 q,.int .i64 s],u,.int .i64 p] w fun e w'=>∃ x y,e = .returned (.tuple #[x,y])/\w'.ownsRow w.heap.size 2 1 x (l.filter (onPg t q s p)).length (lgVs (l.filter (onPg t q s p))) /\
      w'.ownsRow w.heap.size 2 1 y (l.filter (fun b => !onPg t q s p b)).length (lgVs (l.filter (fun b => !onPg t q s p b)))/\Below w.heap.size w w':=by
  obtain⟨A,c,rfl,hlc,hcm,hbd,hno,hcl⟩:=h
  obtain⟨n,hn⟩:∃ n,l.length=n:=⟨_,rfl⟩
  rw[hn] at hlc hn6 ⊢
  have HC:=qh (Held.new w 23 #[.int .i64 t,.int .i64 q,.int .i64 s])
  have HB:=qh (Bnew (B0 w) (.cells #[.int .i64 t,.int .i64 q,.int .i64 s] 23))
  have HO1:qH ((w.alloc (.cells #[.int .i64 t,.int .i64 q,.int .i64 s] 23)).ownsRow (w.heap.size+1) 2 1 (.slice none 0 0) 0 []):=qh (World.ownsRow_nil _ _ _ _)
  have HNO:=qh hno
  have HN:=qh hn
  have HCL:=qh hcl
  have HBD:=qh hbd
  obtain⟨i0,hi0,hz0,hz1,hz2⟩:=info_parts longInfo
  obtain⟨x0,x1,x2⟩:=HC.o.three
  clear hn hbd hcl hno
  go_enter Tryz.func130,Tryz.ntmps130
  go_wp2_with fail
  go_loopw [6,7,9,10,11,12,15] (fun u6 u7 _ _ _ _ u15 wr=>∃ (i m1 m2:Nat),i<=n/\u15 = .int .i64 (i:Int)/\qH (((l.take i).filter (onPg t q s p)).length=m1)/\qH (((l.take i).filter (fun b => !onPg t q s p b)).length=m2)/\qH (wr.ownsRow (w.heap.size+1) 2 1 u6 m1 (lgVs ((l.take i).filter (onPg t q s p))))/\qH (wr.ownsRow (w.heap.size+1) 2 1 u7 m2 (lgVs ((l.take i).filter (fun b => !onPg t q s p b))))/\qH (∀ g,u6.ownBlock=some g->u7.ownBlock≠some g)/\qH (Held wr w.heap.size 23 #[.int .i64 t,.int .i64 q,.int .i64 s])/\qH (Below w.heap.size w wr)/\qH (w.heap.size+1<=wr.heap.size)) (fun _ _ _ _ _ _ u15 _=>n-(intOf u15).toNat)
  case atStart=>exact⟨0,0,0,qo,rfl,qh (by simp),qh (by simp),qh (by simpa [lgVs] using HO1.o),qh (by simpa [lgVs] using HO1.o),qh (fun g hg=>by simp[Value.ownBlock] at hg),HC,HB,qh (by simp)⟩
  case round =>
    clear HC HO1 HB x0 x1 x2
    obtain⟨i,m1,m2,hi,rfl,HM1,HM2,HO1,HO2,HAP,HC,HB,HS6⟩:=hrel
    obtain⟨A1,c1,hu6⟩:=qKK HO1.o
    obtain⟨A2,c2,hu7⟩:=qKK HO2.o
    subst hu6 hu7
    have hcc1:=qIZ HO1.o
    have hcc2:=qIZ HO2.o
    have hmi1:m1<=i:=by
      rw[<- HM1.o]
      exact Nat.le_trans (List.length_filter_le _ _) (by rw[List.length_take];omega)
    have hmi2:m2<=i:=by
      rw[<- HM2.o]
      exact Nat.le_trans (List.length_filter_le _ _) (by rw[List.length_take];omega)
    by_cases hlt:i<n
    · obtain⟨z,hz⟩:∃ z,l[i]?=some z:=⟨_,List.getElem?_eq_getElem (by rw[HN.o];exact hlt)⟩
      cases A with
      | none=>exact absurd HN.o (by rw[(HNO.o rfl).1];simp;omega)
      | some ad =>
        have hadb:=(HCL.o ad rfl).1 (fun e=>by rw[e] at hz;simp at hz)
        have hadc:wr.cell? (ad.add i)=some (.int .i64 z):=(HB.o.cell (p:=ad.add i) (by rw[qXL];exact hadb)).trans ((HCL.o ad rfl).2 i z hz)
        have hzb:=HBD.o z (List.mem_of_getElem? hz)
        have HFT1:=qh (qKq (onPg t q s p) hz)
        have HFT2:=qh (qKq (fun b => !onPg t q s p b) hz)
        obtain⟨x0,x1,x2⟩:=HC.o.three
        obtain⟨pp,hpp⟩:∃ pp,spotP t q s z=pp:=⟨_,rfl⟩
        obtain⟨bb,hbb⟩:∃ bb,spotB t q s z=bb:=⟨_,rfl⟩
        have hon:onPg t q s p z=(bb&&decide (pp=p)):=by unfold onPg;rw[hpp,hbb]
        have HPP:=qh hpp
        have HBB:=qh hbb
        have e1:(pp==p)=decide (pp=p):=rfl
        obtain⟨b2,hb2⟩:∃ b2,decide (pp=p)=b2:=⟨_,rfl⟩
        rw[hb2] at e1 hon
        have HON:=qh hon
        clear hadb hz hpp hbb hb2 hon
        go_wp2_with fail
        refine(qRN t q s z hzb.1 hzb.2 _).mono ?_
        rintro e w2 ⟨rfl,hb⟩
        rw[HPP.o,HBB.o]
        replace HC:=qh (HC.o.keep hb)
        replace HO1:=qh (qEc HO1.o hb)
        replace HO2:=qh (qEc HO2.o hb)
        replace HB:=qh (Bgo HB.o hb)
        replace HS6:=qh (Nat.le_trans HS6.o hb.size)
        clear hb x0 x1 x2 hadc HPP HBB
        cases bb
        ·exact MuZ
        · cases b2
          ·exact MuZ
          · replace HON:qH (onPg t q s p z=true):=qh HON.o
            go_wp2_with (first
              | (at_builtin
                 refine wpList_append_own_at _ rfl _ _ 34 rfl (w.heap.size+1) 2 i0 (.int .i64 0) 1 8 Tryz.underlying34 hi0 hz0 hz1 hz2 rfl (by decide) _ _ _ rfl (HO1.o.alloc _) ⟨_,0,none⟩ 1 1 [.int .i64 z] rfl rfl ?c1 ?c2 ?c3 ?c4 ?c5 ?_
                 case c1=>intro j y hy;rcases j with _|j;(· simp at hy;subst hy;simp[Addr.add]);(· simp at hy)
                 case c2=>simp[Value.oneCell']
                 case c3=>unfold maxLen;omega
                 case c4=>omega
                 case c5=>have:=HS6.o;simp;omega
                 intro u7' w7 hown7 hgrow hnil hat7
                 obtain⟨A7,c7,hu7⟩:=qKK hown7
                 subst hu7
                 have hnb:∀ j,(Value.slice A1 m1 c1).ownBlock=some j->w.heap.size+1<=j:=fun j hj=>(HO1.o.lt j hj).1
                 have HO7:qH (w7.ownsRow (w.heap.size+1) 2 1 (.slice A7 (m1+1) c7) (m1+1) (lgVs ((l.take (i+1)).filter (onPg t q s p)))):=qh (by rw[HFT1.o,if_pos (by simp[HON.o])];unfold lgVs at hown7 ⊢;rw[List.map_append];exact hown7)
                 have HO8:=qh (qWQ (HO2.o.alloc (.cells #[.int .i64 z] 2)) (w':=w7) (fun g hg=>hgrow.block g (by have:=(HO2.o.lt g hg).2;simp;omega) (fun e=>HAP.o g e.symm hg)))
                 have HAP7:qH (∀ g,(Value.slice A7 (m1+1) c7).ownBlock=some g->(Value.slice A2 m2 c2).ownBlock≠some g):=qh (fun g hg hg2=>by
                   rcases hat7 with h7|h7
                   · exact HAP.o g (h7 ▸ hg) hg2
                   · rw[hg] at h7
                     injection h7 with h7
                     have:=(HO2.o.lt g hg2).2
                     simp at h7
                     omega)
                 have HB7:=qh ((Bnew HB.o (.cells #[.int .i64 z] 2)).grown hgrow (by have:=HB.o.size;simp;omega) (fun j hj=>by have:=hnb j hj;omega))
                 have HC7:=qh (qQj (HC.o.alloc (.cells #[.int .i64 z] 2)) hgrow (fun e=>by have:=hnb _ e;omega))
                 have HS8:qH (w.heap.size+1<=w7.heap.size):=qh (by have h1:=hgrow.size;have:=HS6.o;simp at h1;omega)
                 clear hown7 hgrow hat7 hnil hnb)
              | fail)
            go_roundw
            case rel=>exact⟨i+1,m1+1,m2,qo,by go_num,qh (by rw[HFT1.o,if_pos (by simp[HON.o]),List.length_append,HM1.o];rfl),qh (by rw[HFT2.o,if_neg (by simp[HON.o]),List.append_nil];exact HM2.o),HO7,qh (by rw[HFT2.o,if_neg (by simp[HON.o]),List.append_nil];exact HO8.o),HAP7,HC7,HB7,HS8⟩
            case measure=>simp[intOf];omega
    · obtain rfl:i=n:=qo
      have HE:qH (l.take i=l):=qh (List.take_of_length_le (by rw[HN.o];exact Nat.le_refl _))
      go_wp2
      go_ret2
      rw[HE.o] at HM1 HM2 HO1 HO2
      exact⟨_,_,rfl,by rw[HM1.o];exact qIX HO1.o qo,by rw[HM2.o];exact qIX HO2.o qo,HB.o⟩

theorem qLl (t q s p:Int)(U:Nat->Sl)(Z:Nat->List Int)(k:Nat)(hk:k<9)(hn6:(Z k).length<=1000000)(w:World)(hT:SlotsLaid w)(h:PkV w U Z) :
  Calls Tryz.prog 95 #[.agg #[.int .i64 t,.int .i64 q,.int .i64 s],.agg (pkC U),.int .i64 (k:Int),.int .i64 p] w fun e w'=>∃ u,e = .returned u/\w'.ownsRow w.heap.size 2 1 u ((Z k).filter (onPg t q s p)).length (lgVs ((Z k).filter (onPg t q s p)))/\Below w.heap.size w w':=by
 have HC:=qh (((Held.new w 23 #[.int .i64 t,.int .i64 q,.int .i64 s]).alloc (.cells (pkC U) 36)))
 have HG:=qh ((Held.new2 w (.cells #[.int .i64 t,.int .i64 q,.int .i64 s] 23) 36 (pkC U)))
 have HB:=qh (Bnew (Bnew (B0 w) (.cells #[.int .i64 t,.int .i64 q,.int .i64 s] 23)) (.cells (pkC U) 36))
 have HP:=qh h
 have HT:=qh hT
 obtain⟨A,c,hu,hlc,hcm,hbd,hno,hcl⟩:=h k hk
 obtain⟨n,hn⟩:∃ n,(Z k).length=n:=⟨_,rfl⟩
 have HL:qH (∀ w',Below w.heap.size w w'->LongsAt w' (.slice A n c) (Z k)):=qh (fun w' hb=>by rw[<- hn,<- hu];exact(h k hk).below hb)
 rw[hn] at hu
 have HXK:=qh (fun (w':World) (hh:Held w' (w.heap.size+1) 36 (pkC U))=>(show w'.cell? ⟨w.heap.size+1,k,none⟩=some (.slice A n c) from by rw[hh.pk hk,hu]))
 have HBD:=qh hbd
 have hki:(k:Int)<9:=qo
 clear h hT hu hn hbd hcl hno
 go_enter Tryz.func95,Tryz.ntmps95
 go_wp2_with fail
 refine(qDJ (k:Int) qo qo true (by simp;try omega) _ (HT.o.below HB.o)).mono ?_
 rintro e w1 ⟨rfl,rfl⟩
 go_wp2_with fail
 replace HC:=qh (HC.o.keep (Bdrew (B0 _)))
 replace HG:=qh (HG.o.keep (Bdrew (B0 _)))
 skip
 replace HB:=qh (Bgo HB.o (Bdrew (B0 _)))
 have HSZ:=qh HG.o.lt
 refine wp_region_held_drew (S:=(fun w'=>(w'.cell? ⟨w.heap.size,0,none⟩=some (.int .i64 t)/\w'.cell? ⟨w.heap.size,1,none⟩=some (.int .i64 q)/\w'.cell? ⟨w.heap.size,2,none⟩=some (.int .i64 s))/\w'.cell? ⟨w.heap.size+1,k,none⟩=some (.slice A n c))) qr ?_ (fun hHeld=>?_)
 ·(try dsimp only)
  first|exact⟨HC.o.three,HXK.o _ HG.o⟩|exact hHeld
 refine tkz 0 ?_
 refine tkz 1 ?_
 refine tkz 2 ?_
 refine tkz 3 ?_
 refine tkz 4 ?_
 refine rdz 5 fun K hK=>?_
 go_simp
 refine(qJC t q s p _ (Z k) hn6 _ (HL.o _ HB.o)).mono ?_
 rintro e w9 ⟨u1,u2,rfl,ho1,ho2,hb⟩
 have HO1:=qh ho1
 have HO2:=qh ho2
 replace HC:=qh (HC.o.keep hb)
 replace HG:=qh (HG.o.keep hb)
 skip
 replace HB:=qh (Bgo HB.o hb)
 clear hb ho1 ho2
 refine qk ?_ (fun hHeld=>?_)
 ·first|exact⟨HC.o.three,HXK.o _ HG.o⟩|exact hHeld
 clear hK K
 refine tkz 6 ?_
 refine tkz 7 ?_
 refine tkz 8 ?_
 refine tkz 9 ?_
 refine tkz 10 ?_
 refine dnz ?_
 go_wp2
 go_ret
 exact⟨_,rfl,qIX HO1.o (by have:=HSZ.o;omega),HB.o⟩

theorem qQJ (t q s p:Int)(U:Nat->Sl)(Z:Nat->List Int)(k:Nat)(hk:k<9)(hn6:(Z k).length<=1000000)(w:World)(hT:SlotsLaid w)(h:PkV w U Z) :
  Calls Tryz.prog 96 #[.agg #[.int .i64 t,.int .i64 q,.int .i64 s],.agg (pkC U),.int .i64 (k:Int),.int .i64 p] w fun e w'=>∃ x:Sl,e = .returned (.agg (pkC (updF U k x)))/\(∀ ad,x.a=some ad->w.heap.size<=ad.block)/\PkV w' (updF U k x) (updF Z k ((Z k).filter (fun b => !onPg t q s p b)))/\Below w.heap.size w w':=by
 have HC:=qh (((Held.new w 23 #[.int .i64 t,.int .i64 q,.int .i64 s]).alloc (.cells (pkC U) 36)).alloc (.cells #[.slice none 0 0,.slice none 0 0,.slice none 0 0,.slice none 0 0,.slice none 0 0,.slice none 0 0,.slice none 0 0,.slice none 0 0,.slice none 0 0] 36))
 have HG:=qh ((Held.new2 w (.cells #[.int .i64 t,.int .i64 q,.int .i64 s] 23) 36 (pkC U)).alloc (.cells #[.slice none 0 0,.slice none 0 0,.slice none 0 0,.slice none 0 0,.slice none 0 0,.slice none 0 0,.slice none 0 0,.slice none 0 0,.slice none 0 0] 36))
 have HR:qH (Held (((w.alloc (.cells #[.int .i64 t,.int .i64 q,.int .i64 s] 23)).alloc (.cells (pkC U) 36)).alloc (.cells #[.slice none 0 0,.slice none 0 0,.slice none 0 0,.slice none 0 0,.slice none 0 0,.slice none 0 0,.slice none 0 0,.slice none 0 0,.slice none 0 0] 36)) (w.heap.size+2) 36 (pkC zeroU)):=qh (by
  refine R2l ?_;intro this e
  exact this)
 have HB:=qh (Bnew (Bnew (Bnew (B0 w) (.cells #[.int .i64 t,.int .i64 q,.int .i64 s] 23)) (.cells (pkC U) 36)) (.cells #[.slice none 0 0,.slice none 0 0,.slice none 0 0,.slice none 0 0,.slice none 0 0,.slice none 0 0,.slice none 0 0,.slice none 0 0,.slice none 0 0] 36))
 have HP:=qh h
 have HT:=qh hT
 obtain⟨A,c,hu,hlc,hcm,hbd,hno,hcl⟩:=h k hk
 obtain⟨n,hn⟩:∃ n,(Z k).length=n:=⟨_,rfl⟩
 have HL:qH (∀ w',Below w.heap.size w w'->LongsAt w' (.slice A n c) (Z k)):=qh (fun w' hb=>by rw[<- hn,<- hu];exact(h k hk).below hb)
 rw[hn] at hu
 have HXK:=qh (fun (w':World) (hh:Held w' (w.heap.size+1) 36 (pkC U))=>(show w'.cell? ⟨w.heap.size+1,k,none⟩=some (.slice A n c) from by rw[hh.pk hk,hu]))
 have HBD:=qh hbd
 have hki:(k:Int)<9:=qo
 clear h hT hu hn hbd hcl hno
 go_enter Tryz.func96,Tryz.ntmps96
 go_wp2_with fail
 refine(qDJ (k:Int) qo qo true (by simp;try omega) _ (HT.o.below HB.o)).mono ?_
 rintro e w1 ⟨rfl,rfl⟩
 go_wp2_with fail
 replace HC:=qh (HC.o.keep (Bdrew (B0 _)))
 replace HG:=qh (HG.o.keep (Bdrew (B0 _)))
 replace HR:=qh (HR.o.keep (Bdrew (B0 _)))
 replace HB:=qh (Bgo HB.o (Bdrew (B0 _)))
 have HSZ:=qh HR.o.lt
 refine wp_region_held_drew (S:=(fun w'=>(w'.cell? ⟨w.heap.size,0,none⟩=some (.int .i64 t)/\w'.cell? ⟨w.heap.size,1,none⟩=some (.int .i64 q)/\w'.cell? ⟨w.heap.size,2,none⟩=some (.int .i64 s)))) qr ?_ (fun hHeld=>?_)
 ·(try dsimp only)
  exact HC.o.three
 refine tkz 0 ?_
 refine tkz 1 ?_
 refine tkz 2 ?_
 refine tkz 3 ?_
 refine tkz 5 ?_
 have c0:=HXK.o _ HG.o
 refine rdz 4 fun K hK=>?_
 go_simp
 skip
 refine qk ?_ (fun hHeld=>?_)
 ·first|exact HC.o.three|exact hHeld
 clear hK K
 refine rdz 6 fun K hK=>?_
 go_simp
 clear c0
 refine(qJC t q s p _ (Z k) hn6 _ (HL.o _ HB.o)).mono ?_
 rintro e w9 ⟨u1,u2,rfl,ho1,ho2,hb⟩
 have HO1:=qh ho1
 have HO2:=qh ho2
 replace HC:=qh (HC.o.keep hb)
 replace HG:=qh (HG.o.keep hb)
 replace HR:=qh (HR.o.keep hb)
 replace HB:=qh (Bgo HB.o hb)
 clear hb ho1 ho2
 refine qk ?_ (fun hHeld=>?_)
 ·first|exact HC.o.three|exact hHeld
 clear hK K
 refine tkz 7 ?_
 refine tkz 8 ?_
 refine tkz 9 ?_
 refine tkz 10 ?_
 refine rdz 11 fun K hK=>?_
 obtain⟨A2,c2,hu2⟩:=qKK HO2.o
 subst hu2
 obtain⟨m,hm⟩:∃ m,((Z k).filter (fun b => !onPg t q s p b)).length=m:=⟨_,rfl⟩
 have HM:=qh hm
 rw[hm] at HO2 ⊢
 clear hm
 have c0:=HXK.o _ HG.o
 have f0:=HG.o.thawed k
 go_simp
 have HCF:qH (Held (w9.setCell ⟨w.heap.size+1,k,none⟩ (.slice A2 m c2)) w.heap.size 23 #[.int .i64 t,.int .i64 q,.int .i64 s]):=qh (HC.o.far (p:=⟨w.heap.size+1,k,none⟩) (by show w.heap.size≠w.heap.size+1;omega) _)
 refine qk ?_ (fun hHeld=>?_)
 ·exact HCF.o.three
 clear hK K
 refine dnz ?_
 obtain⟨WF,hWF⟩:∃ WF,w9.setCell ⟨w.heap.size+1,k,none⟩ (.slice A2 m c2)=WF:=⟨_,rfl⟩
 have zz:Held (w9.setCell ⟨w.heap.size+1,k,none⟩ (.slice A2 m c2)) _ _ (pkC (updF U k ⟨A2,m,c2⟩)):=HG.o.putP hk ⟨A2,m,c2⟩
 have hBF:=Bput HB.o (p:=⟨w.heap.size+1,k,none⟩) (by show w.heap.size<=w.heap.size+1;omega) (.slice A2 m c2)
 have hR2:=HR.o.far (p:=⟨w.heap.size+1,k,none⟩) (by show w.heap.size+2≠w.heap.size+1;omega) (.slice A2 m c2)
 have hO2:(w9.setCell ⟨w.heap.size+1,k,none⟩ (.slice A2 m c2)).ownsRow (w.heap.size+3) 2 1 (.slice A2 m c2) m (lgVs ((Z k).filter (fun b => !onPg t q s p b))):=qWQ (qIX HO2.o HSZ.o) (fun j hj=>by
  have h1:=(HO2.o.lt j hj).1
  have h2:=HSZ.o
  rw[Below.heap_setCell _ _ _ _ (by show j≠w.heap.size+1;omega)])
 rw[hWF] at zz hBF hR2 hO2
 rw[hWF]
 clear hWF c0 f0 HG HR HB HO2 HCF
 have HG:=qh zz
 have HR:=qh hR2
 have HB:=qh hBF
 have HO:=qh hO2
 clear zz hBF hR2 hO2
 obtain⟨U2,hU2⟩:∃ U2,updF U k ⟨A2,m,c2⟩=U2:=⟨_,rfl⟩
 have HU2:=qh hU2
 rw[hU2] at HG
 clear hU2
 obtain⟨x0,x1,x2,x3,x4,x5,x6,x7,x8⟩:=HG.o.nineP
 obtain⟨z0,z1,z2,z3,z4,z5,z6,z7,z8⟩:=HR.o.nineP
 obtain⟨f0,f1,f2,f3,f4,f5,f6,f7,f8⟩:=HR.o.thawP
 go_wp2_with fail
 obtain⟨WF2,hWF⟩:∃ WF2,setP WF (w.heap.size+2) U2=WF2:=⟨_,rfl⟩
 have zz:=Held.setP HR.o U2
 have hBF:=qMg (g:=w.heap.size+2) HB.o qo U2
 have hOF:(setP WF (w.heap.size+2) U2).ownsRow (w.heap.size+3) 2 1 (.slice A2 m c2) m (lgVs ((Z k).filter (fun b => !onPg t q s p b))):=qWQ HO.o (fun j hj=>by
  have h1:=(HO.o.lt j hj).1
  rw[qDL qo])
 rw[hWF] at zz hBF hOF
 unfold setP at hWF
 rw[hWF]
 obtain⟨y0,y1,y2,y3,y4,y5,y6,y7,y8⟩:=zz.nineP
 clear x0 x1 x2 x3 x4 x5 x6 x7 x8 z0 z1 z2 z3 z4 z5 z6 z7 z8 f0 f1 f2 f3 f4 f5 f6 f7 f8
 refine bodyPost_ret (v := .agg (pkC U2)) (by simp[results,Tryz.results96,go_sem,y0,y1,y2,y3,y4,y5,y6,y7,y8]) rfl ⟨⟨A2,m,c2⟩,by rw[HU2.o],fun ad e=>by
  have e:A2=some ad:=e
  subst e
  have:=(hOF.lt ad.block (by unfold Value.ownBlock;rfl)).1
  omega,fun j hj=>?_,hBF⟩
 by_cases e:j=k
 ·subst e
  rw[qJN,qJN]
  exact qUL (base:=w.heap.size+3) (by rw[HM.o];exact hOF) (fun z hz=>HBD.o z (List.mem_filter.1 hz).1)
 ·rw[qR2 _ _ e,qR2 _ _ e]
  exact(HP.o j hj).below hBF
end
end Go.Proofs.YtjjfcaliippgpaaGreatDoor
