/-
  What (*small.hand).flush does: the slots of the pocket that are on the page of its last one are given back. Written by small/gen_flush.py.
-/
import Derived.Test.YtjjfcaliippgpaaGreatDoorW17
import Derived.Test.YtjjfcaliippgpaaGreatDoorW19
import Derived.Test.YtjjfcaliippgpaaGreatDoorW10
import Derived.Test.YtjjfcaliippgpaaGreatDoorW09
import Derived.Test.YtjjfcaliippgpaaGreatDoorW03
import Derived.Test.YtjjfcaliippgpaaGreatDoorW07
import Derived.Test.YtjjfcaliippgpaaGreatDoorW16
import Derived.Test.YtjjfcaliippgpaaGreatDoorW11
import Derived.Test.YtjjfcaliippgpaaGreatDoorW12
namespace Go.Proofs.YtjjfcaliippgpaaGreatDoor
theorem Ran {P Q:Prop}(kq:Q)(h:HQ Q->P:=by
 intro kq
 have:=Held.new (((w.alloc (.cells #[.int .i64 t,.int .i64 q,.int .i64 s] 23)).alloc (.cells (pkC U) 36)).alloc (.cells #[.slice none 0 0,.slice none 0 0,.slice none 0 0,.slice none 0 0,.slice none 0 0,.slice none 0 0,.slice none 0 0,.slice none 0 0,.slice none 0 0] 36)) 83 #[.pointer (some ⟨b,0,none⟩),.int .i64 t,.int .i64 q,.int .i64 s,(U 0).v,(U 1).v,(U 2).v,(U 3).v,(U 4).v,(U 5).v,(U 6).v,(U 7).v,(U 8).v]
 have e:(((w.alloc (.cells #[.int .i64 t,.int .i64 q,.int .i64 s] 23)).alloc (.cells (pkC U) 36)).alloc (.cells #[.slice none 0 0,.slice none 0 0,.slice none 0 0,.slice none 0 0,.slice none 0 0,.slice none 0 0,.slice none 0 0,.slice none 0 0,.slice none 0 0] 36)).heap.size=w.heap.size+3:=by simp
 rw[e] at this
 revert this e
 exact kq.o):P:=h ⟨kq⟩
end Go.Proofs.YtjjfcaliippgpaaGreatDoor
set_option linter.unusedVariables false
set_option linter.unusedSimpArgs false
set_option maxRecDepth 100000
set_option maxHeartbeats 25600000
namespace Go.Proofs.YtjjfcaliippgpaaGreatDoor
open Go.ChangeShapes Go.WideShapes Go.ChangeAt Go.RowKit Go.Maps
section
theorem qT6 {n:Nat}{K:Nat->Option Nat}{t q s:Int}{p x:Nat}:∀ (xs:List Nat) (st:Vst),gives n K t q s p (xs ++ [x]) st=giveS n K t q s p x (gives n K t q s p xs st)
 | [],st=>rfl
 | y :: r,st=>qT6 r (giveS n K t q s p y st)
theorem qAE {w:World}{base g n c:Nat}{l:List Int}(h:w.ownsRow base 2 1 (.slice (some ⟨g,0,none⟩) n c) n (lgVs l))(hl:l.length=n) :
  ∃ cs,Held w g 2 cs/\n<=c/\c<=9223372036854775807/\∀ (w:World),Held w g 2 cs->∀ i z,l[i]?=some z->w.cell? ⟨g,i,none⟩=some (.int .i64 z):=by
 rcases h.2 with ⟨h1,_⟩|⟨g',cap,cur,h1,hb,hg,hnc,hcm,hcs,ht⟩
 ·cases h1
 ·injection h1 with h1 h2 h3
  injection h1 with h1
  injection h1 with h1 _
  subst h1 h3
  refine⟨cur,hg,hnc,by unfold maxLen at hcm;omega,fun w' hh i z hz=>?_⟩
  have hi:i<l.length:=by
   exact MIf
  have e:cur[i]?=some (Value.int .i64 z):=by
   have h4:(cur.toList.take (n*1))[i]?=(lgVs l)[i]?:=by rw[ht]
   rw[List.getElem?_take,if_pos qo] at h4
   rw[<- Array.getElem?_toList,h4]
   unfold lgVs
   rw[List.getElem?_map,hz]
   rfl
  rw[hh.cell i,e]
structure FlOk (n:Nat) (K:Nat->Option Nat) (t q s:Int) (k:Int) (l:List Int) (a:Int) (p:Nat) (is:List Nat) (st:Vst):Prop where
 last:l.getLast?=some a
 few:l.length<=1000
 page:spotP t q s a=(p:Int)
 pg:p<=1024
 spot:∀ b∈l,spotB t q s b=true/\slotB t q s k (spotO t q s b)=true
 on:l.filter (onPg t q s (p:Int)) ≠ []
 len:is.length=(l.filter (onPg t q s (p:Int))).length
 slots:∀ (i:Nat) b,(l.filter (onPg t q s (p:Int)))[i]?=some b->spotP t q s b=(p:Int)/\∃ j:Nat,is[i]?=some j/\slotR t q s k (spotO t q s b)=(j:Int)/\j<32
 cls:∀ m:Nat,m<is.length->(∀ j,1<=j->j<=m->VOk n (gives n K t q s p (is.take j) st))->0<=(infoOf n K t q s p (gives n K t q s p (is.take m) st)).2.2.1/\(infoOf n K t q s p (gives n K t q s p (is.take m) st)).2.2.1<=8
section
variable {base b n : Nat} {wh : Bool} {K : Nat -> Option Nat} {st : Vst} {w w0 : World} {A Q G : Nat -> Prop} {g : Nat} {t q s : Int} {U : Nat -> Sl} {Z : Nat -> List Int}
theorem qDu (k:Int)(k0 : -9223372036854775808<=k)(k1:k<=9223372036854775807)(hn:lastP Z k=none)(hT:SlotsLaid w)(h:Hnd (vOb base b n wh K) w0 A Q G w g b t q s U Z st w) :
  Calls Tryz.prog 53 #[.pointer (some ⟨g,0,none⟩),.int .i64 k] w fun e w'=>e = .returned (.int .i64 0)/\Hnd (vOb base b n wh K) w0 A Q G w g b t q s U Z st w':=by
 have HN:=qh h
 have HT:=qh hT
 have HL:=qh hn
 clear h hT hn
 obtain⟨x0,x1,x2,x3⟩:=HN.o.held.hd4
 obtain⟨u0,u1,u2,u3,u4,u5,u6,u7,u8⟩:=HN.o.held.hdU
 go_enter Tryz.func53,Tryz.ntmps53
 go_wp2_with fail
 refine(qVc U Z k k0 k1 _ HT.o HN.o.p.pk).mono ?_
 rintro e w3 ⟨rfl,hb⟩
 rw[HL.o,show lastV none = .tuple #[.int .i64 0,.bool false] from rfl]
 replace HN:=qh (HN.o.keep hb)
 clear hb
 clear x0 x1 x2 x3 u0 u1 u2 u3 u4 u5 u6 u7 u8
 go_wp2
 go_ret
 exact⟨rfl,HN.o⟩

theorem qLx (hn:n<2^40)(hq:q<=1024)(k:Nat)(hk:k<9)(l:List Int)(hz:Z k=l)(a:Int)(p:Nat)(is:List Nat)(hfl:FlOk n K t q s (k:Int) l a p is st)(hT:SlotsLaid w0)(hA:¬ A 0)(h:Hnd (vOb base b n wh K) w0 A Q G w g b t q s U Z st w) :
  Calls Tryz.prog 53 #[.pointer (some ⟨g,0,none⟩),.int .i64 (k:Int)] w fun e w'=>e = .returned (.int .i64 (((l.filter (onPg t q s (p:Int))).length:Nat):Int))/\(∀ j,1<=j->j<=is.length->VOk n (gives n K t q s p (is.take j) st))/\∃ V,(∀ i,PB V (updF Z k (l.filter fun b => !onPg t q s (p:Int) b)) i->PB U Z i\/w.heap.size<=i) /\
   Hnd (vOb base b n wh K) w0 A Q G w g b t q s V (updF Z k (l.filter fun b => !onPg t q s (p:Int) b)) (gives n K t q s p is st) w':=by
 have HN:=qh h
 have HTL:=qh hT
 have HNA:=qh hA
 have HZ:=qh hz
 have HFL:=qh hfl
 have HPL:qH (∀ i,PB U Z i->i<w.heap.size):=qh (fun i hi=>hi.lt h.p.pk)
 have k0 : -9223372036854775808<=(k:Int):=qo
 have k1:(k:Int)<=9223372036854775807:=qo
 have HLP:qH (lastP Z (k:Int)=some a):=qh (by rw[qUw hk,hz];exact hfl.last)
 obtain⟨m,hm⟩:∃ m,(l.filter (onPg t q s (p:Int))).length=m:=⟨_,rfl⟩
 have hm1:1<=m:=by
  rcases Nat.eq_zero_or_pos m with h0|h0
  ·exact absurd (List.length_eq_zero_iff.1 (hm.trans h0)) hfl.on
  ·exact h0
 have hmf:m<=1000:=by rw[<- hm];exact Nat.le_trans (List.length_filter_le _ _) hfl.few
 have HIL:qH (is.length=m):=qh (hfl.len.trans hm)
 have HLO:=qh hm
 rw[hm]
 have hmem:a∈l:=by
  obtain⟨ys,hy⟩:=List.getLast?_eq_some_iff.1 hfl.last
  rw[hy];simp
 have hsa:=hfl.spot a hmem
 have hab : -9223372036854775808<=a/\a<=9223372036854775807:=by have:=qSv hsa.1;omega
 clear h hT hA hz hfl hm hmem
 obtain⟨x0,x1,x2,x3⟩:=HN.o.held.hd4
 obtain⟨u0,u1,u2,u3,u4,u5,u6,u7,u8⟩:=HN.o.held.hdU
 go_enter Tryz.func53,Tryz.ntmps53
 go_wp2_with fail
 refine(qVc U Z (k:Int) k0 k1 _ (HTL.o.at_ HNA.o HN.o.at_) HN.o.p.pk).mono ?_
 rintro e w2 ⟨rfl,hb⟩
 rw[HLP.o,show lastV (some a) = .tuple #[.int .i64 a,.bool true] from rfl]
 replace HN:=qh (HN.o.keep hb)
 clear hb
 clear x0 x1 x2 x3 u0 u1 u2 u3 u4 u5 u6 u7 u8
 obtain⟨x0,x1,x2,x3⟩:=HN.o.held.hd4
 obtain⟨u0,u1,u2,u3,u4,u5,u6,u7,u8⟩:=HN.o.held.hdU
 go_wp2_with fail
 refine(qHl k hk a hab.1 hab.2 hsa.1 hsa.2 _ (HTL.o.at_ HNA.o HN.o.at_) HN.o.held).mono ?_
 rintro e w3 ⟨rfl,hb⟩
 rw[HFL.o.page]
 obtain⟨sa,hsa'⟩:∃ sa,slotR t q s (k:Int) (spotO t q s a)=sa:=⟨_,rfl⟩
 rw[hsa']
 replace HN:=qh (HN.o.keep hb)
 clear hb hsa'
 clear x0 x1 x2 x3 u0 u1 u2 u3 u4 u5 u6 u7 u8
 go_wp2_with fail
 replace HN:=qh HN.o.drew
 refine wp_region_held_drew (S:=(fun w'=>(w'.cell? ⟨g,0,none⟩=some (.pointer (some ⟨b,0,none⟩))/\w'.cell? ⟨g,1,none⟩=some (.int .i64 t)/\w'.cell? ⟨g,2,none⟩=some (.int .i64 q)/\w'.cell? ⟨g,3,none⟩=some (.int .i64 s))/\(w'.cell? ⟨g,4,none⟩=some (U 0).v/\w'.cell? ⟨g,5,none⟩=some (U 1).v/\w'.cell? ⟨g,6,none⟩=some (U 2).v/\w'.cell? ⟨g,7,none⟩=some (U 3).v/\w'.cell? ⟨g,8,none⟩=some (U 4).v/\w'.cell? ⟨g,9,none⟩=some (U 5).v/\w'.cell? ⟨g,10,none⟩=some (U 6).v/\w'.cell? ⟨g,11,none⟩=some (U 7).v/\w'.cell? ⟨g,12,none⟩=some (U 8).v))) qr ?_ (fun hHeld=>?_)
 ·(try dsimp only)
  first|exact⟨HN.o.held.hd4,HN.o.held.hdU⟩|exact hHeld
 refine tkz 0 ?_
 refine tkz 1 ?_
 refine tkz 2 ?_
 refine tkz 3 ?_
 refine tkz 4 ?_
 refine tkz 5 ?_
 refine tkz 6 ?_
 refine tkz 7 ?_
 refine tkz 8 ?_
 refine tkz 9 ?_
 refine rdz 10 fun K hK=>?_
 go_simp
 refine(qLl t q s (p:Int) U Z k hk (by rw[HZ.o];have:=HFL.o.few;omega) _ (HTL.o.at_ HNA.o HN.o.at_) HN.o.p.pk).mono ?_
 rintro e w4 ⟨u,rfl,ho,hb⟩
 rw[HZ.o,HLO.o] at ho
 have HO:=qh ho
 have HBW:=qh hb
 have HN0:=qh HN.o.stay.1
 have HNM:=qh (fun (w4:World) (hb:Below _ _ w4) (g9:Nat) (h1:_<=g9) (h2:g9<w4.heap.size)=>HN.o.more (G':=fun j=>G j\/j=g9) hb (fun i x=>by
  rcases x with x|x
  ·exact .inl x
  ·subst x;exact .inr ⟨h1,h2⟩))
 replace HN:=qh (HN.o.keep hb)
 clear hb ho
 refine qk ?_ (fun hHeld=>?_)
 ·first|exact⟨HN.o.held.hd4,HN.o.held.hdU⟩|exact hHeld
 clear hK K
 refine tkz 11 ?_
 refine dnz ?_
 obtain⟨g9,c9,hu9,_⟩:=HO.o.form qo
 subst hu9
 obtain⟨cr,hcr,hcc1,hcc2,hcells⟩:=qAE HO.o HLO.o
 have HR:=qh hcr
 have HSC:=qh hcells
 have hg9:=(HO.o.lt g9 rfl).1
 have hg9b:=(HO.o.lt g9 rfl).2
 have HGW:qH (w.heap.size<=g9):=qh (Nat.le_trans HN0.o hg9)
 replace HN:=qh (HNM.o _ HBW.o g9 hg9 hg9b)
 clear hcr hcells HO hg9 hg9b HNM HBW HN0
 obtain⟨x0,x1,x2,x3⟩:=HN.o.held.hd4
 obtain⟨u0,u1,u2,u3,u4,u5,u6,u7,u8⟩:=HN.o.held.hdU
 go_wp2_with fail
 go_loopw [11,43] (fun _ u43 wr=>∃ i:Nat,i<=m/\u43 = .int .i64 (i:Int)/\qH (Hnd (vOb base b n wh K) w0 A Q (fun j=>G j\/j=g9) w g b t q s U Z (gives n K t q s p (is.take i) st) wr)/\qH (Held wr g9 2 cr)/\qH (∀ j,1<=j->j<=i->VOk n (gives n K t q s p (is.take j) st))) (fun _ u43 _=>m-(intOf u43).toNat)
 case atStart=>exact⟨0,qo,rfl,HN,HR,qh (fun j h1 h2=>absurd h2 qo)⟩
 case round =>
  clear HN HR x0 x1 x2 x3 u0 u1 u2 u3 u4 u5 u6 u7 u8
  obtain⟨i,hi,rfl,HN,HR,HVK⟩:=hrel
  by_cases hlt:i<m
  ·obtain⟨z,hz⟩:∃ z,(l.filter (onPg t q s (p:Int)))[i]?=some z:=⟨_,List.getElem?_eq_getElem (by rw[HLO.o];exact hlt)⟩
   obtain⟨hzp,j,hj,hzj,hj32⟩:=HFL.o.slots i z hz
   have hzs:=HFL.o.spot z (List.mem_filter.1 (List.mem_of_getElem? hz)).1
   have hzb : -9223372036854775808<=z/\z<=9223372036854775807:=by have:=qSv hzs.1;omega
   have hcl:=HFL.o.cls i (by rw[HIL.o];exact hlt) HVK.o
   have y0:=HSC.o _ HR.o i z hz
   have HGS:qH (gives n K t q s p (is.take (i+1)) st=giveS n K t q s p j (gives n K t q s p (is.take i) st)):=qh (by rw[List.take_add_one,hj];exact qT6 _ _)
   have HZP:=qh hzp
   have HZJ:=qh hzj
   have HPG:=qh HFL.o.pg
   generalize gives n K t q s p (is.take i) st=sx at *
   clear hz hj hzp hzj
   go_wp2_with fail
   refine(qHl k hk z hzb.1 hzb.2 hzs.1 hzs.2 _ (HTL.o.at_ HNA.o HN.o.at_) HN.o.held).mono ?_
   rintro e w5 ⟨rfl,hb⟩
   rw[HZP.o,HZJ.o]
   replace HN:=qh (HN.o.keep hb)
   replace HR:=qh (HR.o.keep hb)
   clear hb y0
   go_wp2_with fail
   refine(qCN hn hq p j HPG.o hj32 HTL.o HNA.o hcl.1 hcl.2 HG.hand HN.o.held HN.o.at_).mono ?_
   rintro e w6 ⟨rfl,h1,h2⟩
   replace HR:=qh (h2.held (.inl (.inl (.inr rfl))) HR.o)
   replace HN:=qh (HN.o.call h1 h2)
   clear h1 h2
   rw[<- HGS.o] at HN
   have HOK:qH (VOk n (gives n K t q s p (is.take (i+1)) st)):=qh (by obtain⟨A',⟨o,hI,_⟩,_⟩:=HN.o.at_;exact hI.ok)
   go_wp2_with fail
   go_roundw
   case rel=>exact⟨i+1,qo,by go_num,HN,HR,qh (fun j h1 h2=>by
    by_cases e:j=i+1
    ·subst e;exact HOK.o
    ·exact HVK.o j h1 qo)⟩
   case measure=>simp[intOf];omega
  ·obtain rfl:i=m:=qo
   have HEI:qH (is.take i=is):=qh (List.take_of_length_le (by rw[HIL.o];exact Nat.le_refl _))
   rw[HEI.o] at HN
   generalize hsx:gives n K t q s p is st=sx at *
   obtain⟨x0,x1,x2,x3⟩:=HN.o.held.hd4
   obtain⟨u0,u1,u2,u3,u4,u5,u6,u7,u8⟩:=HN.o.held.hdU
   go_wp2_with fail
   replace HN:=qh HN.o.drew
   refine wp_region_held_drew (S:=(fun w'=>w'.cell? ⟨g,0,none⟩=some (.pointer (some ⟨b,0,none⟩))/\w'.cell? ⟨g,1,none⟩=some (.int .i64 t)/\w'.cell? ⟨g,2,none⟩=some (.int .i64 q)/\w'.cell? ⟨g,3,none⟩=some (.int .i64 s))) qr ?_ (fun hHeld=>?_)
   ·(try dsimp only)
    exact HN.o.held.hd4
   refine RLS ?_
   refine tkz 9 ?_
   refine tkz 10 ?_
   clear x0 x1 x2 x3 u0 u1 u2 u3 u4 u5 u6 u7 u8
   obtain⟨x0,x1,x2,x3⟩:=HN.o.held.hd4
   obtain⟨u0,u1,u2,u3,u4,u5,u6,u7,u8⟩:=HN.o.held.hdU
   refine rdz 8 fun K hK=>?_
   go_simp
   refine qk ?_ (fun hHeld=>?_)
   ·exact HN.o.held.hd4
   clear hK K
   refine rdz 11 fun K hK=>?_
   go_simp
   refine(qQJ t q s (p:Int) U Z k hk (by rw[HZ.o];have:=HFL.o.few;omega) _ (HTL.o.at_ HNA.o HN.o.at_) HN.o.p.pk).mono ?_
   rintro e w8 ⟨x,rfl,hx,hV,hb⟩
   rw[HZ.o] at hV
   have HNT:=qh (fun V (hv:updF U k x=V)=>by
    have:=HN.o.turn hb hV (fun i hi=>hi.turn_new hx)
    rw[hv] at this
    exact this)
   have HXX:=qh hx
   have HSW:=qh HN.o.stay.1
   replace HN:=qh (HN.o.keep hb)
   obtain⟨U2,hU2⟩:∃ U2,updF U k x=U2:=⟨_,rfl⟩
   have HU2:=qh hU2
   replace HNT:=qh (HNT.o U2 hU2)
   rw[hU2]
   clear hb hV hx hU2
   refine qk ?_ (fun hHeld=>?_)
   ·exact HN.o.held.hd4
   clear hK K
   refine tkz 12 ?_
   refine tkz 13 ?_
   clear x0 x1 x2 x3 u0 u1 u2 u3 u4 u5 u6 u7 u8
   obtain⟨x0,x1,x2,x3⟩:=HN.o.held.hd4
   obtain⟨u0,u1,u2,u3,u4,u5,u6,u7,u8⟩:=HN.o.held.hdU
   obtain⟨f0,f1,f2,f3,f4,f5,f6,f7,f8⟩:=HN.o.held.hdF
   refine rdz 14 fun K hK=>?_
   go_simp
   obtain⟨WF,hWF⟩:∃ WF,setH w8 g U2=WF:=⟨_,rfl⟩
   rw[hWF] at HNT
   unfold setH at hWF
   rw[hWF]
   clear hWF f0 f1 f2 f3 f4 f5 f6 f7 f8 x0 x1 x2 x3 u0 u1 u2 u3 u4 u5 u6 u7 u8
   refine qk ?_ (fun hHeld=>?_)
   ·exact HNT.o.held.hd4
   clear hK K
   refine dnz ?_
   go_wp2
   go_ret
   refine⟨rfl,fun j h1 h2=>HVK.o j h1 (by rw[<- HIL.o];exact h2),U2,fun i hi=>?_,by rw[hsx];exact HNT.o.less fun i x => .inl x⟩
   rw[<- HU2.o] at hi
   rcases hi.turn_new (w:=w) (fun ad e=>Nat.le_trans HSW.o (HXX.o ad e)) with h1|h1
   ·exact .inl h1
   ·exact .inr h1

end
end
section
theorem Hnd.make {O:Ob}{w w':World}{A G:Nat->Prop}{g b:Nat}{t q s:Int}{U:Nat->Sl}{Z:Nat->List Int}{st:Vst}(h:O.I w st A)(hp:PkV w U Z)(hf:∀ i,PB U Z i->¬ A i)(hb:Below w.heap.size w w')(hg:w.heap.size<=g)(hH:Held w' g 83 (hdC b t q s U))
  (hG:∀ i,G i->w.heap.size<=i/\i<w'.heap.size/\i≠g):Hnd O w A (PB U Z) G w' g b t q s U Z st w' :=
 ⟨(Pkt.start h hp hf).keep2 hb fun i x=>by
  rcases x with x|x
  ·exact .inr ⟨(hG i x).1,(hG i x).2.1⟩
  ·subst x;exact .inr ⟨hg,hH.lt⟩,hH,Stay.of_below (B0 _) _,fun x=>(hG g x).2.2 rfl,fun x=>by have:=x.lt hp;omega⟩
structure AlOk (n:Nat) (K:Nat->Option Nat) (t q s:Int) (k:Int) (l:List Int) (st:Vst):Prop where
 few:l.length<=1000
 spot:∀ a,l.getLast?=some a->spotB t q s a=true/\slotB t q s k (spotO t q s a)=true/\∃ p i:Nat,spotP t q s a=(p:Int)/\slotR t q s k (spotO t q s a)=(i:Int)/\i<32
 pick:∀ p m,(pickI n K t q s k 4 st).1=some (p,m)->1<=m.length/\m.length<=4/\∀ i∈m,i<32
def alV (x:Option (Int × List Int)):Int:=match x with
 | some (a,_)=>a
 | none=>0
def alZ (x:Option (Int × List Int)) (Z:Nat->List Int) (k:Int):Nat->List Int:=match x with
 | some (_,l)=>updF Z k.toNat l
 | none=>Z
def AlEnd (O:Ob) (w:World) (A:Nat->Prop) (n:Nat) (K:Nat->Option Nat) (t q s:Int) (k:Int) (U:Nat->Sl) (Z:Nat->List Int) (st:Vst) (e:Ending) (w':World):Prop :=
 ∃ V,e = .returned (.tuple #[.int .i64 (alV (allocI n K t q s k (Z k.toNat) st).1),.agg (pkC V),.bool (allocI n K t q s k (Z k.toNat) st).1.isSome]) /\
  PkLeft O w A (PB U Z) V (alZ (allocI n K t q s k (Z k.toNat) st).1 Z k) (allocI n K t q s k (Z k.toNat) st).2 w'/\(0<=k/\k<=8->Z k.toNat = []->VOk n (pickI n K t q s k 4 st).2)
theorem qBv (t q s k p i:Int) : -9223372036854775808<=atI t q s k p i/\atI t q s k p i<=9223372036854775807:=by
 unfold atI
 split
 ·rename_i h
  unfold atB at h
  rw[Bool.and_eq_true] at h
  have:=qNk h.2
  omega
 ·omega
theorem qWD {n:Nat}{K:Nat->Option Nat}{t q s:Int}{k:Nat}(hk:k<9){ys:List Int}{a:Int}{p i:Nat}{st:Vst}(hp:spotP t q s a=(p:Int))(hi:slotR t q s (k:Int) (spotO t q s a)=(i:Int)) :
  allocI n K t q s (k:Int) (ys ++ [a]) st=(some (a,ys),onS n K t q s (p:Int).toNat i st):=by
 unfold allocI
 rw[if_neg qo,show (ys ++ [a]).getLast?=some a by simp]
 simp only[hp,hi,Int.toNat_natCast]
 rw[show (ys ++ [a]).dropLast=ys by simp]
section
variable {base b n : Nat} {wh : Bool} {K : Nat -> Option Nat} {st : Vst} {w : World} {A : Nat -> Prop} {t q s : Int} {U : Nat -> Sl} {Z : Nat -> List Int}

theorem Stay.mk_ {w w':World}(hz:w.heap.size<=w'.heap.size)(G:Nat->Prop)(h:∀ j,G j->w.heap.size<=j):Stay G w w':=⟨hz,fun j hj hl=>by have:=h j hj;omega⟩
theorem Hnd.putP {O:Ob}{w0 ws w:World}{A Q G:Nat->Prop}{g b:Nat}{t q s:Int}{U:Nat->Sl}{Z:Nat->List Int}{st:Vst}(h:Hnd O w0 A Q G ws g b t q s U Z st w){i:Nat}(hi:G i)(hn:¬ PB U Z i)(V:Nat->Sl):Hnd O w0 A Q G w0 g b t q s U Z st (setP w i V):=by
 have hz:=h.p.at_.size
 have hio:=(h.p.own (.inl hi)).1
 have h:=Hnd.mk h.p h.held (Stay.mk_ hz G (fun j hj=>by have:=(h.p.own (.inl hj)).1;omega)) h.ng h.npb
 exact((((((((h.put hi hn hio 0 _).put hi hn hio 1 _).put hi hn hio 2 _).put hi hn hio 3 _).put hi hn hio 4 _).put hi hn hio 5 _).put hi hn hio 6 _).put hi hn hio 7 _).put hi hn hio 8 _

theorem qPV (hn:n<2^40)(k:Nat)(hk:k<9)(ys:List Int)(a:Int)(hz:Z k=ys ++ [a])(h4:ys.length<=1000000)(hs:spotB t q s a=true)(hr:slotB t q s (k:Int) (spotO t q s a)=true)(p i:Nat)(hp:spotP t q s a=(p:Int))(hi:slotR t q s (k:Int) (spotO t q s a)=(i:Int))(hi32:i<32)(hT:SlotsLaid w)(hA:¬ A 0)(hP:PkV w U Z)(hF:∀ i,PB U Z i->¬ A i)(h:(vOb base b n wh K).I w st A) :
  Calls Tryz.prog 11 #[.pointer (some ⟨b,0,none⟩),.agg #[.int .i64 t,.int .i64 q,.int .i64 s],.agg (pkC U),.int .i64 (k:Int)] w fun e w'=>∃ V,e = .returned (.tuple #[.int .i64 a,.agg (pkC V),.bool true])/\PkLeft (vOb base b n wh K) w A (PB U Z) V (updF Z k ys) (onS n K t q s p i st) w':=by
 have HBA:=qh (Bnew (Bnew (Bnew (Bnew (B0 w) (.cells #[.int .i64 t,.int .i64 q,.int .i64 s] 23)) (.cells (pkC U) 36)) (.cells #[.slice none 0 0,.slice none 0 0,.slice none 0 0,.slice none 0 0,.slice none 0 0,.slice none 0 0,.slice none 0 0,.slice none 0 0,.slice none 0 0] 36)) (.cells #[.pointer (some ⟨b,0,none⟩),.int .i64 t,.int .i64 q,.int .i64 s,(U 0).v,(U 1).v,(U 2).v,(U 3).v,(U 4).v,(U 5).v,(U 6).v,(U 7).v,(U 8).v] 83))
 have HC0:=qh ((Held.new w 23 #[.int .i64 t,.int .i64 q,.int .i64 s]).alloc (.cells (pkC U) 36))
 have HPB:=qh (((Held.new2 w (.cells #[.int .i64 t,.int .i64 q,.int .i64 s] 23) 36 (pkC U)).alloc (.cells #[.slice none 0 0,.slice none 0 0,.slice none 0 0,.slice none 0 0,.slice none 0 0,.slice none 0 0,.slice none 0 0,.slice none 0 0,.slice none 0 0] 36)).alloc (.cells #[.pointer (some ⟨b,0,none⟩),.int .i64 t,.int .i64 q,.int .i64 s,(U 0).v,(U 1).v,(U 2).v,(U 3).v,(U 4).v,(U 5).v,(U 6).v,(U 7).v,(U 8).v] 83))
 have HP0:=qh ((Held.new2 w (.cells #[.int .i64 t,.int .i64 q,.int .i64 s] 23) 36 (pkC U)).alloc (.cells #[.slice none 0 0,.slice none 0 0,.slice none 0 0,.slice none 0 0,.slice none 0 0,.slice none 0 0,.slice none 0 0,.slice none 0 0,.slice none 0 0] 36))
 have HRB:qH (Held ((((w.alloc (.cells #[.int .i64 t,.int .i64 q,.int .i64 s] 23)).alloc (.cells (pkC U) 36)).alloc (.cells #[.slice none 0 0,.slice none 0 0,.slice none 0 0,.slice none 0 0,.slice none 0 0,.slice none 0 0,.slice none 0 0,.slice none 0 0,.slice none 0 0] 36)).alloc (.cells #[.pointer (some ⟨b,0,none⟩),.int .i64 t,.int .i64 q,.int .i64 s,(U 0).v,(U 1).v,(U 2).v,(U 3).v,(U 4).v,(U 5).v,(U 6).v,(U 7).v,(U 8).v] 83)) (w.heap.size+2) 36 (pkC zeroU)):=qh ((show Held (((w.alloc (.cells #[.int .i64 t,.int .i64 q,.int .i64 s] 23)).alloc (.cells (pkC U) 36)).alloc (.cells #[.slice none 0 0,.slice none 0 0,.slice none 0 0,.slice none 0 0,.slice none 0 0,.slice none 0 0,.slice none 0 0,.slice none 0 0,.slice none 0 0] 36)) (w.heap.size+2) 36 (pkC zeroU) from by
  refine R2l ?_;intro this e
  exact this).alloc (.cells #[.pointer (some ⟨b,0,none⟩),.int .i64 t,.int .i64 q,.int .i64 s,(U 0).v,(U 1).v,(U 2).v,(U 3).v,(U 4).v,(U 5).v,(U 6).v,(U 7).v,(U 8).v] 83))
 have HHD:qH (Held ((((w.alloc (.cells #[.int .i64 t,.int .i64 q,.int .i64 s] 23)).alloc (.cells (pkC U) 36)).alloc (.cells #[.slice none 0 0,.slice none 0 0,.slice none 0 0,.slice none 0 0,.slice none 0 0,.slice none 0 0,.slice none 0 0,.slice none 0 0,.slice none 0 0] 36)).alloc (.cells #[.pointer (some ⟨b,0,none⟩),.int .i64 t,.int .i64 q,.int .i64 s,(U 0).v,(U 1).v,(U 2).v,(U 3).v,(U 4).v,(U 5).v,(U 6).v,(U 7).v,(U 8).v] 83)) (w.heap.size+3) 83 (hdC b t q s U)):=qh (by
  refine Ran ?_;intro this e
  exact this)
 have HSZ:qH (((((w.alloc (.cells #[.int .i64 t,.int .i64 q,.int .i64 s] 23)).alloc (.cells (pkC U) 36)).alloc (.cells #[.slice none 0 0,.slice none 0 0,.slice none 0 0,.slice none 0 0,.slice none 0 0,.slice none 0 0,.slice none 0 0,.slice none 0 0,.slice none 0 0] 36)).alloc (.cells #[.pointer (some ⟨b,0,none⟩),.int .i64 t,.int .i64 q,.int .i64 s,(U 0).v,(U 1).v,(U 2).v,(U 3).v,(U 4).v,(U 5).v,(U 6).v,(U 7).v,(U 8).v] 83)).heap.size=w.heap.size+4):=qh (by simp)
 have HN:=qh (Hnd.make (G:=fun i=>i=w.heap.size+1\/i=w.heap.size+2) (t:=t) (q:=q) (s:=s) h hP hF HBA.o (by omega:w.heap.size<=w.heap.size+3) HHD.o (fun i x=>by
  have:=HSZ.o
  rcases x with x|x <;> omega))
 have HPL:qH (∀ i,PB U Z i->i<w.heap.size):=qh (fun i hi=>hi.lt hP)
 have HTL:=qh hT
 have HNA:=qh hA
 obtain⟨cc0,cc1,cc2⟩:=(HC0.o.alloc (.cells #[.slice none 0 0,.slice none 0 0,.slice none 0 0,.slice none 0 0,.slice none 0 0,.slice none 0 0,.slice none 0 0,.slice none 0 0,.slice none 0 0] 36)).three
 obtain⟨p0,p1,p2,p3,p4,p5,p6,p7,p8⟩:=HP0.o.nineP
 go_enter Tryz.func11,Tryz.ntmps11
 go_wp2_with fail
 generalize hW4:((((w.alloc (.cells #[.int .i64 t,.int .i64 q,.int .i64 s] 23)).alloc (.cells (pkC U) 36)).alloc (.cells #[.slice none 0 0,.slice none 0 0,.slice none 0 0,.slice none 0 0,.slice none 0 0,.slice none 0 0,.slice none 0 0,.slice none 0 0,.slice none 0 0] 36)).alloc (.cells #[.pointer (some ⟨b,0,none⟩),.int .i64 t,.int .i64 q,.int .i64 s,(U 0).v,(U 1).v,(U 2).v,(U 3).v,(U 4).v,(U 5).v,(U 6).v,(U 7).v,(U 8).v] 83))=W4 at *
 clear hW4 HHD HC0 HP0
 refine(qLk hn k hk ys a hz h4 hs hr (p:Int) i hp hi hi32 HTL.o HNA.o HN.o).mono ?_
 rintro e w5 ⟨rfl,x,hx,hn⟩
 have HPV:qH (∀ i,PB (updF U k x) (updF Z k ys) i->i<w.heap.size\/w.heap.size+4<=i):=qh (fun i hi=>by
  have:=HSZ.o
  rcases hi.turn_new (w:=W4) hx with h1|h1
  ·exact .inl (HPL.o i h1)
  ·exact .inr qo)
 obtain⟨V,hV⟩:∃ V,updF U k x=V:=⟨_,rfl⟩
 rw[hV] at hn HPV
 have HPB:=qh (hn.stay.held (.inl rfl) HPB.o)
 have HRB:=qh (hn.stay.held (.inr rfl) HRB.o)
 replace HN:=qh (HN.o.then_ hn)
 clear hn
 clear hV hx
 go_wp2_with fail
 refine(qP9 hn HG.hand HN.o.held HN.o.at_).mono ?_
 rintro e w7 ⟨rfl,h1,h2⟩
 replace HRB:=qh (h2.held (.inl (.inl (.inr rfl))) HRB.o)
 replace HN:=qh (HN.o.call h1 h2)
 clear h1 h2
 obtain⟨c0,c1,c2,c3⟩:=HN.o.held.hd4
 obtain⟨u0,u1,u2,u3,u4,u5,u6,u7,u8⟩:=HN.o.held.hdU
 obtain⟨z0,z1,z2,z3,z4,z5,z6,z7,z8⟩:=HRB.o.nineP
 obtain⟨f0,f1,f2,f3,f4,f5,f6,f7,f8⟩:=HRB.o.thawP
 go_wp2_with fail
 go_region
 obtain⟨WF,hWF⟩:∃ WF,setP w7 (w.heap.size+2) V=WF:=⟨_,rfl⟩
 have zz:=qh (Held.setP HRB.o V)
 have HNF:=qh (HN.o.putP (i:=w.heap.size+2) (.inr rfl) (fun x=>by have:=HPV.o _ x;omega) V)
 rw[hWF] at zz HNF
 unfold setP at hWF
 rw[hWF]
 replace zz:=qh (zz.o.keep (Bdrew (B0 _)))
 replace HNF:=qh HNF.o.drew
 obtain⟨y0,y1,y2,y3,y4,y5,y6,y7,y8⟩:=zz.o.nineP
 clear c0 c1 c2 c3 u0 u1 u2 u3 u4 u5 u6 u7 u8 z0 z1 z2 z3 z4 z5 z6 z7 z8 f0 f1 f2 f3 f4 f5 f6 f7 f8 HN HRB hWF
 go_wp2
 refine bodyPost_ret (v := .tuple #[.int .i64 a,.agg (pkC V),.bool true]) (by simp[results,Tryz.results11,go_sem,y0,y1,y2,y3,y4,y5,y6,y7,y8]) rfl ?_
 exact⟨V,rfl,HNF.o.p.fin⟩

theorem qAd (hn:n<2^40)(hq:q<=1024)(k:Nat)(hk:k<9)(s2:Vst)(p:Nat)(l:List Nat)(hx:pickI n K t q s (k:Int) 4 st=(some (p,l),s2))(nl:Nat)(hl:l.length=nl)(hl1:1<=nl)(hl4:nl<=4)(hl32:∀ i,i<nl->l.getD i 0<32)(hZ:Z k = [])(hT:SlotsLaid w)(hA:¬ A 0)(hP:PkV w U Z)(hF:∀ i,PB U Z i->¬ A i)(h:(vOb base b n wh K).I w st A) :
  Calls Tryz.prog 11 #[.pointer (some ⟨b,0,none⟩),.agg #[.int .i64 t,.int .i64 q,.int .i64 s],.agg (pkC U),.int .i64 (k:Int)] w fun e w'=>∃ V,e = .returned (.tuple #[.int .i64 (atI t q s (k:Int) (p:Int) ((l.getD 0 0:Nat):Int)),.agg (pkC V),.bool true])/\PkLeft (vOb base b n wh K) w A (PB U Z) V (updF Z k ((l.drop 1).reverse.map fun (i:Nat)=>atI t q s (k:Int) (p:Int) (i:Int))) (onS n K t q s p (l.getD 0 0) s2) w'/\VOk n s2:=by
 have hk0 : -9223372036854775808<=(k:Int):=qo
 have hk1:(k:Int)<=9223372036854775807:=qo
 have HLP:qH (lastP Z (k:Int)=none):=qh (by rw[qUw hk,hZ];rfl)
 have HBA:=qh (Bnew (Bnew (Bnew (Bnew (B0 w) (.cells #[.int .i64 t,.int .i64 q,.int .i64 s] 23)) (.cells (pkC U) 36)) (.cells #[.slice none 0 0,.slice none 0 0,.slice none 0 0,.slice none 0 0,.slice none 0 0,.slice none 0 0,.slice none 0 0,.slice none 0 0,.slice none 0 0] 36)) (.cells #[.pointer (some ⟨b,0,none⟩),.int .i64 t,.int .i64 q,.int .i64 s,(U 0).v,(U 1).v,(U 2).v,(U 3).v,(U 4).v,(U 5).v,(U 6).v,(U 7).v,(U 8).v] 83))
 have HC0:=qh ((Held.new w 23 #[.int .i64 t,.int .i64 q,.int .i64 s]).alloc (.cells (pkC U) 36))
 have HPB:=qh (((Held.new2 w (.cells #[.int .i64 t,.int .i64 q,.int .i64 s] 23) 36 (pkC U)).alloc (.cells #[.slice none 0 0,.slice none 0 0,.slice none 0 0,.slice none 0 0,.slice none 0 0,.slice none 0 0,.slice none 0 0,.slice none 0 0,.slice none 0 0] 36)).alloc (.cells #[.pointer (some ⟨b,0,none⟩),.int .i64 t,.int .i64 q,.int .i64 s,(U 0).v,(U 1).v,(U 2).v,(U 3).v,(U 4).v,(U 5).v,(U 6).v,(U 7).v,(U 8).v] 83))
 have HP0:=qh ((Held.new2 w (.cells #[.int .i64 t,.int .i64 q,.int .i64 s] 23) 36 (pkC U)).alloc (.cells #[.slice none 0 0,.slice none 0 0,.slice none 0 0,.slice none 0 0,.slice none 0 0,.slice none 0 0,.slice none 0 0,.slice none 0 0,.slice none 0 0] 36))
 have HRB:qH (Held ((((w.alloc (.cells #[.int .i64 t,.int .i64 q,.int .i64 s] 23)).alloc (.cells (pkC U) 36)).alloc (.cells #[.slice none 0 0,.slice none 0 0,.slice none 0 0,.slice none 0 0,.slice none 0 0,.slice none 0 0,.slice none 0 0,.slice none 0 0,.slice none 0 0] 36)).alloc (.cells #[.pointer (some ⟨b,0,none⟩),.int .i64 t,.int .i64 q,.int .i64 s,(U 0).v,(U 1).v,(U 2).v,(U 3).v,(U 4).v,(U 5).v,(U 6).v,(U 7).v,(U 8).v] 83)) (w.heap.size+2) 36 (pkC zeroU)):=qh ((show Held (((w.alloc (.cells #[.int .i64 t,.int .i64 q,.int .i64 s] 23)).alloc (.cells (pkC U) 36)).alloc (.cells #[.slice none 0 0,.slice none 0 0,.slice none 0 0,.slice none 0 0,.slice none 0 0,.slice none 0 0,.slice none 0 0,.slice none 0 0,.slice none 0 0] 36)) (w.heap.size+2) 36 (pkC zeroU) from by
  refine R2l ?_;intro this e
  exact this).alloc (.cells #[.pointer (some ⟨b,0,none⟩),.int .i64 t,.int .i64 q,.int .i64 s,(U 0).v,(U 1).v,(U 2).v,(U 3).v,(U 4).v,(U 5).v,(U 6).v,(U 7).v,(U 8).v] 83))
 have HHD:qH (Held ((((w.alloc (.cells #[.int .i64 t,.int .i64 q,.int .i64 s] 23)).alloc (.cells (pkC U) 36)).alloc (.cells #[.slice none 0 0,.slice none 0 0,.slice none 0 0,.slice none 0 0,.slice none 0 0,.slice none 0 0,.slice none 0 0,.slice none 0 0,.slice none 0 0] 36)).alloc (.cells #[.pointer (some ⟨b,0,none⟩),.int .i64 t,.int .i64 q,.int .i64 s,(U 0).v,(U 1).v,(U 2).v,(U 3).v,(U 4).v,(U 5).v,(U 6).v,(U 7).v,(U 8).v] 83)) (w.heap.size+3) 83 (hdC b t q s U)):=qh (by
  refine Ran ?_;intro this e
  exact this)
 have HSZ:qH (((((w.alloc (.cells #[.int .i64 t,.int .i64 q,.int .i64 s] 23)).alloc (.cells (pkC U) 36)).alloc (.cells #[.slice none 0 0,.slice none 0 0,.slice none 0 0,.slice none 0 0,.slice none 0 0,.slice none 0 0,.slice none 0 0,.slice none 0 0,.slice none 0 0] 36)).alloc (.cells #[.pointer (some ⟨b,0,none⟩),.int .i64 t,.int .i64 q,.int .i64 s,(U 0).v,(U 1).v,(U 2).v,(U 3).v,(U 4).v,(U 5).v,(U 6).v,(U 7).v,(U 8).v] 83)).heap.size=w.heap.size+4):=qh (by simp)
 have HN:=qh (Hnd.make (G:=fun i=>i=w.heap.size+1\/i=w.heap.size+2) (t:=t) (q:=q) (s:=s) h hP hF HBA.o (by omega:w.heap.size<=w.heap.size+3) HHD.o (fun i x=>by
  have:=HSZ.o
  rcases x with x|x <;> omega))
 have HPL:qH (∀ i,PB U Z i->i<w.heap.size):=qh (fun i hi=>hi.lt hP)
 have HTL:=qh hT
 have HNA:=qh hA
 obtain⟨cc0,cc1,cc2⟩:=(HC0.o.alloc (.cells #[.slice none 0 0,.slice none 0 0,.slice none 0 0,.slice none 0 0,.slice none 0 0,.slice none 0 0,.slice none 0 0,.slice none 0 0,.slice none 0 0] 36)).three
 obtain⟨p0,p1,p2,p3,p4,p5,p6,p7,p8⟩:=HP0.o.nineP
 go_enter Tryz.func11,Tryz.ntmps11
 go_wp2_with fail
 generalize hW4:((((w.alloc (.cells #[.int .i64 t,.int .i64 q,.int .i64 s] 23)).alloc (.cells (pkC U) 36)).alloc (.cells #[.slice none 0 0,.slice none 0 0,.slice none 0 0,.slice none 0 0,.slice none 0 0,.slice none 0 0,.slice none 0 0,.slice none 0 0,.slice none 0 0] 36)).alloc (.cells #[.pointer (some ⟨b,0,none⟩),.int .i64 t,.int .i64 q,.int .i64 s,(U 0).v,(U 1).v,(U 2).v,(U 3).v,(U 4).v,(U 5).v,(U 6).v,(U 7).v,(U 8).v] 83))=W4 at *
 clear hW4 HHD HC0 HP0
 refine(qJY (k:Int) hk0 hk1 HLP.o (HTL.o.at_ HNA.o HN.o.at_) HN.o).mono ?_
 rintro e w5 ⟨rfl,hn⟩
 have HS5:=qh hn.stay.1
 have HPB:=qh (hn.stay.held (.inl rfl) HPB.o)
 have HRB:=qh (hn.stay.held (.inr rfl) HRB.o)
 replace HN:=qh (HN.o.then_ hn)
 clear hn
 go_wp2_with fail
 refine(qSn hn hq k hk s2 p l ((qDo qo qo qo qo:pickZ n K t q s (k:Int) ((4:Nat):Int) st=_).trans hx) nl hl hl1 hl4 hl32 hZ (fun i=>atI t q s (k:Int) (p:Int) (i:Int)) (fun i hi=>rfl) (fun i hi=>qBv _ _ _ _ _ _) HTL.o HNA.o HN.o.begin_).mono ?_
 rintro e w6 ⟨rfl,hok,V,hVn,hn⟩
 have HOK:=qh hok
 have HPV:qH (∀ i,PB V (updF Z k ((l.drop 1).reverse.map fun (i:Nat)=>atI t q s (k:Int) (p:Int) (i:Int))) i->i<w.heap.size\/w.heap.size+4<=i):=qh (fun i hi=>by
  have:=HSZ.o
  have:=HS5.o
  rcases hVn i hi with h1|h1
  ·exact .inl (HPL.o i h1)
  ·exact .inr qo)
 have HPB:=qh (hn.stay.held (.inl rfl) HPB.o)
 have HRB:=qh (hn.stay.held (.inr rfl) HRB.o)
 replace HN:=qh (HN.o.then_ hn)
 clear hn
 clear hVn hok
 go_wp2_with fail
 refine(qP9 hn HG.hand HN.o.held HN.o.at_).mono ?_
 rintro e w7 ⟨rfl,h1,h2⟩
 replace HRB:=qh (h2.held (.inl (.inl (.inr rfl))) HRB.o)
 replace HN:=qh (HN.o.call h1 h2)
 clear h1 h2
 obtain⟨c0,c1,c2,c3⟩:=HN.o.held.hd4
 obtain⟨u0,u1,u2,u3,u4,u5,u6,u7,u8⟩:=HN.o.held.hdU
 obtain⟨z0,z1,z2,z3,z4,z5,z6,z7,z8⟩:=HRB.o.nineP
 obtain⟨f0,f1,f2,f3,f4,f5,f6,f7,f8⟩:=HRB.o.thawP
 go_wp2_with fail
 go_region
 obtain⟨WF,hWF⟩:∃ WF,setP w7 (w.heap.size+2) V=WF:=⟨_,rfl⟩
 have zz:=qh (Held.setP HRB.o V)
 have HNF:=qh (HN.o.putP (i:=w.heap.size+2) (.inr rfl) (fun x=>by have:=HPV.o _ x;omega) V)
 rw[hWF] at zz HNF
 unfold setP at hWF
 rw[hWF]
 replace zz:=qh (zz.o.keep (Bdrew (B0 _)))
 replace HNF:=qh HNF.o.drew
 obtain⟨y0,y1,y2,y3,y4,y5,y6,y7,y8⟩:=zz.o.nineP
 clear c0 c1 c2 c3 u0 u1 u2 u3 u4 u5 u6 u7 u8 z0 z1 z2 z3 z4 z5 z6 z7 z8 f0 f1 f2 f3 f4 f5 f6 f7 f8 HN HRB hWF
 go_wp2
 refine bodyPost_ret (v := .tuple #[.int .i64 (atI t q s (k:Int) (p:Int) ((l.getD 0 0:Nat):Int)),.agg (pkC V),.bool true]) (by simp[results,Tryz.results11,go_sem,y0,y1,y2,y3,y4,y5,y6,y7,y8]) rfl ?_
 exact⟨V,rfl,HNF.o.p.fin,HOK.o⟩
theorem qFb (hn:n<2^40)(hq:q<=1024)(k:Int)(hk0 : -9223372036854775808<=k)(hk1:k<=9223372036854775807)(s2:Vst)(hx:pickZ n K t q s k 4 st=(none,s2))(hl:lastP Z k=none)(hT:SlotsLaid w)(hA:¬ A 0)(hP:PkV w U Z)(hF:∀ i,PB U Z i->¬ A i)(h:(vOb base b n wh K).I w st A) :
  Calls Tryz.prog 11 #[.pointer (some ⟨b,0,none⟩),.agg #[.int .i64 t,.int .i64 q,.int .i64 s],.agg (pkC U),.int .i64 k] w fun e w'=>e = .returned (.tuple #[.int .i64 0,.agg (pkC U),.bool false])/\PkLeft (vOb base b n wh K) w A (PB U Z) U Z s2 w':=by
 have HLP:=qh hl
 have HBA:=qh (Bnew (Bnew (Bnew (Bnew (B0 w) (.cells #[.int .i64 t,.int .i64 q,.int .i64 s] 23)) (.cells (pkC U) 36)) (.cells #[.slice none 0 0,.slice none 0 0,.slice none 0 0,.slice none 0 0,.slice none 0 0,.slice none 0 0,.slice none 0 0,.slice none 0 0,.slice none 0 0] 36)) (.cells #[.pointer (some ⟨b,0,none⟩),.int .i64 t,.int .i64 q,.int .i64 s,(U 0).v,(U 1).v,(U 2).v,(U 3).v,(U 4).v,(U 5).v,(U 6).v,(U 7).v,(U 8).v] 83))
 have HC0:=qh ((Held.new w 23 #[.int .i64 t,.int .i64 q,.int .i64 s]).alloc (.cells (pkC U) 36))
 have HPB:=qh (((Held.new2 w (.cells #[.int .i64 t,.int .i64 q,.int .i64 s] 23) 36 (pkC U)).alloc (.cells #[.slice none 0 0,.slice none 0 0,.slice none 0 0,.slice none 0 0,.slice none 0 0,.slice none 0 0,.slice none 0 0,.slice none 0 0,.slice none 0 0] 36)).alloc (.cells #[.pointer (some ⟨b,0,none⟩),.int .i64 t,.int .i64 q,.int .i64 s,(U 0).v,(U 1).v,(U 2).v,(U 3).v,(U 4).v,(U 5).v,(U 6).v,(U 7).v,(U 8).v] 83))
 have HP0:=qh ((Held.new2 w (.cells #[.int .i64 t,.int .i64 q,.int .i64 s] 23) 36 (pkC U)).alloc (.cells #[.slice none 0 0,.slice none 0 0,.slice none 0 0,.slice none 0 0,.slice none 0 0,.slice none 0 0,.slice none 0 0,.slice none 0 0,.slice none 0 0] 36))
 have HRB:qH (Held ((((w.alloc (.cells #[.int .i64 t,.int .i64 q,.int .i64 s] 23)).alloc (.cells (pkC U) 36)).alloc (.cells #[.slice none 0 0,.slice none 0 0,.slice none 0 0,.slice none 0 0,.slice none 0 0,.slice none 0 0,.slice none 0 0,.slice none 0 0,.slice none 0 0] 36)).alloc (.cells #[.pointer (some ⟨b,0,none⟩),.int .i64 t,.int .i64 q,.int .i64 s,(U 0).v,(U 1).v,(U 2).v,(U 3).v,(U 4).v,(U 5).v,(U 6).v,(U 7).v,(U 8).v] 83)) (w.heap.size+2) 36 (pkC zeroU)):=qh ((show Held (((w.alloc (.cells #[.int .i64 t,.int .i64 q,.int .i64 s] 23)).alloc (.cells (pkC U) 36)).alloc (.cells #[.slice none 0 0,.slice none 0 0,.slice none 0 0,.slice none 0 0,.slice none 0 0,.slice none 0 0,.slice none 0 0,.slice none 0 0,.slice none 0 0] 36)) (w.heap.size+2) 36 (pkC zeroU) from by
  refine R2l ?_;intro this e
  exact this).alloc (.cells #[.pointer (some ⟨b,0,none⟩),.int .i64 t,.int .i64 q,.int .i64 s,(U 0).v,(U 1).v,(U 2).v,(U 3).v,(U 4).v,(U 5).v,(U 6).v,(U 7).v,(U 8).v] 83))
 have HHD:qH (Held ((((w.alloc (.cells #[.int .i64 t,.int .i64 q,.int .i64 s] 23)).alloc (.cells (pkC U) 36)).alloc (.cells #[.slice none 0 0,.slice none 0 0,.slice none 0 0,.slice none 0 0,.slice none 0 0,.slice none 0 0,.slice none 0 0,.slice none 0 0,.slice none 0 0] 36)).alloc (.cells #[.pointer (some ⟨b,0,none⟩),.int .i64 t,.int .i64 q,.int .i64 s,(U 0).v,(U 1).v,(U 2).v,(U 3).v,(U 4).v,(U 5).v,(U 6).v,(U 7).v,(U 8).v] 83)) (w.heap.size+3) 83 (hdC b t q s U)):=qh (by
  refine Ran ?_;intro this e
  exact this)
 have HSZ:qH (((((w.alloc (.cells #[.int .i64 t,.int .i64 q,.int .i64 s] 23)).alloc (.cells (pkC U) 36)).alloc (.cells #[.slice none 0 0,.slice none 0 0,.slice none 0 0,.slice none 0 0,.slice none 0 0,.slice none 0 0,.slice none 0 0,.slice none 0 0,.slice none 0 0] 36)).alloc (.cells #[.pointer (some ⟨b,0,none⟩),.int .i64 t,.int .i64 q,.int .i64 s,(U 0).v,(U 1).v,(U 2).v,(U 3).v,(U 4).v,(U 5).v,(U 6).v,(U 7).v,(U 8).v] 83)).heap.size=w.heap.size+4):=qh (by simp)
 have HN:=qh (Hnd.make (G:=fun i=>i=w.heap.size+1\/i=w.heap.size+2) (t:=t) (q:=q) (s:=s) h hP hF HBA.o (by omega:w.heap.size<=w.heap.size+3) HHD.o (fun i x=>by
  have:=HSZ.o
  rcases x with x|x <;> omega))
 have HPL:qH (∀ i,PB U Z i->i<w.heap.size):=qh (fun i hi=>hi.lt hP)
 have HTL:=qh hT
 have HNA:=qh hA
 obtain⟨cc0,cc1,cc2⟩:=(HC0.o.alloc (.cells #[.slice none 0 0,.slice none 0 0,.slice none 0 0,.slice none 0 0,.slice none 0 0,.slice none 0 0,.slice none 0 0,.slice none 0 0,.slice none 0 0] 36)).three
 obtain⟨p0,p1,p2,p3,p4,p5,p6,p7,p8⟩:=HP0.o.nineP
 go_enter Tryz.func11,Tryz.ntmps11
 go_wp2_with fail
 generalize hW4:((((w.alloc (.cells #[.int .i64 t,.int .i64 q,.int .i64 s] 23)).alloc (.cells (pkC U) 36)).alloc (.cells #[.slice none 0 0,.slice none 0 0,.slice none 0 0,.slice none 0 0,.slice none 0 0,.slice none 0 0,.slice none 0 0,.slice none 0 0,.slice none 0 0] 36)).alloc (.cells #[.pointer (some ⟨b,0,none⟩),.int .i64 t,.int .i64 q,.int .i64 s,(U 0).v,(U 1).v,(U 2).v,(U 3).v,(U 4).v,(U 5).v,(U 6).v,(U 7).v,(U 8).v] 83))=W4 at *
 clear hW4 HHD HC0 HP0
 refine(qJY k hk0 hk1 HLP.o (HTL.o.at_ HNA.o HN.o.at_) HN.o).mono ?_
 rintro e w5 ⟨rfl,hn⟩
 have HS5:=qh hn.stay.1
 have HPB:=qh (hn.stay.held (.inl rfl) HPB.o)
 have HRB:=qh (hn.stay.held (.inr rfl) HRB.o)
 replace HN:=qh (HN.o.then_ hn)
 clear hn
 go_wp2_with fail
 refine(qMq hn hq k hk0 hk1 s2 hx HTL.o HNA.o HN.o.begin_).mono ?_
 rintro e w6 ⟨rfl,hn⟩
 have HPB:=qh (hn.stay.held (.inl rfl) HPB.o)
 have HRB:=qh (hn.stay.held (.inr rfl) HRB.o)
 replace HN:=qh (HN.o.then_ hn)
 clear hn
 go_wp2_with fail
 obtain⟨p0,p1,p2,p3,p4,p5,p6,p7,p8⟩:=HPB.o.nineP
 obtain⟨z0,z1,z2,z3,z4,z5,z6,z7,z8⟩:=HRB.o.nineP
 obtain⟨f0,f1,f2,f3,f4,f5,f6,f7,f8⟩:=HRB.o.thawP
 go_wp2_with fail
 go_region
 obtain⟨WF,hWF⟩:∃ WF,setP w6 (w.heap.size+2) U=WF:=⟨_,rfl⟩
 have zz:=qh (Held.setP HRB.o U)
 have HNF:=qh (HN.o.putP (i:=w.heap.size+2) (.inr rfl) (fun x=>by have:=HPL.o _ x;omega) U)
 rw[hWF] at zz HNF
 unfold setP at hWF
 rw[hWF]
 replace zz:=qh (zz.o.keep (Bdrew (B0 _)))
 replace HNF:=qh HNF.o.drew
 obtain⟨y0,y1,y2,y3,y4,y5,y6,y7,y8⟩:=zz.o.nineP
 clear p0 p1 p2 p3 p4 p5 p6 p7 p8 z0 z1 z2 z3 z4 z5 z6 z7 z8 f0 f1 f2 f3 f4 f5 f6 f7 f8 HN HRB HPB hWF
 go_wp2
 refine bodyPost_ret (v := .tuple #[.int .i64 0,.agg (pkC U),.bool false]) (by simp[results,Tryz.results11,go_sem,y0,y1,y2,y3,y4,y5,y6,y7,y8]) rfl ?_
 exact⟨rfl,HNF.o.p.fin⟩
theorem qLs (hn:n<2^40)(hq:q<=1024)(k:Int)(hk0 : -9223372036854775808<=k)(hk1:k<=9223372036854775807)(hok:0<=k/\k<=8->AlOk n K t q s k (Z k.toNat) st)(hT:SlotsLaid w)(hA:¬ A 0)(hP:PkV w U Z)(hF:∀ i,PB U Z i->¬ A i)(h:(vOb base b n wh K).I w st A) :
  Calls Tryz.prog 11 #[.pointer (some ⟨b,0,none⟩),.agg #[.int .i64 t,.int .i64 q,.int .i64 s],.agg (pkC U),.int .i64 k] w (AlEnd (vOb base b n wh K) w A n K t q s k U Z st):=by
 by_cases hk:0<=k/\k<=8
 ·obtain⟨k,rfl⟩:=Int.eq_ofNat_of_zero_le hk.1
  have hk9:k<9:=qo
  have ok:=hok hk
  unfold AlEnd
  rw[Int.toNat_natCast] at ok ⊢
  rcases List.eq_nil_or_concat (Z k) with hz|⟨ys,a,hz⟩
  ·rw[hz] at ok
   have e1:allocI n K t q s (k:Int) [] st=(match (pickI n K t q s (k:Int) 4 st).1 with
    | some (p,m)=>(some (atI t q s (k:Int) (p:Int) ((m.getD 0 0:Nat):Int),(m.drop 1).reverse.map fun (i:Nat)=>atI t q s (k:Int) (p:Int) (i:Int)),onS n K t q s p (m.getD 0 0) (pickI n K t q s (k:Int) 4 st).2)
    | none=>(none,(pickI n K t q s (k:Int) 4 st).2)):=by
    unfold allocI
    rw[if_neg qo]
    rfl
   rw[hz,e1]
   obtain⟨⟨x,s2⟩,hx⟩:∃ y,pickI n K t q s (k:Int) 4 st=y:=⟨_,rfl⟩
   rw[hx]
   cases x with
   | none =>
    refine(qFb hn hq (k:Int) hk0 hk1 s2 ((qDo qo qo qo qo:pickZ n K t q s (k:Int) ((4:Nat):Int) st=_).trans hx) (by rw[qUw hk9,hz];rfl) hT hA hP hF h).mono ?_
    rintro e w' ⟨rfl,hl⟩
    have hv:VOk n s2:=by obtain⟨⟨A',⟨o,hI,_⟩,_⟩,_,_⟩:=hl;exact hI.ok
    exact⟨U,rfl,hl,fun _ _=>hv⟩
   | some y =>
    obtain⟨p,l⟩:=y
    obtain⟨g1,g2,g3⟩:=ok.pick p l (by rw[hx])
    refine(qAd hn hq k hk9 s2 p l hx l.length rfl g1 g2 (fun i hi=>by
     rw[show l.getD i 0=l[i]'hi by simp[List.getD,List.getElem?_eq_getElem hi]]
     exact g3 _ (List.getElem_mem _)) hz hT hA hP hF h).mono ?_
    rintro e w' ⟨V,rfl,hl,hv⟩
    exact⟨V,rfl,hl,fun _ _=>hv⟩
  ·rw[List.concat_eq_append] at hz
   obtain⟨g1,g2,p,i,g3,g4,g5⟩:=ok.spot a (by rw[hz];simp)
   rw[hz,qWD hk9 g3 g4]
   refine(qPV hn k hk9 ys a hz (by have:=ok.few;rw[hz,List.length_append] at this;omega) g1 g2 p i g3 g4 g5 hT hA hP hF h).mono ?_
   rintro e w' ⟨V,rfl,hl⟩
   refine⟨V,rfl,hl,fun _ hc=>?_⟩
   simp at hc
 ·have e1:allocI n K t q s k (Z k.toNat) st=(none,st):=by unfold allocI;rw[if_pos qo]
  unfold AlEnd
  rw[e1]
  refine(qFb hn hq k hk0 hk1 st (qKl (fun x=>hk x.1)) (qYq qo) hT hA hP hF h).mono ?_
  rintro e w' ⟨rfl,hl⟩
  exact⟨U,rfl,hl,fun x=>absurd x hk⟩

end
end
section
def flX (n:Nat) (K:Nat->Option Nat) (t q s:Int) (k:Int) (Z:Nat->List Int) (st:Vst):(Nat × (Nat->List Int)) × Vst :=
 if lastP Z k=none then ((0,Z),st) else (((flushI n K t q s k (Z k.toNat) st).1.1,updF Z k.toNat (flushI n K t q s k (Z k.toNat) st).1.2),(flushI n K t q s k (Z k.toNat) st).2)
def FlEnd (O:Ob) (w:World) (A:Nat->Prop) (n:Nat) (K:Nat->Option Nat) (t q s:Int) (k:Int) (U:Nat->Sl) (Z:Nat->List Int) (st:Vst) (e:Ending) (w':World):Prop :=
 ∃ V,e = .returned (.tuple #[.int .i64 (((flX n K t q s k Z st).1.1:Nat):Int),.agg (pkC V)])/\PkLeft O w A (PB U Z) V (flX n K t q s k Z st).1.2 (flX n K t q s k Z st).2 w' /\
  (∀ a,lastP Z k=some a->∀ j,1<=j->j<=((Z k.toNat).filter (onPg t q s (spotP t q s a))).length->VOk n (gives n K t q s (spotP t q s a).toNat ((((Z k.toNat).filter (onPg t q s (spotP t q s a))).map fun b=>(slotR t q s k (spotO t q s b)).toNat).take j) st))
def isF (t q s:Int) (k:Int) (l:List Int) (p:Nat):List Nat:=(l.filter (onPg t q s (p:Int))).map fun b=>(slotR t q s k (spotO t q s b)).toNat
theorem qSI {n:Nat}{K:Nat->Option Nat}{t q s:Int}{k:Nat}(hk:k<9){Z:Nat->List Int}{a:Int}{p:Nat}{st:Vst}(ha:(Z k).getLast?=some a)(hp:spotP t q s a=(p:Int)) :
  flX n K t q s (k:Int) Z st=((((Z k).filter (onPg t q s (p:Int))).length,updF Z k ((Z k).filter fun b => !onPg t q s (p:Int) b)),gives n K t q s p (isF t q s (k:Int) (Z k) p) st):=by
 unfold flX
 rw[qUw hk,ha,if_neg (by simp),Int.toNat_natCast]
 unfold flushI
 rw[ha]
 simp only[hp,Int.toNat_natCast]
 rfl
section
variable {base b n : Nat} {wh : Bool} {K : Nat -> Option Nat} {st : Vst} {w : World} {A : Nat -> Prop} {t q s : Int} {U : Nat -> Sl} {Z : Nat -> List Int}

theorem qIJ (hn:n<2^40)(k:Int)(hk0 : -9223372036854775808<=k)(hk1:k<=9223372036854775807)(hl:lastP Z k=none)(hT:SlotsLaid w)(hA:¬ A 0)(hP:PkV w U Z)(hF:∀ i,PB U Z i->¬ A i)(h:(vOb base b n wh K).I w st A) :
  Calls Tryz.prog 18 #[.pointer (some ⟨b,0,none⟩),.agg #[.int .i64 t,.int .i64 q,.int .i64 s],.agg (pkC U),.int .i64 k] w fun e w'=>e = .returned (.tuple #[.int .i64 0,.agg (pkC U)])/\PkLeft (vOb base b n wh K) w A (PB U Z) U Z st w':=by
 have HLP:=qh hl
 have HBA:=qh (Bnew (Bnew (Bnew (Bnew (B0 w) (.cells #[.int .i64 t,.int .i64 q,.int .i64 s] 23)) (.cells (pkC U) 36)) (.cells #[.slice none 0 0,.slice none 0 0,.slice none 0 0,.slice none 0 0,.slice none 0 0,.slice none 0 0,.slice none 0 0,.slice none 0 0,.slice none 0 0] 36)) (.cells #[.pointer (some ⟨b,0,none⟩),.int .i64 t,.int .i64 q,.int .i64 s,(U 0).v,(U 1).v,(U 2).v,(U 3).v,(U 4).v,(U 5).v,(U 6).v,(U 7).v,(U 8).v] 83))
 have HC0:=qh ((Held.new w 23 #[.int .i64 t,.int .i64 q,.int .i64 s]).alloc (.cells (pkC U) 36))
 have HPB:=qh (((Held.new2 w (.cells #[.int .i64 t,.int .i64 q,.int .i64 s] 23) 36 (pkC U)).alloc (.cells #[.slice none 0 0,.slice none 0 0,.slice none 0 0,.slice none 0 0,.slice none 0 0,.slice none 0 0,.slice none 0 0,.slice none 0 0,.slice none 0 0] 36)).alloc (.cells #[.pointer (some ⟨b,0,none⟩),.int .i64 t,.int .i64 q,.int .i64 s,(U 0).v,(U 1).v,(U 2).v,(U 3).v,(U 4).v,(U 5).v,(U 6).v,(U 7).v,(U 8).v] 83))
 have HP0:=qh ((Held.new2 w (.cells #[.int .i64 t,.int .i64 q,.int .i64 s] 23) 36 (pkC U)).alloc (.cells #[.slice none 0 0,.slice none 0 0,.slice none 0 0,.slice none 0 0,.slice none 0 0,.slice none 0 0,.slice none 0 0,.slice none 0 0,.slice none 0 0] 36))
 have HRB:qH (Held ((((w.alloc (.cells #[.int .i64 t,.int .i64 q,.int .i64 s] 23)).alloc (.cells (pkC U) 36)).alloc (.cells #[.slice none 0 0,.slice none 0 0,.slice none 0 0,.slice none 0 0,.slice none 0 0,.slice none 0 0,.slice none 0 0,.slice none 0 0,.slice none 0 0] 36)).alloc (.cells #[.pointer (some ⟨b,0,none⟩),.int .i64 t,.int .i64 q,.int .i64 s,(U 0).v,(U 1).v,(U 2).v,(U 3).v,(U 4).v,(U 5).v,(U 6).v,(U 7).v,(U 8).v] 83)) (w.heap.size+2) 36 (pkC zeroU)):=qh ((show Held (((w.alloc (.cells #[.int .i64 t,.int .i64 q,.int .i64 s] 23)).alloc (.cells (pkC U) 36)).alloc (.cells #[.slice none 0 0,.slice none 0 0,.slice none 0 0,.slice none 0 0,.slice none 0 0,.slice none 0 0,.slice none 0 0,.slice none 0 0,.slice none 0 0] 36)) (w.heap.size+2) 36 (pkC zeroU) from by
  refine R2l ?_;intro this e
  exact this).alloc (.cells #[.pointer (some ⟨b,0,none⟩),.int .i64 t,.int .i64 q,.int .i64 s,(U 0).v,(U 1).v,(U 2).v,(U 3).v,(U 4).v,(U 5).v,(U 6).v,(U 7).v,(U 8).v] 83))
 have HHD:qH (Held ((((w.alloc (.cells #[.int .i64 t,.int .i64 q,.int .i64 s] 23)).alloc (.cells (pkC U) 36)).alloc (.cells #[.slice none 0 0,.slice none 0 0,.slice none 0 0,.slice none 0 0,.slice none 0 0,.slice none 0 0,.slice none 0 0,.slice none 0 0,.slice none 0 0] 36)).alloc (.cells #[.pointer (some ⟨b,0,none⟩),.int .i64 t,.int .i64 q,.int .i64 s,(U 0).v,(U 1).v,(U 2).v,(U 3).v,(U 4).v,(U 5).v,(U 6).v,(U 7).v,(U 8).v] 83)) (w.heap.size+3) 83 (hdC b t q s U)):=qh (by
  refine Ran ?_;intro this e
  exact this)
 have HSZ:qH (((((w.alloc (.cells #[.int .i64 t,.int .i64 q,.int .i64 s] 23)).alloc (.cells (pkC U) 36)).alloc (.cells #[.slice none 0 0,.slice none 0 0,.slice none 0 0,.slice none 0 0,.slice none 0 0,.slice none 0 0,.slice none 0 0,.slice none 0 0,.slice none 0 0] 36)).alloc (.cells #[.pointer (some ⟨b,0,none⟩),.int .i64 t,.int .i64 q,.int .i64 s,(U 0).v,(U 1).v,(U 2).v,(U 3).v,(U 4).v,(U 5).v,(U 6).v,(U 7).v,(U 8).v] 83)).heap.size=w.heap.size+4):=qh (by simp)
 have HN:=qh (Hnd.make (G:=fun i=>i=w.heap.size+1\/i=w.heap.size+2) (t:=t) (q:=q) (s:=s) h hP hF HBA.o (by omega:w.heap.size<=w.heap.size+3) HHD.o (fun i x=>by
  have:=HSZ.o
  rcases x with x|x <;> omega))
 have HPL:qH (∀ i,PB U Z i->i<w.heap.size):=qh (fun i hi=>hi.lt hP)
 have HTL:=qh hT
 have HNA:=qh hA
 obtain⟨cc0,cc1,cc2⟩:=(HC0.o.alloc (.cells #[.slice none 0 0,.slice none 0 0,.slice none 0 0,.slice none 0 0,.slice none 0 0,.slice none 0 0,.slice none 0 0,.slice none 0 0,.slice none 0 0] 36)).three
 obtain⟨p0,p1,p2,p3,p4,p5,p6,p7,p8⟩:=HP0.o.nineP
 go_enter Tryz.func18,Tryz.ntmps18
 go_wp2_with fail
 generalize hW4:((((w.alloc (.cells #[.int .i64 t,.int .i64 q,.int .i64 s] 23)).alloc (.cells (pkC U) 36)).alloc (.cells #[.slice none 0 0,.slice none 0 0,.slice none 0 0,.slice none 0 0,.slice none 0 0,.slice none 0 0,.slice none 0 0,.slice none 0 0,.slice none 0 0] 36)).alloc (.cells #[.pointer (some ⟨b,0,none⟩),.int .i64 t,.int .i64 q,.int .i64 s,(U 0).v,(U 1).v,(U 2).v,(U 3).v,(U 4).v,(U 5).v,(U 6).v,(U 7).v,(U 8).v] 83))=W4 at *
 clear hW4 HHD HC0 HP0
 refine(qDu k hk0 hk1 HLP.o (HTL.o.at_ HNA.o HN.o.at_) HN.o).mono ?_
 rintro e w5 ⟨rfl,hn⟩
 have HPV:qH (∀ i,PB U Z i->i<w.heap.size\/w.heap.size+4<=i):=qh (fun i hi => .inl (HPL.o i hi))
 have HPB:=qh (hn.stay.held (.inl rfl) HPB.o)
 have HRB:=qh (hn.stay.held (.inr rfl) HRB.o)
 replace HN:=qh (HN.o.then_ hn)
 clear hn
 obtain⟨c0,c1,c2,c3⟩:=HN.o.held.hd4
 obtain⟨u0,u1,u2,u3,u4,u5,u6,u7,u8⟩:=HN.o.held.hdU
 obtain⟨z0,z1,z2,z3,z4,z5,z6,z7,z8⟩:=HRB.o.nineP
 obtain⟨f0,f1,f2,f3,f4,f5,f6,f7,f8⟩:=HRB.o.thawP
 go_wp2_with fail
 go_region
 obtain⟨WF,hWF⟩:∃ WF,setP w5 (w.heap.size+2) U=WF:=⟨_,rfl⟩
 have zz:=qh (Held.setP HRB.o U)
 have HNF:=qh (HN.o.putP (i:=w.heap.size+2) (.inr rfl) (fun x=>by have:=HPV.o _ x;omega) U)
 rw[hWF] at zz HNF
 unfold setP at hWF
 rw[hWF]
 replace zz:=qh (zz.o.keep (Bdrew (B0 _)))
 replace HNF:=qh HNF.o.drew
 obtain⟨y0,y1,y2,y3,y4,y5,y6,y7,y8⟩:=zz.o.nineP
 clear c0 c1 c2 c3 u0 u1 u2 u3 u4 u5 u6 u7 u8 z0 z1 z2 z3 z4 z5 z6 z7 z8 f0 f1 f2 f3 f4 f5 f6 f7 f8 HN HRB hWF
 go_wp2
 refine bodyPost_ret (v := .tuple #[.int .i64 0,.agg (pkC U)]) (by simp[results,Tryz.results18,go_sem,y0,y1,y2,y3,y4,y5,y6,y7,y8]) rfl ?_
 exact⟨rfl,HNF.o.p.fin⟩
theorem qWN (hn:n<2^40)(hq:q<=1024)(k:Nat)(hk:k<9)(l:List Int)(hz:Z k=l)(a:Int)(p:Nat)(is:List Nat)(hfl:FlOk n K t q s (k:Int) l a p is st)(hT:SlotsLaid w)(hA:¬ A 0)(hP:PkV w U Z)(hF:∀ i,PB U Z i->¬ A i)(h:(vOb base b n wh K).I w st A) :
  Calls Tryz.prog 18 #[.pointer (some ⟨b,0,none⟩),.agg #[.int .i64 t,.int .i64 q,.int .i64 s],.agg (pkC U),.int .i64 (k:Int)] w fun e w'=>∃ V,e = .returned (.tuple #[.int .i64 (((l.filter (onPg t q s (p:Int))).length:Nat):Int),.agg (pkC V)])/\PkLeft (vOb base b n wh K) w A (PB U Z) V (updF Z k (l.filter fun b => !onPg t q s (p:Int) b)) (gives n K t q s p is st) w'/\(∀ j,1<=j->j<=is.length->VOk n (gives n K t q s p (is.take j) st)):=by
 have HFLO:=qh hfl
 have HBA:=qh (Bnew (Bnew (Bnew (Bnew (B0 w) (.cells #[.int .i64 t,.int .i64 q,.int .i64 s] 23)) (.cells (pkC U) 36)) (.cells #[.slice none 0 0,.slice none 0 0,.slice none 0 0,.slice none 0 0,.slice none 0 0,.slice none 0 0,.slice none 0 0,.slice none 0 0,.slice none 0 0] 36)) (.cells #[.pointer (some ⟨b,0,none⟩),.int .i64 t,.int .i64 q,.int .i64 s,(U 0).v,(U 1).v,(U 2).v,(U 3).v,(U 4).v,(U 5).v,(U 6).v,(U 7).v,(U 8).v] 83))
 have HC0:=qh ((Held.new w 23 #[.int .i64 t,.int .i64 q,.int .i64 s]).alloc (.cells (pkC U) 36))
 have HPB:=qh (((Held.new2 w (.cells #[.int .i64 t,.int .i64 q,.int .i64 s] 23) 36 (pkC U)).alloc (.cells #[.slice none 0 0,.slice none 0 0,.slice none 0 0,.slice none 0 0,.slice none 0 0,.slice none 0 0,.slice none 0 0,.slice none 0 0,.slice none 0 0] 36)).alloc (.cells #[.pointer (some ⟨b,0,none⟩),.int .i64 t,.int .i64 q,.int .i64 s,(U 0).v,(U 1).v,(U 2).v,(U 3).v,(U 4).v,(U 5).v,(U 6).v,(U 7).v,(U 8).v] 83))
 have HP0:=qh ((Held.new2 w (.cells #[.int .i64 t,.int .i64 q,.int .i64 s] 23) 36 (pkC U)).alloc (.cells #[.slice none 0 0,.slice none 0 0,.slice none 0 0,.slice none 0 0,.slice none 0 0,.slice none 0 0,.slice none 0 0,.slice none 0 0,.slice none 0 0] 36))
 have HRB:qH (Held ((((w.alloc (.cells #[.int .i64 t,.int .i64 q,.int .i64 s] 23)).alloc (.cells (pkC U) 36)).alloc (.cells #[.slice none 0 0,.slice none 0 0,.slice none 0 0,.slice none 0 0,.slice none 0 0,.slice none 0 0,.slice none 0 0,.slice none 0 0,.slice none 0 0] 36)).alloc (.cells #[.pointer (some ⟨b,0,none⟩),.int .i64 t,.int .i64 q,.int .i64 s,(U 0).v,(U 1).v,(U 2).v,(U 3).v,(U 4).v,(U 5).v,(U 6).v,(U 7).v,(U 8).v] 83)) (w.heap.size+2) 36 (pkC zeroU)):=qh ((show Held (((w.alloc (.cells #[.int .i64 t,.int .i64 q,.int .i64 s] 23)).alloc (.cells (pkC U) 36)).alloc (.cells #[.slice none 0 0,.slice none 0 0,.slice none 0 0,.slice none 0 0,.slice none 0 0,.slice none 0 0,.slice none 0 0,.slice none 0 0,.slice none 0 0] 36)) (w.heap.size+2) 36 (pkC zeroU) from by
  refine R2l ?_;intro this e
  exact this).alloc (.cells #[.pointer (some ⟨b,0,none⟩),.int .i64 t,.int .i64 q,.int .i64 s,(U 0).v,(U 1).v,(U 2).v,(U 3).v,(U 4).v,(U 5).v,(U 6).v,(U 7).v,(U 8).v] 83))
 have HHD:qH (Held ((((w.alloc (.cells #[.int .i64 t,.int .i64 q,.int .i64 s] 23)).alloc (.cells (pkC U) 36)).alloc (.cells #[.slice none 0 0,.slice none 0 0,.slice none 0 0,.slice none 0 0,.slice none 0 0,.slice none 0 0,.slice none 0 0,.slice none 0 0,.slice none 0 0] 36)).alloc (.cells #[.pointer (some ⟨b,0,none⟩),.int .i64 t,.int .i64 q,.int .i64 s,(U 0).v,(U 1).v,(U 2).v,(U 3).v,(U 4).v,(U 5).v,(U 6).v,(U 7).v,(U 8).v] 83)) (w.heap.size+3) 83 (hdC b t q s U)):=qh (by
  refine Ran ?_;intro this e
  exact this)
 have HSZ:qH (((((w.alloc (.cells #[.int .i64 t,.int .i64 q,.int .i64 s] 23)).alloc (.cells (pkC U) 36)).alloc (.cells #[.slice none 0 0,.slice none 0 0,.slice none 0 0,.slice none 0 0,.slice none 0 0,.slice none 0 0,.slice none 0 0,.slice none 0 0,.slice none 0 0] 36)).alloc (.cells #[.pointer (some ⟨b,0,none⟩),.int .i64 t,.int .i64 q,.int .i64 s,(U 0).v,(U 1).v,(U 2).v,(U 3).v,(U 4).v,(U 5).v,(U 6).v,(U 7).v,(U 8).v] 83)).heap.size=w.heap.size+4):=qh (by simp)
 have HN:=qh (Hnd.make (G:=fun i=>i=w.heap.size+1\/i=w.heap.size+2) (t:=t) (q:=q) (s:=s) h hP hF HBA.o (by omega:w.heap.size<=w.heap.size+3) HHD.o (fun i x=>by
  have:=HSZ.o
  rcases x with x|x <;> omega))
 have HPL:qH (∀ i,PB U Z i->i<w.heap.size):=qh (fun i hi=>hi.lt hP)
 have HTL:=qh hT
 have HNA:=qh hA
 obtain⟨cc0,cc1,cc2⟩:=(HC0.o.alloc (.cells #[.slice none 0 0,.slice none 0 0,.slice none 0 0,.slice none 0 0,.slice none 0 0,.slice none 0 0,.slice none 0 0,.slice none 0 0,.slice none 0 0] 36)).three
 obtain⟨p0,p1,p2,p3,p4,p5,p6,p7,p8⟩:=HP0.o.nineP
 go_enter Tryz.func18,Tryz.ntmps18
 go_wp2_with fail
 generalize hW4:((((w.alloc (.cells #[.int .i64 t,.int .i64 q,.int .i64 s] 23)).alloc (.cells (pkC U) 36)).alloc (.cells #[.slice none 0 0,.slice none 0 0,.slice none 0 0,.slice none 0 0,.slice none 0 0,.slice none 0 0,.slice none 0 0,.slice none 0 0,.slice none 0 0] 36)).alloc (.cells #[.pointer (some ⟨b,0,none⟩),.int .i64 t,.int .i64 q,.int .i64 s,(U 0).v,(U 1).v,(U 2).v,(U 3).v,(U 4).v,(U 5).v,(U 6).v,(U 7).v,(U 8).v] 83))=W4 at *
 clear hW4 HHD HC0 HP0
 refine(qLx hn hq k hk l hz a p is HFLO.o HTL.o HNA.o HN.o).mono ?_
 rintro e w5 ⟨rfl,hok,V,hVn,hn⟩
 have HOK:=qh hok
 have HPV:qH (∀ i,PB V (updF Z k (l.filter fun b => !onPg t q s (p:Int) b)) i->i<w.heap.size\/w.heap.size+4<=i):=qh (fun i hi=>by
  have:=HSZ.o
  rcases hVn i hi with h1|h1
  ·exact .inl (HPL.o i h1)
  ·exact .inr qo)
 obtain⟨m,hm⟩:∃ m,(l.filter (onPg t q s (p:Int))).length=m:=⟨_,rfl⟩
 have HMM:=qh hm
 rw[hm]
 clear hm
 have HPB:=qh (hn.stay.held (.inl rfl) HPB.o)
 have HRB:=qh (hn.stay.held (.inr rfl) HRB.o)
 replace HN:=qh (HN.o.then_ hn)
 clear hn
 clear hVn hok
 obtain⟨c0,c1,c2,c3⟩:=HN.o.held.hd4
 obtain⟨u0,u1,u2,u3,u4,u5,u6,u7,u8⟩:=HN.o.held.hdU
 obtain⟨z0,z1,z2,z3,z4,z5,z6,z7,z8⟩:=HRB.o.nineP
 obtain⟨f0,f1,f2,f3,f4,f5,f6,f7,f8⟩:=HRB.o.thawP
 go_wp2_with fail
 go_region
 obtain⟨WF,hWF⟩:∃ WF,setP w5 (w.heap.size+2) V=WF:=⟨_,rfl⟩
 have zz:=qh (Held.setP HRB.o V)
 have HNF:=qh (HN.o.putP (i:=w.heap.size+2) (.inr rfl) (fun x=>by have:=HPV.o _ x;omega) V)
 rw[hWF] at zz HNF
 unfold setP at hWF
 rw[hWF]
 replace zz:=qh (zz.o.keep (Bdrew (B0 _)))
 replace HNF:=qh HNF.o.drew
 obtain⟨y0,y1,y2,y3,y4,y5,y6,y7,y8⟩:=zz.o.nineP
 clear c0 c1 c2 c3 u0 u1 u2 u3 u4 u5 u6 u7 u8 z0 z1 z2 z3 z4 z5 z6 z7 z8 f0 f1 f2 f3 f4 f5 f6 f7 f8 HN HRB hWF
 go_wp2
 refine bodyPost_ret (v := .tuple #[.int .i64 (m:Int),.agg (pkC V)]) (by simp[results,Tryz.results18,go_sem,y0,y1,y2,y3,y4,y5,y6,y7,y8]) rfl ?_
 exact⟨V,by rw[HMM.o],HNF.o.p.fin,HOK.o⟩

theorem qBm (hn:n<2^40)(hq:q<=1024)(k:Int)(hk0 : -9223372036854775808<=k)(hk1:k<=9223372036854775807)(hok:∀ a,lastP Z k=some a->∃ p,FlOk n K t q s k (Z k.toNat) a p (isF t q s k (Z k.toNat) p) st)(hT:SlotsLaid w)(hA:¬ A 0)(hP:PkV w U Z)(hF:∀ i,PB U Z i->¬ A i)(h:(vOb base b n wh K).I w st A) :
  Calls Tryz.prog 18 #[.pointer (some ⟨b,0,none⟩),.agg #[.int .i64 t,.int .i64 q,.int .i64 s],.agg (pkC U),.int .i64 k] w (FlEnd (vOb base b n wh K) w A n K t q s k U Z st):=by
 cases hl:lastP Z k with
 | none =>
  refine(qIJ hn k hk0 hk1 hl hT hA hP hF h).mono ?_
  rintro e w' ⟨rfl,h1⟩
  have e1:flX n K t q s k Z st=((0,Z),st):=by unfold flX;rw[if_pos hl]
  unfold FlEnd
  rw[e1]
  exact⟨U,rfl,h1,fun a ha=>by rw[hl] at ha;cases ha⟩
 | some a =>
  have hk:0<=k/\k<=8:=by
   by_cases x:0<=k/\k<=8
   ·exact x
   ·rw[qYq qo] at hl;cases hl
  obtain⟨k,rfl⟩:=Int.eq_ofNat_of_zero_le hk.1
  have hk9:k<9:=qo
  obtain⟨p,ok⟩:=hok a hl
  rw[Int.toNat_natCast] at ok
  rw[qUw hk9] at hl
  refine(qWN hn hq k hk9 (Z k) rfl a p _ ok hT hA hP hF h).mono ?_
  rintro e w' ⟨V,rfl,h1,h2⟩
  unfold FlEnd
  rw[qSI hk9 hl ok.page]
  refine⟨V,rfl,h1,fun a' ha' j j1 j2=>?_⟩
  rw[qUw hk9,hl] at ha'
  injection ha' with ha'
  subst ha'
  rw[ok.page,Int.toNat_natCast,Int.toNat_natCast] at *
  exact h2 j j1 (by unfold isF;rw[List.length_map];exact j2)

end
end
section
theorem qYU (t q s:Int)(w:World):Calls Tryz.prog 31 #[.agg #[.int .i64 t,.int .i64 q,.int .i64 s]] w fun e w'=>e = .returned (.bool (decide (q<=64)))/\Below w.heap.size w w':=by
 go_enter Tryz.func31,Tryz.ntmps31
 go_wp2
 go_ret
 exact⟨rfl,Bnew (B0 _) _⟩
theorem qVl (w:World):(Instr.makeSlice 24 (.int .i64 82) (.int .i64 82)).run Tryz.prog w = .ok (.slice (some ⟨w.heap.size,0,none⟩) 82 82) (w.alloc (.cells (Array.replicate 82 (.int .u32 0)) 76)):=by kernel_rfl
def ex14L:List Nat:=((((List.replicate 82 0).set 0 8).set 5 1).set 34 129).set 77 1
def ex14C:Array Value:=((((Array.replicate 82 (Value.int .u32 0)).setIfInBounds 0 (.int .u32 8)).setIfInBounds 5 (.int .u32 1)).setIfInBounds 34 (.int .u32 129)).setIfInBounds 77 (.int .u32 1)
theorem qYQ:ex14C.toList=valVs ex14L:=by
 unfold ex14C ex14L valVs
 simp only[Array.toList_setIfInBounds,Array.toList_replicate,List.map_set,List.map_replicate]
 rfl
def qEr:Nat->Option Nat:=fun i=>ex14L[i]?
theorem qGI (w:World):Calls Tryz.prog 32 #[] w fun e w'=>∃ g,e = .returned (.tuple #[.agg #[.int .i64 1,.int .i64 8,.int .i64 10],.slice (some ⟨g,0,none⟩) 82 82])/\Held w' g 76 ex14C/\Below w.heap.size w w':=by
 have hmk:=qVl
 have HC:=(Held.new w 23 #[.int .i64 0,.int .i64 0,.int .i64 0]).alloc (.cells (Array.replicate 82 (.int .u32 0)) 76)
 have HG:=Held.new2 w (.cells #[.int .i64 0,.int .i64 0,.int .i64 0] 23) 76 (Array.replicate 82 (.int .u32 0))
 have g0:_=some (Value.int .u32 0):=(HG.cell 0).trans (by simp)
 have g1:_=some (Value.int .u32 0):=(HG.cell 5).trans (by simp)
 have g2:_=some (Value.int .u32 0):=(HG.cell 34).trans (by simp)
 have g3:_=some (Value.int .u32 0):=(HG.cell 77).trans (by simp)
 have f0:=HG.thawed
 obtain⟨c0,c1,c2⟩:=HC.three
 have f1:=HC.thawed
 clear HC HG
 go_enter Tryz.func32,Tryz.ntmps32
 go_wp2
 refine bodyPost_ret (v := .tuple #[.agg #[.int .i64 1,.int .i64 8,.int .i64 10],.slice (some ⟨w.heap.size+1,0,none⟩) 82 82]) (by simp[results,Tryz.results32,go_sem]) rfl ⟨w.heap.size+1,rfl,?_,?_⟩
 ·unfold ex14C
  exact Held.new2 w (.cells #[.int .i64 1,.int .i64 8,.int .i64 10] 23) 76 _
 ·exact Bnew (Bnew (B0 w) _) _
end
section
theorem qOo:ex14L.length=82:=by decide
theorem qDC:∀ x∈ex14L,x<2^32:=by decide
theorem qGe {w:World}{g:Nat}{t:TypeId}(h:Held w g t ex14C):∀ j u,(valVs ex14L)[j]?=some u->w.cell? ((⟨g,0,none⟩:Addr).add j)=some u:=by
 intro j u hu
 have e:(⟨g,0,none⟩:Addr).add j=⟨g,j,none⟩:=by
  unfold Addr.add
  by_cases hz:j=0
  ·rw[if_pos hz,hz]
  ·rw[if_neg hz];simp
 rw[e,h.cell j,<- hu,<- qYQ]
 simp
end
section
section
variable {W w w' : World} {O1 O2 : Ob} {A B G : Nat -> Prop} {s1 s2 s' : Vst}
theorem Duo.slots (h:Duo W O1 O2 A B G s1 s2 w)(hT:SlotsLaid W):SlotsLaid w/\¬ A 0 /\ ¬ B 0 := by
 have hl:(0 : Nat)<W.heap.size:=qY2 (hT 0 qo)
 exact⟨hT.below h.bel,fun x=>by have:=h.lo _ (.inl x);omega,fun x=>by have:=h.lo _ (.inr x);omega⟩
end
end
end Go.Proofs.YtjjfcaliippgpaaGreatDoor
