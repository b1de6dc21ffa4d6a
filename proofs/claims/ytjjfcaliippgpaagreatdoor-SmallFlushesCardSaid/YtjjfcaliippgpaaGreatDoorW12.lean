/-
  What slab's first, Pick and Give do. Written by slab/gen_top.py.
-/
import Derived.Test.YtjjfcaliippgpaaGreatDoorW11
import Derived.Test.YtjjfcaliippgpaaGreatDoorW05
import Derived.Test.YtjjfcaliippgpaaGreatDoorW09
import Derived.Deep.RegionWith
import Derived.Deep.CutRange
import Derived.Test.YtjjfcaliippgpaaGreatDoorW01
import Derived.Test.YtjjfcaliippgpaaGreatDoorW06
namespace Go.Proofs.YtjjfcaliippgpaaGreatDoor
theorem RpV {P Q:Prop}(kq:Q)(h:HQ Q->P:=by
 intro kq
 skip
 go_simp
 have HLE:=qh HB.o.size
 have HB:=qh (Bnew HB.o (.cells #[.int .i64 0,.int .i64 0,.int .i64 0] 119))
 revert HLE HB
 exact kq.o):P:=h ⟨kq⟩
theorem RRY {P Q:Prop}(kq:Q)(h:HQ Q->P:=by
 intro kq
 refine qk ?_ (fun hHeld=>?_)
 ·exact HS.o _ HB.o
 revert hHeld
 exact kq.o):P:=h ⟨kq⟩
theorem M3p {P:Prop}(h:P:=by
 refine RRY ?_;intro hHeld
 clear hK K
 refine tkz 9 ?_
 refine tkz 10 ?_
 refine tkz 11 ?_
 exact MMM):P:=h
theorem MMM {P:Prop}(h:P:=by
 refine rdz 13 fun K hK=>?_
 obtain⟨z0,z1,z2⟩:=HN.o.three
 have f0:=HN.o.thawed 0
 have f1:=HN.o.thawed 1
 have f2:=HN.o.thawed 2
 go_simp
 have HN:=qh (HN.o.put 0 (.int .i64 k))
 have HN:=qh (HN.o.put 1 (.int .i64 (m:Int)))
 have HN:=qh (HN.o.put 2 (.int .i64 cl))
 have HB:=qh (Bput (p:=⟨_,2,none⟩) (Bput (p:=⟨_,1,none⟩) (Bput (p:=⟨_,0,none⟩) HB.o HLE.o (.int .i64 k)) HLE.o (.int .i64 (m:Int))) HLE.o (.int .i64 cl))
 clear z0 z1 z2 f0 f1 f2
 refine RRY ?_;intro hHeld
 clear hK K
 refine tkz 14 ?_
 refine dnz ?_
 go_wp2_with fail
 go_meet
 case rel=>exact⟨_,rfl,HN.o,HB.o,HLE.o⟩):P:=h
theorem MHa {P:Prop}(h:P:=by
  go_wp2_with fail
  go_ret2
  exact⟨_,false,rfl,⟨⟨fun h=>(by cases h),fun h=>absurd h HNA.o⟩,fun h=>(by cases h)⟩,HBX.o⟩):P:=h
theorem MfR {P:Prop}(h:P:=by
 (try dsimp only)
 exact M2k):P:=h
theorem M2k {P:Prop}(h:P:=by first|exact HS.o _ (Bdrew (Bnew (B0 w) _)) hc|exact HS.o _ HB1.o HC1.o|exact hHeld):P:=h
end Go.Proofs.YtjjfcaliippgpaaGreatDoor
set_option linter.unusedVariables false
set_option linter.unusedSimpArgs false
set_option maxRecDepth 100000
set_option maxHeartbeats 25600000
namespace Go.Proofs.YtjjfcaliippgpaaGreatDoor
open Go.ChangeShapes Go.WideShapes Go.ChangeAt Go.RowKit Go.Maps
section
section
variable {base b n : Nat} {wh all : Bool} {K : Nat -> Option Nat} {st : Vst} {w w0 : World} {A G : Nat -> Prop} {t q s k : Int}

theorem qU7 (hn:n<2^40)(hq:q<=1024)(k0:0<=k)(k8:k<=8)(r:Nat)(hr:getV n K st (13+k)=r+1)(h:(vOb base b n wh K).At w0 A G st w) :
  Calls Tryz.prog 114 #[.pointer (some ⟨b,0,none⟩),.agg #[.int .i64 t,.int .i64 q,.int .i64 s],.int .i64 k] w fun e w'=>e = .returned (.tuple #[.agg #[.pointer (some ⟨b,0,none⟩),.int .i64 t,.int .i64 q,.int .i64 s,.int .i64 (r:Int),.int .i64 k],.bool true])/\(vOb base b n wh K).At w0 A G (getS n K st (13+k)) w'/\Stay G w w':=by
 have W0:=qh (((WL.start h).new 23 #[.int .i64 t,.int .i64 q,.int .i64 s]).new 155 #[.pointer none,.int .i64 0,.int .i64 0,.int .i64 0,.int .i64 0,.int .i64 0])
 simp only[World.size_alloc] at W0
 have HRK:=qh (qCD k0 k8)
 obtain⟨rv,hrv⟩:∃ rv,r+1=rv:=⟨_,rfl⟩
 have hrl:=qHJ h (13+k)
 rw[hr,hrv] at hrl
 rw[hrv] at hr
 have HRV:=qh hr
 have er:(r:Int)=(rv:Int)-1:=qo
 rw[er]
 have t0:((rv:Int) != 0)=true:=qs
 clear h hr er hrv
 go_enter Tryz.func114,Tryz.ntmps114
 obtain⟨y0,y1,y2,y3,y4,y5⟩:=W0.o.h0.six'
 obtain⟨x0,x1,x2⟩:=W0.o.h1.three
 go_wp2_with fail
 refine(qVk k _).mono ?_;rintro e w9 ⟨rfl,rfl⟩;rw[HRK.o]
 go_wp2_with fail
 refine(vGetA hn _ W0.o.at_).mono ?_;rintro e w1 ⟨rfl,h1,h2⟩;have W1:=qh (W0.o.call h1 h2);clear h1 h2 W0;rw[HRV.o]
 obtain⟨y0,y1,y2,y3,y4,y5⟩:=W1.o.h0.six'
 obtain⟨x0,x1,x2⟩:=W1.o.h1.three
 obtain⟨z0,z1,z2,z3,z4,z5⟩:=W1.o.h0.six'
 have f0:=W1.o.h0.thawed 0
 have f1:=W1.o.h0.thawed 1
 have f2:=W1.o.h0.thawed 2
 have f3:=W1.o.h0.thawed 3
 have f4:=W1.o.h0.thawed 4
 have f5:=W1.o.h0.thawed 5
 have W2:=qh ((((((W1.o.put 0 (.pointer (some ⟨b,0,none⟩))).put 1 (.int .i64 t)).put 2 (.int .i64 q)).put 3 (.int .i64 s)).put 4 (.int .i64 ((rv:Int)-1))).put 5 (.int .i64 k))
 obtain⟨r0,r1,r2,r3,r4,r5⟩:=W2.o.h0.six'
 go_wp2
 refine bodyPost_ret (v := .tuple #[.agg #[.pointer (some ⟨b,0,none⟩),.int .i64 t,.int .i64 q,.int .i64 s,.int .i64 ((rv:Int)-1),.int .i64 k],.bool true]) (by simp[results,Tryz.results114,go_sem,r0,r1,r2,r3,r4,r5]) rfl ⟨rfl,?_⟩
 exact W2.o.fin

theorem qZI (hn:n<2^40)(hq:q<=1024)(k0:0<=k)(k8:k<=8)(hr:getV n K st (13+k)=0)(s1:Vst)(ht:takeI n K t q s 1 (getS n K st (13+k))=(none,s1))(h:(vOb base b n wh K).At w0 A G st w) :
  Calls Tryz.prog 114 #[.pointer (some ⟨b,0,none⟩),.agg #[.int .i64 t,.int .i64 q,.int .i64 s],.int .i64 k] w fun e w'=>e = .returned (.tuple #[.agg #[.pointer none,.int .i64 0,.int .i64 0,.int .i64 0,.int .i64 0,.int .i64 0],.bool false])/\(vOb base b n wh K).At w0 A G (s1) w'/\Stay G w w':=by
 have W0:=qh (((WL.start h).new 23 #[.int .i64 t,.int .i64 q,.int .i64 s]).new 155 #[.pointer none,.int .i64 0,.int .i64 0,.int .i64 0,.int .i64 0,.int .i64 0])
 simp only[World.size_alloc] at W0
 have HRK:=qh (qCD k0 k8)
 have HRV:=qh hr
 have HTK:=qh ht
 clear h hr ht
 go_enter Tryz.func114,Tryz.ntmps114
 obtain⟨y0,y1,y2,y3,y4,y5⟩:=W0.o.h0.six'
 obtain⟨x0,x1,x2⟩:=W0.o.h1.three
 go_wp2_with fail
 refine(qVk k _).mono ?_;rintro e w9 ⟨rfl,rfl⟩;rw[HRK.o]
 go_wp2_with fail
 refine(vGetA hn _ W0.o.at_).mono ?_;rintro e w1 ⟨rfl,h1,h2⟩;have W1:=qh (W0.o.call h1 h2);clear h1 h2 W0;rw[HRV.o]
 obtain⟨y0,y1,y2,y3,y4,y5⟩:=W1.o.h0.six'
 obtain⟨x0,x1,x2⟩:=W1.o.h1.three
 go_wp2_with fail
 refine(qTz hn hq 1 W1.o.at_).mono ?_;rintro e w2 ⟨rfl,h1,h2⟩;have W2:=qh (W1.o.call h1 h2);clear h1 h2 W1;rw[HTK.o] at W2 ⊢;dsimp only[foundI,Option.isSome] at W2 ⊢
 obtain⟨y0,y1,y2,y3,y4,y5⟩:=W2.o.h0.six'
 obtain⟨x0,x1,x2⟩:=W2.o.h1.three
 obtain⟨z0,z1,z2,z3,z4,z5⟩:=W2.o.h0.six'
 have f0:=W2.o.h0.thawed 0
 have f1:=W2.o.h0.thawed 1
 have f2:=W2.o.h0.thawed 2
 have f3:=W2.o.h0.thawed 3
 have f4:=W2.o.h0.thawed 4
 have f5:=W2.o.h0.thawed 5
 have W3:=qh ((((((W2.o.put 0 (.pointer none)).put 1 (.int .i64 0)).put 2 (.int .i64 0)).put 3 (.int .i64 0)).put 4 (.int .i64 0)).put 5 (.int .i64 0))
 obtain⟨r0,r1,r2,r3,r4,r5⟩:=W3.o.h0.six'
 go_wp2
 refine bodyPost_ret (v := .tuple #[.agg #[.pointer none,.int .i64 0,.int .i64 0,.int .i64 0,.int .i64 0,.int .i64 0],.bool false]) (by simp[results,Tryz.results114,go_sem,r0,r1,r2,r3,r4,r5]) rfl ⟨rfl,?_⟩
 exact W3.o.fin

theorem qUy (hn:n<2^40)(hq:q<=1024)(k0:0<=k)(k8:k<=8)(hr:getV n K st (13+k)=0)(p:Nat)(s1:Vst)(ht:takeI n K t q s 1 (getS n K st (13+k))=(some p,s1))(h:(vOb base b n wh K).At w0 A G st w) :
  Calls Tryz.prog 114 #[.pointer (some ⟨b,0,none⟩),.agg #[.int .i64 t,.int .i64 q,.int .i64 s],.int .i64 k] w fun e w'=>e = .returned (.tuple #[.agg #[.pointer (some ⟨b,0,none⟩),.int .i64 t,.int .i64 q,.int .i64 s,.int .i64 (p:Int),.int .i64 k],.bool true])/\(vOb base b n wh K).At w0 A G (slabS n K t q s k p s1) w'/\Stay G w w':=by
 have W0:=qh (((WL.start h).new 23 #[.int .i64 t,.int .i64 q,.int .i64 s]).new 155 #[.pointer none,.int .i64 0,.int .i64 0,.int .i64 0,.int .i64 0,.int .i64 0])
 simp only[World.size_alloc] at W0
 have HRK:=qh (qCD k0 k8)
 have HRV:=qh hr
 have HTK:=qh ht
 have HIV:=qh (qPM 3 1 k)
 have hq2:q<=2^31:=qo
 clear h hr ht
 go_enter Tryz.func114,Tryz.ntmps114
 obtain⟨y0,y1,y2,y3,y4,y5⟩:=W0.o.h0.six'
 obtain⟨x0,x1,x2⟩:=W0.o.h1.three
 go_wp2_with fail
 refine(qVk k _).mono ?_;rintro e w9 ⟨rfl,rfl⟩;rw[HRK.o]
 go_wp2_with fail
 refine(vGetA hn _ W0.o.at_).mono ?_;rintro e w1 ⟨rfl,h1,h2⟩;have W1:=qh (W0.o.call h1 h2);clear h1 h2 W0;rw[HRV.o]
 obtain⟨y0,y1,y2,y3,y4,y5⟩:=W1.o.h0.six'
 obtain⟨x0,x1,x2⟩:=W1.o.h1.three
 go_wp2_with fail
 refine(qTz hn hq 1 W1.o.at_).mono ?_;rintro e w2 ⟨rfl,h1,h2⟩;have W2:=qh (W1.o.call h1 h2);clear h1 h2 W1;rw[HTK.o] at W2 ⊢;dsimp only[foundI,Option.isSome] at W2 ⊢
 obtain⟨y0,y1,y2,y3,y4,y5⟩:=W2.o.h0.six'
 obtain⟨x0,x1,x2⟩:=W2.o.h1.three
 go_wp2_with fail
 generalize hNP:w2.heap.size=NP at *
 replace W2:=qh (W2.o.new 155 #[.pointer (some ⟨b,0,none⟩),.int .i64 t,.int .i64 q,.int .i64 s,.int .i64 (p:Int),.int .i64 k])
 rw[hNP] at W2
 obtain⟨g0,g1,g2,g3,g4,g5⟩:=W2.o.h0.six'
 obtain⟨y0,y1,y2,y3,y4,y5⟩:=W2.o.h1.six'
 obtain⟨x0,x1,x2⟩:=W2.o.h2.three
 refine(qA4 3 1 k _).mono ?_;rintro e w3 ⟨rfl,hb⟩;have W3:=qh (W2.o.keep hb);clear hb W2
 obtain⟨g0,g1,g2,g3,g4,g5⟩:=W3.o.h0.six'
 obtain⟨y0,y1,y2,y3,y4,y5⟩:=W3.o.h1.six'
 obtain⟨x0,x1,x2⟩:=W3.o.h2.three
 go_wp2_with fail
 refine wp_region_held_drew (S:=(fun w'=>w'.cell? ⟨NP,0,none⟩=some (.pointer (some ⟨b,0,none⟩))/\w'.cell? ⟨w.heap.size,0,none⟩=some (.int .i64 t)/\w'.cell? ⟨w.heap.size,1,none⟩=some (.int .i64 q)/\w'.cell? ⟨w.heap.size,2,none⟩=some (.int .i64 s))) qr ?_ (fun hHeld=>?_)
 ·(try dsimp only)
  exact⟨W3.o.drew.h0.six'.1,W3.o.drew.h2.three.1,W3.o.drew.h2.three.2.1,W3.o.drew.h2.three.2.2⟩
 refine tkz 0 ?_
 refine tkz 1 ?_
 refine tkz 2 ?_
 refine tkz 3 ?_
 refine tkz 5 ?_
 refine rdz 4 fun K hK=>?_
 go_simp
 refine(qSM t q s (p:Int) _).mono ?_;rintro e w4 ⟨rfl,hb⟩;have W4:=qh (W3.o.drew.keep hb);clear hb W3
 refine qk ?_ (fun hHeld=>?_)
 ·exact⟨W4.o.h0.six'.1,W4.o.h2.three.1,W4.o.h2.three.2.1,W4.o.h2.three.2.2⟩
 clear hK K
 refine rdz 6 fun K hK=>?_
 go_simp
 refine(vPutA hn _ _ HIV.o W4.o.at_).mono ?_;rintro e w5 ⟨rfl,h1,h2⟩;have W5:=qh (W4.o.call h1 h2);clear h1 h2 W4
 refine qk ?_ (fun hHeld=>?_)
 ·exact⟨W5.o.h0.six'.1,W5.o.h2.three.1,W5.o.h2.three.2.1,W5.o.h2.three.2.2⟩
 clear hK K
 refine dnz ?_
 obtain⟨g0,g1,g2,g3,g4,g5⟩:=W5.o.h0.six'
 obtain⟨y0,y1,y2,y3,y4,y5⟩:=W5.o.h1.six'
 obtain⟨x0,x1,x2⟩:=W5.o.h2.three
 go_wp2_with fail
 refine(qQe hn hq2 (p:Int) k0 k8 W5.o.at_).mono ?_;rintro e w6 ⟨rfl,h1,h2⟩;have W6:=qh (W5.o.call h1 h2);clear h1 h2 W5
 obtain⟨g0,g1,g2,g3,g4,g5⟩:=W6.o.h0.six'
 obtain⟨y0,y1,y2,y3,y4,y5⟩:=W6.o.h1.six'
 obtain⟨x0,x1,x2⟩:=W6.o.h2.three
 have W7:=qh W6.o.swap
 obtain⟨z0,z1,z2,z3,z4,z5⟩:=W7.o.h0.six'
 have f0:=W7.o.h0.thawed 0
 have f1:=W7.o.h0.thawed 1
 have f2:=W7.o.h0.thawed 2
 have f3:=W7.o.h0.thawed 3
 have f4:=W7.o.h0.thawed 4
 have f5:=W7.o.h0.thawed 5
 have W8:=qh ((((((W7.o.put 0 (.pointer (some ⟨b,0,none⟩))).put 1 (.int .i64 t)).put 2 (.int .i64 q)).put 3 (.int .i64 s)).put 4 (.int .i64 (p:Int))).put 5 (.int .i64 k))
 obtain⟨r0,r1,r2,r3,r4,r5⟩:=W8.o.h0.six'
 go_wp2
 refine bodyPost_ret (v := .tuple #[.agg #[.pointer (some ⟨b,0,none⟩),.int .i64 t,.int .i64 q,.int .i64 s,.int .i64 (p:Int),.int .i64 k],.bool true]) (by simp[results,Tryz.results114,go_sem,r0,r1,r2,r3,r4,r5]) rfl ⟨rfl,?_⟩
 exact W8.o.fin

def PickEnd (O:Ob) (w0:World) (A G:Nat->Prop) (x:Option (Nat × List Nat)) (s:Vst) (w:World) (e:Ending) (w':World):Prop :=
 ∃ u,e = .returned (.tuple #[.int .i64 (pickP x),u,.bool x.isSome])/\WalkEnd O w0 A G (pickL x) s w (.returned u) w'
theorem PickEnd.no {O:Ob}{w0 w ws:World}{A G:Nat->Prop}{st:Vst}(h:O.At w0 A G st w)(hS:Stay G ws w):PickEnd O w0 A G none st ws (.returned (.tuple #[.int .i64 (-1),.slice none 0 0,.bool false])) w:=⟨_,rfl,WalkEnd.nil_ h hS⟩
theorem qQ4 {p w:Nat}:(pickAt n K t q s k p w st).1=none\/∃ l,l ≠ []/\(pickAt n K t q s k p w st).1=some (p,l):=by
 unfold pickAt
 split
 ·exact .inl rfl
 ·exact .inr ⟨_,by assumption,rfl⟩

theorem qS5 (hn:n<2^40)(hq:q<=1024)(hk0 : -9223372036854775808<=k)(hk1:k<=9223372036854775807)(hT:SlotsLaid w0)(hA:¬ A 0)(want:Int)(hb:k<0\/8<k)(h:(vOb base b n wh K).At w0 A G st w) :
  Calls Tryz.prog 78 #[.pointer (some ⟨b,0,none⟩),.agg #[.int .i64 t,.int .i64 q,.int .i64 s],.int .i64 k,.int .i64 want] w (PickEnd (vOb base b n wh K) w0 A G none st w):=by
 have W0:=qh ((WL.start h).new 23 #[.int .i64 t,.int .i64 q,.int .i64 s])
 have HTL:=qh hT
 have HMM:=qh (qXI (k:=k) qo)
 have t0:(((0:Nat):Int)==0)=true:=rfl
 clear h hT
 go_enter Tryz.func78,Tryz.ntmps78
 obtain⟨x0,x1,x2⟩:=W0.o.h0.three
 go_wp2_with fail
 refine(qCz k hk0 hk1 _ (HTL.o.at_ hA W0.o.at_)).mono ?_;rintro e w9 ⟨rfl,rfl⟩;rw[HMM.o]
 go_wp2
 go_ret3
 exact PickEnd.no W0.o.fin.1 W0.o.fin.2

theorem qJ8 (hn:n<2^40)(hq:q<=1024)(hk0 : -9223372036854775808<=k)(hk1:k<=9223372036854775807)(hT:SlotsLaid w0)(hA:¬ A 0)(want:Int)(k0:0<=k)(k8:k<=8)(hb:want<1)(h:(vOb base b n wh K).At w0 A G st w) :
  Calls Tryz.prog 78 #[.pointer (some ⟨b,0,none⟩),.agg #[.int .i64 t,.int .i64 q,.int .i64 s],.int .i64 k,.int .i64 want] w (PickEnd (vOb base b n wh K) w0 A G none st w):=by
 have W0:=qh ((WL.start h).new 23 #[.int .i64 t,.int .i64 q,.int .i64 s])
 have HTL:=qh hT
 obtain⟨m,hm⟩:∃ m,slotI k=m:=⟨_,rfl⟩
 have hm0:m≠0:=fun e=>by have:=slotI_zero.1 (hm.trans e);omega
 have HMM:=qh hm
 have t0:((m:Int)==0)=false:=qs
 have t1:decide (want<(1:Int))=true:=decide_eq_true hb
 clear hm
 clear h hT
 go_enter Tryz.func78,Tryz.ntmps78
 obtain⟨x0,x1,x2⟩:=W0.o.h0.three
 go_wp2_with fail
 refine(qCz k hk0 hk1 _ (HTL.o.at_ hA W0.o.at_)).mono ?_;rintro e w9 ⟨rfl,rfl⟩;rw[HMM.o]
 go_wp2
 go_ret3
 exact PickEnd.no W0.o.fin.1 W0.o.fin.2

theorem qCt (hn:n<2^40)(hq:q<=1024)(hk0 : -9223372036854775808<=k)(hk1:k<=9223372036854775807)(hT:SlotsLaid w0)(hA:¬ A 0)(want:Int)(k0:0<=k)(k8:k<=8)(hb:4<want)(h:(vOb base b n wh K).At w0 A G st w) :
  Calls Tryz.prog 78 #[.pointer (some ⟨b,0,none⟩),.agg #[.int .i64 t,.int .i64 q,.int .i64 s],.int .i64 k,.int .i64 want] w (PickEnd (vOb base b n wh K) w0 A G none st w):=by
 have W0:=qh ((WL.start h).new 23 #[.int .i64 t,.int .i64 q,.int .i64 s])
 have HTL:=qh hT
 obtain⟨m,hm⟩:∃ m,slotI k=m:=⟨_,rfl⟩
 have hm0:m≠0:=fun e=>by have:=slotI_zero.1 (hm.trans e);omega
 have HMM:=qh hm
 have t0:((m:Int)==0)=false:=qs
 have t1:decide (want<(1:Int))=false:=qf
 have t2:decide ((4:Int)<want)=true:=decide_eq_true hb
 clear hm
 clear h hT
 go_enter Tryz.func78,Tryz.ntmps78
 obtain⟨x0,x1,x2⟩:=W0.o.h0.three
 go_wp2_with fail
 refine(qCz k hk0 hk1 _ (HTL.o.at_ hA W0.o.at_)).mono ?_;rintro e w9 ⟨rfl,rfl⟩;rw[HMM.o]
 go_wp2
 go_ret3
 exact PickEnd.no W0.o.fin.1 W0.o.fin.2

theorem qGB (hn:n<2^40)(hq:q<=1024)(hk0 : -9223372036854775808<=k)(hk1:k<=9223372036854775807)(hT:SlotsLaid w0)(hA:¬ A 0)(k0:0<=k)(k8:k<=8)(wn:Nat)(hw:1<=wn)(hw2:wn<=4)(hr:getV n K st (13+k)=0)(s1:Vst)(ht:takeI n K t q s 1 (getS n K st (13+k))=(none,s1))(h:(vOb base b n wh K).At w0 A G st w) :
  Calls Tryz.prog 78 #[.pointer (some ⟨b,0,none⟩),.agg #[.int .i64 t,.int .i64 q,.int .i64 s],.int .i64 k,.int .i64 (wn:Int)] w (PickEnd (vOb base b n wh K) w0 A G none s1 w):=by
 have W0:=qh ((WL.start h).new 23 #[.int .i64 t,.int .i64 q,.int .i64 s])
 have HTL:=qh hT
 obtain⟨m,hm⟩:∃ m,slotI k=m:=⟨_,rfl⟩
 have hm0:m≠0:=fun e=>by have:=slotI_zero.1 (hm.trans e);omega
 have HMM:=qh hm
 have t0:((m:Int)==0)=false:=qs
 have t1:decide ((wn:Int)<(1:Int))=false:=qf
 have t2:decide ((4:Int)<(wn:Int))=false:=qf
 clear hm
 have HR:=qh hr
 have HTK:=qh ht
 clear h hT hr ht
 go_enter Tryz.func78,Tryz.ntmps78
 obtain⟨x0,x1,x2⟩:=W0.o.h0.three
 go_wp2_with fail
 refine(qCz k hk0 hk1 _ (HTL.o.at_ hA W0.o.at_)).mono ?_;rintro e w9 ⟨rfl,rfl⟩;rw[HMM.o]
 go_wp2_with fail
 refine(qZI hn hq k0 k8 HR.o s1 HTK.o W0.o.at_).mono ?_;rintro e w1 ⟨rfl,h1,h2⟩;have W1:=qh (W0.o.call h1 h2);clear h1 h2 W0
 obtain⟨x0,x1,x2⟩:=W1.o.h0.three
 replace W1:=qh (W1.o.new 155 #[.pointer none,.int .i64 0,.int .i64 0,.int .i64 0,.int .i64 0,.int .i64 0])
 obtain⟨g0,g1,g2,g3,g4,g5⟩:=W1.o.h0.six'
 obtain⟨x0,x1,x2⟩:=W1.o.h1.three
 go_wp2
 go_ret3
 exact PickEnd.no W1.o.fin.1 W1.o.fin.2

theorem qMu (hn:n<2^40)(hq:q<=1024)(hk0 : -9223372036854775808<=k)(hk1:k<=9223372036854775807)(hT:SlotsLaid w0)(hA:¬ A 0)(k0:0<=k)(k8:k<=8)(wn:Nat)(hw:1<=wn)(hw2:wn<=4)(p:Nat)(s2:Vst)(HF:qH (∀ (G':Nat->Prop) (W':World),(vOb base b n wh K).At w0 A G' st W'->Calls Tryz.prog 114 #[.pointer (some ⟨b,0,none⟩),.agg #[.int .i64 t,.int .i64 q,.int .i64 s],.int .i64 k] W' fun e w'=>e = .returned (.tuple #[.agg #[.pointer (some ⟨b,0,none⟩),.int .i64 t,.int .i64 q,.int .i64 s,.int .i64 (p:Int),.int .i64 k],.bool true])/\(vOb base b n wh K).At w0 A G' s2 w'/\Stay G' W' w'))(s3:Vst)(hx:pickAt n K t q s k p wn s2=(none,s3))(h:(vOb base b n wh K).At w0 A G st w) :
  Calls Tryz.prog 78 #[.pointer (some ⟨b,0,none⟩),.agg #[.int .i64 t,.int .i64 q,.int .i64 s],.int .i64 k,.int .i64 (wn:Int)] w (PickEnd (vOb base b n wh K) w0 A G none s3 w):=by
 have W0:=qh ((WL.start h).new 23 #[.int .i64 t,.int .i64 q,.int .i64 s])
 have HTL:=qh hT
 obtain⟨m,hm⟩:∃ m,slotI k=m:=⟨_,rfl⟩
 have hm0:m≠0:=fun e=>by have:=slotI_zero.1 (hm.trans e);omega
 have HMM:=qh hm
 have t0:((m:Int)==0)=false:=qs
 have t1:decide ((wn:Int)<(1:Int))=false:=qf
 have t2:decide ((4:Int)<(wn:Int))=false:=qf
 clear hm
 have hq2:q<=2^31:=qo
 have HX:=qh hx
 clear h hT hx
 go_enter Tryz.func78,Tryz.ntmps78
 obtain⟨x0,x1,x2⟩:=W0.o.h0.three
 go_wp2_with fail
 refine(qCz k hk0 hk1 _ (HTL.o.at_ hA W0.o.at_)).mono ?_;rintro e w9 ⟨rfl,rfl⟩;rw[HMM.o]
 go_wp2_with fail
 refine(HF.o _ _ W0.o.at_).mono ?_;rintro e w1 ⟨rfl,h1,h2⟩;have W1:=qh (W0.o.call h1 h2);clear h1 h2 W0
 obtain⟨x0,x1,x2⟩:=W1.o.h0.three
 generalize hNP:w1.heap.size=NP at *
 replace W1:=qh (W1.o.new 155 #[.pointer (some ⟨b,0,none⟩),.int .i64 t,.int .i64 q,.int .i64 s,.int .i64 (p:Int),.int .i64 k])
 rw[hNP] at W1
 obtain⟨g0,g1,g2,g3,g4,g5⟩:=W1.o.h0.six'
 obtain⟨x0,x1,x2⟩:=W1.o.h1.three
 go_wp2_with fail
 refine(qQK hn hq2 p wn hw qo k0 k8 HTL.o hA W1.o.at_).mono ?_
 rintro e w2 ⟨u,hu,ho,hA2,hS⟩
 rw[HX.o] at ho hA2
 subst hu
 dsimp only[pickL] at ho hA2
 rw[List.length_nil] at ho
 obtain⟨A2,c2,hu2⟩:=qKK ho
 subst hu2
 have hcc:=qFm ho
 have HP:=qh (hS.held (.inr ⟨_,List.mem_cons_self ..,rfl⟩) W1.o.h0)
 obtain⟨p0,p1,p2,p3,p4,p5⟩:=HP.o.six'
 have HOW:=qh ho
 have HAT:=qh hA2
 have HST:=qh (W1.o.stay.trans (hS.less fun g x => .inl x))
 have HZ0:=qh W1.o.stay.1
 clear ho hA2 hS
 go_wp2
 go_ret3
 exact PickEnd.no (HAT.o.less fun g x => .inl (.inl x)) HST.o

theorem qOv (hn:n<2^40)(hq:q<=1024)(hk0 : -9223372036854775808<=k)(hk1:k<=9223372036854775807)(hT:SlotsLaid w0)(hA:¬ A 0)(k0:0<=k)(k8:k<=8)(wn:Nat)(hw:1<=wn)(hw2:wn<=4)(p:Nat)(s2:Vst)(HF:qH (∀ (G':Nat->Prop) (W':World),(vOb base b n wh K).At w0 A G' st W'->Calls Tryz.prog 114 #[.pointer (some ⟨b,0,none⟩),.agg #[.int .i64 t,.int .i64 q,.int .i64 s],.int .i64 k] W' fun e w'=>e = .returned (.tuple #[.agg #[.pointer (some ⟨b,0,none⟩),.int .i64 t,.int .i64 q,.int .i64 s,.int .i64 (p:Int),.int .i64 k],.bool true])/\(vOb base b n wh K).At w0 A G' s2 w'/\Stay G' W' w'))(s3:Vst)(l:List Nat)(hl:l ≠ [])(hx:pickAt n K t q s k p wn s2=(some (p,l),s3))(h:(vOb base b n wh K).At w0 A G st w) :
  Calls Tryz.prog 78 #[.pointer (some ⟨b,0,none⟩),.agg #[.int .i64 t,.int .i64 q,.int .i64 s],.int .i64 k,.int .i64 (wn:Int)] w (PickEnd (vOb base b n wh K) w0 A G (some (p,l)) s3 w):=by
 have W0:=qh ((WL.start h).new 23 #[.int .i64 t,.int .i64 q,.int .i64 s])
 have HTL:=qh hT
 obtain⟨m,hm⟩:∃ m,slotI k=m:=⟨_,rfl⟩
 have hm0:m≠0:=fun e=>by have:=slotI_zero.1 (hm.trans e);omega
 have HMM:=qh hm
 have t0:((m:Int)==0)=false:=qs
 have t1:decide ((wn:Int)<(1:Int))=false:=qf
 have t2:decide ((4:Int)<(wn:Int))=false:=qf
 clear hm
 have hq2:q<=2^31:=qo
 have HX:=qh hx
 obtain⟨nl,hnl⟩:∃ nl,l.length=nl:=⟨_,rfl⟩
 have hnl1:1<=nl:=by rw[<- hnl];cases l with|nil=>exact absurd rfl hl|cons a r=>simp
 have HNL:=qh hnl
 have t3:((nl:Int)==0)=false:=qs
 clear hl hnl
 clear h hT hx
 go_enter Tryz.func78,Tryz.ntmps78
 obtain⟨x0,x1,x2⟩:=W0.o.h0.three
 go_wp2_with fail
 refine(qCz k hk0 hk1 _ (HTL.o.at_ hA W0.o.at_)).mono ?_;rintro e w9 ⟨rfl,rfl⟩;rw[HMM.o]
 go_wp2_with fail
 refine(HF.o _ _ W0.o.at_).mono ?_;rintro e w1 ⟨rfl,h1,h2⟩;have W1:=qh (W0.o.call h1 h2);clear h1 h2 W0
 obtain⟨x0,x1,x2⟩:=W1.o.h0.three
 generalize hNP:w1.heap.size=NP at *
 replace W1:=qh (W1.o.new 155 #[.pointer (some ⟨b,0,none⟩),.int .i64 t,.int .i64 q,.int .i64 s,.int .i64 (p:Int),.int .i64 k])
 rw[hNP] at W1
 obtain⟨g0,g1,g2,g3,g4,g5⟩:=W1.o.h0.six'
 obtain⟨x0,x1,x2⟩:=W1.o.h1.three
 go_wp2_with fail
 refine(qQK hn hq2 p wn hw qo k0 k8 HTL.o hA W1.o.at_).mono ?_
 rintro e w2 ⟨u,hu,ho,hA2,hS⟩
 rw[HX.o] at ho hA2
 subst hu
 dsimp only[pickL] at ho hA2
 rw[HNL.o] at ho
 obtain⟨A2,c2,hu2⟩:=qKK ho
 subst hu2
 have hcc:=qFm ho
 have HP:=qh (hS.held (.inr ⟨_,List.mem_cons_self ..,rfl⟩) W1.o.h0)
 obtain⟨p0,p1,p2,p3,p4,p5⟩:=HP.o.six'
 have HOW:=qh ho
 have HAT:=qh hA2
 have HST:=qh (W1.o.stay.trans (hS.less fun g x => .inl x))
 have HZ0:=qh W1.o.stay.1
 clear ho hA2 hS
 go_wp2
 go_ret3
 refine⟨_,rfl,_,rfl,?_,HAT.o.less (fun g x=>?_),HST.o⟩
 ·dsimp only[pickL]
  rw[HNL.o]
  exact qXO HOW.o HZ0.o
 ·rcases x with x|x
  ·exact .inl (.inl x)
  ·exact .inr x

theorem qFM (hn:n<2^40)(hq:q<=1024)(hk0 : -9223372036854775808<=k)(hk1:k<=9223372036854775807)(hT:SlotsLaid w0)(hA:¬ A 0)(k0:0<=k)(k8:k<=8)(wn:Nat)(hw:1<=wn)(hw2:wn<=4)(h:(vOb base b n wh K).At w0 A G st w) :
  Calls Tryz.prog 78 #[.pointer (some ⟨b,0,none⟩),.agg #[.int .i64 t,.int .i64 q,.int .i64 s],.int .i64 k,.int .i64 (wn:Int)] w (PickEnd (vOb base b n wh K) w0 A G (pickI n K t q s k wn st).1 (pickI n K t q s k wn st).2 w):=by
 have hat:∀ (p:Nat) (s2:Vst),(qH (∀ (G':Nat->Prop) (W':World),(vOb base b n wh K).At w0 A G' st W'->Calls Tryz.prog 114 #[.pointer (some ⟨b,0,none⟩),.agg #[.int .i64 t,.int .i64 q,.int .i64 s],.int .i64 k] W' fun e w'=>e = .returned (.tuple #[.agg #[.pointer (some ⟨b,0,none⟩),.int .i64 t,.int .i64 q,.int .i64 s,.int .i64 (p:Int),.int .i64 k],.bool true])/\(vOb base b n wh K).At w0 A G' s2 w'/\Stay G' W' w')) ->
   Calls Tryz.prog 78 #[.pointer (some ⟨b,0,none⟩),.agg #[.int .i64 t,.int .i64 q,.int .i64 s],.int .i64 k,.int .i64 (wn:Int)] w (PickEnd (vOb base b n wh K) w0 A G (pickAt n K t q s k p wn s2).1 (pickAt n K t q s k p wn s2).2 w):=fun p s2 HF=>by
  obtain⟨⟨x,s3⟩,hx⟩:∃ x,pickAt n K t q s k p wn s2=x:=⟨_,rfl⟩
  rcases qQ4 (n:=n) (K:=K) (t:=t) (q:=q) (s:=s) (k:=k) (p:=p) (w:=wn) (st:=s2) with h1|⟨l,hl,h1⟩
  ·rw[hx] at h1 ⊢
   dsimp only at h1
   subst h1
   exact qMu hn hq hk0 hk1 hT hA k0 k8 wn hw hw2 p s2 HF s3 hx h
  ·rw[hx] at h1 ⊢
   dsimp only at h1
   subst h1
   exact qOv hn hq hk0 hk1 hT hA k0 k8 wn hw hw2 p s2 HF s3 l hl hx h
 cases hr:getV n K st (13+k) with
 | succ r =>
  rw[qRT hr]
  exact hat r _ (qh fun G' W' h'=>qU7 hn hq k0 k8 r hr h')
 | zero =>
  obtain⟨⟨o,s1⟩,ht⟩:∃ x,takeI n K t q s 1 (getS n K st (13+k))=x:=⟨_,rfl⟩
  cases o with
  | none =>
   rw[qUP hr ht]
   exact qGB hn hq hk0 hk1 hT hA k0 k8 wn hw hw2 hr s1 ht h
  | some p =>
   rw[qBM hr ht]
   exact hat p _ (qh fun G' W' h'=>qUy hn hq k0 k8 hr p s1 ht h')

def pickZ (n:Nat) (K:Nat->Option Nat) (t q s k want:Int) (st:Vst):Option (Nat × List Nat) × Vst:=if (0<=k/\k<=8)/\1<=want/\want<=4 then pickI n K t q s k want.toNat st else (none,st)
theorem qKl {want:Int}(h:¬ ((0<=k/\k<=8)/\1<=want/\want<=4)):pickZ n K t q s k want st=(none,st):=by unfold pickZ;rw[if_neg h]
theorem qDo {wn:Nat}(k0:0<=k)(k8:k<=8)(hw:1<=wn)(hw2:wn<=4):pickZ n K t q s k (wn:Int) st=pickI n K t q s k wn st:=by unfold pickZ;rw[if_pos ⟨⟨k0,k8⟩,qo,qo⟩,Int.toNat_natCast]
theorem qWC (hn:n<2^40)(hq:q<=1024)(hk0 : -9223372036854775808<=k)(hk1:k<=9223372036854775807)(hT:SlotsLaid w0)(hA:¬ A 0)(want:Int)(h:(vOb base b n wh K).At w0 A G st w) :
  Calls Tryz.prog 78 #[.pointer (some ⟨b,0,none⟩),.agg #[.int .i64 t,.int .i64 q,.int .i64 s],.int .i64 k,.int .i64 want] w (PickEnd (vOb base b n wh K) w0 A G (pickZ n K t q s k want st).1 (pickZ n K t q s k want st).2 w):=by
 by_cases hb:(0<=k/\k<=8)/\1<=want/\want<=4
 ·obtain⟨wn,rfl⟩:=Int.eq_ofNat_of_zero_le (show 0<=want by omega)
  have e:pickZ n K t q s k (wn:Int) st=pickI n K t q s k wn st:=qDo hb.1.1 hb.1.2 qo qo
  rw[e]
  exact qFM hn hq hk0 hk1 hT hA hb.1.1 hb.1.2 wn qo qo h
 ·rw[qKl hb]
  by_cases b1:k<0\/8<k
  ·exact qS5 hn hq hk0 hk1 hT hA want b1 h
  ·by_cases b2:want<1
   ·exact qJ8 hn hq hk0 hk1 hT hA want qo qo b2 h
   ·exact qCt hn hq hk0 hk1 hT hA want qo qo qo h

theorem qGs (hn:n<2^40)(hq:q<=1024)(p i:Nat)(hp:p<=1024)(hi:i<32)(hT:SlotsLaid w0)(hA:¬ A 0)(kk l c:Int)(ok:Bool)(hI:infoOf n K t q s p st=(kk,l,c,ok))(c0:0<=c)(c8:c<=8)(h:(vOb base b n wh K).At w0 A G st w) :
  Calls Tryz.prog 104 #[.pointer (some ⟨b,0,none⟩),.agg #[.int .i64 t,.int .i64 q,.int .i64 s],.int .i64 (p:Int),.int .i64 (i:Int)] w fun e w'=>e = .returned (.tuple #[])/\(vOb base b n wh K).At w0 A G (giveAt n K t q s c p i (getS n K st (pageI t q s p 0))) w'/\Stay G w w':=by
 have W0:=qh ((WL.start h).new 23 #[.int .i64 t,.int .i64 q,.int .i64 s])
 obtain⟨v,hv⟩:∃ v,getV n K st (pageI t q s p 0)=v:=⟨_,rfl⟩
 have hv32:v<2^32:=by rw[<- hv];exact qHJ h _
 have HI:qH (infoG v=(kk,l,c,ok)):=qh (by rw[<- hv];exact hI)
 have HV:=qh hv
 have HTL:=qh hT
 have t0:decide ((i:Int)<(0:Int))=false:=qf
 have t1:decide ((32:Int)<=(i:Int))=false:=qf
 clear h hI hv hT
 go_enter Tryz.func104,Tryz.ntmps104
 obtain⟨x0,x1,x2⟩:=W0.o.h0.three
 go_wp2_with fail
 refine(qSM t q s (p:Int) _).mono ?_;rintro e w1 ⟨rfl,hb⟩;have W1:=qh (W0.o.keep hb);clear hb W0
 obtain⟨x0,x1,x2⟩:=W1.o.h0.three
 go_wp2_with fail
 refine(vGetA hn _ W1.o.at_).mono ?_;rintro e w2 ⟨rfl,h1,h2⟩;have W2:=qh (W1.o.call h1 h2);clear h1 h2 W1;rw[HV.o]
 obtain⟨x0,x1,x2⟩:=W2.o.h0.three
 go_wp2_with fail
 refine(qMJ v kk l c ok hv32 HI.o _).mono ?_;rintro e w3 ⟨rfl,hb⟩;have W3:=qh (W2.o.keep hb);clear hb W2
 generalize hNI:w3.heap.size=NI at *
 replace W3:=qh (W3.o.new 119 #[.int .i64 kk,.int .i64 l,.int .i64 c])
 rw[hNI] at W3
 obtain⟨i0,i1,i2⟩:=W3.o.h0.three
 obtain⟨x0,x1,x2⟩:=W3.o.h1.three
 go_wp2_with fail
 refine(qKH hn hq p i hp hi c0 c8 HTL.o hA W3.o.at_).mono ?_;rintro e w4 ⟨rfl,h1,h2⟩;have W4:=qh (W3.o.call h1 h2);clear h1 h2 W3
 obtain⟨i0,i1,i2⟩:=W4.o.h0.three
 obtain⟨x0,x1,x2⟩:=W4.o.h1.three
 go_wp2
 go_end0
 exact⟨rfl,W4.o.fin⟩

theorem qFH (hn:n<2^40)(hq:q<=1024)(p i:Nat)(hp:p<=1024)(hi:i<32)(hT:SlotsLaid w0)(hA:¬ A 0)(c0:0<=(infoOf n K t q s p st).2.2.1)(c8:(infoOf n K t q s p st).2.2.1<=8)(h:(vOb base b n wh K).At w0 A G st w) :
  Calls Tryz.prog 104 #[.pointer (some ⟨b,0,none⟩),.agg #[.int .i64 t,.int .i64 q,.int .i64 s],.int .i64 (p:Int),.int .i64 (i:Int)] w fun e w'=>e = .returned (.tuple #[])/\(vOb base b n wh K).At w0 A G (giveS n K t q s p i st) w'/\Stay G w w':=by
 unfold giveS
 obtain⟨⟨kk,l,c,ok⟩,hI⟩:∃ x,infoOf n K t q s p st=x:=⟨_,rfl⟩
 rw[hI] at c0 c8 ⊢
 exact qGs hn hq p i hp hi hT hA kk l c ok hI c0 c8 h

end
end
open Go.Shelf
section
theorem qVC {H:AuH}{n c:Nat}(HV:HeapV H n c)(ad:Addr){q:Nat}(hq:q<H.p)(w:World)(hv:IsVals w ad n H.V) :
  Calls Tryz.prog 59 #[hpV H ad n c,.int .i64 (q:Int)] w fun e w'=>e = .returned (.int .u32 (H.cel q 4:Nat))/\Below w.heap.size w w':=by
 obtain⟨i,hii⟩:∃ i,30+4*H.t+6*q+4=i:=⟨_,rfl⟩
 have hini:i<n:=by have:=HV.len;omega
 have HI:qH (pageI H.t H.p H.s q 4=(i:Int)):=qh (by have h:=HV.page (b:=4) hq qo;rw[hii] at h;exact h)
 have h32i:=HV.cel_lt hq (show 4<6 by omega)
 have hceli:H.cel q 4=H.V i:=by unfold AuH.cel;rw[hii]
 obtain⟨v,hvvv⟩:∃ v,H.cel q 4=v:=⟨_,rfl⟩
 have HCv:=qh hvvv
 rw[hvvv] at h32i
 have hci:=(hv).2 i hini
 rw[<- hceli,hvvv] at hci
 have hbli:(ad.add i).block<w.heap.size:=by rw[qXL];exact(hv).1
 have hn:=HV.nums
 have hcx:c<=9223372036854775807:=hn.2.2.2.2.2.2.2.2
 have hni:n<=6238:=hn.2.2.2.2.2.2.1
 have hnc:=HV.cap
 rw[hvvv]
 have hc:=Held.new w 114 #[.int .i64 (H.t:Int),.int .i64 (H.p:Int),.int .i64 (H.s:Int),.slice (some ad) n c]
 have HS:qH (∀ w',Below w.heap.size w w'->Held w' w.heap.size 114 #[.int .i64 (H.t:Int),.int .i64 (H.p:Int),.int .i64 (H.s:Int),.slice (some ad) n c]->(fun w'=>w'.cell? ⟨w.heap.size,0,none⟩=some (.int .i64 (H.t:Int))/\w'.cell? ⟨w.heap.size,1,none⟩=some (.int .i64 (H.p:Int))/\w'.cell? ⟨w.heap.size,2,none⟩=some (.int .i64 (H.s:Int))/\w'.cell? ⟨w.heap.size,3,none⟩=some (.slice (some ad) n c)/\w'.cell? (ad.add i)=some (.int .u32 (v:Int))) w'):=qh (fun w' hb hh=>⟨hh.four.1,hh.four.2.1,hh.four.2.2.1,hh.four.2.2.2,(hb.cell hbli).trans hci⟩)
 clear hv hci hbli hceli hvvv hii hn hq HCv h32i
 unfold hpV
 go_enter Tryz.func59,Tryz.ntmps59
 go_wp2_with fail
 refine wp_region_held_drew (S:=(fun w'=>w'.cell? ⟨w.heap.size,0,none⟩=some (.int .i64 (H.t:Int))/\w'.cell? ⟨w.heap.size,1,none⟩=some (.int .i64 (H.p:Int))/\w'.cell? ⟨w.heap.size,2,none⟩=some (.int .i64 (H.s:Int))/\w'.cell? ⟨w.heap.size,3,none⟩=some (.slice (some ad) n c)/\w'.cell? (ad.add i)=some (.int .u32 (v:Int)))) qr ?_ (fun hHeld=>?_)
 ·exact MfR
 refine tkz 0 ?_
 refine tkz 1 ?_
 refine tkz 2 ?_
 refine tkz 3 ?_
 refine tkz 4 ?_
 refine rdz 5 fun K hK=>?_
 go_simp
 (go_at_call 42;refine(qSX _ _ _ _ _).mono ?_;rintro e w1 ⟨rfl,hb1⟩;rw[HI.o];have HB1:=qh (Bgo (Bdrew (Bnew (B0 w) _)) hb1);have HC1:=qh (hc.drew.keep hb1);clear hb1)
 refine qk ?_ (fun hHeld=>?_)
 ·exact M2k
 clear hK K
 refine tkz 6 ?_
 refine tkz 7 ?_
 refine tkz 8 ?_
 refine dnz ?_
 go_wp2
 go_ret
 exact⟨rfl,HB1.o⟩

theorem qXi {H:AuH}{n c:Nat}(HV:HeapV H n c)(ad:Addr){q:Nat}(hq:q<H.p)(w:World)(hv:IsVals w ad n H.V) :
  Calls Tryz.prog 176 #[hpV H ad n c,.int .i64 (q:Int)] w fun e w'=>e = .returned (.int .u32 (H.cel q 5:Nat))/\Below w.heap.size w w':=by
 obtain⟨i,hii⟩:∃ i,30+4*H.t+6*q+5=i:=⟨_,rfl⟩
 have hini:i<n:=by have:=HV.len;omega
 have HI:qH (pageI H.t H.p H.s q 5=(i:Int)):=qh (by have h:=HV.page (b:=5) hq qo;rw[hii] at h;exact h)
 have h32i:=HV.cel_lt hq (show 5<6 by omega)
 have hceli:H.cel q 5=H.V i:=by unfold AuH.cel;rw[hii]
 obtain⟨v,hvvv⟩:∃ v,H.cel q 5=v:=⟨_,rfl⟩
 have HCv:=qh hvvv
 rw[hvvv] at h32i
 have hci:=(hv).2 i hini
 rw[<- hceli,hvvv] at hci
 have hbli:(ad.add i).block<w.heap.size:=by rw[qXL];exact(hv).1
 have hn:=HV.nums
 have hcx:c<=9223372036854775807:=hn.2.2.2.2.2.2.2.2
 have hni:n<=6238:=hn.2.2.2.2.2.2.1
 have hnc:=HV.cap
 rw[hvvv]
 have hc:=Held.new w 114 #[.int .i64 (H.t:Int),.int .i64 (H.p:Int),.int .i64 (H.s:Int),.slice (some ad) n c]
 have HS:qH (∀ w',Below w.heap.size w w'->Held w' w.heap.size 114 #[.int .i64 (H.t:Int),.int .i64 (H.p:Int),.int .i64 (H.s:Int),.slice (some ad) n c]->(fun w'=>w'.cell? ⟨w.heap.size,0,none⟩=some (.int .i64 (H.t:Int))/\w'.cell? ⟨w.heap.size,1,none⟩=some (.int .i64 (H.p:Int))/\w'.cell? ⟨w.heap.size,2,none⟩=some (.int .i64 (H.s:Int))/\w'.cell? ⟨w.heap.size,3,none⟩=some (.slice (some ad) n c)/\w'.cell? (ad.add i)=some (.int .u32 (v:Int))) w'):=qh (fun w' hb hh=>⟨hh.four.1,hh.four.2.1,hh.four.2.2.1,hh.four.2.2.2,(hb.cell hbli).trans hci⟩)
 clear hv hci hbli hceli hvvv hii hn hq HCv h32i
 unfold hpV
 go_enter Tryz.func176,Tryz.ntmps176
 go_wp2_with fail
 refine wp_region_held_drew (S:=(fun w'=>w'.cell? ⟨w.heap.size,0,none⟩=some (.int .i64 (H.t:Int))/\w'.cell? ⟨w.heap.size,1,none⟩=some (.int .i64 (H.p:Int))/\w'.cell? ⟨w.heap.size,2,none⟩=some (.int .i64 (H.s:Int))/\w'.cell? ⟨w.heap.size,3,none⟩=some (.slice (some ad) n c)/\w'.cell? (ad.add i)=some (.int .u32 (v:Int)))) qr ?_ (fun hHeld=>?_)
 ·exact MfR
 refine tkz 0 ?_
 refine tkz 1 ?_
 refine tkz 2 ?_
 refine tkz 3 ?_
 refine tkz 4 ?_
 refine rdz 5 fun K hK=>?_
 go_simp
 (go_at_call 90;refine(qLb _ _ _ _ _).mono ?_;rintro e w1 ⟨rfl,hb1⟩;rw[HI.o];have HB1:=qh (Bgo (Bdrew (Bnew (B0 w) _)) hb1);have HC1:=qh (hc.drew.keep hb1);clear hb1)
 refine qk ?_ (fun hHeld=>?_)
 ·exact M2k
 clear hK K
 refine tkz 6 ?_
 refine tkz 7 ?_
 refine tkz 8 ?_
 refine dnz ?_
 go_wp2
 go_ret
 exact⟨rfl,HB1.o⟩

theorem qMU {H:AuH}{n c:Nat}(HV:HeapV H n c)(ad:Addr){q:Nat}(hq:q<H.p)(w:World)(hv:IsVals w ad n H.V) :
  Calls Tryz.prog 149 #[hpV H ad n c,.int .i64 (q:Int)] w fun e w'=>e = .returned (.agg #[.int .i64 (H.K q),.int .i64 (H.ln q:Int),.int .i64 (H.Cl q)])/\Below w.heap.size w w':=by
 obtain⟨i,hii⟩:∃ i,30+4*H.t+6*q+0=i:=⟨_,rfl⟩
 have hini:i<n:=by have:=HV.len;omega
 have HI:qH (pageI H.t H.p H.s q 0=(i:Int)):=qh (by have h:=HV.page (b:=0) hq qo;rw[hii] at h;exact h)
 have h32i:=HV.cel_lt hq (show 0<6 by omega)
 have hceli:H.cel q 0=H.V i:=by unfold AuH.cel;rw[hii]
 obtain⟨v,hvvv⟩:∃ v,H.cel q 0=v:=⟨_,rfl⟩
 have HCv:=qh hvvv
 rw[hvvv] at h32i
 have hci:=(hv).2 i hini
 rw[<- hceli,hvvv] at hci
 have hbli:(ad.add i).block<w.heap.size:=by rw[qXL];exact(hv).1
 have hn:=HV.nums
 have hcx:c<=9223372036854775807:=hn.2.2.2.2.2.2.2.2
 have hni:n<=6238:=hn.2.2.2.2.2.2.1
 have hnc:=HV.cap
 have hie:=H.info_eq q
 rw[H.L_ln,hvvv] at hie
 generalize H.K q=k at *
 generalize H.ln q=m at *
 generalize H.Cl q=cl at *
 generalize H.ok q=okb at *
 have HG:=qh hie
 have hc:=(Held.new w 114 #[.int .i64 (H.t:Int),.int .i64 (H.p:Int),.int .i64 (H.s:Int),.slice (some ad) n c]).alloc (.cells #[.int .i64 0,.int .i64 0,.int .i64 0] 119)
 have HR:=qh (Held.new2 w (.cells #[.int .i64 (H.t:Int),.int .i64 (H.p:Int),.int .i64 (H.s:Int),.slice (some ad) n c] 114) 119 #[.int .i64 0,.int .i64 0,.int .i64 0])
 have HBW:=qh (Bnew (Bnew (B0 w) (.cells #[.int .i64 (H.t:Int),.int .i64 (H.p:Int),.int .i64 (H.s:Int),.slice (some ad) n c] 114)) (.cells #[.int .i64 0,.int .i64 0,.int .i64 0] 119))
 have HS:qH (∀ w',Below ((w.alloc (.cells #[.int .i64 (H.t:Int),.int .i64 (H.p:Int),.int .i64 (H.s:Int),.slice (some ad) n c] 114)).alloc (.cells #[.int .i64 0,.int .i64 0,.int .i64 0] 119)).heap.size ((w.alloc (.cells #[.int .i64 (H.t:Int),.int .i64 (H.p:Int),.int .i64 (H.s:Int),.slice (some ad) n c] 114)).alloc (.cells #[.int .i64 0,.int .i64 0,.int .i64 0] 119)) w'->(fun w'=>w'.cell? ⟨w.heap.size,0,none⟩=some (.int .i64 (H.t:Int))/\w'.cell? ⟨w.heap.size,1,none⟩=some (.int .i64 (H.p:Int))/\w'.cell? ⟨w.heap.size,2,none⟩=some (.int .i64 (H.s:Int))/\w'.cell? ⟨w.heap.size,3,none⟩=some (.slice (some ad) n c)/\w'.cell? (ad.add i)=some (.int .u32 (v:Int))) w'):=qh (fun w' hb=>by have hh:=hc.keep hb;exact⟨hh.four.1,hh.four.2.1,hh.four.2.2.1,hh.four.2.2.2,((Bgo HBW.o hb).cell hbli).trans hci⟩)
 clear hv hci hbli hceli hvvv hii hn hq HCv hie hc
 unfold hpV
 go_enter Tryz.func149,Tryz.ntmps149
 go_upto_region 1 with fail
 go_cut [5,6] from 7 to 18 (fun u5 u6 wx=>∃ g:Nat,u5 = .pointer (some ⟨g,0,none⟩)/\Held wx g 119 #[(.int .i64 k),(.int .i64 (m:Int)),(.int .i64 cl)]/\Below ((w.alloc (.cells #[.int .i64 (H.t:Int),.int .i64 (H.p:Int),.int .i64 (H.s:Int),.slice (some ad) n c] 114)).alloc (.cells #[.int .i64 0,.int .i64 0,.int .i64 0] 119)).heap.size ((w.alloc (.cells #[.int .i64 (H.t:Int),.int .i64 (H.p:Int),.int .i64 (H.s:Int),.slice (some ad) n c] 114)).alloc (.cells #[.int .i64 0,.int .i64 0,.int .i64 0] 119)) wx/\((w.alloc (.cells #[.int .i64 (H.t:Int),.int .i64 (H.p:Int),.int .i64 (H.s:Int),.slice (some ad) n c] 114)).alloc (.cells #[.int .i64 0,.int .i64 0,.int .i64 0] 119)).heap.size<=g)
 case first =>
  have HB:=qh (Bdrew (B0 (((w.alloc (.cells #[.int .i64 (H.t:Int),.int .i64 (H.p:Int),.int .i64 (H.s:Int),.slice (some ad) n c] 114)).alloc (.cells #[.int .i64 0,.int .i64 0,.int .i64 0] 119)))))
  refine wp_region_held_drew (S:=(fun w'=>w'.cell? ⟨w.heap.size,0,none⟩=some (.int .i64 (H.t:Int))/\w'.cell? ⟨w.heap.size,1,none⟩=some (.int .i64 (H.p:Int))/\w'.cell? ⟨w.heap.size,2,none⟩=some (.int .i64 (H.s:Int))/\w'.cell? ⟨w.heap.size,3,none⟩=some (.slice (some ad) n c)/\w'.cell? (ad.add i)=some (.int .u32 (v:Int)))) qr ?_ (fun hHeld=>?_)
  ·(try dsimp only)
   exact HS.o _ HB.o
  generalize hq0:(((w.alloc (.cells #[.int .i64 (H.t:Int),.int .i64 (H.p:Int),.int .i64 (H.s:Int),.slice (some ad) n c] 114)).alloc (.cells #[.int .i64 0,.int .i64 0,.int .i64 0] 119))).drew=q0 at HB hHeld ⊢
  clear hq0
  refine Ro3 ?_
  refine tkz 3 ?_
  refine tkz 4 ?_
  refine wpAnyH_ready (rs := [5,12]) qr (by simp) ?_
  refine AllReadyH.cons (o:=_) rfl (fun K hK=>?_) (AllReadyH.cons (o:=_) rfl (fun K hK=>?_) AllReadyH.nil)
  ·skip
   go_simp
   (go_at_call 87;refine(qQ1 _ _ _ _ _).mono ?_;rintro e q1 ⟨rfl,hb1⟩;rw[HI.o];have HB:=qh (Bgo HB.o hb1);skip;clear hb1)
   refine RRY ?_;intro hHeld
   clear hK K
   refine tkz 6 ?_
   refine tkz 7 ?_
   refine wpAnyH_ready (rs := [8,12]) qr (by simp) ?_
   refine AllReadyH.cons (o:=_) rfl (fun K hK=>?_) (AllReadyH.cons (o:=_) rfl (fun K hK=>?_) AllReadyH.nil)
   ·skip
    go_simp
    (go_at_call 105;refine(qRV _ _ _ _ _ h32i HG.o _).mono ?_;rintro e q2 ⟨rfl,hb1⟩;have HB:=qh (Bgo HB.o hb1);skip;clear hb1)
    refine RRY ?_;intro hHeld
    clear hK K
    refine tkz 9 ?_
    refine tkz 10 ?_
    refine tkz 11 ?_
    refine rdz 12 fun K hK=>?_
    ·refine RpV ?_;intro HLE HB
     have HN:=qh (Held.new q2 119 #[.int .i64 0,.int .i64 0,.int .i64 0])
     try simp only[World.heap_drew] at HLE HN
     generalize hq3:q2.alloc (.cells #[.int .i64 0,.int .i64 0,.int .i64 0] 119)=q3 at HB HN ⊢
     clear hq3
     refine RRY ?_;intro hHeld
     clear hK K
     exact MMM
   ·refine RpV ?_;intro HLE HB
    have HN:=qh (Held.new q1 119 #[.int .i64 0,.int .i64 0,.int .i64 0])
    try simp only[World.heap_drew] at HLE HN
    generalize hq4:q1.alloc (.cells #[.int .i64 0,.int .i64 0,.int .i64 0] 119)=q4 at HB HN ⊢
    clear hq4
    refine RRY ?_;intro hHeld
    clear hK K
    refine rdz 8 fun K hK=>?_
    ·skip
     go_simp
     (go_at_call 105;refine(qRV _ _ _ _ _ h32i HG.o _).mono ?_;rintro e q5 ⟨rfl,hb1⟩;have HB:=qh (Bgo HB.o hb1);have HN:=qh (HN.o.keep hb1);clear hb1)
     exact M3p
  ·refine RpV ?_;intro HLE HB
   have HN:=qh (Held.new q0 119 #[.int .i64 0,.int .i64 0,.int .i64 0])
   try simp only[World.heap_drew] at HLE HN
   generalize hq6:q0.alloc (.cells #[.int .i64 0,.int .i64 0,.int .i64 0] 119)=q6 at HB HN ⊢
   clear hq6
   refine RRY ?_;intro hHeld
   clear hK K
   refine rdz 5 fun K hK=>?_
   ·skip
    go_simp
    (go_at_call 87;refine(qQ1 _ _ _ _ _).mono ?_;rintro e q7 ⟨rfl,hb1⟩;rw[HI.o];have HB:=qh (Bgo HB.o hb1);have HN:=qh (HN.o.keep hb1);clear hb1)
    refine RRY ?_;intro hHeld
    clear hK K
    refine tkz 6 ?_
    refine tkz 7 ?_
    refine rdz 8 fun K hK=>?_
    ·skip
     go_simp
     (go_at_call 105;refine(qRV _ _ _ _ _ h32i HG.o _).mono ?_;rintro e q8 ⟨rfl,hb1⟩;have HB:=qh (Bgo HB.o hb1);have HN:=qh (HN.o.keep hb1);clear hb1)
     exact M3p
 case rest =>
  obtain⟨g,rfl,h1,h2,h3⟩:=hcut
  obtain⟨x0,x1,x2⟩:=h1.three
  have z:=HR.o.keep h2
  obtain⟨y0,y1,y2⟩:=z.three
  obtain⟨v0,v1,v2⟩:=(((z.put 0 (.int .i64 k)).put 1 (.int .i64 (m:Int))).put 2 (.int .i64 cl)).three
  have f0:=z.thawed 0
  have f1:=z.thawed 1
  have f2:=z.thawed 2
  go_wp2_with fail
  refine bodyPost_ret (v := .agg #[(.int .i64 k),(.int .i64 (m:Int)),(.int .i64 cl)]) (by simp[results,Tryz.results149,go_sem,v0,v1,v2]) rfl ⟨rfl,?_⟩
  exact Bput (Bput (Bput (Bgo HBW.o h2) (by simp) _) (by simp) _) (by simp) _
end
section
def natVs (l:List Nat):List Value:=l.map fun (n:Nat)=>Value.int .i64 (n:Int)
theorem qKj (l:List Nat)(q:Nat):natVs (l ++ [q])=natVs l ++ [.int .i64 (q:Int)]:=by unfold natVs;simp
theorem qHG {l:List Nat}{i a:Nat}(h:l[i]?=some a):(natVs l)[i]?=some (.int .i64 (a:Int)):=by unfold natVs;simp[h]
theorem qUf {w:World}{base n g cap:Nat}{e:TypeId}{l:List Nat}(h:w.ownsRow base e 1 (.slice (some ⟨g,0,none⟩) n cap) n (natVs l))(hn:l.length=n){i a:Nat}(hi:l[i]?=some a):w.cell? ⟨g,i,none⟩=some (.int .i64 (a:Int)):=by
 have hl:i<n:=by
  rcases Nat.lt_or_ge i n with h1|h1
  ·exact h1
  ·rw[List.getElem?_eq_none qo] at hi;cases hi
 exact(h.cellAt _ qo).trans (qHG hi)
def StartsIs (H:AuH) (w:World) (u:Value) (b:Bool) (w':World):Prop:=(b=true↔H.At H.p)/\(b=true->∃ l,H.Starts l H.p/\w'.ownsRow w.heap.size 3 1 u l.length (natVs l))
def StartsEnd (H:AuH) (w:World) (e:Ending) (w':World):Prop:=∃ u b,e = .returned (.tuple #[u,.bool b])/\StartsIs H w u b w'/\Below w.heap.size w w'

theorem qYO {H:AuH}{n c:Nat}(HV:HeapV H n c)(ad:Addr)(w:World)(hv:IsVals w ad n H.V) :
    Calls Tryz.prog 175 #[hpV H ad n c] w (StartsEnd H w):=by
  have HVL:=qh hv
  have HX0:=qh ((Held.new w 114 #[.int .i64 (H.t:Int),.int .i64 (H.p:Int),.int .i64 (H.s:Int),.slice (some ad) n c]).alloc (.cells #[] 3))
  have HBW:=qh (Bnew (Bnew (B0 w) (.cells #[.int .i64 (H.t:Int),.int .i64 (H.p:Int),.int .i64 (H.s:Int),.slice (some ad) n c] 114)) (.cells #[] 3))
  have HOW:qH (((w.alloc (.cells #[.int .i64 (H.t:Int),.int .i64 (H.p:Int),.int .i64 (H.s:Int),.slice (some ad) n c] 114)).alloc (.cells #[] 3)).ownsRow (w.heap.size+1) 3 1 (.slice (some ⟨(w.alloc (.cells #[.int .i64 (H.t:Int),.int .i64 (H.p:Int),.int .i64 (H.s:Int),.slice (some ad) n c] 114)).heap.size,0,none⟩) 0 0) 0 []):=qh (World.ownsRow_lit (base:=(w.heap.size+1)) (e := 3) (size:=1) (w.alloc (.cells #[.int .i64 (H.t:Int),.int .i64 (H.p:Int),.int .i64 (H.s:Int),.slice (some ad) n c] 114)) #[] 0 (by simp) (by unfold maxLen;omega) rfl)
  obtain⟨i0,hi0,hz0,hz1,hz2⟩:=info_parts intInfo
  have hn:=HV.nums
  have hcx:c<=9223372036854775807:=hn.2.2.2.2.2.2.2.2
  have hni:n<=6238:=hn.2.2.2.2.2.2.1
  have hnc:=HV.cap
  have hp1:=hn.2.2.2.1
  clear hv hn
  unfold hpV
  go_enter Tryz.func175,Tryz.ntmps175
  go_wp2_with fail
  rw[World.size_alloc] at HOW
  generalize (w.alloc (.cells #[.int .i64 (H.t:Int),.int .i64 (H.p:Int),.int .i64 (H.s:Int),.slice (some ad) n c] 114)).alloc (.cells #[] 3)=W0 at *
  go_loopw [4,5] (fun u4 u5 wr=>∃ (a:Nat) (l:List Nat) (nl:Nat),u5 = .int .i64 (a:Int)/\a<=4096/\qH ((a<=H.p/\H.Starts l a)\/(H.p<a/\¬ H.At H.p))/\nl<=1024/\qH (l.length=nl)/\qH (wr.ownsRow (w.heap.size+1) 3 1 u4 nl (natVs l))/\qH (Held wr w.heap.size 114 #[.int .i64 (H.t:Int),.int .i64 (H.p:Int),.int .i64 (H.s:Int),.slice (some ad) n c])/\qH (Below w.heap.size w wr)) (fun _ u5 _=>H.p-(intOf u5).toNat)
  case atStart=>exact⟨0,[],0,rfl,qo,qh (.inl ⟨qo,.nil⟩),qo,qh rfl,HOW,HX0,HBW⟩
  case round =>
    clear HOW HX0 HBW
    obtain⟨a,l,nl,rfl,ha,HST,hnl,HLN,HO,HX,HB⟩:=hrel
    obtain⟨c0,c1,c2,c3⟩:=HX.o.four
    by_cases hlt:a<H.p
    · have hst:H.Starts l a:=by
        rcases HST.o with h|h
        · exact h.2
        · omega
      have HSL:=qh hst
      have hln:=hst.len
      have t0:decide ((a:Int)<H.p)=true:=qt
      have HVR:=qh (HVL.o.below HB.o)
      obtain⟨i,hii⟩:∃ i,30+4*H.t+6*a+0=i:=⟨_,rfl⟩
      have hini:i<n:=by have:=HV.len;omega
      have HI:qH (pageI H.t H.p H.s a 0=(i:Int)):=qh (by have h:=HV.page (b:=0) hlt qo;rw[hii] at h;exact h)
      have h32i:=HV.cel_lt hlt (show 0<6 by omega)
      have hceli:H.cel a 0=H.V i:=by unfold AuH.cel;rw[hii]
      obtain⟨v,hvvv⟩:∃ v,H.cel a 0=v:=⟨_,rfl⟩
      have HCv:=qh hvvv
      rw[hvvv] at h32i
      have hci:=(HVR.o).2 i hini
      rw[<- hceli,hvvv] at hci
      have hbli:(ad.add i).block<wr.heap.size:=by rw[qXL];exact(HVR.o).1
      have HS:qH (∀ w',Below wr.heap.size wr w'->(fun w'=>w'.cell? ⟨w.heap.size,0,none⟩=some (.int .i64 (H.t:Int))/\w'.cell? ⟨w.heap.size,1,none⟩=some (.int .i64 (H.p:Int))/\w'.cell? ⟨w.heap.size,2,none⟩=some (.int .i64 (H.s:Int))/\w'.cell? ⟨w.heap.size,3,none⟩=some (.slice (some ad) n c)/\w'.cell? (ad.add i)=some (.int .u32 (v:Int))) w'):=qh (fun w' hb=>by have hh:=HX.o.keep hb;exact⟨hh.four.1,hh.four.2.1,hh.four.2.2.1,hh.four.2.2.2,(hb.cell hbli).trans hci⟩)
      have hie:=H.info_eq a
      rw[H.L_ln,hvvv] at hie
      have hok:=H.ok_of a
      have hkc:=H.K_cases a
      have HCN:qH (H.can a=false->¬ H.At H.p):=qh (fun h hp=>by have:=(AuH.At.next hst.at_ hp hlt).1;rw[h] at this;cases this)
      have HCA:qH (H.K a≠0->a+H.ln a<=H.p->H.can a=true/\H.nx a=a+H.ln a):=qh (fun h1 h2=>⟨(H.can_iff a).2 ⟨hlt,h1,h2⟩,rfl⟩)
      have HCF:qH (H.K a=0\/H.p<a+H.ln a->H.can a=false):=qh (fun h=>(H.can_no a).2 qo)
      generalize H.K a=k at *
      generalize H.ln a=m at *
      generalize H.Cl a=cl at *
      generalize H.ok a=okb at *
      have HG:=qh hie
      clear hci hbli hceli hvvv hii HCv hie hst
      go_upto_region 4 with fail
      go_cut [6,7] from 14 to 25 (fun u6 u7 wx=>∃ g:Nat,u6 = .pointer (some ⟨g,0,none⟩)/\u7 = .bool okb/\Held wx g 119 #[(.int .i64 k),(.int .i64 (m:Int)),(.int .i64 cl)]/\Below wr.heap.size wr wx/\wr.heap.size<=g)
      case first =>
        have HB:=qh (Bdrew (B0 (wr)))
        refine wp_region_held_drew (S:=(fun w'=>w'.cell? ⟨w.heap.size,0,none⟩=some (.int .i64 (H.t:Int))/\w'.cell? ⟨w.heap.size,1,none⟩=some (.int .i64 (H.p:Int))/\w'.cell? ⟨w.heap.size,2,none⟩=some (.int .i64 (H.s:Int))/\w'.cell? ⟨w.heap.size,3,none⟩=some (.slice (some ad) n c)/\w'.cell? (ad.add i)=some (.int .u32 (v:Int)))) qr ?_ (fun hHeld=>?_)
        · (try dsimp only)
          exact HS.o _ HB.o
        generalize hq0:(wr).drew=q0 at HB hHeld ⊢
        clear hq0
        refine Ro3 ?_
        refine tkz 3 ?_
        refine tkz 4 ?_
        refine wpAnyH_ready (rs := [5,12]) qr (by simp) ?_
        refine AllReadyH.cons (o:=_) rfl (fun K hK=>?_) (AllReadyH.cons (o:=_) rfl (fun K hK=>?_) AllReadyH.nil)
        · skip
          go_simp
          (go_at_call 87;refine(qQ1 _ _ _ _ _).mono ?_;rintro e q1 ⟨rfl,hb1⟩;rw[HI.o];have HB:=qh (Bgo HB.o hb1);skip;clear hb1)
          refine hK.out _ _ ?_ (fun hHeld=>?_)
          · (try dsimp only)
            exact HS.o _ HB.o
          clear hK K
          (try simp only[Act.put,gA,gB,gC,sA,sB,sC])
          refine tkz 6 ?_
          refine tkz 7 ?_
          refine wpAnyH_ready (rs := [8,12]) qr (by simp) ?_
          refine AllReadyH.cons (o:=_) rfl (fun K hK=>?_) (AllReadyH.cons (o:=_) rfl (fun K hK=>?_) AllReadyH.nil)
          · skip
            go_simp
            (go_at_call 105;refine(qRV _ _ _ _ _ h32i HG.o _).mono ?_;rintro e q2 ⟨rfl,hb1⟩;have HB:=qh (Bgo HB.o hb1);skip;clear hb1)
            refine hK.out _ _ ?_ (fun hHeld=>?_)
            · (try dsimp only)
              exact HS.o _ HB.o
            clear hK K
            (try simp only[Act.put,gA,gB,gC,sA,sB,sC])
            refine tkz 9 ?_
            refine tkz 10 ?_
            refine tkz 11 ?_
            refine rdz 12 fun K hK=>?_
            · skip
              go_simp
              have HLE:=qh HB.o.size
              have HB:=qh (Bnew HB.o (.cells #[.int .i64 0,.int .i64 0,.int .i64 0] 119))
              have HN:=qh (Held.new q2 119 #[.int .i64 0,.int .i64 0,.int .i64 0])
              try simp only[World.heap_drew] at HLE HN
              generalize hq3:q2.alloc (.cells #[.int .i64 0,.int .i64 0,.int .i64 0] 119)=q3 at HB HN ⊢
              clear hq3
              refine hK.out _ _ ?_ (fun hHeld=>?_)
              · (try dsimp only)
                exact HS.o _ HB.o
              clear hK K
              (try simp only[Act.put,gA,gB,gC,sA,sB,sC])
              refine rdz 13 fun K hK=>?_
              obtain⟨z0,z1,z2⟩:=HN.o.three
              have f0:=HN.o.thawed 0
              have f1:=HN.o.thawed 1
              have f2:=HN.o.thawed 2
              go_simp
              have HN:=qh (HN.o.put 0 (.int .i64 k))
              have HN:=qh (HN.o.put 1 (.int .i64 (m:Int)))
              have HN:=qh (HN.o.put 2 (.int .i64 cl))
              have HB:=qh (Bput (p:=⟨_,2,none⟩) (Bput (p:=⟨_,1,none⟩) (Bput (p:=⟨_,0,none⟩) HB.o HLE.o (.int .i64 k)) HLE.o (.int .i64 (m:Int))) HLE.o (.int .i64 cl))
              clear z0 z1 z2 f0 f1 f2
              refine hK.out _ _ ?_ (fun hHeld=>?_)
              · (try dsimp only)
                exact HS.o _ HB.o
              clear hK K
              (try simp only[Act.put,gA,gB,gC,sA,sB,sC])
              refine tkz 14 ?_
              refine dnz ?_
              go_wp2_with fail
              go_meet
              case rel=>exact⟨_,rfl,rfl,HN.o,HB.o,HLE.o⟩
          · skip
            go_simp
            have HLE:=qh HB.o.size
            have HB:=qh (Bnew HB.o (.cells #[.int .i64 0,.int .i64 0,.int .i64 0] 119))
            have HN:=qh (Held.new q1 119 #[.int .i64 0,.int .i64 0,.int .i64 0])
            try simp only[World.heap_drew] at HLE HN
            generalize hq4:q1.alloc (.cells #[.int .i64 0,.int .i64 0,.int .i64 0] 119)=q4 at HB HN ⊢
            clear hq4
            refine hK.out _ _ ?_ (fun hHeld=>?_)
            · (try dsimp only)
              exact HS.o _ HB.o
            clear hK K
            (try simp only[Act.put,gA,gB,gC,sA,sB,sC])
            refine rdz 8 fun K hK=>?_
            · skip
              go_simp
              (go_at_call 105;refine(qRV _ _ _ _ _ h32i HG.o _).mono ?_;rintro e q5 ⟨rfl,hb1⟩;have HB:=qh (Bgo HB.o hb1);have HN:=qh (HN.o.keep hb1);clear hb1)
              refine hK.out _ _ ?_ (fun hHeld=>?_)
              · (try dsimp only)
                exact HS.o _ HB.o
              clear hK K
              (try simp only[Act.put,gA,gB,gC,sA,sB,sC])
              refine tkz 9 ?_
              refine tkz 10 ?_
              refine tkz 11 ?_
              refine rdz 13 fun K hK=>?_
              obtain⟨z0,z1,z2⟩:=HN.o.three
              have f0:=HN.o.thawed 0
              have f1:=HN.o.thawed 1
              have f2:=HN.o.thawed 2
              go_simp
              have HN:=qh (HN.o.put 0 (.int .i64 k))
              have HN:=qh (HN.o.put 1 (.int .i64 (m:Int)))
              have HN:=qh (HN.o.put 2 (.int .i64 cl))
              have HB:=qh (Bput (p:=⟨_,2,none⟩) (Bput (p:=⟨_,1,none⟩) (Bput (p:=⟨_,0,none⟩) HB.o HLE.o (.int .i64 k)) HLE.o (.int .i64 (m:Int))) HLE.o (.int .i64 cl))
              clear z0 z1 z2 f0 f1 f2
              refine hK.out _ _ ?_ (fun hHeld=>?_)
              · (try dsimp only)
                exact HS.o _ HB.o
              clear hK K
              (try simp only[Act.put,gA,gB,gC,sA,sB,sC])
              refine tkz 14 ?_
              refine dnz ?_
              go_wp2_with fail
              go_meet
              case rel=>exact⟨_,rfl,rfl,HN.o,HB.o,HLE.o⟩
        · skip
          go_simp
          have HLE:=qh HB.o.size
          have HB:=qh (Bnew HB.o (.cells #[.int .i64 0,.int .i64 0,.int .i64 0] 119))
          have HN:=qh (Held.new q0 119 #[.int .i64 0,.int .i64 0,.int .i64 0])
          try simp only[World.heap_drew] at HLE HN
          generalize hq6:q0.alloc (.cells #[.int .i64 0,.int .i64 0,.int .i64 0] 119)=q6 at HB HN ⊢
          clear hq6
          refine hK.out _ _ ?_ (fun hHeld=>?_)
          · (try dsimp only)
            exact HS.o _ HB.o
          clear hK K
          (try simp only[Act.put,gA,gB,gC,sA,sB,sC])
          refine rdz 5 fun K hK=>?_
          · skip
            go_simp
            (go_at_call 87;refine(qQ1 _ _ _ _ _).mono ?_;rintro e q7 ⟨rfl,hb1⟩;rw[HI.o];have HB:=qh (Bgo HB.o hb1);have HN:=qh (HN.o.keep hb1);clear hb1)
            refine hK.out _ _ ?_ (fun hHeld=>?_)
            · (try dsimp only)
              exact HS.o _ HB.o
            clear hK K
            (try simp only[Act.put,gA,gB,gC,sA,sB,sC])
            refine tkz 6 ?_
            refine tkz 7 ?_
            refine rdz 8 fun K hK=>?_
            · skip
              go_simp
              (go_at_call 105;refine(qRV _ _ _ _ _ h32i HG.o _).mono ?_;rintro e q8 ⟨rfl,hb1⟩;have HB:=qh (Bgo HB.o hb1);have HN:=qh (HN.o.keep hb1);clear hb1)
              refine hK.out _ _ ?_ (fun hHeld=>?_)
              · (try dsimp only)
                exact HS.o _ HB.o
              clear hK K
              (try simp only[Act.put,gA,gB,gC,sA,sB,sC])
              refine tkz 9 ?_
              refine tkz 10 ?_
              refine tkz 11 ?_
              refine rdz 13 fun K hK=>?_
              obtain⟨z0,z1,z2⟩:=HN.o.three
              have f0:=HN.o.thawed 0
              have f1:=HN.o.thawed 1
              have f2:=HN.o.thawed 2
              go_simp
              have HN:=qh (HN.o.put 0 (.int .i64 k))
              have HN:=qh (HN.o.put 1 (.int .i64 (m:Int)))
              have HN:=qh (HN.o.put 2 (.int .i64 cl))
              have HB:=qh (Bput (p:=⟨_,2,none⟩) (Bput (p:=⟨_,1,none⟩) (Bput (p:=⟨_,0,none⟩) HB.o HLE.o (.int .i64 k)) HLE.o (.int .i64 (m:Int))) HLE.o (.int .i64 cl))
              clear z0 z1 z2 f0 f1 f2
              refine hK.out _ _ ?_ (fun hHeld=>?_)
              · (try dsimp only)
                exact HS.o _ HB.o
              clear hK K
              (try simp only[Act.put,gA,gB,gC,sA,sB,sC])
              refine tkz 14 ?_
              refine dnz ?_
              go_wp2_with fail
              go_meet
              case rel=>exact⟨_,rfl,rfl,HN.o,HB.o,HLE.o⟩
      case rest =>
        obtain⟨g,rfl,rfl,h1,h2,h3⟩:=hcut
        obtain⟨d0,d1,d2⟩:=h1.three
        have HBX:=qh (Bgo HB.o h2)
        have HHX:=qh (HX.o.keep h2)
        have HNX:=qh h1
        have HOX:=qh (qEc HO.o h2)
        have HGE:=qh h3
        clear h1 h2 h3 HS c0 c1 c2 c3
        by_cases hk0:k=0
        · have HNA:=qh (HCN.o (HCF.o (.inl hk0)))
          subst hk0
          cases okb
          ·exact MHa
          ·exact MHa
        · have e:okb=true:=hok hk0
          subst e
          have q0:(k==0)=false:=by simpa using hk0
          have hmm:1<=m/\m<=1024:=qo
          have sw:IntKind.i64.wrap ((a:Int)+m)=((a+m:Nat):Int):=by rw[qIv qo qo];push_cast;rfl
          clear hkc hok
          go_wp2_with (first
            | (at_builtin
               refine wpList_append_own _ rfl _ _ 42 rfl (w.heap.size+1) 3 i0 (.int .i64 0) 1 8 Tryz.underlying42 hi0 hz0 hz1 hz2 rfl (by decide) _ _ _ rfl (HOX.o.alloc _) ⟨_,0,none⟩ 1 1 [.int .i64 (a:Int)] rfl rfl ?c1 ?c2 ?c3 ?c4 ?c5 ?_
               case c1=>intro j y hy;rcases j with _|j;(· simp at hy;subst hy;simp[Addr.add]);(· simp at hy)
               case c2=>simp[Value.oneCell']
               case c3=>unfold maxLen;omega
               case c4=>omega
               case c5=>have:=HBX.o.size;have:=HX.o.lt;simp;omega
               intro u1 w3 hown3 hgrow hat3
               have HO3:qH (w3.ownsRow (w.heap.size+1) 3 1 u1 (nl+1) (natVs (l ++ [a]))):=qh (by rw[qKj];exact hown3)
               have hnb:∀ j,u4.ownBlock=some j->(w.heap.size+1)<=j:=fun j hj=>(HOX.o.lt j hj).1
               have HB3:=qh ((Bnew HBX.o (.cells #[.int .i64 (a:Int)] 3)).grown hgrow (by have:=HBX.o.size;simp;omega) (fun j hj=>by have:=hnb j hj;omega))
               have HX3:=qh (qLO (HHX.o.alloc (.cells #[.int .i64 (a:Int)] 3)) hgrow (fun e=>by have:=hnb _ e;omega))
               have HN3:=qh (qLO (HNX.o.alloc (.cells #[.int .i64 (a:Int)] 3)) hgrow (fun e=>by have:=(HO.o.lt _ e).2;have:=HGE.o;omega))
               clear hown3 hgrow hat3 hnb d0 d1 d2
               obtain⟨d0,d1,d2⟩:=HN3.o.three)
            | fail)
          go_roundw
          case rel =>
            refine⟨a+m,l ++ [a],nl+1,by go_num,qo,?_,by have:=HSL.o.len;have:=HLN.o;omega,qh (by rw[List.length_append,HLN.o];rfl),HO3,HX3,HB3⟩
            rcases Nat.lt_or_ge H.p (a+m) with h|h
            · exact qh (.inr ⟨h,HCN.o (HCF.o (.inr h))⟩)
            · have h4:=HCA.o hk0 h
              exact qh (.inl ⟨h,by rw[<- h4.2];exact .snoc HSL.o h4.1⟩)
          case measure=>simp[intOf];omega
    · have t0:decide ((a:Int)<H.p)=false:=qf
      obtain⟨b,hb⟩:∃ b:Bool,((a:Int)==H.p)=b:=⟨_,rfl⟩
      have HSI:qH (StartsIs H w u4 b wr):=qh (by
        rcases HST.o with ⟨h1,h2⟩|⟨h1,h2⟩
        · have hap:a=H.p:=qo
          have hbt:b=true:=by rw[<- hb];simp;omega
          subst hbt
          refine⟨⟨fun _=>by rw[<- hap];exact h2.at_,fun _=>rfl⟩,fun _=>⟨l,by rw[<- hap];exact h2,by rw[HLN.o];exact qIX HO.o qo⟩⟩
        · have hbt:b=false:=by rw[<- hb];simp;omega
          subst hbt
          exact⟨⟨fun h=>(by cases h),fun h=>absurd h h2⟩,fun h=>(by cases h)⟩)
      clear HST
      go_wp2_with fail
      refine wp_region_held_drew (S:=(fun w'=>w'.cell? ⟨w.heap.size,0,none⟩=some (.int .i64 (H.t:Int))/\w'.cell? ⟨w.heap.size,1,none⟩=some (.int .i64 (H.p:Int))/\w'.cell? ⟨w.heap.size,2,none⟩=some (.int .i64 (H.s:Int))/\w'.cell? ⟨w.heap.size,3,none⟩=some (.slice (some ad) n c))) qr ?_ (fun hHeld=>?_)
      · (try dsimp only)
        first|exact⟨c0,c1,c2,c3⟩|exact hHeld
      refine tkz 0 ?_
      refine tkz 1 ?_
      refine tkz 2 ?_
      refine tkz 3 ?_
      refine tkz 4 ?_
      refine tkz 5 ?_
      refine tkz 6 ?_
      refine tkz 7 ?_
      refine dnz ?_
      go_wp2_with fail
      go_ret2
      exact⟨_,_,rfl,HSI.o,Bdrew HB.o⟩
end
end Go.Proofs.YtjjfcaliippgpaaGreatDoor
