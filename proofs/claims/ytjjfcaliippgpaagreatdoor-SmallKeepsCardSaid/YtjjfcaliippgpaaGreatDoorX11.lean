/-
  What span's Take, Shrink and Grow do. Written by span/gen_take.py.
-/
import Derived.Test.YtjjfcaliippgpaaGreatDoorXSpanRelease
import Derived.Test.YtjjfcaliippgpaaGreatDoorX08
namespace Go.Proofs.YtjjfcaliippgpaaGreatDoor
theorem MXU {P:Prop}(h:P:=by
 (try dsimp only)
 exact MSS):P:=h
theorem MSS {P:Prop}(h:P:=by exact⟨W0.o.drew.h0.six'.1,W0.o.drew.h0.six'.2.1,W0.o.drew.h0.six'.2.2.1,W0.o.drew.h0.six'.2.2.2.1,W0.o.drew.h0.six'.2.2.2.2.1,W0.o.drew.h0.six'.2.2.2.2.2⟩):P:=h
theorem M8S {P:Prop}(h:P:=by
 rw[<- hl] at hi
 have:=List.mem_of_mem_take hi
 rw[<- hf] at this
 unfold HM.freeTo at this
 rw[List.mem_filter,List.mem_range] at this
 simpa using this):P:=h
theorem MA6 {P:Prop}(h:P:=by exact⟨W1.o.h0.six'.1,W1.o.h0.six'.2.1,W1.o.h0.six'.2.2.1,W1.o.h0.six'.2.2.2.1,W1.o.h0.six'.2.2.2.2.1,W1.o.h0.six'.2.2.2.2.2⟩):P:=h
theorem MnS {P:Prop}(h:P:=by exact⟨W2.o.h0.six'.1,W2.o.h0.six'.2.1,W2.o.h0.six'.2.2.1,W2.o.h0.six'.2.2.2.1,W2.o.h0.six'.2.2.2.2.1,W2.o.h0.six'.2.2.2.2.2⟩):P:=h
end Go.Proofs.YtjjfcaliippgpaaGreatDoor
set_option linter.unusedVariables false
set_option linter.unusedSimpArgs false
set_option maxRecDepth 100000
set_option maxHeartbeats 25600000
namespace Go.Proofs.YtjjfcaliippgpaaGreatDoor
open Go.ChangeShapes Go.WideShapes Go.ChangeAt Go.RowKit Go.Maps
section
section
variable {base b n : Nat} {wh all : Bool} {K : Nat -> Option Nat} {st : Vst} {w w0 : World} {A G : Nat -> Prop} {t q s : Int}

theorem qHK {p:Int}{l:Int}(h:l<1):addS n K t q s p l st=st:=qCd (fun hx=>by omega)

theorem qUR {nn:Int}{st:Vst}:∀ (k l:Nat) (st:Vst) {p:Nat},(lookF n K t q s nn k l st).1=some p->(p:Int)<q
 | 0,l,st,p,h=>by rw[lookF] at h;cases h
 | k+1,l,st,p,h=>by
  rw[lookF] at h
  by_cases h1:1<=l/\(l:Int)<=q
  ·rw[if_pos h1] at h
   by_cases h2:fitB nn (getV n K st (pageI t q s ((l:Int)-1) 0))=true
   ·rw[if_pos h2] at h
    injection h with h
    omega
   ·rw[if_neg h2] at h
    exact qUR (st:=st) k _ _ h
  ·rw[if_neg h1] at h
   cases h
theorem qTd:∀ (j k:Nat) (st:Vst) {p:Nat},(nextF n K q j k st).1=some p->(p:Int)<q
 | 0,k,st,p,h=>by rw[nextF] at h;cases h
 | j+1,k,st,p,h=>by
  rw[nextF] at h
  by_cases h1:1<=getV n K st ((2+k:Nat):Int)/\((getV n K st ((2+k:Nat):Int):Nat):Int)<=q
  ·rw[if_pos h1] at h
   injection h with h
   omega
  ·rw[if_neg h1] at h
   exact qTd j _ _ h
theorem qEN {nn:Int}{st s1:Vst}{p:Nat}(h:findI n K t q s nn st=(some p,s1)):(p:Int)<q/\1<=nn/\nn<=q:=by
 by_cases h1:1<=nn/\nn<=q
 ·refine⟨?_,h1⟩
  unfold findI at h
  rw[if_pos h1] at h
  unfold findF at h
  simp only at h
  cases hl:(lookF n K t q s nn q.toNat (getV n K st ((2+(ofI nn).toNat:Nat):Int)) (getS n K st ((2+(ofI nn).toNat:Nat):Int))).1 with
  | some x =>
   rw[hl] at h
   injection h with h _
   injection h with h
   subst h
   exact qUR (st:=st) _ _ _ hl
  | none =>
   rw[hl] at h
   exact qTd _ _ _ (congrArg Prod.fst h)
 ·rw[qYH h1] at h
  injection h with h _
  cases h
theorem qKW {nn:Int}{st s1:Vst}(h:findI n K t q s nn st=(none,s1)):takeI n K t q s nn st=(none,s1):=by
 unfold takeI
 rw[h]
theorem qTA {m p:Nat}{st s1:Vst}(h:findI n K t q s (m:Int) st=(some p,s1)):takeI n K t q s (m:Int) st=(some p,takeS n K t q s p m s1):=by
 unfold takeI
 rw[h]
 simp
theorem qJu {x:Nat}{z:Int}{st:Vst}(h:(x:Int)=z):lessS n K x st=putS n (getS n K st 0) 0 (qZB (getV n K st 0) z):=by
 subst h
 rfl
theorem qCk {p m:Nat}{l:Int}{st:Vst}(h:(m:Int)<l):restS n K t q s p m l st=addS n K t q s ((p:Int)+(m:Int)) (l-(m:Int)) st:=by unfold restS;rw[if_pos h]
theorem qLP {p m:Nat}{l:Int}{st:Vst}(h:¬ (m:Int)<l):restS n K t q s p m l st=st:=by unfold restS;rw[if_neg h]
theorem WL.h3 {O:Ob}{w0 ws w:World}{A G:Nat->Prop}{L:List Blk}{x y z u:Blk}{st:Vst}(h:WL O w0 A G ws (x :: y :: z :: u :: L) st w):Held w u.n u.t u.cs:=h.held u (by simp)
theorem qWc (hn:n<2^40)(hq:q<=1024)(nn:Int)(s1:Vst)(hf:findI n K t q s nn st=(none,s1))(h:(vOb base b n wh K).At w0 A G st w) :
  Calls Tryz.prog 154 #[.pointer (some ⟨b,0,none⟩),.agg #[.int .i64 t,.int .i64 q,.int .i64 s],.int .i64 nn] w fun e w'=>e = .returned (.tuple #[.int .i64 0,.bool false])/\(vOb base b n wh K).At w0 A G (s1) w'/\Stay G w w':=by
 have W0:=qh ((WL.start h).new 23 #[.int .i64 t,.int .i64 q,.int .i64 s])
 have hq2:q<=2147483648:=qo
 have HFO:=qh hf
 clear h hf
 go_enter Tryz.func154,Tryz.ntmps154
 obtain⟨x0,x1,x2⟩:=W0.o.h0.three
 go_wp2_with fail
 refine(qUz hn hq nn W0.o.at_).mono ?_;rintro e w1 ⟨rfl,h1,h2⟩;have W1:=qh (W0.o.call h1 h2);clear h1 h2 W0;rw[HFO.o] at W1 ⊢;dsimp only[foundI,Option.isSome] at W1 ⊢
 obtain⟨x0,x1,x2⟩:=W1.o.h0.three
 go_wp2
 go_ret2
 exact⟨rfl,W1.o.fin⟩

theorem qWM (hn:n<2^40)(hq:q<=1024)(p m:Nat)(hp:p<=1024)(hm:m<=1024)(l:Int)(hl0:0<=l)(hl1:l<=1024)(s1:Vst)(hf:findI n K t q s (m:Int) st=(some p,s1))(hd:dropV n K t q s (p:Int) s1=l)(hml:(m:Int)<l)(h:(vOb base b n wh K).At w0 A G st w) :
  Calls Tryz.prog 154 #[.pointer (some ⟨b,0,none⟩),.agg #[.int .i64 t,.int .i64 q,.int .i64 s],.int .i64 (m:Int)] w fun e w'=>e = .returned (.tuple #[.int .i64 (p:Int),.bool true])/\(vOb base b n wh K).At w0 A G (putS n (getS n K (addS n K t q s ((p:Int)+(m:Int)) (l-(m:Int)) (usedS n t q s p m (dropS n K t q s (p:Int) s1))) 0) 0 (qZB (getV n K (addS n K t q s ((p:Int)+(m:Int)) (l-(m:Int)) (usedS n t q s p m (dropS n K t q s (p:Int) s1))) 0) (m:Int))) w'/\Stay G w w':=by
 have W0:=qh ((WL.start h).new 23 #[.int .i64 t,.int .i64 q,.int .i64 s])
 have hq2:q<=2147483648:=qo
 have HFO:=qh hf
 have HDV:=qh hd
 have v4:IntKind.i64.wrap ((p:Int)+(m:Int))=((p:Int)+(m:Int)):=qIv qo qo
 have v6:IntKind.i64.wrap (l-(m:Int))=(l-(m:Int)):=qIv qo qo
 have v7:IntKind.i64.wrap (-(m:Int))=(-(m:Int)):=qIv qo qo
 have HSB:qH (qZB (getV n K (addS n K t q s ((p:Int)+(m:Int)) (l-(m:Int)) (usedS n t q s p m (dropS n K t q s (p:Int) s1))) 0) (m:Int)=qOO (getV n K (addS n K t q s ((p:Int)+(m:Int)) (l-(m:Int)) (usedS n t q s p m (dropS n K t q s (p:Int) s1))) 0) (-(m:Int))):=qh (qOF _ _).symm
 clear h hf hd
 go_enter Tryz.func154,Tryz.ntmps154
 obtain⟨x0,x1,x2⟩:=W0.o.h0.three
 go_wp2_with fail
 refine(qUz hn hq (m:Int) W0.o.at_).mono ?_;rintro e w1 ⟨rfl,h1,h2⟩;have W1:=qh (W0.o.call h1 h2);clear h1 h2 W0;rw[HFO.o] at W1 ⊢;dsimp only[foundI,Option.isSome] at W1 ⊢
 obtain⟨x0,x1,x2⟩:=W1.o.h0.three
 generalize hNP:w1.heap.size=NP at *
 replace W1:=qh (W1.o.new 213 #[.pointer (some ⟨b,0,none⟩),.int .i64 t,.int .i64 q,.int .i64 s])
 rw[hNP] at W1
 obtain⟨g0,g1,g2,g3⟩:=W1.o.h0.four
 obtain⟨x0,x1,x2⟩:=W1.o.h1.three
 go_wp2_with fail
 refine(qAQ hn hq2 (p:Int) W1.o.at_).mono ?_;rintro e w2 ⟨rfl,h1,h2⟩;have W2:=qh (W1.o.call h1 h2);clear h1 h2 W1;rw[HDV.o]
 obtain⟨g0,g1,g2,g3⟩:=W2.o.h0.four
 obtain⟨x0,x1,x2⟩:=W2.o.h1.three
 go_wp2_with fail
 refine(qR0 (p:Int) l (m:Int) v4 v6 _).mono ?_;rintro e w3 ⟨rfl,hb⟩;have W3:=qh (W2.o.keep hb);clear hb W2
 generalize hNA:w3.heap.size=NA at *
 replace W3:=qh ((W3.o.new 215 #[.int .i64 (p:Int),.int .i64 (m:Int)]).new 215 #[.int .i64 ((p:Int)+(m:Int)),.int .i64 (l-(m:Int))])
 rw[World.size_alloc,hNA] at W3
 obtain⟨c0,c1⟩:=W3.o.h0.two
 obtain⟨a0,a1⟩:=W3.o.h1.two
 obtain⟨g0,g1,g2,g3⟩:=W3.o.h2.four
 obtain⟨x0,x1,x2⟩:=W3.o.h3.three
 go_wp2_with fail
 refine(qN3 hn p m qo qo W3.o.at_).mono ?_;rintro e w4 ⟨rfl,h1,h2⟩;have W4:=qh (W3.o.call h1 h2);clear h1 h2 W3
 obtain⟨c0,c1⟩:=W4.o.h0.two
 obtain⟨a0,a1⟩:=W4.o.h1.two
 obtain⟨g0,g1,g2,g3⟩:=W4.o.h2.four
 obtain⟨x0,x1,x2⟩:=W4.o.h3.three
 go_wp2_with fail
 refine(qGD hn hq2 ((p:Int)+(m:Int)) (l-(m:Int)) W4.o.at_).mono ?_;rintro e w5 ⟨rfl,h1,h2⟩;have W5:=qh (W4.o.call h1 h2);clear h1 h2 W4
 obtain⟨c0,c1⟩:=W5.o.h0.two
 obtain⟨a0,a1⟩:=W5.o.h1.two
 obtain⟨g0,g1,g2,g3⟩:=W5.o.h2.four
 obtain⟨x0,x1,x2⟩:=W5.o.h3.three
 go_wp2_with fail
 refine(qKc hn (-(m:Int)) W5.o.at_).mono ?_;rintro e w6 ⟨rfl,h1,h2⟩;have W6:=qh (W5.o.call h1 h2);clear h1 h2 W5
 obtain⟨c0,c1⟩:=W6.o.h0.two
 obtain⟨a0,a1⟩:=W6.o.h1.two
 obtain⟨g0,g1,g2,g3⟩:=W6.o.h2.four
 obtain⟨x0,x1,x2⟩:=W6.o.h3.three
 go_wp2
 go_ret2
 exact⟨rfl,by rw[HSB.o];exact W6.o.fin.1,W6.o.fin.2⟩

theorem qYN (hn:n<2^40)(hq:q<=1024)(p m:Nat)(hp:p<=1024)(hm:m<=1024)(l:Int)(hl0:0<=l)(hl1:l<=1024)(s1:Vst)(hf:findI n K t q s (m:Int) st=(some p,s1))(hd:dropV n K t q s (p:Int) s1=l)(hml:¬ (m:Int)<l)(h:(vOb base b n wh K).At w0 A G st w) :
  Calls Tryz.prog 154 #[.pointer (some ⟨b,0,none⟩),.agg #[.int .i64 t,.int .i64 q,.int .i64 s],.int .i64 (m:Int)] w fun e w'=>e = .returned (.tuple #[.int .i64 (p:Int),.bool true])/\(vOb base b n wh K).At w0 A G (putS n (getS n K (usedS n t q s p m (dropS n K t q s (p:Int) s1)) 0) 0 (qZB (getV n K (usedS n t q s p m (dropS n K t q s (p:Int) s1)) 0) (m:Int))) w'/\Stay G w w':=by
 have W0:=qh ((WL.start h).new 23 #[.int .i64 t,.int .i64 q,.int .i64 s])
 have hq2:q<=2147483648:=qo
 have HFO:=qh hf
 have HDV:=qh hd
 have v4:IntKind.i64.wrap ((p:Int)+(m:Int))=((p:Int)+(m:Int)):=qIv qo qo
 have v6:IntKind.i64.wrap (l-(m:Int))=(l-(m:Int)):=qIv qo qo
 have v7:IntKind.i64.wrap (-(m:Int))=(-(m:Int)):=qIv qo qo
 have HSB:qH (qZB (getV n K (usedS n t q s p m (dropS n K t q s (p:Int) s1)) 0) (m:Int)=qOO (getV n K (usedS n t q s p m (dropS n K t q s (p:Int) s1)) 0) (-(m:Int))):=qh (qOF _ _).symm
 have HNO:qH (addS n K t q s ((p:Int)+(m:Int)) (l-(m:Int)) (usedS n t q s p m (dropS n K t q s (p:Int) s1))=usedS n t q s p m (dropS n K t q s (p:Int) s1)):=qh (qHK qo)
 clear h hf hd
 go_enter Tryz.func154,Tryz.ntmps154
 obtain⟨x0,x1,x2⟩:=W0.o.h0.three
 go_wp2_with fail
 refine(qUz hn hq (m:Int) W0.o.at_).mono ?_;rintro e w1 ⟨rfl,h1,h2⟩;have W1:=qh (W0.o.call h1 h2);clear h1 h2 W0;rw[HFO.o] at W1 ⊢;dsimp only[foundI,Option.isSome] at W1 ⊢
 obtain⟨x0,x1,x2⟩:=W1.o.h0.three
 generalize hNP:w1.heap.size=NP at *
 replace W1:=qh (W1.o.new 213 #[.pointer (some ⟨b,0,none⟩),.int .i64 t,.int .i64 q,.int .i64 s])
 rw[hNP] at W1
 obtain⟨g0,g1,g2,g3⟩:=W1.o.h0.four
 obtain⟨x0,x1,x2⟩:=W1.o.h1.three
 go_wp2_with fail
 refine(qAQ hn hq2 (p:Int) W1.o.at_).mono ?_;rintro e w2 ⟨rfl,h1,h2⟩;have W2:=qh (W1.o.call h1 h2);clear h1 h2 W1;rw[HDV.o]
 obtain⟨g0,g1,g2,g3⟩:=W2.o.h0.four
 obtain⟨x0,x1,x2⟩:=W2.o.h1.three
 go_wp2_with fail
 refine(qR0 (p:Int) l (m:Int) v4 v6 _).mono ?_;rintro e w3 ⟨rfl,hb⟩;have W3:=qh (W2.o.keep hb);clear hb W2
 generalize hNA:w3.heap.size=NA at *
 replace W3:=qh ((W3.o.new 215 #[.int .i64 (p:Int),.int .i64 (m:Int)]).new 215 #[.int .i64 ((p:Int)+(m:Int)),.int .i64 (l-(m:Int))])
 rw[World.size_alloc,hNA] at W3
 obtain⟨c0,c1⟩:=W3.o.h0.two
 obtain⟨a0,a1⟩:=W3.o.h1.two
 obtain⟨g0,g1,g2,g3⟩:=W3.o.h2.four
 obtain⟨x0,x1,x2⟩:=W3.o.h3.three
 go_wp2_with fail
 refine(qN3 hn p m qo qo W3.o.at_).mono ?_;rintro e w4 ⟨rfl,h1,h2⟩;have W4:=qh (W3.o.call h1 h2);clear h1 h2 W3
 obtain⟨c0,c1⟩:=W4.o.h0.two
 obtain⟨a0,a1⟩:=W4.o.h1.two
 obtain⟨g0,g1,g2,g3⟩:=W4.o.h2.four
 obtain⟨x0,x1,x2⟩:=W4.o.h3.three
 go_wp2_with fail
 refine(qGD hn hq2 ((p:Int)+(m:Int)) (l-(m:Int)) W4.o.at_).mono ?_;rintro e w5 ⟨rfl,h1,h2⟩;have W5:=qh (W4.o.call h1 h2);clear h1 h2 W4;rw[HNO.o] at W5
 obtain⟨c0,c1⟩:=W5.o.h0.two
 obtain⟨a0,a1⟩:=W5.o.h1.two
 obtain⟨g0,g1,g2,g3⟩:=W5.o.h2.four
 obtain⟨x0,x1,x2⟩:=W5.o.h3.three
 go_wp2_with fail
 refine(qKc hn (-(m:Int)) W5.o.at_).mono ?_;rintro e w6 ⟨rfl,h1,h2⟩;have W6:=qh (W5.o.call h1 h2);clear h1 h2 W5
 obtain⟨c0,c1⟩:=W6.o.h0.two
 obtain⟨a0,a1⟩:=W6.o.h1.two
 obtain⟨g0,g1,g2,g3⟩:=W6.o.h2.four
 obtain⟨x0,x1,x2⟩:=W6.o.h3.three
 go_wp2
 go_ret2
 exact⟨rfl,by rw[HSB.o];exact W6.o.fin.1,W6.o.fin.2⟩

theorem qTz (hn:n<2^40)(hq:q<=1024)(nn:Int)(h:(vOb base b n wh K).At w0 A G st w) :
  Calls Tryz.prog 154 #[.pointer (some ⟨b,0,none⟩),.agg #[.int .i64 t,.int .i64 q,.int .i64 s],.int .i64 nn] w fun e w'=>e = .returned (.tuple #[.int .i64 (foundI (takeI n K t q s nn st).1),.bool (takeI n K t q s nn st).1.isSome])/\(vOb base b n wh K).At w0 A G ((takeI n K t q s nn st).2) w'/\Stay G w w':=by
 obtain⟨⟨o,s1⟩,hf⟩:∃ x,findI n K t q s nn st=x:=⟨_,rfl⟩
 cases o with
 | none =>
  rw[qKW hf]
  exact qWc hn hq nn s1 hf h
 | some p =>
  obtain⟨h1,h2,h3⟩:=qEN hf
  obtain⟨m,rfl⟩:=Int.eq_ofNat_of_zero_le (show 0<=nn by omega)
  rw[qTA hf]
  dsimp only[foundI,Option.isSome]
  have hd:=qKM (n:=n) (K:=K) (t:=t) (q:=q) (s:=s) (p:Int) s1
  unfold takeS
  rw[qJu rfl]
  by_cases hml:(m:Int)<dropV n K t q s (p:Int) s1
  ·rw[qCk hml]
   exact qWM hn hq p m qo qo _ hd.1 hd.2 s1 hf rfl hml h
  ·rw[qLP hml]
   exact qYN hn hq p m qo qo _ hd.1 hd.2 s1 hf rfl hml h
end
end
section
theorem qY2 {w:World}{g o:Nat}{v:Value}(h:w.cell? ⟨g,o,none⟩=some v):g<w.heap.size:=by
 rcases Nat.lt_or_ge g w.heap.size with h1|h1
 ·exact h1
 ·have h2:w.heap[g]?=none:=Array.getElem?_eq_none h1
  unfold World.cell? at h
  rw[h2] at h
  cases h
theorem SlotsLaid.at_ {O:Ob}{w0 w:World}{A G:Nat->Prop}{st:Vst}(hT:SlotsLaid w0)(hA:¬ A 0)(h:O.At w0 A G st w):SlotsLaid w:=by
 obtain⟨A',h1,h2,h3,h4⟩:=h
 intro k hk
 have hc:=hT k hk
 have hl:(0 : Nat)<w0.heap.size:=qY2 hc
 have hb:=h3.block _ hl hA
 rw[<- hc]
 unfold World.cell?
 rw[hb]
section
variable {base b n : Nat} {wh all : Bool} {K : Nat -> Option Nat} {st : Vst} {w w0 : World} {A G : Nat -> Prop} {t q s k : Int}
theorem qCD {k:Int}(k0:0<=k)(k8:k<=8):nthI 13 9 1 k=13+k:=by rw[qLq qo qo qo];omega

theorem qAX (hn:n<2^40)(p:Int)(h:(vOb base b n wh K).At w0 A G st w) :
  Calls Tryz.prog 156 #[.agg #[.pointer (some ⟨b,0,none⟩),.int .i64 t,.int .i64 q,.int .i64 s,.int .i64 p,.int .i64 k]] w fun e w'=>e = .returned (.int .u32 ((getV n K st (pageI t q s p 5):Nat):Int))/\(vOb base b n wh K).At w0 A G (getS n K st (pageI t q s p 5)) w'/\Stay G w w':=by
 have W0:=qh ((WL.start h).new 155 #[.pointer (some ⟨b,0,none⟩),.int .i64 t,.int .i64 q,.int .i64 s,.int .i64 p,.int .i64 k])
 obtain⟨v,hv⟩:∃ v,getV n K st (pageI t q s p 5)=v:=⟨_,rfl⟩
 have HV:=qh hv
 rw[hv]
 clear h hv
 go_enter Tryz.func156,Tryz.ntmps156
 obtain⟨x0,x1,x2,x3,x4,x5⟩:=W0.o.h0.six'
 go_wp2_with fail
 refine wp_region_held_drew (S:=(fun w'=>w'.cell? ⟨w.heap.size,0,none⟩=some (.pointer (some ⟨b,0,none⟩))/\w'.cell? ⟨w.heap.size,1,none⟩=some (.int .i64 t)/\w'.cell? ⟨w.heap.size,2,none⟩=some (.int .i64 q)/\w'.cell? ⟨w.heap.size,3,none⟩=some (.int .i64 s)/\w'.cell? ⟨w.heap.size,4,none⟩=some (.int .i64 p)/\w'.cell? ⟨w.heap.size,5,none⟩=some (.int .i64 k))) qr ?_ (fun hHeld=>?_)
 ·exact MXU
 refine tkz 0 ?_
 refine tkz 1 ?_
 refine tkz 2 ?_
 refine tkz 3 ?_
 refine tkz 4 ?_
 refine tkz 5 ?_
 refine rdz 6 fun K hK=>?_
 go_simp
 refine(qBd t q s p _).mono ?_;rintro e w1 ⟨rfl,hb⟩;have W1:=qh (W0.o.drew.keep hb);clear hb W0
 refine qk ?_ (fun hHeld=>?_)
 ·exact MA6
 clear hK K
 refine rdz 7 fun K hK=>?_
 go_simp
 refine(vGetA hn _ W1.o.at_).mono ?_;rintro e w2 ⟨rfl,h1,h2⟩;have W2:=qh (W1.o.call h1 h2);clear h1 h2 W1;rw[HV.o]
 refine qk ?_ (fun hHeld=>?_)
 ·exact MnS
 clear hK K
 refine tkz 8 ?_
 refine dnz ?_
 obtain⟨x0,x1,x2,x3,x4,x5⟩:=W2.o.h0.six'
 go_wp2
 go_ret
 exact⟨rfl,W2.o.fin⟩

theorem qDH (hn:n<2^40)(p:Int)(u:Nat)(hu:u<2^32)(h:(vOb base b n wh K).At w0 A G st w) :
  Calls Tryz.prog 159 #[.agg #[.pointer (some ⟨b,0,none⟩),.int .i64 t,.int .i64 q,.int .i64 s,.int .i64 p,.int .i64 k],.int .u32 (u:Int)] w fun e w'=>e = .returned (.tuple #[])/\(vOb base b n wh K).At w0 A G (putS n st (pageI t q s p 5) u) w'/\Stay G w w':=by
 have W0:=qh ((WL.start h).new 155 #[.pointer (some ⟨b,0,none⟩),.int .i64 t,.int .i64 q,.int .i64 s,.int .i64 p,.int .i64 k])
 have HU:=qh hu
 clear h hu
 go_enter Tryz.func159,Tryz.ntmps159
 obtain⟨x0,x1,x2,x3,x4,x5⟩:=W0.o.h0.six'
 go_wp2_with fail
 refine wp_region_held_drew (S:=(fun w'=>w'.cell? ⟨w.heap.size,0,none⟩=some (.pointer (some ⟨b,0,none⟩))/\w'.cell? ⟨w.heap.size,1,none⟩=some (.int .i64 t)/\w'.cell? ⟨w.heap.size,2,none⟩=some (.int .i64 q)/\w'.cell? ⟨w.heap.size,3,none⟩=some (.int .i64 s)/\w'.cell? ⟨w.heap.size,4,none⟩=some (.int .i64 p)/\w'.cell? ⟨w.heap.size,5,none⟩=some (.int .i64 k))) qr ?_ (fun hHeld=>?_)
 ·exact MXU
 refine tkz 0 ?_
 refine tkz 1 ?_
 refine tkz 2 ?_
 refine tkz 3 ?_
 refine tkz 4 ?_
 refine tkz 5 ?_
 refine tkz 7 ?_
 refine rdz 6 fun K hK=>?_
 go_simp
 refine(qBd t q s p _).mono ?_;rintro e w1 ⟨rfl,hb⟩;have W1:=qh (W0.o.drew.keep hb);clear hb W0
 refine qk ?_ (fun hHeld=>?_)
 ·exact MA6
 clear hK K
 refine rdz 8 fun K hK=>?_
 go_simp
 refine(vPutA hn _ u HU.o W1.o.at_).mono ?_;rintro e w2 ⟨rfl,h1,h2⟩;have W2:=qh (W1.o.call h1 h2);clear h1 h2 W1
 refine qk ?_ (fun hHeld=>?_)
 ·exact MnS
 clear hK K
 refine dnz ?_
 obtain⟨x0,x1,x2,x3,x4,x5⟩:=W2.o.h0.six'
 go_wp2
 go_end0
 exact⟨rfl,W2.o.fin⟩

theorem qQe (hn:n<2^40)(hq:q<=2^31)(p:Int)(k0:0<=k)(k8:k<=8)(h:(vOb base b n wh K).At w0 A G st w) :
  Calls Tryz.prog 155 #[.agg #[.pointer (some ⟨b,0,none⟩),.int .i64 t,.int .i64 q,.int .i64 s,.int .i64 p,.int .i64 k]] w fun e w'=>e = .returned (.tuple #[])/\(vOb base b n wh K).At w0 A G (pushI n K t q s (13+k) p st) w'/\Stay G w w':=by
 have W0:=qh ((WL.start h).new 155 #[.pointer (some ⟨b,0,none⟩),.int .i64 t,.int .i64 q,.int .i64 s,.int .i64 p,.int .i64 k])
 have HRK:=qh (qCD k0 k8)
 clear h
 go_enter Tryz.func155,Tryz.ntmps155
 obtain⟨x0,x1,x2,x3,x4,x5⟩:=W0.o.h0.six'
 go_wp2_with fail
 refine wp_region_held_drew (S:=(fun w'=>w'.cell? ⟨w.heap.size,0,none⟩=some (.pointer (some ⟨b,0,none⟩))/\w'.cell? ⟨w.heap.size,1,none⟩=some (.int .i64 t)/\w'.cell? ⟨w.heap.size,2,none⟩=some (.int .i64 q)/\w'.cell? ⟨w.heap.size,3,none⟩=some (.int .i64 s)/\w'.cell? ⟨w.heap.size,4,none⟩=some (.int .i64 p)/\w'.cell? ⟨w.heap.size,5,none⟩=some (.int .i64 k))) qr ?_ (fun hHeld=>?_)
 ·exact MXU
 refine tkz 0 ?_
 refine tkz 1 ?_
 refine tkz 2 ?_
 refine tkz 3 ?_
 refine tkz 4 ?_
 refine tkz 5 ?_
 refine tkz 7 ?_
 refine tkz 8 ?_
 refine rdz 6 fun K hK=>?_
 go_simp
 refine(qVk k _).mono ?_;rintro e w9 ⟨rfl,rfl⟩;rw[HRK.o]
 refine qk ?_ (fun hHeld=>?_)
 ·exact MSS
 clear hK K
 refine rdz 9 fun K hK=>?_
 go_simp
 refine(qXp hn hq p W0.o.drew.at_).mono ?_;rintro e w1 ⟨rfl,h1,h2⟩;have W1:=qh (W0.o.drew.call h1 h2);clear h1 h2 W0
 refine qk ?_ (fun hHeld=>?_)
 ·exact MA6
 clear hK K
 refine dnz ?_
 obtain⟨x0,x1,x2,x3,x4,x5⟩:=W1.o.h0.six'
 go_wp2
 go_end0
 exact⟨rfl,W1.o.fin⟩

theorem qKe (hn:n<2^40)(hq:q<=2^31)(p:Int)(k0:0<=k)(k8:k<=8)(h:(vOb base b n wh K).At w0 A G st w) :
  Calls Tryz.prog 161 #[.agg #[.pointer (some ⟨b,0,none⟩),.int .i64 t,.int .i64 q,.int .i64 s,.int .i64 p,.int .i64 k]] w fun e w'=>e = .returned (.tuple #[])/\(vOb base b n wh K).At w0 A G (pullI n K t q s (13+k) p st) w'/\Stay G w w':=by
 have W0:=qh ((WL.start h).new 155 #[.pointer (some ⟨b,0,none⟩),.int .i64 t,.int .i64 q,.int .i64 s,.int .i64 p,.int .i64 k])
 have HRK:=qh (qCD k0 k8)
 clear h
 go_enter Tryz.func161,Tryz.ntmps161
 obtain⟨x0,x1,x2,x3,x4,x5⟩:=W0.o.h0.six'
 go_wp2_with fail
 refine wp_region_held_drew (S:=(fun w'=>w'.cell? ⟨w.heap.size,0,none⟩=some (.pointer (some ⟨b,0,none⟩))/\w'.cell? ⟨w.heap.size,1,none⟩=some (.int .i64 t)/\w'.cell? ⟨w.heap.size,2,none⟩=some (.int .i64 q)/\w'.cell? ⟨w.heap.size,3,none⟩=some (.int .i64 s)/\w'.cell? ⟨w.heap.size,4,none⟩=some (.int .i64 p)/\w'.cell? ⟨w.heap.size,5,none⟩=some (.int .i64 k))) qr ?_ (fun hHeld=>?_)
 ·exact MXU
 refine tkz 0 ?_
 refine tkz 1 ?_
 refine tkz 2 ?_
 refine tkz 3 ?_
 refine tkz 4 ?_
 refine tkz 5 ?_
 refine tkz 7 ?_
 refine tkz 8 ?_
 refine rdz 6 fun K hK=>?_
 go_simp
 refine(qVk k _).mono ?_;rintro e w9 ⟨rfl,rfl⟩;rw[HRK.o]
 refine qk ?_ (fun hHeld=>?_)
 ·exact MSS
 clear hK K
 refine rdz 9 fun K hK=>?_
 go_simp
 refine(qEp hn hq p W0.o.drew.at_).mono ?_;rintro e w1 ⟨rfl,h1,h2⟩;have W1:=qh (W0.o.drew.call h1 h2);clear h1 h2 W0
 refine qk ?_ (fun hHeld=>?_)
 ·exact MA6
 clear hK K
 refine dnz ?_
 obtain⟨x0,x1,x2,x3,x4,x5⟩:=W1.o.h0.six'
 go_wp2
 go_end0
 exact⟨rfl,W1.o.fin⟩

theorem qPS (p:Int)(u:Nat)(hu:u<2^32)(k0:0<=k)(k8:k<=8)(w:World)(hT:SlotsLaid w) :
  Calls Tryz.prog 160 #[.agg #[.pointer (some ⟨b,0,none⟩),.int .i64 t,.int .i64 q,.int .i64 s,.int .i64 p,.int .i64 k],.int .u32 (u:Int)] w fun e w'=>e = .returned (.bool (fullB u k))/\Below w.heap.size w w':=by
 obtain⟨o,ho⟩:∃ o,HM.onesTo u 32=o:=⟨_,rfl⟩
 obtain⟨m,hm⟩:∃ m,slotI k=m:=⟨_,rfl⟩
 have HO:=qh ho
 have HMM:=qh hm
 have hb:fullB u k=decide (o=m):=by unfold fullB;rw[ho,hm]
 rw[hb]
 have t0:((o:Int)==(m:Int))=decide (o=m):=by
  rw[Bool.eq_iff_iff];simp;omega
 have HX:=qh (Held.new w 155 #[.pointer (some ⟨b,0,none⟩),.int .i64 t,.int .i64 q,.int .i64 s,.int .i64 p,.int .i64 k])
 have HT:=qh (hT.alloc (.cells #[.pointer (some ⟨b,0,none⟩),.int .i64 t,.int .i64 q,.int .i64 s,.int .i64 p,.int .i64 k] 155)).drew
 have HB:=qh (Bdrew (Bnew (B0 w) (.cells #[.pointer (some ⟨b,0,none⟩),.int .i64 t,.int .i64 q,.int .i64 s,.int .i64 p,.int .i64 k] 155)))
 clear hb ho hm hT
 go_enter Tryz.func160,Tryz.ntmps160
 obtain⟨x0,x1,x2,x3,x4,x5⟩:=HX.o.six'
 go_wp2_with fail
 refine wp_region_held_drew (S:=(fun w'=>w'.cell? ⟨w.heap.size,5,none⟩=some (.int .i64 k))) qr ?_ (fun hHeld=>?_)
 ·(try dsimp only)
  first|exact HX.o.drw.six'.2.2.2.2.2|exact hHeld
 refine tkz 0 ?_
 refine tkz 2 ?_
 refine tkz 3 ?_
 refine rdz 1 fun K hK=>?_
 go_simp
 refine(qNm u hu _).mono ?_;rintro e w9 ⟨rfl,rfl⟩;rw[HO.o]
 refine qk ?_ (fun hHeld=>?_)
 ·first|exact HX.o.drw.six'.2.2.2.2.2|exact hHeld
 clear hK K
 refine rdz 4 fun K hK=>?_
 go_simp
 refine(qCz k qo qo _ HT.o).mono ?_;rintro e w9 ⟨rfl,rfl⟩;rw[HMM.o]
 refine qk ?_ (fun hHeld=>?_)
 ·first|exact HX.o.drw.six'.2.2.2.2.2|exact hHeld
 clear hK K
 refine tkz 5 ?_
 refine tkz 6 ?_
 refine dnz ?_
 go_wp2
 go_ret
 exact⟨rfl,HB.o⟩
end
end
section
section
variable {O : Ob} {w0 ws w w' : World} {A G : Nat -> Prop} {N : Nat} {T : TypeId} {cs : Array Value} {base : Nat} {u : Value} {nl : Nat} {xs : List Value} {st s' : Vst}
theorem RowW.h0 (h:RowW O w0 A G ws N T cs base u nl xs st w):Held w N T cs:=h.held
theorem RowW.fin0 (h:RowW O w0 A G ws N T cs base u nl xs st w):O.At w0 A G st w/\Stay G ws w:=⟨h.at_.less (fun g x => .inl (.inl x)),h.stay⟩
end
theorem qVd {w:World}{base g n c:Nat}{l:List Nat}{m:Nat}(h:w.ownsRow base 3 1 (.slice (some ⟨g,0,none⟩) n c) n (ntVs l))(hm:m<=n)(hl:l.length=n):∀ i,i<m->w.cell? ⟨g,0+i,none⟩=some (.int .i64 (((l.take m).getD i 0:Nat):Int)):=fun i hi=>by
 have h1:=h.cellAt i qo
 rw[Nat.zero_add,h1]
 unfold ntVs
 simp[List.getD,List.getElem?_eq_getElem (show i<l.length by omega),List.getElem?_take,hi]
theorem qU8 {w:World}{g:Nat}{t:TypeId}{i:Nat}(h:Held w g t #[.int .i64 (i:Int)]):∀ j,j<1->w.cell? ⟨g,0+j,none⟩=some (.int .i64 ((([i]:List Nat).getD j 0:Nat):Int)):=fun j hj=>by
 have:j=0:=qo
 subst this
 exact h.one.1
theorem qYB {v i:Nat}(hv:v<2^32):clrB v i<2^32:=by
 unfold clrB
 split
 ·exact Nat.lt_of_le_of_lt (Nat.sub_le _ _) hv
 ·exact hv
theorem qNV {v i:Nat}(hv:v<2^32)(hi:i<32):bits .andNot .u32 (v:Int) ((2^i:Nat):Int)=((clrB v i:Nat):Int):=by
 have hz:2^i<4294967296:=Nat.pow_lt_pow_right (show 1<2 by omega) hi
 rw[u32_andNot_nat v (2^i) hv hz]
 congr 1
 have hm:∀ j,(4294967295-2^i).testBit j=(decide (j<32) && !decide (j=i)):=fun j=>by
  have e:4294967295-2^i=2^32-(2^i+1):=qo
  rw[e,Nat.testBit_two_pow_sub_succ hz,qF3]
 apply Nat.eq_of_testBit_eq
 intro j
 rw[Nat.testBit_and,hm]
 have hj32:v.testBit j=true->j<32:=fun h=>by
  rcases Nat.lt_or_ge j 32 with h1|h1
  ·exact h1
  ·rw[Nat.testBit_lt_two_pow (Nat.lt_of_lt_of_le hv (Nat.pow_le_pow_right qo h1))] at h;cases h
 cases hb:v.testBit i with
 | true =>
  rw[qWv hb]
  cases hvj:v.testBit j
  ·rfl
  ·rw[decide_eq_true (hj32 hvj)];rfl
 | false =>
  unfold clrB
  rw[if_neg (by rw[hb];simp)]
  cases hvj:v.testBit j
  ·rfl
  ·rw[decide_eq_true (hj32 hvj),decide_eq_false (fun e=>by rw[e,hb] at hvj;cases hvj)];rfl
section
variable {base b n : Nat} {wh all : Bool} {K : Nat -> Option Nat} {st : Vst} {w w0 : World} {A G : Nat -> Prop} {t q s k : Int}

theorem qWh (hn:n<2^40)(hq:q<=2^31)(p wn:Nat)(hw:1<=wn)(hw2:wn<=32)(k0:0<=k)(k8:k<=8)(hT:SlotsLaid w0)(hA:¬ A 0)(v:Nat)(hv:getV n K st (pageI t q s p 5)=v)(f:List Nat)(hf:HM.freeTo v (slotI k)=f)(h0:f = [])(h:(vOb base b n wh K).At w0 A G st w) :
  Calls Tryz.prog 115 #[.agg #[.pointer (some ⟨b,0,none⟩),.int .i64 t,.int .i64 q,.int .i64 s,.int .i64 (p:Int),.int .i64 k],.int .i64 (wn:Int)] w (WalkEnd (vOb base b n wh K) w0 A G [] (getS n K st (pageI t q s p 5)) w):=by
 have hv32:v<2^32:=by rw[<- hv];exact qHJ h _
 have W0:=qh ((WL.start h).new 155 #[.pointer (some ⟨b,0,none⟩),.int .i64 t,.int .i64 q,.int .i64 s,.int .i64 (p:Int),.int .i64 k])
 have HV:=qh hv
 have HTL:=qh hT
 obtain⟨m,hm⟩:∃ m,slotI k=m:=⟨_,rfl⟩
 have hm32:m<=32:=by rw[<- hm];exact qWU k
 have HMM:=qh hm
 rw[hm] at hf
 have HF:=qh hf
 obtain⟨nf,hnf⟩:∃ nf,f.length=nf:=⟨_,rfl⟩
 have hnf32:nf<=32:=by have:=HM.freeTo_le v m;rw[hf,hnf] at this;omega
 have HNF:=qh hnf
 have hz:nf=0:=by rw[<- hnf,h0];rfl
 subst hz
 clear h hv hf hm hT hnf h0
 go_enter Tryz.func115,Tryz.ntmps115
 obtain⟨x0,x1,x2,x3,x4,x5⟩:=W0.o.h0.six'
 go_wp2_with fail
 refine(qAX hn p W0.o.at_).mono ?_;rintro e w1 ⟨rfl,h1,h2⟩;have W1:=qh (W0.o.call h1 h2);clear h1 h2 W0;rw[HV.o]
 obtain⟨x0,x1,x2,x3,x4,x5⟩:=W1.o.h0.six'
 go_wp2_with fail
 refine(qCz k qo qo _ (HTL.o.at_ hA W1.o.at_)).mono ?_;rintro e w9 ⟨rfl,rfl⟩;rw[HMM.o]
 go_wp2_with fail
 refine(qDl v m hv32 hm32 _).mono ?_
 rintro e w2 ⟨u2,rfl,ho,hb⟩
 rw[HF.o,HNF.o] at ho
 obtain⟨A2,c2,hu2⟩:=qKK ho
 subst hu2
 have hcc:=qFm ho
 have hcut:=qSG A2 0 c2 0 qo hcc.1
 have W2:=qh (W1.o.row hb ho)
 clear ho hb W1
 have mi:(if (0:Int)<(wn:Int) then (0:Int) else (wn:Int))=0:=if_pos qo
 obtain⟨x0,x1,x2,x3,x4,x5⟩:=W2.o.h0.six'
 go_wp2
 go_ret
 exact WalkEnd.nil_ W2.o.fin0.1 W2.o.fin0.2

theorem qMV (hn:n<2^40)(hq:q<=2^31)(p wn:Nat)(hw:1<=wn)(hw2:wn<=32)(k0:0<=k)(k8:k<=8)(hT:SlotsLaid w0)(hA:¬ A 0)(v:Nat)(hv:getV n K st (pageI t q s p 5)=v)(f:List Nat)(hf:HM.freeTo v (slotI k)=f)(hle:wn<=f.length)(h0:f ≠ [])(l:List Nat)(hl:f.take wn=l)(u:Nat)(hu:layB v l=u)(bb:Bool)(hbb:fullB u k=bb)(h:(vOb base b n wh K).At w0 A G st w) :
  Calls Tryz.prog 115 #[.agg #[.pointer (some ⟨b,0,none⟩),.int .i64 t,.int .i64 q,.int .i64 s,.int .i64 (p:Int),.int .i64 k],.int .i64 (wn:Int)] w (WalkEnd (vOb base b n wh K) w0 A G l (bitsS n K t q s k p u bb st) w):=by
 have hv32:v<2^32:=by rw[<- hv];exact qHJ h _
 have W0:=qh ((WL.start h).new 155 #[.pointer (some ⟨b,0,none⟩),.int .i64 t,.int .i64 q,.int .i64 s,.int .i64 (p:Int),.int .i64 k])
 have HV:=qh hv
 have HTL:=qh hT
 obtain⟨m,hm⟩:∃ m,slotI k=m:=⟨_,rfl⟩
 have hm32:m<=32:=by rw[<- hm];exact qWU k
 have HMM:=qh hm
 rw[hm] at hf
 have HF:=qh hf
 obtain⟨nf,hnf⟩:∃ nf,f.length=nf:=⟨_,rfl⟩
 have hnf32:nf<=32:=by have:=HM.freeTo_le v m;rw[hf,hnf] at this;omega
 have HNF:=qh hnf
 rw[hnf] at hle
 have hnf1:1<=nf:=by rw[<- hnf];cases f with|nil=>exact absurd rfl h0|cons a r=>simp
 have hnl:l.length=wn:=by rw[<- hl,List.length_take,hnf];omega
 have hnl2:wn<=nf:=qo
 have hlt:f.take wn=l:=by rw[<- hl]
 have HLT:=qh hlt
 have HNL:=qh hnl
 have t0:((wn:Int)==0)=false:=qs
 have hlm:∀ i∈l,i<m/\v.testBit i=false:=fun i hi=>by
  exact M8S
 have HLM:qH (∀ i∈l,i<32):=qh (fun i hi=>by have:=(hlm i hi).1;omega)
 obtain⟨x,hx⟩:∃ x,layB 0 l=x:=⟨_,rfl⟩
 have hx32:x<2^32:=by rw[<- hx];exact qJE _ _ qo HLM.o
 have HX:=qh hx
 have hu32:u<2^32:=by rw[<- hu];exact qJE _ _ hv32 HLM.o
 have or32:bits .or .u32 (v:Int) (x:Int)=(u:Int):=by rw[u32_or_nat v x hv32 hx32,<- hu,qIy,hx]
 have HBB:=qh hbb
 clear h hv hf hm hT hnf h0 hl hnl hlt hlm hx hu hbb
 go_enter Tryz.func115,Tryz.ntmps115
 obtain⟨x0,x1,x2,x3,x4,x5⟩:=W0.o.h0.six'
 go_wp2_with fail
 refine(qAX hn p W0.o.at_).mono ?_;rintro e w1 ⟨rfl,h1,h2⟩;have W1:=qh (W0.o.call h1 h2);clear h1 h2 W0;rw[HV.o]
 obtain⟨x0,x1,x2,x3,x4,x5⟩:=W1.o.h0.six'
 go_wp2_with fail
 refine(qCz k qo qo _ (HTL.o.at_ hA W1.o.at_)).mono ?_;rintro e w9 ⟨rfl,rfl⟩;rw[HMM.o]
 go_wp2_with fail
 refine(qDl v m hv32 hm32 _).mono ?_
 rintro e w2 ⟨u2,rfl,ho,hb⟩
 rw[HF.o,HNF.o] at ho
 obtain⟨A2,c2,hu2⟩:=qKK ho
 subst hu2
 have hcc:=qFm ho
 obtain⟨g2,c3,hg2,_⟩:=ho.form qo
 injection hg2 with hg3 _ hg4
 subst hg3
 clear hg4
 have hcut:=qSG (some ⟨g2,0,none⟩) nf c2 wn hnl2 hcc.1
 have W2:=qh (W1.o.row hb ho)
 clear ho hb W1
 obtain⟨x0,x1,x2,x3,x4,x5⟩:=W2.o.h0.six'
 go_wp2_with fail
 refine(qL7 l g2 0 c2 wn HNL.o qo HLM.o _ (by rw[<- HLT.o];exact qVd W2.o.own hnl2 HNF.o)).mono ?_;rintro e w9 ⟨rfl,rfl⟩;rw[HX.o]
 go_wp2_with fail
 refine(qDH hn p u hu32 W2.o.at_).mono ?_;rintro e w3 ⟨rfl,h1,h2⟩;have W3:=qh (W2.o.call h1 h2);clear h1 h2 W2
 obtain⟨x0,x1,x2,x3,x4,x5⟩:=W3.o.h0.six'
 go_wp2_with fail
 refine(qPS p u hu32 k0 k8 _ (HTL.o.at_ hA W3.o.at_)).mono ?_;rintro e w4 ⟨rfl,hb⟩;rw[HBB.o];have W4:=qh (W3.o.keep hb);clear hb W3
 obtain⟨x0,x1,x2,x3,x4,x5⟩:=W4.o.h0.six'
 cases bb with
 | false =>
  go_wp2
  go_ret
  have hend:=W4.o.end_ hnl2 (by rw[HLT.o];exact HNL.o)
  rw[HLT.o] at hend
  exact hend
 | true =>
  go_wp2_with fail
  refine(qKe hn hq p k0 k8 W4.o.at_).mono ?_;rintro e w5 ⟨rfl,h1,h2⟩;have W5:=qh (W4.o.call h1 h2);clear h1 h2 W4
  obtain⟨x0,x1,x2,x3,x4,x5⟩:=W5.o.h0.six'
  go_wp2
  go_ret
  have hend:=W5.o.end_ hnl2 (by rw[HLT.o];exact HNL.o)
  rw[HLT.o] at hend
  exact hend

theorem qAk (hn:n<2^40)(hq:q<=2^31)(p wn:Nat)(hw:1<=wn)(hw2:wn<=32)(k0:0<=k)(k8:k<=8)(hT:SlotsLaid w0)(hA:¬ A 0)(v:Nat)(hv:getV n K st (pageI t q s p 5)=v)(f:List Nat)(hf:HM.freeTo v (slotI k)=f)(hle:f.length<wn)(h0:f ≠ [])(l:List Nat)(hl:f.take wn=l)(u:Nat)(hu:layB v l=u)(bb:Bool)(hbb:fullB u k=bb)(h:(vOb base b n wh K).At w0 A G st w) :
  Calls Tryz.prog 115 #[.agg #[.pointer (some ⟨b,0,none⟩),.int .i64 t,.int .i64 q,.int .i64 s,.int .i64 (p:Int),.int .i64 k],.int .i64 (wn:Int)] w (WalkEnd (vOb base b n wh K) w0 A G l (bitsS n K t q s k p u bb st) w):=by
 have hv32:v<2^32:=by rw[<- hv];exact qHJ h _
 have W0:=qh ((WL.start h).new 155 #[.pointer (some ⟨b,0,none⟩),.int .i64 t,.int .i64 q,.int .i64 s,.int .i64 (p:Int),.int .i64 k])
 have HV:=qh hv
 have HTL:=qh hT
 obtain⟨m,hm⟩:∃ m,slotI k=m:=⟨_,rfl⟩
 have hm32:m<=32:=by rw[<- hm];exact qWU k
 have HMM:=qh hm
 rw[hm] at hf
 have HF:=qh hf
 obtain⟨nf,hnf⟩:∃ nf,f.length=nf:=⟨_,rfl⟩
 have hnf32:nf<=32:=by have:=HM.freeTo_le v m;rw[hf,hnf] at this;omega
 have HNF:=qh hnf
 rw[hnf] at hle
 have hnf1:1<=nf:=by rw[<- hnf];cases f with|nil=>exact absurd rfl h0|cons a r=>simp
 have hnl:l.length=nf:=by rw[<- hl,List.length_take,hnf];omega
 have hnl2:nf<=nf:=qo
 have hlt:f.take nf=l:=by rw[<- hl];rw[List.take_of_length_le qo,List.take_of_length_le qo]
 have HLT:=qh hlt
 have HNL:=qh hnl
 have t0:((nf:Int)==0)=false:=qs
 have hlm:∀ i∈l,i<m/\v.testBit i=false:=fun i hi=>by
  exact M8S
 have HLM:qH (∀ i∈l,i<32):=qh (fun i hi=>by have:=(hlm i hi).1;omega)
 obtain⟨x,hx⟩:∃ x,layB 0 l=x:=⟨_,rfl⟩
 have hx32:x<2^32:=by rw[<- hx];exact qJE _ _ qo HLM.o
 have HX:=qh hx
 have hu32:u<2^32:=by rw[<- hu];exact qJE _ _ hv32 HLM.o
 have or32:bits .or .u32 (v:Int) (x:Int)=(u:Int):=by rw[u32_or_nat v x hv32 hx32,<- hu,qIy,hx]
 have HBB:=qh hbb
 clear h hv hf hm hT hnf h0 hl hnl hlt hlm hx hu hbb
 go_enter Tryz.func115,Tryz.ntmps115
 obtain⟨x0,x1,x2,x3,x4,x5⟩:=W0.o.h0.six'
 go_wp2_with fail
 refine(qAX hn p W0.o.at_).mono ?_;rintro e w1 ⟨rfl,h1,h2⟩;have W1:=qh (W0.o.call h1 h2);clear h1 h2 W0;rw[HV.o]
 obtain⟨x0,x1,x2,x3,x4,x5⟩:=W1.o.h0.six'
 go_wp2_with fail
 refine(qCz k qo qo _ (HTL.o.at_ hA W1.o.at_)).mono ?_;rintro e w9 ⟨rfl,rfl⟩;rw[HMM.o]
 go_wp2_with fail
 refine(qDl v m hv32 hm32 _).mono ?_
 rintro e w2 ⟨u2,rfl,ho,hb⟩
 rw[HF.o,HNF.o] at ho
 obtain⟨A2,c2,hu2⟩:=qKK ho
 subst hu2
 have hcc:=qFm ho
 obtain⟨g2,c3,hg2,_⟩:=ho.form qo
 injection hg2 with hg3 _ hg4
 subst hg3
 clear hg4
 have hcut:=qSG (some ⟨g2,0,none⟩) nf c2 nf hnl2 hcc.1
 have W2:=qh (W1.o.row hb ho)
 clear ho hb W1
 obtain⟨x0,x1,x2,x3,x4,x5⟩:=W2.o.h0.six'
 go_wp2_with fail
 refine(qL7 l g2 0 c2 nf HNL.o qo HLM.o _ (by rw[<- HLT.o];exact qVd W2.o.own hnl2 HNF.o)).mono ?_;rintro e w9 ⟨rfl,rfl⟩;rw[HX.o]
 go_wp2_with fail
 refine(qDH hn p u hu32 W2.o.at_).mono ?_;rintro e w3 ⟨rfl,h1,h2⟩;have W3:=qh (W2.o.call h1 h2);clear h1 h2 W2
 obtain⟨x0,x1,x2,x3,x4,x5⟩:=W3.o.h0.six'
 go_wp2_with fail
 refine(qPS p u hu32 k0 k8 _ (HTL.o.at_ hA W3.o.at_)).mono ?_;rintro e w4 ⟨rfl,hb⟩;rw[HBB.o];have W4:=qh (W3.o.keep hb);clear hb W3
 obtain⟨x0,x1,x2,x3,x4,x5⟩:=W4.o.h0.six'
 cases bb with
 | false =>
  go_wp2
  go_ret
  have hend:=W4.o.end_ hnl2 (by rw[HLT.o];exact HNL.o)
  rw[HLT.o] at hend
  exact hend
 | true =>
  go_wp2_with fail
  refine(qKe hn hq p k0 k8 W4.o.at_).mono ?_;rintro e w5 ⟨rfl,h1,h2⟩;have W5:=qh (W4.o.call h1 h2);clear h1 h2 W4
  obtain⟨x0,x1,x2,x3,x4,x5⟩:=W5.o.h0.six'
  go_wp2
  go_ret
  have hend:=W5.o.end_ hnl2 (by rw[HLT.o];exact HNL.o)
  rw[HLT.o] at hend
  exact hend

theorem qQK (hn:n<2^40)(hq:q<=2^31)(p wn:Nat)(hw:1<=wn)(hw2:wn<=32)(k0:0<=k)(k8:k<=8)(hT:SlotsLaid w0)(hA:¬ A 0)(h:(vOb base b n wh K).At w0 A G st w) :
  Calls Tryz.prog 115 #[.agg #[.pointer (some ⟨b,0,none⟩),.int .i64 t,.int .i64 q,.int .i64 s,.int .i64 (p:Int),.int .i64 k],.int .i64 (wn:Int)] w (WalkEnd (vOb base b n wh K) w0 A G (pickL (pickAt n K t q s k p wn st).1) (pickAt n K t q s k p wn st).2 w):=by
 by_cases h0:HM.freeTo (getV n K st (pageI t q s p 5)) (slotI k) = []
 ·rw[qJI rfl (by unfold someF;rw[h0,List.take_nil])]
  exact qWh hn hq p wn hw hw2 k0 k8 hT hA _ rfl _ rfl h0 h
 ·rw[qTY rfl rfl (qAv (by
   unfold someF
   rw[List.length_take]
   have:0<(HM.freeTo (getV n K st (pageI t q s p 5)) (slotI k)).length:=List.length_pos_iff.2 h0
   omega))]
  rcases Nat.lt_or_ge (HM.freeTo (getV n K st (pageI t q s p 5)) (slotI k)).length wn with hle|hle
  ·exact qAk hn hq p wn hw hw2 k0 k8 hT hA _ rfl _ rfl hle h0 _ rfl _ rfl _ rfl h
  ·exact qMV hn hq p wn hw hw2 k0 k8 hT hA _ rfl _ rfl hle h0 _ rfl _ rfl _ rfl h

end
end
section
section
variable {base b n : Nat} {wh all : Bool} {K : Nat -> Option Nat} {st : Vst} {w w0 : World} {A G : Nat -> Prop} {t q s k : Int}

theorem qOe (hn:n<2^40)(hq:q<=1024)(p i:Nat)(hp:p<=1024)(hi:i<32)(k0:0<=k)(k8:k<=8)(hT:SlotsLaid w0)(hA:¬ A 0)(v:Nat)(hv:getV n K st (pageI t q s p 5)=v)(u:Nat)(hu:clrB v i=u)(bb:Bool)(hbb:fullB v k=bb)(hu0:u≠0)(h:(vOb base b n wh K).At w0 A G st w) :
  Calls Tryz.prog 137 #[.agg #[.pointer (some ⟨b,0,none⟩),.int .i64 t,.int .i64 q,.int .i64 s,.int .i64 (p:Int),.int .i64 k],.int .i64 (i:Int)] w fun e w'=>e = .returned (.tuple #[])/\(vOb base b n wh K).At w0 A G (backS n K t q s k p u bb (getS n K st (pageI t q s p 5))) w'/\Stay G w w':=by
 have hv32:v<2^32:=by rw[<- hv];exact qHJ h _
 have W0:=qh ((WL.start h).new 155 #[.pointer (some ⟨b,0,none⟩),.int .i64 t,.int .i64 q,.int .i64 s,.int .i64 (p:Int),.int .i64 k])
 have HV:=qh hv
 have HTL:=qh hT
 have HBB:=qh hbb
 have hq2:q<=2^31:=qo
 obtain⟨z,hz⟩:∃ z,2^i=z:=⟨_,rfl⟩
 have hz32:z<2^32:=by rw[<- hz];exact Nat.pow_lt_pow_right qo hi
 have HZ:qH (layB 0 [i]=z):=qh (by rw[<- hz];unfold layB;simp)
 have hu32:u<2^32:=by rw[<- hu];exact qYB hv32
 have an32:bits .andNot .u32 (v:Int) (z:Int)=(u:Int):=by rw[<- hz,<- hu];exact qNV hv32 hi
 have t0:((u:Int) != 0)=true:=qs
 have t1:((u:Int)==0)=false:=qs
 clear h hv hT hbb hz hu
 go_enter Tryz.func137,Tryz.ntmps137
 obtain⟨x0,x1,x2,x3,x4,x5⟩:=W0.o.h0.six'
 go_wp2_with fail
 refine(qAX hn p W0.o.at_).mono ?_;rintro e w1 ⟨rfl,h1,h2⟩;have W1:=qh (W0.o.call h1 h2);clear h1 h2 W0;rw[HV.o]
 obtain⟨x0,x1,x2,x3,x4,x5⟩:=W1.o.h0.six'
 have W1a:=qh (W1.o.alloc (.cells #[.int .i64 (i:Int)] 3))
 have HS1:=qh (Held.new w1 3 #[.int .i64 (i:Int)])
 go_wp2_with fail
 refine(qL7 [i] w1.heap.size 0 1 1 rfl qo (fun j hj=>by rw[List.mem_singleton.1 hj];exact hi) _ (qU8 HS1.o)).mono ?_;rintro e w9 ⟨rfl,rfl⟩;rw[HZ.o]
 replace W1:=qh W1a.o
 clear W1a HS1
 generalize hw1:w1.alloc (.cells #[.int .i64 (i:Int)] 3)=w2 at *
 clear hw1
 obtain⟨x0,x1,x2,x3,x4,x5⟩:=W1.o.h0.six'
 have W2:=W1
 clear W1
 go_wp2_with fail
 refine(qDH hn p u hu32 W2.o.at_).mono ?_;rintro e w3 ⟨rfl,h1,h2⟩;have W3:=qh (W2.o.call h1 h2);clear h1 h2 W2
 obtain⟨x0,x1,x2,x3,x4,x5⟩:=W3.o.h0.six'
 go_wp2_with fail
 refine(qPS p v hv32 k0 k8 _ (HTL.o.at_ hA W3.o.at_)).mono ?_;rintro e w4 ⟨rfl,hb⟩;rw[HBB.o];have W4:=qh (W3.o.keep hb);clear hb W3
 obtain⟨x0,x1,x2,x3,x4,x5⟩:=W4.o.h0.six'
 cases bb with
 | false =>
  go_wp2
  refine bodyPost_ret (results_none rfl _ _ _) rfl ?_
  exact⟨rfl,W4.o.fin⟩
 | true =>
  go_wp2_with fail
  refine(qQe hn hq2 p k0 k8 W4.o.at_).mono ?_;rintro e w5 ⟨rfl,h1,h2⟩;have W5:=qh (W4.o.call h1 h2);clear h1 h2 W4
  obtain⟨x0,x1,x2,x3,x4,x5⟩:=W5.o.h0.six'
  go_wp2
  refine bodyPost_ret (results_none rfl _ _ _) rfl ?_
  exact⟨rfl,W5.o.fin⟩

theorem qDX (hn:n<2^40)(hq:q<=1024)(p i:Nat)(hp:p<=1024)(hi:i<32)(k0:0<=k)(k8:k<=8)(hT:SlotsLaid w0)(hA:¬ A 0)(v:Nat)(hv:getV n K st (pageI t q s p 5)=v)(u:Nat)(hu:clrB v i=u)(bb:Bool)(hbb:fullB v k=bb)(hu0:u=0)(h:(vOb base b n wh K).At w0 A G st w) :
  Calls Tryz.prog 137 #[.agg #[.pointer (some ⟨b,0,none⟩),.int .i64 t,.int .i64 q,.int .i64 s,.int .i64 (p:Int),.int .i64 k],.int .i64 (i:Int)] w fun e w'=>e = .returned (.tuple #[])/\(vOb base b n wh K).At w0 A G (emptyS n K t q s k p bb (getS n K st (pageI t q s p 5))) w'/\Stay G w w':=by
 have hv32:v<2^32:=by rw[<- hv];exact qHJ h _
 have W0:=qh ((WL.start h).new 155 #[.pointer (some ⟨b,0,none⟩),.int .i64 t,.int .i64 q,.int .i64 s,.int .i64 (p:Int),.int .i64 k])
 have HV:=qh hv
 have HTL:=qh hT
 have HBB:=qh hbb
 have hq2:q<=2^31:=qo
 obtain⟨z,hz⟩:∃ z,2^i=z:=⟨_,rfl⟩
 have hz32:z<2^32:=by rw[<- hz];exact Nat.pow_lt_pow_right qo hi
 have HZ:qH (layB 0 [i]=z):=qh (by rw[<- hz];unfold layB;simp)
 have hu32:u<2^32:=by rw[<- hu];exact qYB hv32
 have an32:bits .andNot .u32 (v:Int) (z:Int)=(u:Int):=by rw[<- hz,<- hu];exact qNV hv32 hi
 have t0:((u:Int) != 0)=false:=qs
 have t1:((u:Int)==0)=true:=qs
 subst hu0
 clear h hv hT hbb hz
 go_enter Tryz.func137,Tryz.ntmps137
 obtain⟨x0,x1,x2,x3,x4,x5⟩:=W0.o.h0.six'
 go_wp2_with fail
 refine(qAX hn p W0.o.at_).mono ?_;rintro e w1 ⟨rfl,h1,h2⟩;have W1:=qh (W0.o.call h1 h2);clear h1 h2 W0;rw[HV.o]
 obtain⟨x0,x1,x2,x3,x4,x5⟩:=W1.o.h0.six'
 have W1a:=qh (W1.o.alloc (.cells #[.int .i64 (i:Int)] 3))
 have HS1:=qh (Held.new w1 3 #[.int .i64 (i:Int)])
 go_wp2_with fail
 refine(qL7 [i] w1.heap.size 0 1 1 rfl qo (fun j hj=>by rw[List.mem_singleton.1 hj];exact hi) _ (qU8 HS1.o)).mono ?_;rintro e w9 ⟨rfl,rfl⟩;rw[HZ.o]
 replace W1:=qh W1a.o
 clear W1a HS1
 generalize hw1:w1.alloc (.cells #[.int .i64 (i:Int)] 3)=w2 at *
 clear hw1
 obtain⟨x0,x1,x2,x3,x4,x5⟩:=W1.o.h0.six'
 have W2:=W1
 clear W1
 go_wp2_with fail
 refine(qPS p v hv32 k0 k8 _ (HTL.o.at_ hA W2.o.at_)).mono ?_;rintro e w3 ⟨rfl,hb⟩;rw[HBB.o];have W3:=qh (W2.o.keep hb);clear hb W2
 obtain⟨x0,x1,x2,x3,x4,x5⟩:=W3.o.h0.six'
 cases bb with
 | false =>
  go_wp2_with fail
  refine(qKe hn hq2 p k0 k8 W3.o.at_).mono ?_;rintro e w4 ⟨rfl,h1,h2⟩;have W4:=qh (W3.o.call h1 h2);clear h1 h2 W3
  obtain⟨x0,x1,x2,x3,x4,x5⟩:=W4.o.h0.six'
  go_wp2_with fail
  refine(qDH hn p 0 qo W4.o.at_).mono ?_;rintro e w5 ⟨rfl,h1,h2⟩;have W5:=qh (W4.o.call h1 h2);clear h1 h2 W4
  obtain⟨x0,x1,x2,x3,x4,x5⟩:=W5.o.h0.six'
  go_wp2_with fail
  refine(qTi hn hq p 1 hp qo W5.o.at_).mono ?_;rintro e w6 ⟨rfl,h1,h2⟩;have W6:=qh (W5.o.call h1 h2);clear h1 h2 W5
  obtain⟨x0,x1,x2,x3,x4,x5⟩:=W6.o.h0.six'
  go_wp2
  go_end0
  exact⟨rfl,W6.o.fin⟩
 | true =>
  go_wp2_with fail
  refine(qDH hn p 0 qo W3.o.at_).mono ?_;rintro e w4 ⟨rfl,h1,h2⟩;have W4:=qh (W3.o.call h1 h2);clear h1 h2 W3
  obtain⟨x0,x1,x2,x3,x4,x5⟩:=W4.o.h0.six'
  go_wp2_with fail
  refine(qTi hn hq p 1 hp qo W4.o.at_).mono ?_;rintro e w5 ⟨rfl,h1,h2⟩;have W5:=qh (W4.o.call h1 h2);clear h1 h2 W4
  obtain⟨x0,x1,x2,x3,x4,x5⟩:=W5.o.h0.six'
  go_wp2
  go_end0
  exact⟨rfl,W5.o.fin⟩

theorem qKH (hn:n<2^40)(hq:q<=1024)(p i:Nat)(hp:p<=1024)(hi:i<32)(k0:0<=k)(k8:k<=8)(hT:SlotsLaid w0)(hA:¬ A 0)(h:(vOb base b n wh K).At w0 A G st w) :
  Calls Tryz.prog 137 #[.agg #[.pointer (some ⟨b,0,none⟩),.int .i64 t,.int .i64 q,.int .i64 s,.int .i64 (p:Int),.int .i64 k],.int .i64 (i:Int)] w fun e w'=>e = .returned (.tuple #[])/\(vOb base b n wh K).At w0 A G (giveAt n K t q s k p i st) w'/\Stay G w w':=by
 unfold giveAt
 by_cases h0:clrB (getV n K st (pageI t q s p 5)) i=0
 ·rw[if_pos h0]
  exact qDX hn hq p i hp hi k0 k8 hT hA _ rfl _ rfl _ rfl h0 h
 ·rw[if_neg h0]
  exact qOe hn hq p i hp hi k0 k8 hT hA _ rfl _ rfl _ rfl h0 h

end
end
end Go.Proofs.YtjjfcaliippgpaaGreatDoor
