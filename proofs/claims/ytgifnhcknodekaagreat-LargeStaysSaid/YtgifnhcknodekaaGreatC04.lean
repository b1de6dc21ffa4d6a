/-
  What a spot, and a page, of link do. Written by link/gen_page.py.
-/
import Derived.Test.YtgifnhcknodekaaGreatC03
import Derived.Deep.RegionHeld3
import Derived.IntWalk
import Derived.KernelRfl
namespace Go.Proofs.YtgifnhcknodekaaGreat
theorem RPH {P Q:Prop}(kq:Q)(h:HQ Q->P:=by
 intro kq
 rintro e w1 ⟨rfl,hb1⟩
 rw[HR.o]
 have hc1:=hc.keep hb1
 obtain⟨x0,x1,x2⟩:=hc1.three
 revert w1 hb1 hc1 x0 x1 x2
 exact kq.o):P:=h ⟨kq⟩
theorem Ro3 {P Q:Prop}(kq:Q)(h:HQ Q->P:=by
 intro kq
 refine tkz 0 ?_
 refine tkz 1 ?_
 refine tkz 2 ?_
 exact kq.o):P:=h ⟨kq⟩
theorem MeN {P:Prop}(h:P:=by
 clear hr
 have HN:=qh (show pageI t p s q b = -1 from qQL (by intro h;omega))
 exact M97):P:=h
theorem M68 {P:Prop}(h:P:=by first|exact⟨W2.o.drew.h1.three.1,W2.o.drew.h1.three.2.1,W2.o.drew.h1.three.2.2,W2.o.drew.h0.three.2.1⟩|exact⟨W2.o.h1.three.1,W2.o.h1.three.2.1,W2.o.h1.three.2.2,W2.o.h0.three.2.1⟩|exact⟨W3.o.h1.three.1,W3.o.h1.three.2.1,W3.o.h1.three.2.2,W3.o.h0.three.2.1⟩|exact hHeld):P:=h
theorem Mfi {P:Prop}(h:P:=by
 clear hr
 go_enter Tryz.func56,Tryz.ntmps56
 go_wp2_with fail
 refine(qDP t p s _).mono ?_
 refine RPH ?_;intro w1 hb1 hc1 x0 x1 x2
 go_wp2
 go_ret
 exact⟨by rw[HN.o];rfl,Bgo (Bnew (B0 _) _) hb1⟩):P:=h
theorem M1m {P:Prop}(h:P:=by
 clear hr
 exact M97):P:=h
theorem M97 {P:Prop}(h:P:=by
 go_enter Tryz.func118,Tryz.ntmps118
 go_wp2_with fail
 refine(qDP t p s _).mono ?_
 refine RPH ?_;intro w1 hb1 hc1 x0 x1 x2
 go_wp2
 go_ret
 refine⟨by rw[HN.o];rfl,?_⟩
 all_goals exact blz):P:=h
theorem MYr {P:Prop}(h:P:=by
 go_enter Tryz.func100,Tryz.ntmps100
 exact MWK):P:=h
theorem MP7 {P:Prop}(h:P:=by
 go_enter Tryz.func54,Tryz.ntmps54
 exact MWK):P:=h
theorem MWM {P:Prop}(h:P:=by
 go_enter Tryz.func97,Tryz.ntmps97
 exact MWK):P:=h
theorem MkS {P:Prop}(h:P:=by first|exact W4.o.drew.held.six'|exact W5.o.held.six'|exact W6.o.held.six'|exact W7.o.held.six'|exact hHeld):P:=h
theorem Mm8 {P:Prop}(h:P:=by
 (try dsimp only)
 exact MoD):P:=h
theorem MQo {P:Prop}(h:P:=by first|exact W4.o.drew.held.six'|exact W5.o.held.six'|exact W6.o.held.six'|exact hHeld):P:=h
theorem MmZ {P:Prop}(h:P:=by first|exact W7.o.drew.held.six'|exact W8.o.held.six'|exact W9.o.held.six'|exact hHeld):P:=h
theorem MaT {P:Prop}(h:P:=by first|exact W1.o.drew.held.six'|exact W2.o.held.six'|exact W3.o.held.six'|exact hHeld):P:=h
theorem MsI {P:Prop}(h:P:=by first|exact W6.o.drew.h0.three|exact W6.o.h0.three|exact W7.o.h0.three|exact hHeld):P:=h
theorem MoD {P:Prop}(h:P:=by first|exact HC.o.drw.six'|exact HC1.o.six'|exact HC2.o.six'|exact hHeld):P:=h
end Go.Proofs.YtgifnhcknodekaaGreat
set_option linter.unusedVariables false
set_option linter.unusedSimpArgs false
set_option maxRecDepth 100000
set_option maxHeartbeats 25600000
namespace Go.Proofs.YtgifnhcknodekaaGreat
open Go.ChangeShapes Go.WideShapes Go.ChangeAt Go.RowKit Go.Maps
section
theorem Held.drw {w:World}{g:Nat}{t:TypeId}{cs:Array Value}(h:Held w g t cs):Held w.drew g t cs:=h
section
variable {w : World} {g : Nat} {t : TypeId} {c0 c1 c2 c3 c4 c5 : Value}
theorem Held.six' (h:Held w g t #[c0,c1,c2,c3,c4,c5]):w.cell? ⟨g,0,none⟩=some c0/\w.cell? ⟨g,1,none⟩=some c1/\w.cell? ⟨g,2,none⟩=some c2/\w.cell? ⟨g,3,none⟩=some c3/\w.cell? ⟨g,4,none⟩=some c4/\w.cell? ⟨g,5,none⟩=some c5:=⟨h.cell 0,h.cell 1,h.cell 2,h.cell 3,h.cell 4,h.cell 5⟩
end

theorem qLv (b:Nat)(t q s hd p:Int)(w:World) :
  Calls Tryz.prog 132 #[.agg #[.pointer (some ⟨b,0,none⟩),.int .i64 t,.int .i64 q,.int .i64 s,.int .i64 hd,.int .i64 p]] w fun e w'=>e = .returned (.bool (pgB q p))/\Below w.heap.size w w':=by
 have hB:=Bnew (B0 w) (.cells #[.pointer (some ⟨b,0,none⟩),.int .i64 t,.int .i64 q,.int .i64 s,.int .i64 hd,.int .i64 p] 148)
 obtain⟨x0,x1,x2,x3,x4,x5⟩:=(Held.new w 148 #[.pointer (some ⟨b,0,none⟩),.int .i64 t,.int .i64 q,.int .i64 s,.int .i64 hd,.int .i64 p]).six'
 unfold pgB
 by_cases h0:0<=p
 ·have t0:decide ((0:Int)<=p)=true:=decide_eq_true h0
  obtain⟨c,t1⟩:∃ c,decide (p<q)=c:=⟨_,rfl⟩
  rw[t0,t1]
  cases c with
  | true =>
   go_enter Tryz.func132,Tryz.ntmps132
   go_wp2
   go_ret
   exact⟨rfl,hB⟩
  | false =>
   go_enter Tryz.func132,Tryz.ntmps132
   go_wp2
   go_ret
   exact⟨rfl,hB⟩
 ·have t0:decide ((0:Int)<=p)=false:=decide_eq_false h0
  rw[t0]
  go_enter Tryz.func132,Tryz.ntmps132
  go_wp2
  go_ret
  exact⟨rfl,hB⟩

theorem qB5 (b:Nat)(t q s hd:Int)(k:Nat)(hk:k<2^31)(w:World) :
  Calls Tryz.prog 151 #[.agg #[.pointer (some ⟨b,0,none⟩),.int .i64 t,.int .i64 q,.int .i64 s,.int .i64 hd,.int .i64 (k:Int)]] w fun e w'=>e = .returned (.int .u32 ((k+1:Nat):Int))/\Below w.heap.size w w':=by
 have hB:=Bnew (B0 w) (.cells #[.pointer (some ⟨b,0,none⟩),.int .i64 t,.int .i64 q,.int .i64 s,.int .i64 hd,.int .i64 (k:Int)] 148)
 go_enter Tryz.func151,Tryz.ntmps151
 go_wp2
 go_ret
 exact⟨by simp,hB⟩

theorem qJc (b:Nat)(t q s hd:Int)(l:Nat)(hl:l<2^32)(w:World) :
  Calls Tryz.prog 136 #[.agg #[.pointer (some ⟨b,0,none⟩),.int .i64 t,.int .i64 q,.int .i64 s,.int .i64 hd],.int .u32 (l:Int)] w fun e w'=>e = .returned (.agg #[.pointer (some ⟨b,0,none⟩),.int .i64 t,.int .i64 q,.int .i64 s,.int .i64 hd,.int .i64 ((l:Int)-1)])/\Below w.heap.size w w':=by
 go_enter Tryz.func136,Tryz.ntmps136
 go_wp2
 have hfin:=Held.new2 w (.cells #[.pointer (some ⟨b,0,none⟩),.int .i64 t,.int .i64 q,.int .i64 s,.int .i64 hd] 146) 148 #[.pointer (some ⟨b,0,none⟩),.int .i64 t,.int .i64 q,.int .i64 s,.int .i64 hd,.int .i64 ((l:Int)-1)]
 obtain⟨r0,r1,r2,r3,r4,r5⟩:=hfin.six'
 refine bodyPost_ret (v := .agg #[.pointer (some ⟨b,0,none⟩),.int .i64 t,.int .i64 q,.int .i64 s,.int .i64 hd,.int .i64 ((l:Int)-1)]) (by simp[results,Tryz.results136,go_sem,r0,r1,r2,r3,r4,r5]) rfl ⟨rfl,?_⟩
 exact Bnew (Bnew (B0 _) _) _

section
variable {base b n : Nat} {wh : Bool} {K : Nat -> Option Nat} {st : Vst} {w w0 : World} {A G : Nat -> Prop} {t q s hd p : Int}

theorem qJs (hn:n<2^40)(h:(vOb base b n wh K).At w0 A G st w) :
  Calls Tryz.prog 150 #[.agg #[.pointer (some ⟨b,0,none⟩),.int .i64 t,.int .i64 q,.int .i64 s,.int .i64 hd]] w fun e w'=>e = .returned (.int .u32 ((getV n K st hd:Nat):Int))/\(vOb base b n wh K).At w0 A G (getS n K st hd) w'/\Stay G w w':=by
 have HA:=qh (h.alloc (.cells #[.pointer (some ⟨b,0,none⟩),.int .i64 t,.int .i64 q,.int .i64 s,.int .i64 hd] 146))
 have hS:Stay G w (w.alloc (.cells #[.pointer (some ⟨b,0,none⟩),.int .i64 t,.int .i64 q,.int .i64 s,.int .i64 hd] 146)):=Stay.of_below (Bnew (B0 w) _) G
 clear h
 go_enter Tryz.func150,Tryz.ntmps150
 go_wp2_with fail
 refine(vGetA hn hd HA.o).mono ?_
 rintro e w1 ⟨rfl,h1,h2⟩
 go_wp2
 go_ret
 exact⟨rfl,h1,hS.trans h2⟩

theorem qEM (hn:n<2^40)(l:Nat)(hl:l<2^32)(h:(vOb base b n wh K).At w0 A G st w) :
  Calls Tryz.prog 135 #[.agg #[.pointer (some ⟨b,0,none⟩),.int .i64 t,.int .i64 q,.int .i64 s,.int .i64 hd],.int .u32 (l:Int)] w fun e w'=>e = .returned (.tuple #[])/\(vOb base b n wh K).At w0 A G (putS n st hd l) w'/\Stay G w w':=by
 have HA:=qh (h.alloc (.cells #[.pointer (some ⟨b,0,none⟩),.int .i64 t,.int .i64 q,.int .i64 s,.int .i64 hd] 146))
 have hS:Stay G w (w.alloc (.cells #[.pointer (some ⟨b,0,none⟩),.int .i64 t,.int .i64 q,.int .i64 s,.int .i64 hd] 146)):=Stay.of_below (Bnew (B0 w) _) G
 clear h
 go_enter Tryz.func135,Tryz.ntmps135
 go_wp2_with fail
 refine(vPutA hn hd l hl HA.o).mono ?_
 rintro e w1 ⟨rfl,h1,h2⟩
 go_wp2
 go_end0
 exact⟨rfl,h1,hS.trans h2⟩

theorem qKX (hn:n<2^40)(h:(vOb base b n wh K).At w0 A G st w) :
  Calls Tryz.prog 133 #[.agg #[.pointer (some ⟨b,0,none⟩),.int .i64 t,.int .i64 q,.int .i64 s,.int .i64 hd,.int .i64 p]] w fun e w'=>e = .returned (.int .u32 ((getV n K st (pageI t q s p 2):Nat):Int))/\(vOb base b n wh K).At w0 A G (getS n K st (pageI t q s p 2)) w'/\Stay G w w':=by
 have HA:=qh (h.box (.cells #[.pointer (some ⟨b,0,none⟩),.int .i64 t,.int .i64 q,.int .i64 s,.int .i64 hd,.int .i64 p] 148))
 have HC:=qh (Held.new w 148 #[.pointer (some ⟨b,0,none⟩),.int .i64 t,.int .i64 q,.int .i64 s,.int .i64 hd,.int .i64 p])
 have HS:=qh (Stay.of_below (Bnew (B0 w) (.cells #[.pointer (some ⟨b,0,none⟩),.int .i64 t,.int .i64 q,.int .i64 s,.int .i64 hd,.int .i64 p] 148)) G)
 clear h
 go_enter Tryz.func133,Tryz.ntmps133
 go_wp2_with fail
 refine wp_region_held_drew (S:=(fun w'=>w'.cell? ⟨w.heap.size,0,none⟩=some (.pointer (some ⟨b,0,none⟩))/\w'.cell? ⟨w.heap.size,1,none⟩=some (.int .i64 t)/\w'.cell? ⟨w.heap.size,2,none⟩=some (.int .i64 q)/\w'.cell? ⟨w.heap.size,3,none⟩=some (.int .i64 s)/\w'.cell? ⟨w.heap.size,4,none⟩=some (.int .i64 hd)/\w'.cell? ⟨w.heap.size,5,none⟩=some (.int .i64 p))) qr ?_ (fun hHeld=>?_)
 ·exact Mm8
 refine tkz 0 ?_
 refine tkz 1 ?_
 refine tkz 2 ?_
 refine tkz 3 ?_
 refine tkz 4 ?_
 refine tkz 5 ?_
 refine tkz 6 ?_
 refine tkz 7 ?_
 refine rdz 8 fun K hK=>?_
 go_simp
 refine(qAT _ _ _ _ _).mono ?_;rintro e w1 ⟨rfl,hb1⟩;have HA1:=qh (HA.o.drew.keep hb1);have HC1:=qh (HC.o.drw.keep hb1);have HS1:=qh ((HS.o.trans (Stay.of_below (Bdrew (B0 _)) _)).trans (Stay.of_below hb1 _));clear HA HC HS hb1
 refine qk ?_ (fun hHeld=>?_)
 ·exact MoD
 clear hK K
 refine rdz 9 fun K hK=>?_
 go_simp
 refine(vGetA hn _ HA1.o).mono ?_;rintro e w2 ⟨rfl,h1,h2⟩;have HA2:=qh (h1.less fun g x=>Or.inl x);have HC2:=qh (h2.held (Or.inr rfl) HC1.o);have HS2:=qh (HS1.o.trans (h2.less fun g x=>Or.inl x));clear HA1 HC1 HS1 h1 h2
 refine qk ?_ (fun hHeld=>?_)
 ·exact MoD
 clear hK K
 refine tkz 10 ?_
 refine dnz ?_
 go_wp2
 go_ret
 exact⟨rfl,HA2.o,HS2.o⟩

theorem qL6 (hn:n<2^40)(l:Nat)(hl:l<2^32)(h:(vOb base b n wh K).At w0 A G st w) :
  Calls Tryz.prog 137 #[.agg #[.pointer (some ⟨b,0,none⟩),.int .i64 t,.int .i64 q,.int .i64 s,.int .i64 hd,.int .i64 p],.int .u32 (l:Int)] w fun e w'=>e = .returned (.tuple #[])/\(vOb base b n wh K).At w0 A G (putS n st (pageI t q s p 2) l) w'/\Stay G w w':=by
 have HA:=qh (h.box (.cells #[.pointer (some ⟨b,0,none⟩),.int .i64 t,.int .i64 q,.int .i64 s,.int .i64 hd,.int .i64 p] 148))
 have HC:=qh (Held.new w 148 #[.pointer (some ⟨b,0,none⟩),.int .i64 t,.int .i64 q,.int .i64 s,.int .i64 hd,.int .i64 p])
 have HS:=qh (Stay.of_below (Bnew (B0 w) (.cells #[.pointer (some ⟨b,0,none⟩),.int .i64 t,.int .i64 q,.int .i64 s,.int .i64 hd,.int .i64 p] 148)) G)
 clear h
 go_enter Tryz.func137,Tryz.ntmps137
 go_wp2_with fail
 refine wp_region_held_drew (S:=(fun w'=>w'.cell? ⟨w.heap.size,0,none⟩=some (.pointer (some ⟨b,0,none⟩))/\w'.cell? ⟨w.heap.size,1,none⟩=some (.int .i64 t)/\w'.cell? ⟨w.heap.size,2,none⟩=some (.int .i64 q)/\w'.cell? ⟨w.heap.size,3,none⟩=some (.int .i64 s)/\w'.cell? ⟨w.heap.size,4,none⟩=some (.int .i64 hd)/\w'.cell? ⟨w.heap.size,5,none⟩=some (.int .i64 p))) qr ?_ (fun hHeld=>?_)
 ·exact Mm8
 refine tkz 0 ?_
 refine tkz 1 ?_
 refine tkz 2 ?_
 refine tkz 3 ?_
 refine tkz 4 ?_
 refine tkz 5 ?_
 refine tkz 6 ?_
 refine tkz 7 ?_
 refine tkz 9 ?_
 refine rdz 8 fun K hK=>?_
 go_simp
 refine(qAT _ _ _ _ _).mono ?_;rintro e w1 ⟨rfl,hb1⟩;have HA1:=qh (HA.o.drew.keep hb1);have HC1:=qh (HC.o.drw.keep hb1);have HS1:=qh ((HS.o.trans (Stay.of_below (Bdrew (B0 _)) _)).trans (Stay.of_below hb1 _));clear HA HC HS hb1
 refine qk ?_ (fun hHeld=>?_)
 ·exact MoD
 clear hK K
 refine rdz 10 fun K hK=>?_
 go_simp
 refine(vPutA hn _ l hl HA1.o).mono ?_;rintro e w2 ⟨rfl,h1,h2⟩;have HA2:=qh (h1.less fun g x=>Or.inl x);have HC2:=qh (h2.held (Or.inr rfl) HC1.o);have HS2:=qh (HS1.o.trans (h2.less fun g x=>Or.inl x));clear HA1 HC1 HS1 h1 h2
 refine qk ?_ (fun hHeld=>?_)
 ·exact MoD
 clear hK K
 refine dnz ?_
 go_wp2
 go_end0
 exact⟨rfl,HA2.o,HS2.o⟩

theorem qJu (hn:n<2^40)(h:(vOb base b n wh K).At w0 A G st w) :
  Calls Tryz.prog 134 #[.agg #[.pointer (some ⟨b,0,none⟩),.int .i64 t,.int .i64 q,.int .i64 s,.int .i64 hd,.int .i64 p]] w fun e w'=>e = .returned (.int .u32 ((getV n K st (pageI t q s p 3):Nat):Int))/\(vOb base b n wh K).At w0 A G (getS n K st (pageI t q s p 3)) w'/\Stay G w w':=by
 have HA:=qh (h.box (.cells #[.pointer (some ⟨b,0,none⟩),.int .i64 t,.int .i64 q,.int .i64 s,.int .i64 hd,.int .i64 p] 148))
 have HC:=qh (Held.new w 148 #[.pointer (some ⟨b,0,none⟩),.int .i64 t,.int .i64 q,.int .i64 s,.int .i64 hd,.int .i64 p])
 have HS:=qh (Stay.of_below (Bnew (B0 w) (.cells #[.pointer (some ⟨b,0,none⟩),.int .i64 t,.int .i64 q,.int .i64 s,.int .i64 hd,.int .i64 p] 148)) G)
 clear h
 go_enter Tryz.func134,Tryz.ntmps134
 go_wp2_with fail
 refine wp_region_held_drew (S:=(fun w'=>w'.cell? ⟨w.heap.size,0,none⟩=some (.pointer (some ⟨b,0,none⟩))/\w'.cell? ⟨w.heap.size,1,none⟩=some (.int .i64 t)/\w'.cell? ⟨w.heap.size,2,none⟩=some (.int .i64 q)/\w'.cell? ⟨w.heap.size,3,none⟩=some (.int .i64 s)/\w'.cell? ⟨w.heap.size,4,none⟩=some (.int .i64 hd)/\w'.cell? ⟨w.heap.size,5,none⟩=some (.int .i64 p))) qr ?_ (fun hHeld=>?_)
 ·exact Mm8
 refine tkz 0 ?_
 refine tkz 1 ?_
 refine tkz 2 ?_
 refine tkz 3 ?_
 refine tkz 4 ?_
 refine tkz 5 ?_
 refine tkz 6 ?_
 refine tkz 7 ?_
 refine rdz 8 fun K hK=>?_
 go_simp
 refine(qGM _ _ _ _ _).mono ?_;rintro e w1 ⟨rfl,hb1⟩;have HA1:=qh (HA.o.drew.keep hb1);have HC1:=qh (HC.o.drw.keep hb1);have HS1:=qh ((HS.o.trans (Stay.of_below (Bdrew (B0 _)) _)).trans (Stay.of_below hb1 _));clear HA HC HS hb1
 refine qk ?_ (fun hHeld=>?_)
 ·exact MoD
 clear hK K
 refine rdz 9 fun K hK=>?_
 go_simp
 refine(vGetA hn _ HA1.o).mono ?_;rintro e w2 ⟨rfl,h1,h2⟩;have HA2:=qh (h1.less fun g x=>Or.inl x);have HC2:=qh (h2.held (Or.inr rfl) HC1.o);have HS2:=qh (HS1.o.trans (h2.less fun g x=>Or.inl x));clear HA1 HC1 HS1 h1 h2
 refine qk ?_ (fun hHeld=>?_)
 ·exact MoD
 clear hK K
 refine tkz 10 ?_
 refine dnz ?_
 go_wp2
 go_ret
 exact⟨rfl,HA2.o,HS2.o⟩

theorem qKd (hn:n<2^40)(l:Nat)(hl:l<2^32)(h:(vOb base b n wh K).At w0 A G st w) :
  Calls Tryz.prog 138 #[.agg #[.pointer (some ⟨b,0,none⟩),.int .i64 t,.int .i64 q,.int .i64 s,.int .i64 hd,.int .i64 p],.int .u32 (l:Int)] w fun e w'=>e = .returned (.tuple #[])/\(vOb base b n wh K).At w0 A G (putS n st (pageI t q s p 3) l) w'/\Stay G w w':=by
 have HA:=qh (h.box (.cells #[.pointer (some ⟨b,0,none⟩),.int .i64 t,.int .i64 q,.int .i64 s,.int .i64 hd,.int .i64 p] 148))
 have HC:=qh (Held.new w 148 #[.pointer (some ⟨b,0,none⟩),.int .i64 t,.int .i64 q,.int .i64 s,.int .i64 hd,.int .i64 p])
 have HS:=qh (Stay.of_below (Bnew (B0 w) (.cells #[.pointer (some ⟨b,0,none⟩),.int .i64 t,.int .i64 q,.int .i64 s,.int .i64 hd,.int .i64 p] 148)) G)
 clear h
 go_enter Tryz.func138,Tryz.ntmps138
 go_wp2_with fail
 refine wp_region_held_drew (S:=(fun w'=>w'.cell? ⟨w.heap.size,0,none⟩=some (.pointer (some ⟨b,0,none⟩))/\w'.cell? ⟨w.heap.size,1,none⟩=some (.int .i64 t)/\w'.cell? ⟨w.heap.size,2,none⟩=some (.int .i64 q)/\w'.cell? ⟨w.heap.size,3,none⟩=some (.int .i64 s)/\w'.cell? ⟨w.heap.size,4,none⟩=some (.int .i64 hd)/\w'.cell? ⟨w.heap.size,5,none⟩=some (.int .i64 p))) qr ?_ (fun hHeld=>?_)
 ·exact Mm8
 refine tkz 0 ?_
 refine tkz 1 ?_
 refine tkz 2 ?_
 refine tkz 3 ?_
 refine tkz 4 ?_
 refine tkz 5 ?_
 refine tkz 6 ?_
 refine tkz 7 ?_
 refine tkz 9 ?_
 refine rdz 8 fun K hK=>?_
 go_simp
 refine(qGM _ _ _ _ _).mono ?_;rintro e w1 ⟨rfl,hb1⟩;have HA1:=qh (HA.o.drew.keep hb1);have HC1:=qh (HC.o.drw.keep hb1);have HS1:=qh ((HS.o.trans (Stay.of_below (Bdrew (B0 _)) _)).trans (Stay.of_below hb1 _));clear HA HC HS hb1
 refine qk ?_ (fun hHeld=>?_)
 ·exact MoD
 clear hK K
 refine rdz 10 fun K hK=>?_
 go_simp
 refine(vPutA hn _ l hl HA1.o).mono ?_;rintro e w2 ⟨rfl,h1,h2⟩;have HA2:=qh (h1.less fun g x=>Or.inl x);have HC2:=qh (h2.held (Or.inr rfl) HC1.o);have HS2:=qh (HS1.o.trans (h2.less fun g x=>Or.inl x));clear HA1 HC1 HS1 h1 h2
 refine qk ?_ (fun hHeld=>?_)
 ·exact MoD
 clear hK K
 refine dnz ?_
 go_wp2
 go_end0
 exact⟨rfl,HA2.o,HS2.o⟩

end
end
section
section
variable {base b n : Nat} {wh : Bool} {K : Nat -> Option Nat} {st : Vst} {w w0 : World} {A G : Nat -> Prop} {t q s hd : Int}

theorem qFA (hn:n<2^40)(p:Int)(hp:pgB q p=false)(h:(vOb base b n wh K).At w0 A G st w) :
  Calls Tryz.prog 142 #[.pointer (some ⟨b,0,none⟩),.agg #[.int .i64 t,.int .i64 q,.int .i64 s],.int .i64 hd,.int .i64 p] w fun e w'=>e = .returned (.tuple #[])/\(vOb base b n wh K).At w0 A G (st) w'/\Stay G w w':=by
 have W0:=qh (WK.two h (.cells #[.int .i64 t,.int .i64 q,.int .i64 s] 23) 148 #[.pointer (some ⟨b,0,none⟩),.int .i64 t,.int .i64 q,.int .i64 s,.int .i64 hd,.int .i64 p])
 obtain⟨x0,x1,x2,x3,x4,x5⟩:=W0.o.held.six'
 have HK:=qh hp
 clear h hp
 go_enter Tryz.func142,Tryz.ntmps142
 go_wp2_with fail
 refine(qLv b t q s hd p _).mono ?_;rintro e w1 ⟨rfl,hb⟩;rw[HK.o];have W1:=qh (W0.o.keep hb);clear hb W0
 go_wp2
 (try simp only[Exit.inBlock,Exit.then])
 refine bodyPost_ret (results_none rfl _ _ _) rfl ?_
 exact⟨rfl,W1.o.fin⟩

theorem qR3 (hn:n<2^40)(k:Nat)(hk:pgB q (k:Int)=true)(hk31:k<2^31)(h:(vOb base b n wh K).At w0 A G st w) :
  Calls Tryz.prog 142 #[.pointer (some ⟨b,0,none⟩),.agg #[.int .i64 t,.int .i64 q,.int .i64 s],.int .i64 hd,.int .i64 (k:Int)] w fun e w'=>e = .returned (.tuple #[])/\(vOb base b n wh K).At w0 A G (pushS n K t q s hd k st) w'/\Stay G w w':=by
 have W0:=qh (WK.two h (.cells #[.int .i64 t,.int .i64 q,.int .i64 s] 23) 148 #[.pointer (some ⟨b,0,none⟩),.int .i64 t,.int .i64 q,.int .i64 s,.int .i64 hd,.int .i64 (k:Int)])
 obtain⟨x0,x1,x2,x3,x4,x5⟩:=W0.o.held.six'
 have HK:=qh hk
 obtain⟨l,hl⟩:∃ l,getV n K st hd=l:=⟨_,rfl⟩
 have hl32:l<2^32:=by rw[<- hl];exact qHJ h hd
 have HL:=qh hl
 have HQ:qH (qBQ n K t q s hd k st=putS n (putS n (getS n K st hd) (pageI t q s (k:Int) 2) l) (pageI t q s (k:Int) 3) 0):=qh (by unfold qBQ;rw[hl])
 have HP:qH (l=0->pushS n K t q s hd k st=putS n (qBQ n K t q s hd k st) hd (k+1)):=qh (fun e=>by unfold pushS qXk;rw[if_pos (hl.trans e)])
 have HR:qH (l≠0->pushS n K t q s hd k st=putS n (putS n (qBQ n K t q s hd k st) (pageI t q s ((l:Int)-1) 3) (k+1)) hd (k+1)):=qh (fun e=>by unfold pushS qXk;rw[if_neg (by rw[hl];exact e),hl])
 clear hl
 clear h hk
 go_enter Tryz.func142,Tryz.ntmps142
 go_wp2_with fail
 refine(qLv b t q s hd k _).mono ?_;rintro e w1 ⟨rfl,hb⟩;have W1:=qh (W0.o.keep hb);clear hb W0;rw[HK.o]
 obtain⟨x0,x1,x2,x3,x4,x5⟩:=W1.o.held.six'
 go_wp2_with fail
 refine(qJs hn W1.o.at_).mono ?_;rintro e w2 ⟨rfl,h1,h2⟩;have W2:=qh (W1.o.call h1 h2);clear h1 h2 W1;rw[HL.o]
 obtain⟨x0,x1,x2,x3,x4,x5⟩:=W2.o.held.six'
 go_wp2_with fail
 refine(qL6 hn l hl32 W2.o.at_).mono ?_;rintro e w3 ⟨rfl,h1,h2⟩;have W3:=qh (W2.o.call h1 h2);clear h1 h2 W2
 obtain⟨x0,x1,x2,x3,x4,x5⟩:=W3.o.held.six'
 go_wp2_with fail
 refine(qKd hn 0 qo W3.o.at_).mono ?_;rintro e w4 ⟨rfl,h1,h2⟩;have W4:=qh (W3.o.call h1 h2);clear h1 h2 W3
 obtain⟨x0,x1,x2,x3,x4,x5⟩:=W4.o.held.six'
 rw[<- HQ.o] at W4
 clear HL HQ HK
 by_cases hz:l=0
 ·have HE:=qh (HP.o hz)
  subst hz
  clear HP HR
  go_wp2_with fail
  refine wp_region_held_drew (S:=(fun w'=>w'.cell? ⟨w.heap.size+1,0,none⟩=some (.pointer (some ⟨b,0,none⟩))/\w'.cell? ⟨w.heap.size+1,1,none⟩=some (.int .i64 t)/\w'.cell? ⟨w.heap.size+1,2,none⟩=some (.int .i64 q)/\w'.cell? ⟨w.heap.size+1,3,none⟩=some (.int .i64 s)/\w'.cell? ⟨w.heap.size+1,4,none⟩=some (.int .i64 hd)/\w'.cell? ⟨w.heap.size+1,5,none⟩=some (.int .i64 (k:Int)))) qr ?_ (fun hHeld=>?_)
  ·(try dsimp only)
   exact MQo
  refine Ro3 ?_
  refine rdz 3 fun K hK=>?_
  go_simp
  refine(qB5 b t q s hd k hk31 _).mono ?_;rintro e w5 ⟨rfl,hb⟩;have W5:=qh (W4.o.drew.keep hb);clear hb W4
  refine qk ?_ (fun hHeld=>?_)
  ·exact MQo
  clear hK K
  refine rdz 4 fun K hK=>?_
  go_simp
  refine(qEM hn (k+1) qo W5.o.at_).mono ?_;rintro e w6 ⟨rfl,h1,h2⟩;have W6:=qh (W5.o.call h1 h2);clear h1 h2 W5
  refine qk ?_ (fun hHeld=>?_)
  ·exact MQo
  clear hK K
  refine dnz ?_
  obtain⟨x0,x1,x2,x3,x4,x5⟩:=W6.o.held.six'
  go_wp2
  go_end0
  exact⟨rfl,by rw[HE.o];exact W6.o.fin⟩
 ·have HE:=qh (HR.o hz)
  have t1:((l:Int)==0)=false:=qs
  have t2:((l:Int) != 0)=true:=qs
  clear HP HR
  go_wp2_with fail
  refine wp_region_held_drew (S:=(fun w'=>w'.cell? ⟨w.heap.size+1,0,none⟩=some (.pointer (some ⟨b,0,none⟩))/\w'.cell? ⟨w.heap.size+1,1,none⟩=some (.int .i64 t)/\w'.cell? ⟨w.heap.size+1,2,none⟩=some (.int .i64 q)/\w'.cell? ⟨w.heap.size+1,3,none⟩=some (.int .i64 s)/\w'.cell? ⟨w.heap.size+1,4,none⟩=some (.int .i64 hd)/\w'.cell? ⟨w.heap.size+1,5,none⟩=some (.int .i64 (k:Int)))) qr ?_ (fun hHeld=>?_)
  ·(try dsimp only)
   exact MkS
  refine Ro3 ?_
  refine tkz 4 ?_
  refine rdz 3 fun K hK=>?_
  go_simp
  refine(qJc b t q s hd l hl32 _).mono ?_;rintro e w5 ⟨rfl,hb⟩;have W5:=qh (W4.o.drew.keep hb);clear hb W4
  refine qk ?_ (fun hHeld=>?_)
  ·exact MkS
  clear hK K
  refine rdz 5 fun K hK=>?_
  go_simp
  refine(qB5 b t q s hd k hk31 _).mono ?_;rintro e w6 ⟨rfl,hb⟩;have W6:=qh (W5.o.keep hb);clear hb W5
  refine qk ?_ (fun hHeld=>?_)
  ·exact MkS
  clear hK K
  refine rdz 6 fun K hK=>?_
  go_simp
  refine(qKd hn (k+1) qo W6.o.at_).mono ?_;rintro e w7 ⟨rfl,h1,h2⟩;have W7:=qh (W6.o.call h1 h2);clear h1 h2 W6
  refine qk ?_ (fun hHeld=>?_)
  ·exact MkS
  clear hK K
  refine dnz ?_
  obtain⟨x0,x1,x2,x3,x4,x5⟩:=W7.o.held.six'
  go_wp2_with fail
  refine wp_region_held_drew (S:=(fun w'=>w'.cell? ⟨w.heap.size+1,0,none⟩=some (.pointer (some ⟨b,0,none⟩))/\w'.cell? ⟨w.heap.size+1,1,none⟩=some (.int .i64 t)/\w'.cell? ⟨w.heap.size+1,2,none⟩=some (.int .i64 q)/\w'.cell? ⟨w.heap.size+1,3,none⟩=some (.int .i64 s)/\w'.cell? ⟨w.heap.size+1,4,none⟩=some (.int .i64 hd)/\w'.cell? ⟨w.heap.size+1,5,none⟩=some (.int .i64 (k:Int)))) qr ?_ (fun hHeld=>?_)
  ·(try dsimp only)
   exact MmZ
  refine Ro3 ?_
  refine rdz 3 fun K hK=>?_
  go_simp
  refine(qB5 b t q s hd k hk31 _).mono ?_;rintro e w8 ⟨rfl,hb⟩;have W8:=qh (W7.o.drew.keep hb);clear hb W7
  refine qk ?_ (fun hHeld=>?_)
  ·exact MmZ
  clear hK K
  refine rdz 4 fun K hK=>?_
  go_simp
  refine(qEM hn (k+1) qo W8.o.at_).mono ?_;rintro e w9 ⟨rfl,h1,h2⟩;have W9:=qh (W8.o.call h1 h2);clear h1 h2 W8
  refine qk ?_ (fun hHeld=>?_)
  ·exact MmZ
  clear hK K
  refine dnz ?_
  obtain⟨x0,x1,x2,x3,x4,x5⟩:=W9.o.held.six'
  go_wp2
  go_end0
  exact⟨rfl,by rw[HE.o];exact W9.o.fin⟩
theorem qXp (hn:n<2^40)(hq:q<=2^31)(p:Int)(h:(vOb base b n wh K).At w0 A G st w) :
  Calls Tryz.prog 142 #[.pointer (some ⟨b,0,none⟩),.agg #[.int .i64 t,.int .i64 q,.int .i64 s],.int .i64 hd,.int .i64 p] w fun e w'=>e = .returned (.tuple #[])/\(vOb base b n wh K).At w0 A G (pushI n K t q s hd p st) w'/\Stay G w w':=by
 cases hp:pgB q p with
 | false=>rw[(qEh hp).1];exact qFA hn p hp h
 | true =>
  have h1:=(qHC _ _).1 hp
  obtain⟨k,rfl⟩:=Int.eq_ofNat_of_zero_le h1.1
  rw[(qK2 hp).1]
  exact qR3 hn k hp qo h

theorem qUb (hn:n<2^40)(p:Int)(hp:pgB q p=false)(h:(vOb base b n wh K).At w0 A G st w) :
  Calls Tryz.prog 112 #[.pointer (some ⟨b,0,none⟩),.agg #[.int .i64 t,.int .i64 q,.int .i64 s],.int .i64 hd,.int .i64 p] w fun e w'=>e = .returned (.tuple #[])/\(vOb base b n wh K).At w0 A G (st) w'/\Stay G w w':=by
 have W0:=qh (WK.two h (.cells #[.int .i64 t,.int .i64 q,.int .i64 s] 23) 148 #[.pointer (some ⟨b,0,none⟩),.int .i64 t,.int .i64 q,.int .i64 s,.int .i64 hd,.int .i64 p])
 obtain⟨x0,x1,x2,x3,x4,x5⟩:=W0.o.held.six'
 have HK:=qh hp
 clear h hp
 go_enter Tryz.func112,Tryz.ntmps112
 go_wp2_with fail
 refine(qLv b t q s hd p _).mono ?_;rintro e w1 ⟨rfl,hb⟩;rw[HK.o];have W1:=qh (W0.o.keep hb);clear hb W0
 go_wp2
 (try simp only[Exit.inBlock,Exit.then])
 refine bodyPost_ret (results_none rfl _ _ _) rfl ?_
 exact⟨rfl,W1.o.fin⟩

theorem qJn (hn:n<2^40)(k:Nat)(hk:pgB q (k:Int)=true)(hk31:k<2^31)(h:(vOb base b n wh K).At w0 A G st w) :
  Calls Tryz.prog 112 #[.pointer (some ⟨b,0,none⟩),.agg #[.int .i64 t,.int .i64 q,.int .i64 s],.int .i64 hd,.int .i64 (k:Int)] w fun e w'=>e = .returned (.tuple #[])/\(vOb base b n wh K).At w0 A G (pullS n K t q s hd k st) w'/\Stay G w w':=by
 have W0:=qh (WK.two h (.cells #[.int .i64 t,.int .i64 q,.int .i64 s] 23) 148 #[.pointer (some ⟨b,0,none⟩),.int .i64 t,.int .i64 q,.int .i64 s,.int .i64 hd,.int .i64 (k:Int)])
 obtain⟨x0,x1,x2,x3,x4,x5⟩:=W0.o.held.six'
 have HK:=qh hk
 obtain⟨x,hx⟩:∃ x,pullN n K t q s k st=x:=⟨_,rfl⟩
 obtain⟨y,hy⟩:∃ y,pullB n K t q s k st=y:=⟨_,rfl⟩
 have hx32:x<2^32:=by rw[<- hx];exact qHJ h _
 have HX:qH (getV n K st (pageI t q s (k:Int) 2)=x):=qh hx
 have HY:qH (getV n K (getS n K st (pageI t q s (k:Int) 2)) (pageI t q s (k:Int) 3)=y):=qh hy
 have H0:qH (qQi n K t q s k st=getS n K (getS n K st (pageI t q s (k:Int) 2)) (pageI t q s (k:Int) 3)):=qh rfl
 have HA:qH (y=0->qRp n K t q s hd k st=putS n (qQi n K t q s k st) hd x):=qh (fun e=>by unfold qRp;rw[if_pos (hy.trans e),hx])
 have HB:qH (y≠0->qRp n K t q s hd k st=putS n (qQi n K t q s k st) (pageI t q s ((y:Int)-1) 2) x):=qh (fun e=>by unfold qRp;rw[if_neg (by rw[hy];exact e),hx,hy])
 have HC:qH (x=0->qEX n K t q s hd k st=qRp n K t q s hd k st):=qh (fun e=>by unfold qEX;rw[if_pos (hx.trans e)])
 have HD:qH (x≠0->qEX n K t q s hd k st=putS n (qRp n K t q s hd k st) (pageI t q s ((x:Int)-1) 3) y):=qh (fun e=>by unfold qEX;rw[if_neg (by rw[hx];exact e),hx,hy])
 have HE:qH (pullS n K t q s hd k st=putS n (putS n (qEX n K t q s hd k st) (pageI t q s (k:Int) 2) 0) (pageI t q s (k:Int) 3) 0):=qh rfl
 clear hx hy
 clear h hk
 go_enter Tryz.func112,Tryz.ntmps112
 go_wp2_with fail
 refine(qLv b t q s hd k _).mono ?_;rintro e w1 ⟨rfl,hb⟩;have W1:=qh (W0.o.keep hb);clear hb W0;rw[HK.o]
 obtain⟨x0,x1,x2,x3,x4,x5⟩:=W1.o.held.six'
 go_wp2_with fail
 refine wp_region_held_drew (S:=(fun w'=>w'.cell? ⟨w.heap.size+1,0,none⟩=some (.pointer (some ⟨b,0,none⟩))/\w'.cell? ⟨w.heap.size+1,1,none⟩=some (.int .i64 t)/\w'.cell? ⟨w.heap.size+1,2,none⟩=some (.int .i64 q)/\w'.cell? ⟨w.heap.size+1,3,none⟩=some (.int .i64 s)/\w'.cell? ⟨w.heap.size+1,4,none⟩=some (.int .i64 hd)/\w'.cell? ⟨w.heap.size+1,5,none⟩=some (.int .i64 (k:Int)))) qr ?_ (fun hHeld=>?_)
 ·(try dsimp only)
  exact MaT
 refine tkz 0 ?_
 refine tkz 2 ?_
 refine rdz 1 fun K hK=>?_
 go_simp
 refine(qKX hn W1.o.drew.at_).mono ?_;rintro e w2 ⟨rfl,h1,h2⟩;have W2:=qh (W1.o.drew.call h1 h2);have HZ:=W2;clear h1 h2 W1;rw[HX.o]
 refine qk ?_ (fun hHeld=>?_)
 ·exact MaT
 clear hK K
 refine rdz 3 fun K hK=>?_
 go_simp
 refine(qJu hn W2.o.at_).mono ?_;rintro e w3 ⟨rfl,h1,h2⟩;have W3:=qh (W2.o.call h1 h2);clear h1 h2 W2;have hy32:y<2^32:=by { rw[<- HY.o];exact qHJ HZ.o.at_ _ };clear HZ;rw[HY.o]
 refine qk ?_ (fun hHeld=>?_)
 ·exact MaT
 clear hK K
 refine tkz 4 ?_
 refine tkz 5 ?_
 refine dnz ?_
 obtain⟨x0,x1,x2,x3,x4,x5⟩:=W3.o.held.six'
 rw[<- H0.o] at W3
 clear HX HY H0 HK
 by_cases hyz:y=0
 ·have HM:=qh (HA.o hyz)
  subst hyz
  go_wp2_with fail
  refine(qEM hn x hx32 W3.o.at_).mono ?_;rintro e w4 ⟨rfl,h1,h2⟩;have W4:=qh (W3.o.call h1 h2);clear h1 h2 W3
  obtain⟨x0,x1,x2,x3,x4,x5⟩:=W4.o.held.six'
  rw[<- HM.o] at W4
  clear HA HB HM
  by_cases hxz:x=0
  ·have HN:=qh (HC.o hxz)
   subst hxz
   clear HC HD
   go_wp2_with fail
   refine(qL6 hn 0 qo W4.o.at_).mono ?_;rintro e w5 ⟨rfl,h1,h2⟩;have W5:=qh (W4.o.call h1 h2);clear h1 h2 W4
   obtain⟨x0,x1,x2,x3,x4,x5⟩:=W5.o.held.six'
   go_wp2_with fail
   refine(qKd hn 0 qo W5.o.at_).mono ?_;rintro e w6 ⟨rfl,h1,h2⟩;have W6:=qh (W5.o.call h1 h2);clear h1 h2 W5
   obtain⟨x0,x1,x2,x3,x4,x5⟩:=W6.o.held.six'
   go_wp2
   go_end0
   exact⟨rfl,by rw[HE.o,HN.o];exact W6.o.fin⟩
  ·have HN:=qh (HD.o hxz)
   have t3:((x:Int)==0)=false:=qs
   have t4:((x:Int) != 0)=true:=qs
   clear HC HD
   go_wp2_with fail
   refine(qJc b t q s hd x hx32 _).mono ?_;rintro e w5 ⟨rfl,hb⟩;have W5:=qh (W4.o.keep hb);clear hb W4
   obtain⟨x0,x1,x2,x3,x4,x5⟩:=W5.o.held.six'
   go_wp2_with fail
   refine(qKd hn 0 qo W5.o.at_).mono ?_;rintro e w6 ⟨rfl,h1,h2⟩;have W6:=qh (W5.o.call h1 h2);clear h1 h2 W5
   obtain⟨x0,x1,x2,x3,x4,x5⟩:=W6.o.held.six'
   go_wp2_with fail
   refine(qL6 hn 0 qo W6.o.at_).mono ?_;rintro e w7 ⟨rfl,h1,h2⟩;have W7:=qh (W6.o.call h1 h2);clear h1 h2 W6
   obtain⟨x0,x1,x2,x3,x4,x5⟩:=W7.o.held.six'
   go_wp2_with fail
   refine(qKd hn 0 qo W7.o.at_).mono ?_;rintro e w8 ⟨rfl,h1,h2⟩;have W8:=qh (W7.o.call h1 h2);clear h1 h2 W7
   obtain⟨x0,x1,x2,x3,x4,x5⟩:=W8.o.held.six'
   go_wp2
   go_end0
   exact⟨rfl,by rw[HE.o,HN.o];exact W8.o.fin⟩
 ·have HM:=qh (HB.o hyz)
  have t1:((y:Int)==0)=false:=qs
  have t2:((y:Int) != 0)=true:=qs
  go_wp2_with fail
  refine(qJc b t q s hd y hy32 _).mono ?_;rintro e w4 ⟨rfl,hb⟩;have W4:=qh (W3.o.keep hb);clear hb W3
  obtain⟨x0,x1,x2,x3,x4,x5⟩:=W4.o.held.six'
  go_wp2_with fail
  refine(qL6 hn x hx32 W4.o.at_).mono ?_;rintro e w5 ⟨rfl,h1,h2⟩;have W5:=qh (W4.o.call h1 h2);clear h1 h2 W4
  obtain⟨x0,x1,x2,x3,x4,x5⟩:=W5.o.held.six'
  rw[<- HM.o] at W5
  clear HA HB HM
  by_cases hxz:x=0
  ·have HN:=qh (HC.o hxz)
   subst hxz
   clear HC HD
   go_wp2_with fail
   refine(qL6 hn 0 qo W5.o.at_).mono ?_;rintro e w6 ⟨rfl,h1,h2⟩;have W6:=qh (W5.o.call h1 h2);clear h1 h2 W5
   obtain⟨x0,x1,x2,x3,x4,x5⟩:=W6.o.held.six'
   go_wp2_with fail
   refine(qKd hn 0 qo W6.o.at_).mono ?_;rintro e w7 ⟨rfl,h1,h2⟩;have W7:=qh (W6.o.call h1 h2);clear h1 h2 W6
   obtain⟨x0,x1,x2,x3,x4,x5⟩:=W7.o.held.six'
   go_wp2
   go_end0
   exact⟨rfl,by rw[HE.o,HN.o];exact W7.o.fin⟩
  ·have HN:=qh (HD.o hxz)
   have t3:((x:Int)==0)=false:=qs
   have t4:((x:Int) != 0)=true:=qs
   clear HC HD
   go_wp2_with fail
   refine(qJc b t q s hd x hx32 _).mono ?_;rintro e w6 ⟨rfl,hb⟩;have W6:=qh (W5.o.keep hb);clear hb W5
   obtain⟨x0,x1,x2,x3,x4,x5⟩:=W6.o.held.six'
   go_wp2_with fail
   refine(qKd hn y hy32 W6.o.at_).mono ?_;rintro e w7 ⟨rfl,h1,h2⟩;have W7:=qh (W6.o.call h1 h2);clear h1 h2 W6
   obtain⟨x0,x1,x2,x3,x4,x5⟩:=W7.o.held.six'
   go_wp2_with fail
   refine(qL6 hn 0 qo W7.o.at_).mono ?_;rintro e w8 ⟨rfl,h1,h2⟩;have W8:=qh (W7.o.call h1 h2);clear h1 h2 W7
   obtain⟨x0,x1,x2,x3,x4,x5⟩:=W8.o.held.six'
   go_wp2_with fail
   refine(qKd hn 0 qo W8.o.at_).mono ?_;rintro e w9 ⟨rfl,h1,h2⟩;have W9:=qh (W8.o.call h1 h2);clear h1 h2 W8
   obtain⟨x0,x1,x2,x3,x4,x5⟩:=W9.o.held.six'
   go_wp2
   go_end0
   exact⟨rfl,by rw[HE.o,HN.o];exact W9.o.fin⟩
theorem qEp (hn:n<2^40)(hq:q<=2^31)(p:Int)(h:(vOb base b n wh K).At w0 A G st w) :
  Calls Tryz.prog 112 #[.pointer (some ⟨b,0,none⟩),.agg #[.int .i64 t,.int .i64 q,.int .i64 s],.int .i64 hd,.int .i64 p] w fun e w'=>e = .returned (.tuple #[])/\(vOb base b n wh K).At w0 A G (pullI n K t q s hd p st) w'/\Stay G w w':=by
 cases hp:pgB q p with
 | false=>rw[(qEh hp).2];exact qUb hn p hp h
 | true =>
  have h1:=(qHC _ _).1 hp
  obtain⟨k,rfl⟩:=Int.eq_ofNat_of_zero_le h1.1
  rw[(qK2 hp).2]
  exact qJn hn k hp qo h

end
end
section
theorem qSW (k:Int)(w:World) :
  Calls Tryz.prog 97 #[.int .i64 k] w fun z w'=>z = .returned (.int .i64 (nthI 2 11 1 k))/\w=w':=by
 by_cases c0:k<0
 ·have HN:=qh (qJo (f:=2) (n:=11) (e:=1) (.inr (.inl c0)))
  exact MWM
 ·by_cases c1:11<=k
  ·have HN:=qh (qJo (f:=2) (n:=11) (e:=1) (.inr (.inr c1)))
   exact MWM
  ·have HN:=qh (show nthI 2 11 1 k=2+k by rw[qLq qo qo qo];omega)
   exact MWM

theorem qU8 (k:Int)(w:World) :
  Calls Tryz.prog 100 #[.int .i64 k] w fun z w'=>z = .returned (.int .i64 (nthI 13 9 1 k))/\w=w':=by
 by_cases c0:k<0
 ·have HN:=qh (qJo (f:=13) (n:=9) (e:=1) (.inr (.inl c0)))
  exact MYr
 ·by_cases c1:9<=k
  ·have HN:=qh (qJo (f:=13) (n:=9) (e:=1) (.inr (.inr c1)))
   exact MYr
  ·have HN:=qh (show nthI 13 9 1 k=13+k by rw[qLq qo qo qo];omega)
   exact MYr

theorem qSB (k:Int)(w:World) :
  Calls Tryz.prog 54 #[.int .i64 k] w fun z w'=>z = .returned (.int .i64 (nthI 22 8 1 k))/\w=w':=by
 by_cases c0:k<0
 ·have HN:=qh (qJo (f:=22) (n:=8) (e:=1) (.inr (.inl c0)))
  exact MP7
 ·by_cases c1:8<=k
  ·have HN:=qh (qJo (f:=22) (n:=8) (e:=1) (.inr (.inr c1)))
   exact MP7
  ·have HN:=qh (show nthI 22 8 1 k=22+k by rw[qLq qo qo qo];omega)
   exact MP7

theorem qIM (t p s:Int)(w:World) :
  Calls Tryz.prog 56 #[.agg #[.int .i64 t,.int .i64 p,.int .i64 s]] w fun z w'=>z = .returned (.int .i64 (lC t p s))/\Below w.heap.size w w':=by
 have hc:=Held.new w 23 #[.int .i64 t,.int .i64 p,.int .i64 s]
 cases hr:rightB t p s
 ·have HR:=qh hr
  have HN:=qh (qJj hr).hC
  exact Mfi
 ·have HR:=qh hr
  have HN:=qh (qVu hr).hC
  have hn:=(qQB t p s).1 hr
  have t0:1<=t:=qo
  have t1:t<=16:=qo
  have p0:4<=p:=qo
  have p1:p<=1024:=qo
  clear hn
  exact Mfi

theorem qO7 (t p s q b:Int)(b0:0<=b)(b1:b<6)(w:World) :
  Calls Tryz.prog 118 #[.agg #[.int .i64 t,.int .i64 p,.int .i64 s],.int .i64 q,.int .i64 b] w fun z w'=>z = .returned (.int .i64 (pageI t p s q b))/\Below w.heap.size w w':=by
 have hc:=Held.new w 23 #[.int .i64 t,.int .i64 p,.int .i64 s]
 cases hr:rightB t p s
 ·have HR:=qh hr
  have HN:=qh (show pageI t p s q b = -1 from qQL (by intro h;rw[h.1] at hr;cases hr))
  exact M1m
 ·have HR:=qh hr
  have hn:=(qQB t p s).1 hr
  have t0:1<=t:=qo
  have t1:t<=16:=qo
  have p0:4<=p:=qo
  have p1:p<=1024:=qo
  clear hn
  by_cases c0:q<0
  ·exact MeN
  ·skip
   by_cases c1:p<=q
   ·exact MeN
   ·skip
    have HN:=qh (show pageI t p s q b=30+4*t+6*q+b from qKF hr qo qo b0 b1)
    exact M1m

theorem qQ1 (t p s q:Int)(w:World) :
  Calls Tryz.prog 77 #[.agg #[.int .i64 t,.int .i64 p,.int .i64 s],.int .i64 q] w fun z w'=>z = .returned (.int .i64 (pageI t p s q 0))/\Below w.heap.size w w':=by
 go_enter Tryz.func77,Tryz.ntmps77
 go_wp2_with fail
 refine(qO7 t p s q 0 qo qo _).mono ?_
 rintro e w1 ⟨rfl,hb1⟩
 go_wp2
 go_ret
 exact⟨by first|rfl|trivial,Bgo (Bnew (B0 _) _) hb1⟩

theorem qGC (t p s q:Int)(w:World) :
  Calls Tryz.prog 79 #[.agg #[.int .i64 t,.int .i64 p,.int .i64 s],.int .i64 q] w fun z w'=>z = .returned (.int .i64 (pageI t p s q 1))/\Below w.heap.size w w':=by
 go_enter Tryz.func79,Tryz.ntmps79
 go_wp2_with fail
 refine(qO7 t p s q 1 qo qo _).mono ?_
 rintro e w1 ⟨rfl,hb1⟩
 go_wp2
 go_ret
 exact⟨by first|rfl|trivial,Bgo (Bnew (B0 _) _) hb1⟩

theorem qKI (t p s q:Int)(w:World) :
  Calls Tryz.prog 103 #[.agg #[.int .i64 t,.int .i64 p,.int .i64 s],.int .i64 q] w fun z w'=>z = .returned (.int .i64 (pageI t p s q 2))/\Below w.heap.size w w':=by
 go_enter Tryz.func103,Tryz.ntmps103
 go_wp2_with fail
 refine(qO7 t p s q 2 qo qo _).mono ?_
 rintro e w1 ⟨rfl,hb1⟩
 go_wp2
 go_ret
 exact⟨by first|rfl|trivial,Bgo (Bnew (B0 _) _) hb1⟩

theorem qJU (t p s q:Int)(w:World) :
  Calls Tryz.prog 104 #[.agg #[.int .i64 t,.int .i64 p,.int .i64 s],.int .i64 q] w fun z w'=>z = .returned (.int .i64 (pageI t p s q 3))/\Below w.heap.size w w':=by
 go_enter Tryz.func104,Tryz.ntmps104
 go_wp2_with fail
 refine(qO7 t p s q 3 qo qo _).mono ?_
 rintro e w1 ⟨rfl,hb1⟩
 go_wp2
 go_ret
 exact⟨by first|rfl|trivial,Bgo (Bnew (B0 _) _) hb1⟩

theorem qSX (t p s q:Int)(w:World) :
  Calls Tryz.prog 127 #[.agg #[.int .i64 t,.int .i64 p,.int .i64 s],.int .i64 q] w fun z w'=>z = .returned (.int .i64 (pageI t p s q 4))/\Below w.heap.size w w':=by
 go_enter Tryz.func127,Tryz.ntmps127
 go_wp2_with fail
 refine(qO7 t p s q 4 qo qo _).mono ?_
 rintro e w1 ⟨rfl,hb1⟩
 go_wp2
 go_ret
 exact⟨by first|rfl|trivial,Bgo (Bnew (B0 _) _) hb1⟩

theorem qLb (t p s q:Int)(w:World) :
  Calls Tryz.prog 128 #[.agg #[.int .i64 t,.int .i64 p,.int .i64 s],.int .i64 q] w fun z w'=>z = .returned (.int .i64 (pageI t p s q 5))/\Below w.heap.size w w':=by
 go_enter Tryz.func128,Tryz.ntmps128
 go_wp2_with fail
 refine(qO7 t p s q 5 qo qo _).mono ?_
 rintro e w1 ⟨rfl,hb1⟩
 go_wp2
 go_ret
 exact⟨by first|rfl|trivial,Bgo (Bnew (B0 _) _) hb1⟩
end
section
theorem qV4 {n:Int}(h:n<=1024):HM.logI n=ofI n:=by
 unfold ofI
 by_cases h1:n<1
 ·rw[if_pos (.inl h1),HM.logI_no n h1]
 ·rw[if_neg qo]
theorem qBy {n:Int}(h:1024<n):ofI n = -1:=by unfold ofI;rw[if_pos (.inr h)]
theorem qCd {n:Nat}{K:Nat->Option Nat}{t q s p nn:Int}{st:Vst}(h:¬ (pgB q p=true/\1<=nn/\nn<=q-p)):addS n K t q s p nn st=st:=by unfold addS;rw[if_neg h]
theorem qV2 {n:Nat}{K:Nat->Option Nat}{t q s:Int}{k m:Nat}{st:Vst}(h:pgB q (k:Int)=true/\1<=(m:Int)/\(m:Int)<=q-(k:Int)) :
  addS n K t q s (k:Int) (m:Int) st=pushI n K t q s (binH (m:Int)) (k:Int) (putS n (putS n st (pageI t q s (k:Int) 0) (infoV 1 (m:Int) 0)) (pageI t q s ((k:Int)+(m:Int)-1) 1) (k+1)):=by
 unfold addS
 rw[if_pos h,Int.toNat_natCast]
theorem qUX {v:Nat}{l c:Int}{ok:Bool}(h:infoG v=(1,l,c,ok)):0<=l/\l<=1024:=by
 cases hb:infoB (v%16:Nat) (v / 16%4096:Nat) (v / 65536:Nat)
 ·rw[qWq hb] at h
  injection h with h _
  omega
 ·rw[qKN hb] at h
  have h1:=qLf hb
  injection h with h2 h
  injection h with h3 _
  unfold infoP at h1
  omega

theorem qET (n:Int)(h0 : -9223372036854775808<=n)(h1:n<=9223372036854775807)(w:World) :
  Calls Tryz.prog 106 #[.int .i64 n] w fun e w'=>e = .returned (.int .i64 (ofI n))/\w=w':=by
 by_cases h:1024<n
 ·have t0:decide ((1024:Int)<n)=true:=decide_eq_true h
  have HO:=qh (qBy h)
  go_enter Tryz.func106,Tryz.ntmps106
  go_wp2
  go_ret
  exact⟨by rw[HO.o];rfl,rfl⟩
 ·have t0:decide ((1024:Int)<n)=false:=decide_eq_false h
  have HO:qH (HM.logI n=ofI n):=qh (qV4 qo)
  go_enter Tryz.func106,Tryz.ntmps106
  go_wp2_with fail
  refine(qLV n h0 h1 _).mono ?_
  rintro e w1 ⟨rfl,rfl⟩
  rw[HO.o]
  go_wp2
  go_ret
  exact⟨rfl,rfl⟩
theorem qQQ (t q s p:Int)(w:World) :
  Calls Tryz.prog 108 #[.agg #[.int .i64 t,.int .i64 q,.int .i64 s],.int .i64 p] w fun e w'=>e = .returned (.bool (pgB q p))/\Below w.heap.size w w':=by
 have hB:=Bnew (B0 w) (.cells #[.int .i64 t,.int .i64 q,.int .i64 s] 23)
 obtain⟨x0,x1,x2⟩:=(Held.new w 23 #[.int .i64 t,.int .i64 q,.int .i64 s]).three
 unfold pgB
 by_cases h0:0<=p
 ·have t0:decide ((0:Int)<=p)=true:=decide_eq_true h0
  obtain⟨c,t1⟩:∃ c,decide (p<q)=c:=⟨_,rfl⟩
  rw[t0,t1]
  cases c with
  | true =>
   go_enter Tryz.func108,Tryz.ntmps108
   go_wp2
   go_ret
   exact⟨rfl,hB⟩
  | false =>
   go_enter Tryz.func108,Tryz.ntmps108
   go_wp2
   go_ret
   exact⟨rfl,hB⟩
 ·have t0:decide ((0:Int)<=p)=false:=decide_eq_false h0
  rw[t0]
  go_enter Tryz.func108,Tryz.ntmps108
  go_wp2
  go_ret
  exact⟨rfl,hB⟩

theorem qBc (k l c nn:Int)(w:World) :
  Calls Tryz.prog 109 #[.agg #[.int .i64 k,.int .i64 l,.int .i64 c],.int .i64 nn] w fun e w'=>e = .returned (.bool (decide (k=1)&&decide (nn<=l)))/\Below w.heap.size w w':=by
 have hB:=Bnew (B0 w) (.cells #[.int .i64 k,.int .i64 l,.int .i64 c] 90)
 obtain⟨x0,x1,x2⟩:=(Held.new w 90 #[.int .i64 k,.int .i64 l,.int .i64 c]).three
 by_cases h0:k=1
 ·have t0:(k==1)=true:=by simpa using h0
  obtain⟨d,t1⟩:∃ d,decide (nn<=l)=d:=⟨_,rfl⟩
  rw[decide_eq_true h0,t1]
  clear h0
  cases d with
  | true =>
   go_enter Tryz.func109,Tryz.ntmps109
   go_wp2
   go_ret
   exact⟨rfl,hB⟩
  | false =>
   go_enter Tryz.func109,Tryz.ntmps109
   go_wp2
   go_ret
   exact⟨rfl,hB⟩
 ·have t0:(k==1)=false:=by simpa using h0
  rw[decide_eq_false h0]
  go_enter Tryz.func109,Tryz.ntmps109
  go_wp2
  go_ret
  exact⟨rfl,hB⟩

section
variable {base b n : Nat} {wh all : Bool} {K : Nat -> Option Nat} {st : Vst} {w w0 : World} {A G : Nat -> Prop} {t q s : Int}
theorem qXj (hn:n<2^40)(p k l c:Int)(ok:Bool)(hI:infoOf n K t q s p st=(k,l,c,ok))(h:(vOb base b n wh K).At w0 A G st w) :
  Calls Tryz.prog 110 #[.pointer (some ⟨b,0,none⟩),.agg #[.int .i64 t,.int .i64 q,.int .i64 s],.int .i64 p] w fun e w'=>e = .returned (.agg #[.int .i64 k,.int .i64 l,.int .i64 c])/\(vOb base b n wh K).At w0 A G (getS n K st (pageI t q s p 0)) w'/\Stay G w w':=by
 have W0:=qh (((WL.start h).new 23 #[.int .i64 t,.int .i64 q,.int .i64 s]).new 90 #[.int .i64 0,.int .i64 0,.int .i64 0])
 rw[World.size_alloc] at W0
 obtain⟨x0,x1,x2⟩:=W0.o.h1.three
 obtain⟨v,hv⟩:∃ v,getV n K st (pageI t q s p 0)=v:=⟨_,rfl⟩
 have hv32:v<2^32:=by rw[<- hv];exact qHJ h _
 have HI:qH (infoG v=(k,l,c,ok)):=qh (by rw[<- hv];exact hI)
 have HV:=qh hv
 clear h hI hv
 go_enter Tryz.func110,Tryz.ntmps110
 go_wp2_with fail
 refine(qSM t q s p _).mono ?_;rintro e w1 ⟨rfl,hb⟩;have W1:=qh (W0.o.keep hb);clear hb W0
 go_wp2_with fail
 refine(vGetA hn _ W1.o.at_).mono ?_;rintro e w2 ⟨rfl,h1,h2⟩;have W2:=qh (W1.o.call h1 h2);clear h1 h2 W1;rw[HV.o]
 go_wp2_with fail
 refine(qMJ v k l c ok hv32 HI.o _).mono ?_;rintro e w3 ⟨rfl,hb⟩;have W3:=qh (W2.o.keep hb);clear hb W2
 have W4:=qh (((((W3.o.alloc (.cells #[.int .i64 k,.int .i64 l,.int .i64 c] 90)).put 0 (.int .i64 k)).put 1 (.int .i64 l)).put 2 (.int .i64 c)))
 obtain⟨y0,y1,y2⟩:=(Held.new w3 90 #[.int .i64 k,.int .i64 l,.int .i64 c]).three
 have hfz:=(W3.o.alloc (.cells #[.int .i64 k,.int .i64 l,.int .i64 c] 90)).h0.thawed
 obtain⟨z0,z1,z2⟩:=(W3.o.alloc (.cells #[.int .i64 k,.int .i64 l,.int .i64 c] 90)).h0.three
 obtain⟨r0,r1,r2⟩:=W4.o.h0.three
 go_wp2
 refine bodyPost_ret (v := .agg #[.int .i64 k,.int .i64 l,.int .i64 c]) (by simp[results,Tryz.results110,go_sem,r0,r1,r2]) rfl ⟨rfl,?_⟩
 exact W4.o.fin
end
end
section
section
variable {base b n : Nat} {wh all : Bool} {K : Nat -> Option Nat} {st : Vst} {w w0 : World} {A G : Nat -> Prop} {t q s : Int}

theorem qYW (p nn:Int)(hp:pgB q p=false)(h:(vOb base b n wh K).At w0 A G st w) :
  Calls Tryz.prog 115 #[.pointer (some ⟨b,0,none⟩),.agg #[.int .i64 t,.int .i64 q,.int .i64 s],.int .i64 p,.int .i64 nn] w fun e w'=>e = .returned (.tuple #[])/\(vOb base b n wh K).At w0 A G (st) w'/\Stay G w w':=by
 have W0:=qh ((WL.start h).new 23 #[.int .i64 t,.int .i64 q,.int .i64 s])
 obtain⟨x0,x1,x2⟩:=W0.o.h0.three
 have HK:=qh hp
 clear hp
 clear h
 go_enter Tryz.func115,Tryz.ntmps115
 go_wp2_with fail
 refine(qQQ t q s p _).mono ?_;rintro e w1 ⟨rfl,hb⟩;have W1:=qh (W0.o.keep hb);clear hb W0;rw[HK.o]
 obtain⟨x0,x1,x2⟩:=W1.o.h0.three
 go_wp2
 (try simp only[Exit.inBlock,Exit.then])
 refine bodyPost_ret (results_none rfl _ _ _) rfl ?_
 exact⟨rfl,W1.o.fin⟩

theorem qGV (k:Nat)(nn:Int)(hq:q<=2147483648)(hk:pgB q (k:Int)=true)(h1:nn<1)(h:(vOb base b n wh K).At w0 A G st w) :
  Calls Tryz.prog 115 #[.pointer (some ⟨b,0,none⟩),.agg #[.int .i64 t,.int .i64 q,.int .i64 s],.int .i64 (k:Int),.int .i64 nn] w fun e w'=>e = .returned (.tuple #[])/\(vOb base b n wh K).At w0 A G (st) w'/\Stay G w w':=by
 have W0:=qh ((WL.start h).new 23 #[.int .i64 t,.int .i64 q,.int .i64 s])
 obtain⟨x0,x1,x2⟩:=W0.o.h0.three
 have hk2:=(qHC _ _).1 hk
 have hk31:k<2147483648:=qo
 have sq:IntKind.i64.wrap (q-(k:Int))=q-(k:Int):=qIv qo qo
 have HK:=qh hk
 clear hk
 have t0:decide (nn<(1:Int))=true:=qt
 clear h
 go_enter Tryz.func115,Tryz.ntmps115
 go_wp2_with fail
 refine(qQQ t q s (k:Int) _).mono ?_;rintro e w1 ⟨rfl,hb⟩;have W1:=qh (W0.o.keep hb);clear hb W0;rw[HK.o]
 obtain⟨x0,x1,x2⟩:=W1.o.h0.three
 go_wp2
 (try simp only[Exit.inBlock,Exit.then])
 refine bodyPost_ret (results_none rfl _ _ _) rfl ?_
 exact⟨rfl,W1.o.fin⟩

theorem qR4 (k:Nat)(nn:Int)(hq:q<=2147483648)(hk:pgB q (k:Int)=true)(h1:1<=nn)(h2:q-(k:Int)<nn)(h:(vOb base b n wh K).At w0 A G st w) :
  Calls Tryz.prog 115 #[.pointer (some ⟨b,0,none⟩),.agg #[.int .i64 t,.int .i64 q,.int .i64 s],.int .i64 (k:Int),.int .i64 nn] w fun e w'=>e = .returned (.tuple #[])/\(vOb base b n wh K).At w0 A G (st) w'/\Stay G w w':=by
 have W0:=qh ((WL.start h).new 23 #[.int .i64 t,.int .i64 q,.int .i64 s])
 obtain⟨x0,x1,x2⟩:=W0.o.h0.three
 have hk2:=(qHC _ _).1 hk
 have hk31:k<2147483648:=qo
 have sq:IntKind.i64.wrap (q-(k:Int))=q-(k:Int):=qIv qo qo
 have HK:=qh hk
 clear hk
 have t0:decide (nn<(1:Int))=false:=qf
 have t1:decide (q-(k:Int)<nn)=true:=qt
 clear h
 go_enter Tryz.func115,Tryz.ntmps115
 go_wp2_with fail
 refine(qQQ t q s (k:Int) _).mono ?_;rintro e w1 ⟨rfl,hb⟩;have W1:=qh (W0.o.keep hb);clear hb W0;rw[HK.o]
 obtain⟨x0,x1,x2⟩:=W1.o.h0.three
 go_wp2
 (try simp only[Exit.inBlock,Exit.then])
 refine bodyPost_ret (results_none rfl _ _ _) rfl ?_
 exact⟨rfl,W1.o.fin⟩

theorem qLJ (hn:n<2^40)(k m:Nat)(hq:q<=2147483648)(hk:pgB q (k:Int)=true)(h1:1<=(m:Int))(h2:(m:Int)<=q-(k:Int))(h:(vOb base b n wh K).At w0 A G st w) :
  Calls Tryz.prog 115 #[.pointer (some ⟨b,0,none⟩),.agg #[.int .i64 t,.int .i64 q,.int .i64 s],.int .i64 (k:Int),.int .i64 (m:Int)] w fun e w'=>e = .returned (.tuple #[])/\(vOb base b n wh K).At w0 A G (addS n K t q s (k:Int) (m:Int) st) w'/\Stay G w w':=by
 have W0:=qh ((WL.start h).new 23 #[.int .i64 t,.int .i64 q,.int .i64 s])
 obtain⟨x0,x1,x2⟩:=W0.o.h0.three
 have t0:decide ((m:Int)<(1:Int))=false:=qf
 have t1:decide (q-(k:Int)<(m:Int))=false:=qf
 have hm31:m<=2147483648:=qo
 have sk:IntKind.u32.wrap ((k:Int)+1)=((k+1:Nat):Int):=by have:=qTt (k+1) qo;simpa using this
 have HIV:=qh (qGm 1 (m:Int) 0)
 have HE:qH (addS n K t q s (k:Int) (m:Int) st=pushI n K t q s (nthI 2 11 1 (ofI (m:Int))) (k:Int) (putS n (putS n st (pageI t q s (k:Int) 0) (infoV 1 (m:Int) 0)) (pageI t q s ((k:Int)+(m:Int)-1) 1) (k+1))):=qh (qV2 ⟨hk,h1,h2⟩)
 have hk2:=(qHC _ _).1 hk
 have hk31:k<2147483648:=qo
 have sq:IntKind.i64.wrap (q-(k:Int))=q-(k:Int):=qIv qo qo
 have HK:=qh hk
 clear hk
 clear h
 go_enter Tryz.func115,Tryz.ntmps115
 go_wp2_with fail
 refine(qQQ t q s (k:Int) _).mono ?_;rintro e w1 ⟨rfl,hb⟩;have W1:=qh (W0.o.keep hb);clear hb W0;rw[HK.o]
 obtain⟨x0,x1,x2⟩:=W1.o.h0.three
 go_wp2_with fail
 refine(qA4 1 (m:Int) 0 _).mono ?_;rintro e w2 ⟨rfl,hb⟩;have W2:=qh (W1.o.keep hb);clear hb W1
 obtain⟨x0,x1,x2⟩:=W2.o.h0.three
 go_wp2_with fail
 refine(qSM t q s (k:Int) _).mono ?_;rintro e w3 ⟨rfl,hb⟩;have W3:=qh (W2.o.keep hb);clear hb W2
 obtain⟨x0,x1,x2⟩:=W3.o.h0.three
 go_wp2_with fail
 refine(vPutA hn _ _ HIV.o W3.o.at_).mono ?_;rintro e w4 ⟨rfl,h1,h2⟩;have W4:=qh (W3.o.call h1 h2);clear h1 h2 W3
 obtain⟨x0,x1,x2⟩:=W4.o.h0.three
 go_wp2_with fail
 refine(qVL t q s ((k:Int)+(m:Int)-1) _).mono ?_;rintro e w5 ⟨rfl,hb⟩;have W5:=qh (W4.o.keep hb);clear hb W4
 obtain⟨x0,x1,x2⟩:=W5.o.h0.three
 go_wp2_with fail
 refine(vPutA hn _ (k+1) qo W5.o.at_).mono ?_;rintro e w6 ⟨rfl,h1,h2⟩;have W6:=qh (W5.o.call h1 h2);clear h1 h2 W5
 obtain⟨x0,x1,x2⟩:=W6.o.h0.three
 go_wp2_with fail
 refine wp_region_held_drew (S:=(fun w'=>w'.cell? ⟨w.heap.size,0,none⟩=some (.int .i64 t)/\w'.cell? ⟨w.heap.size,1,none⟩=some (.int .i64 q)/\w'.cell? ⟨w.heap.size,2,none⟩=some (.int .i64 s))) qr ?_ (fun hHeld=>?_)
 ·(try dsimp only)
  exact MsI
 refine tkz 0 ?_
 refine tkz 1 ?_
 refine tkz 2 ?_
 refine tkz 5 ?_
 refine rdz 3 fun K hK=>?_
 go_simp
 refine(qET (m:Int) qo qo _).mono ?_;rintro e w9 ⟨rfl,rfl⟩
 refine qk ?_ (fun hHeld=>?_)
 ·exact MsI
 clear hK K
 refine rdz 4 fun K hK=>?_
 go_simp
 refine(qB1 (ofI (m:Int)) _).mono ?_;rintro e w9 ⟨rfl,rfl⟩
 refine qk ?_ (fun hHeld=>?_)
 ·exact MsI
 clear hK K
 refine rdz 6 fun K hK=>?_
 go_simp
 refine(qXp hn qo (k:Int) W6.o.drew.at_).mono ?_;rintro e w7 ⟨rfl,h1,h2⟩;have W7:=qh (W6.o.drew.call h1 h2);clear h1 h2 W6
 refine qk ?_ (fun hHeld=>?_)
 ·exact MsI
 clear hK K
 refine dnz ?_
 obtain⟨x0,x1,x2⟩:=W7.o.h0.three
 go_wp2
 go_end0
 exact⟨rfl,by rw[HE.o];exact W7.o.fin⟩

theorem qWG (hn:n<2^40)(hq:q<=2147483648)(p nn:Int)(h:(vOb base b n wh K).At w0 A G st w) :
  Calls Tryz.prog 115 #[.pointer (some ⟨b,0,none⟩),.agg #[.int .i64 t,.int .i64 q,.int .i64 s],.int .i64 p,.int .i64 nn] w fun e w'=>e = .returned (.tuple #[])/\(vOb base b n wh K).At w0 A G (addS n K t q s p nn st) w'/\Stay G w w':=by
 cases hp:pgB q p with
 | false=>rw[qCd (by rw[hp];simp)];exact qYW p nn hp h
 | true =>
  have h1:=(qHC _ _).1 hp
  obtain⟨k,rfl⟩:=Int.eq_ofNat_of_zero_le h1.1
  by_cases h2:nn<1
  ·rw[qCd qo];exact qGV k nn hq hp h2 h
  ·by_cases h3:q-(k:Int)<nn
   ·rw[qCd qo];exact qR4 k nn hq hp qo h3 h
   ·obtain⟨m,rfl⟩:=Int.eq_ofNat_of_zero_le (show 0<=nn by omega)
    exact qLJ hn k m hq hp qo qo h

theorem qKv (p:Int)(hp:pgB q p=false)(h:(vOb base b n wh K).At w0 A G st w) :
  Calls Tryz.prog 69 #[.pointer (some ⟨b,0,none⟩),.agg #[.int .i64 t,.int .i64 q,.int .i64 s],.int .i64 p] w fun e w'=>e = .returned (.int .i64 0)/\(vOb base b n wh K).At w0 A G (st) w'/\Stay G w w':=by
 have W0:=qh ((WL.start h).new 23 #[.int .i64 t,.int .i64 q,.int .i64 s])
 obtain⟨x0,x1,x2⟩:=W0.o.h0.three
 have HK:=qh hp
 clear hp
 clear h
 go_enter Tryz.func69,Tryz.ntmps69
 go_wp2_with fail
 refine(qQQ t q s p _).mono ?_;rintro e w1 ⟨rfl,hb⟩;have W1:=qh (W0.o.keep hb);clear hb W0;rw[HK.o]
 obtain⟨x0,x1,x2⟩:=W1.o.h0.three
 go_wp2
 go_ret
 exact⟨rfl,W1.o.fin⟩

theorem qTu (hn:n<2^40)(k:Nat)(hq:q<=2147483648)(hk:pgB q (k:Int)=true)(kk l c:Int)(ok:Bool)(hI:infoOf n K t q s (k:Int) st=(kk,l,c,ok))(h1:kk≠1)(h:(vOb base b n wh K).At w0 A G st w) :
  Calls Tryz.prog 69 #[.pointer (some ⟨b,0,none⟩),.agg #[.int .i64 t,.int .i64 q,.int .i64 s],.int .i64 (k:Int)] w fun e w'=>e = .returned (.int .i64 0)/\(vOb base b n wh K).At w0 A G (getS n K st (pageI t q s (k:Int) 0)) w'/\Stay G w w':=by
 have W0:=qh ((WL.start h).new 23 #[.int .i64 t,.int .i64 q,.int .i64 s])
 obtain⟨x0,x1,x2⟩:=W0.o.h0.three
 have hk2:=(qHC _ _).1 hk
 have hk31:k<2147483648:=qo
 have sq:IntKind.i64.wrap (q-(k:Int))=q-(k:Int):=qIv qo qo
 have HK:=qh hk
 clear hk
 have t0:(kk==1)=false:=by simpa using h1
 have t1:(kk != 1)=true:=by simpa using h1
 have HI:=qh hI
 clear hI
 clear h
 go_enter Tryz.func69,Tryz.ntmps69
 go_wp2_with fail
 refine(qQQ t q s (k:Int) _).mono ?_;rintro e w1 ⟨rfl,hb⟩;have W1:=qh (W0.o.keep hb);clear hb W0;rw[HK.o]
 obtain⟨x0,x1,x2⟩:=W1.o.h0.three
 go_wp2_with fail
 refine(qXj hn (k:Int) kk l c ok HI.o W1.o.at_).mono ?_;rintro e w2 ⟨rfl,h1,h2⟩;have W2:=qh (W1.o.call h1 h2);clear h1 h2 W1
 replace W2:=qh (W2.o.new 90 #[.int .i64 kk,.int .i64 l,.int .i64 c])
 obtain⟨x0,x1,x2⟩:=W2.o.h1.three
 obtain⟨y0,y1,y2⟩:=W2.o.h0.three
 go_wp2
 go_ret
 exact⟨rfl,W2.o.fin⟩

theorem qKa (hn:n<2^40)(k:Nat)(hq:q<=2147483648)(hk:pgB q (k:Int)=true)(kk l c:Int)(ok:Bool)(hI:infoOf n K t q s (k:Int) st=(kk,l,c,ok))(h1:kk=1)(hl0:0<=l)(hl1:l<=1024)(h:(vOb base b n wh K).At w0 A G st w) :
  Calls Tryz.prog 69 #[.pointer (some ⟨b,0,none⟩),.agg #[.int .i64 t,.int .i64 q,.int .i64 s],.int .i64 (k:Int)] w fun e w'=>e = .returned (.int .i64 l)/\(vOb base b n wh K).At w0 A G (pullI n K t q s (nthI 2 11 1 (ofI l)) (k:Int) (getS n K st (pageI t q s (k:Int) 0))) w'/\Stay G w w':=by
 have W0:=qh ((WL.start h).new 23 #[.int .i64 t,.int .i64 q,.int .i64 s])
 obtain⟨x0,x1,x2⟩:=W0.o.h0.three
 have hk2:=(qHC _ _).1 hk
 have hk31:k<2147483648:=qo
 have sq:IntKind.i64.wrap (q-(k:Int))=q-(k:Int):=qIv qo qo
 have HK:=qh hk
 clear hk
 subst h1
 have HI:=qh hI
 clear hI
 clear h
 go_enter Tryz.func69,Tryz.ntmps69
 go_wp2_with fail
 refine(qQQ t q s (k:Int) _).mono ?_;rintro e w1 ⟨rfl,hb⟩;have W1:=qh (W0.o.keep hb);clear hb W0;rw[HK.o]
 obtain⟨x0,x1,x2⟩:=W1.o.h0.three
 go_wp2_with fail
 refine(qXj hn (k:Int) 1 l c ok HI.o W1.o.at_).mono ?_;rintro e w2 ⟨rfl,h1,h2⟩;have W2:=qh (W1.o.call h1 h2);clear h1 h2 W1
 generalize hNI:w2.heap.size=NI at *
 replace W2:=qh (W2.o.new 90 #[.int .i64 1,.int .i64 l,.int .i64 c])
 rw[hNI] at W2
 obtain⟨x0,x1,x2⟩:=W2.o.h1.three
 obtain⟨y0,y1,y2⟩:=W2.o.h0.three
 go_wp2_with fail
 refine wp_region_held_drew (S:=(fun w'=>w'.cell? ⟨w.heap.size,0,none⟩=some (.int .i64 t)/\w'.cell? ⟨w.heap.size,1,none⟩=some (.int .i64 q)/\w'.cell? ⟨w.heap.size,2,none⟩=some (.int .i64 s)/\w'.cell? ⟨NI,1,none⟩=some (.int .i64 l))) qr ?_ (fun hHeld=>?_)
 ·(try dsimp only)
  exact M68
 refine tkz 0 ?_
 refine tkz 1 ?_
 refine tkz 2 ?_
 refine tkz 3 ?_
 refine tkz 6 ?_
 refine rdz 4 fun K hK=>?_
 go_simp
 refine(qET l qo qo _).mono ?_;rintro e w9 ⟨rfl,rfl⟩
 refine qk ?_ (fun hHeld=>?_)
 ·exact M68
 clear hK K
 refine rdz 5 fun K hK=>?_
 go_simp
 refine(qB1 (ofI l) _).mono ?_;rintro e w9 ⟨rfl,rfl⟩
 refine qk ?_ (fun hHeld=>?_)
 ·exact M68
 clear hK K
 refine rdz 7 fun K hK=>?_
 go_simp
 refine(qEp hn qo (k:Int) W2.o.drew.at_).mono ?_;rintro e w3 ⟨rfl,h1,h2⟩;have W3:=qh (W2.o.drew.call h1 h2);clear h1 h2 W2
 refine qk ?_ (fun hHeld=>?_)
 ·exact M68
 clear hK K
 refine dnz ?_
 obtain⟨x0,x1,x2⟩:=W3.o.h1.three
 obtain⟨y0,y1,y2⟩:=W3.o.h0.three
 go_wp2
 go_ret
 exact⟨rfl,W3.o.fin⟩

theorem qAQ (hn:n<2^40)(hq:q<=2147483648)(p:Int)(h:(vOb base b n wh K).At w0 A G st w) :
  Calls Tryz.prog 69 #[.pointer (some ⟨b,0,none⟩),.agg #[.int .i64 t,.int .i64 q,.int .i64 s],.int .i64 p] w fun e w'=>e = .returned (.int .i64 (dropV n K t q s p st))/\(vOb base b n wh K).At w0 A G (dropS n K t q s p st) w'/\Stay G w w':=by
 unfold dropS dropV
 cases hp:pgB q p with
 | false=>exact qKv p hp h
 | true =>
  have h1:=(qHC _ _).1 hp
  obtain⟨k,rfl⟩:=Int.eq_ofNat_of_zero_le h1.1
  obtain⟨⟨kk,l,c,ok⟩,hI⟩:∃ x,infoOf n K t q s (k:Int) st=x:=⟨_,rfl⟩
  rw[hI]
  simp only[if_true]
  by_cases h2:kk=1
  ·rw[if_pos h2,if_pos h2]
   have h3:0<=l/\l<=1024:=by
    unfold infoOf at hI
    rw[h2] at hI
    exact qUX hI
   exact qKa hn k hq hp kk l c ok hI h2 h3.1 h3.2 h
  ·rw[if_neg h2,if_neg h2]
   exact qTu hn k hq hp kk l c ok hI h2 h
end
end
end Go.Proofs.YtgifnhcknodekaaGreat
