/-
  The document's State. Written by audit/gen_state.py.
-/
import Derived.Test.YtgifnhcknodekaaGreatC14
import Derived.Test.YtgifnhcknodekaaGreatC13
import Derived.Test.YtgifnhcknodekaaGreatC09
namespace Go.Proofs.YtgifnhcknodekaaGreat
theorem MiY {P:Prop}(h:P:=by
 refine Rxn ?_
 refine tkz 7 ?_
 refine RYy ?_
 refine dnz ?_
 go_wp2_with fail
 go_ret
 exact⟨by rw[HBF.o];rfl,Bdraw HBW.o (d+1)⟩):P:=h
theorem MfI {P:Prop}(h:P:=by
 go_enter Tryz.func25,Tryz.ntmps25
 go_wp2_with fail
 go_ret
 exact⟨by rw[HBF.o];rfl,HBW.o⟩):P:=h
theorem MLK {P:Prop}(h:P:=by
 (try dsimp only)
 first|exact⟨p0,p1,q0,q1,x0,y0⟩|exact hHeld):P:=h
end Go.Proofs.YtgifnhcknodekaaGreat
set_option linter.unusedVariables false
set_option linter.unusedSimpArgs false
set_option maxRecDepth 100000
set_option maxHeartbeats 25600000
namespace Go.Proofs.YtgifnhcknodekaaGreat
open Go.ChangeShapes Go.WideShapes Go.ChangeAt Go.RowKit Go.Shelf
section
def stF (H:AuH) (u:Value) (k:Nat) (i:Nat):Value:=if i=0 then u else if i<=k then .int .i64 (H.V (21+i):Nat) else .int .i64 0
theorem qJ4 {H:AuH}{n c:Nat}(HV:HeapV H n c)(ad:Addr)(m:Nat)(w:World)(hv:IsVals w ad n H.V)(hC:XCheckIs w H.t H.p H.s (some ad) n c m true) :
  Calls Tryz.prog 22 #[.agg #[.int .i64 (H.t:Int),.int .i64 (H.p:Int),.int .i64 (H.s:Int)],.slice (some ad) n c] w fun e w'=>∃ u,e = .returned (.tuple #[.agg #[u,.int .i64 (H.V 22:Nat),.int .i64 (H.V 23:Nat),.int .i64 (H.V 24:Nat),.int .i64 (H.V 25:Nat),.int .i64 (H.V 26:Nat),.int .i64 (H.V 27:Nat),.int .i64 (H.V 28:Nat),.int .i64 (H.V 29:Nat)],.bool true])/\w'.ownsRow w.heap.size 59 2 u (blocksOf H.parts).length (bkVs (blocksOf H.parts))/\Below w.heap.size w w':=by
 have HVL:=qh hv
 have HXK0:=hC
 have HX:=qh ((Held.new w 23 #[.int .i64 (H.t:Int),.int .i64 (H.p:Int),.int .i64 (H.s:Int)]).alloc (.cells #[.slice none 0 0,.int .i64 0,.int .i64 0,.int .i64 0,.int .i64 0,.int .i64 0,.int .i64 0,.int .i64 0,.int .i64 0] 51))
 obtain⟨c0,c1,c2⟩:=HX.o.three
 have HS:=qh (Held.new2 w (.cells #[.int .i64 (H.t:Int),.int .i64 (H.p:Int),.int .i64 (H.s:Int)] 23) 51 #[.slice none 0 0,.int .i64 0,.int .i64 0,.int .i64 0,.int .i64 0,.int .i64 0,.int .i64 0,.int .i64 0,.int .i64 0])
 have HBW:=qh (Bnew (Bnew (B0 w) (.cells #[.int .i64 (H.t:Int),.int .i64 (H.p:Int),.int .i64 (H.s:Int)] 23)) (.cells #[.slice none 0 0,.int .i64 0,.int .i64 0,.int .i64 0,.int .i64 0,.int .i64 0,.int .i64 0,.int .i64 0,.int .i64 0] 51))
 have HSO:=qh (qHm (H.t:Int) (H.p:Int) (H.s:Int) (some ad) n c m true _ (hC.grown HBW.o))
 have HXK:=qh hC
 have hn:=HV.nums
 have hcx:c<=9223372036854775807:=hn.2.2.2.2.2.2.2.2
 have hni:n<=6238:=hn.2.2.2.2.2.2.1
 have hnc:=HV.cap
 have hn30:30<=n:=by have:=HV.len;omega
 have hbl:ad.block<w.heap.size:=hv.1
 obtain⟨l,hl⟩:∃ l,blocksOf H.parts=l:=⟨_,rfl⟩
 have HLB:=qh hl
 obtain⟨nb,hnb⟩:∃ nb,l.length=nb:=⟨_,rfl⟩
 have HNB:=qh hnb
 clear hC hv hl hnb HXK0 hn
 go_enter Tryz.func22,Tryz.ntmps22
 go_wp2_with (first
  | (go_at_call 7;refine HSO.o.mono ?_;rintro e w2 ⟨rfl,hb2⟩;have HB2:=qh (Bgo HBW.o hb2);have HS2:=qh (HS.o.keep hb2);have HX2:=qh (HX.o.keep hb2);clear hb2 c0 c1 c2;obtain⟨c0,c1,c2⟩:=HX2.o.three)
  | (go_at_call 53;refine(qIn HV ad m _ (HVL.o.below HB2.o) (HXK.o.grown HB2.o)).mono ?_;rintro e w3 ⟨u,rfl,hown3,hb3⟩;rw[HLB.o,HNB.o] at hown3;obtain⟨Ab,cb,rfl⟩:=qKK hown3;have HG6:qH (w.heap.size+1<w3.heap.size):=qh (by have h1:=hb3.size;have h2:=HS2.o.lt;omega);have HO3:=qh (hown3.alloc (.cells #[.slice Ab nb cb,.int .i64 0,.int .i64 0,.int .i64 0,.int .i64 0,.int .i64 0,.int .i64 0,.int .i64 0,.int .i64 0] 51));have HB3:=qh (Bnew (Bgo HB2.o hb3) (.cells #[.slice Ab nb cb,.int .i64 0,.int .i64 0,.int .i64 0,.int .i64 0,.int .i64 0,.int .i64 0,.int .i64 0,.int .i64 0] 51));have HS3:=qh ((HS2.o.keep hb3).alloc (.cells #[.slice Ab nb cb,.int .i64 0,.int .i64 0,.int .i64 0,.int .i64 0,.int .i64 0,.int .i64 0,.int .i64 0,.int .i64 0] 51));have HN3:=qh (Held.new w3 51 #[.slice Ab nb cb,.int .i64 0,.int .i64 0,.int .i64 0,.int .i64 0,.int .i64 0,.int .i64 0,.int .i64 0,.int .i64 0]);have HOL:qH (∀ j,(Value.slice Ab nb cb).ownBlock=some j->w2.heap.size<=j/\j<w3.heap.size):=qh (fun j hj=>hown3.lt j hj);clear hown3 hb3 c0 c1 c2)
  | fail)
 generalize hg6:w3.heap.size=g6 at *
 generalize hw4:w3.alloc (.cells #[.slice Ab nb cb,.int .i64 0,.int .i64 0,.int .i64 0,.int .i64 0,.int .i64 0,.int .i64 0,.int .i64 0,.int .i64 0] 51)=W4 at *
 have HR0:qH (RowF W4 g6 51 9 9 (stF H (.slice Ab nb cb) 0)):=qh ⟨_,HN3.o,by simp,qo,by unfold maxLen;omega,fun i hi=>by
  rcases(by omega:i=0\/i=1\/i=2\/i=3\/i=4\/i=5\/i=6\/i=7\/i=8) with rfl|rfl|rfl|rfl|rfl|rfl|rfl|rfl|rfl <;> rfl⟩
 have hgw:=HG6.o
 clear hg6 hw4
 go_loopw [7] (fun u7 wr=>∃ k:Nat,k<=8/\u7 = .int .i64 (k:Int)/\qH (Turns (fun i=>i=g6) W4 wr)/\qH (RowF wr g6 51 9 9 (stF H (.slice Ab nb cb) k))) (fun u7 _=>8-(intOf u7).toNat)
 case atStart=>exact⟨0,qo,rfl,qh (T0 _ _),HR0⟩
 case round =>
  clear HR0
  obtain⟨k,hk,rfl,HT0,HR⟩:=hrel
  have HB:=qh (HT0.o.below HB3.o qo)
  by_cases hlt:k<8
  ·have t0:decide ((k:Int)<8)=true:=qt
   have t8:(k:Int)<8:=qo
   have HRT:qH (nthI 22 8 1 (k:Int)=((22+k:Nat):Int)):=qh (by rw[qLq qo qo qo];push_cast;omega)
   have hin:22+k<n:=qo
   have hvk:=(HVL.o.below HB.o).2 (22+k) hin
   have hv32:=HV.lt (22+k) hin
   have hrc:=HR.o.cell (show 1+k<9 by omega)
   have hrf:=HR.o.thawed (1+k)
   have HUP:qH (∀ i,i<9->updF (stF H (.slice Ab nb cb) k) (1+k) (.int .i64 (H.V (22+k):Nat)) i=stF H (.slice Ab nb cb) (k+1) i):=qh (fun i hi=>by
    unfold updF stF
    by_cases e:i=1+k
    ·subst e;rw[if_pos rfl,if_neg qo,if_pos qo,show 21+(1+k)=22+k by omega]
    ·rw[if_neg e]
     by_cases e0:i=0
     ·rw[if_pos e0,if_pos e0]
     ·rw[if_neg e0,if_neg e0]
      by_cases e2:i<=k
      ·rw[if_pos e2,if_pos qo]
      ·rw[if_neg e2,if_neg qo])
   have hr0:stF H (.slice Ab nb cb) k (1+k) = .int .i64 0:=by unfold stF;rw[if_neg qo,if_neg qo]
   rw[hr0] at hrc
   obtain⟨v,hvv⟩:∃ v,H.V (22+k)=v:=⟨_,rfl⟩
   obtain⟨ix,hHIX⟩:∃ ix,22+k=ix:=⟨_,rfl⟩
   rw[hHIX] at hin hvk HRT
   rw[<- hHIX,hvv,hHIX] at hvk
   rw[hvv] at hv32 HUP
   have hin2:(ix:Int)<n:=qo
   have wv:IntKind.i64.wrap (v:Int)=(v:Int):=qIv qo qo
   have HT9:qH (Turns (fun i=>i=g6) wr (wr.setCell ⟨g6,1+k,none⟩ (.int .i64 (v:Int)))):=qh ((T0 (fun i=>i=g6) wr).put (p:=⟨g6,1+k,none⟩) rfl _)
   clear hvv hHIX
   go_wp2_with (first
    | (go_at_call 54;refine(qSB _ _).mono ?_;rintro e w9 ⟨rfl,rfl⟩;rw[HRT.o])
    | fail)
   go_roundw
   case rel=>exact⟨k+1,qo,by go_num,qh (HT0.o.trans HT9.o),qh ((HR.o.put (show 1+k<9 by omega) (.int .i64 (v:Int))).congr HUP.o)⟩
   case measure=>simp[intOf];omega
  ·have t0:decide ((k:Int)<8)=false:=qf
   have hk8:k=8:=qo
   subst hk8
   obtain⟨r0,r1,r2,r3,r4,r5,r6,r7,hrv,e0,e1,e2,e3,e4,e5,e6,e7⟩:=qYK H
   have hf0:stF H (.slice Ab nb cb) 8 0 = .slice Ab nb cb:=rfl
   have hf1:stF H (.slice Ab nb cb) 8 1 = .int .i64 (r0:Int):=by rw[<- e0];rfl
   have hf2:stF H (.slice Ab nb cb) 8 2 = .int .i64 (r1:Int):=by rw[<- e1];rfl
   have hf3:stF H (.slice Ab nb cb) 8 3 = .int .i64 (r2:Int):=by rw[<- e2];rfl
   have hf4:stF H (.slice Ab nb cb) 8 4 = .int .i64 (r3:Int):=by rw[<- e3];rfl
   have hf5:stF H (.slice Ab nb cb) 8 5 = .int .i64 (r4:Int):=by rw[<- e4];rfl
   have hf6:stF H (.slice Ab nb cb) 8 6 = .int .i64 (r5:Int):=by rw[<- e5];rfl
   have hf7:stF H (.slice Ab nb cb) 8 7 = .int .i64 (r6:Int):=by rw[<- e6];rfl
   have hf8:stF H (.slice Ab nb cb) 8 8 = .int .i64 (r7:Int):=by rw[<- e7];rfl
   have q0:=(HR.o.cell (show 0<9 by omega)).trans (congrArg some hf0)
   have q1:=(HR.o.cell (show 1<9 by omega)).trans (congrArg some hf1)
   have q2:=(HR.o.cell (show 2<9 by omega)).trans (congrArg some hf2)
   have q3:=(HR.o.cell (show 3<9 by omega)).trans (congrArg some hf3)
   have q4:=(HR.o.cell (show 4<9 by omega)).trans (congrArg some hf4)
   have q5:=(HR.o.cell (show 5<9 by omega)).trans (congrArg some hf5)
   have q6:=(HR.o.cell (show 6<9 by omega)).trans (congrArg some hf6)
   have q7:=(HR.o.cell (show 7<9 by omega)).trans (congrArg some hf7)
   have q8:=(HR.o.cell (show 8<9 by omega)).trans (congrArg some hf8)
   have HS4:=qh (HT0.o.held HS3.o qo)
   obtain⟨z0,z1,z2,z3,z4,z5,z6,z7,z8⟩:=HS4.o.nine
   obtain⟨f0,f1,f2,f3,f4,f5,f6,f7,f8⟩:=HS4.o.thawed9
   have HO4:=qh (qWQ HO3.o (fun j hj=>HT0.o.block j (HO3.o.lt j hj).2 (by have:=(HOL.o j hj).2;omega)))
   have HRE:=qh (And.intro e0 (And.intro e1 (And.intro e2 (And.intro e3 (And.intro e4 (And.intro e5 (And.intro e6 e7)))))))
   clear hrv e0 e1 e2 e3 e4 e5 e6 e7 hf0 hf1 hf2 hf3 hf4 hf5 hf6 hf7 hf8
   go_wp2_with fail
   obtain⟨WF,hWF⟩:∃ WF,set9 (wr) (w.heap.size+1) (.slice Ab nb cb) (.int .i64 (r0:Int)) (.int .i64 (r1:Int)) (.int .i64 (r2:Int)) (.int .i64 (r3:Int)) (.int .i64 (r4:Int)) (.int .i64 (r5:Int)) (.int .i64 (r6:Int)) (.int .i64 (r7:Int))=WF:=⟨_,rfl⟩
   have zz:=HS4.o.set9 (.slice Ab nb cb) (.int .i64 (r0:Int)) (.int .i64 (r1:Int)) (.int .i64 (r2:Int)) (.int .i64 (r3:Int)) (.int .i64 (r4:Int)) (.int .i64 (r5:Int)) (.int .i64 (r6:Int)) (.int .i64 (r7:Int))
   have hBF:=qLN (g:=(w.heap.size+1)) HB.o qo (.slice Ab nb cb) (.int .i64 (r0:Int)) (.int .i64 (r1:Int)) (.int .i64 (r2:Int)) (.int .i64 (r3:Int)) (.int .i64 (r4:Int)) (.int .i64 (r5:Int)) (.int .i64 (r6:Int)) (.int .i64 (r7:Int))
   have hOF:=qL8 (g:=(w.heap.size+1)) (qIX HO4.o HB2.o.size) (fun j hj=>by have h1:=(HOL.o j hj).1;have h2:=HS2.o.lt;omega) (.slice Ab nb cb) (.int .i64 (r0:Int)) (.int .i64 (r1:Int)) (.int .i64 (r2:Int)) (.int .i64 (r3:Int)) (.int .i64 (r4:Int)) (.int .i64 (r5:Int)) (.int .i64 (r6:Int)) (.int .i64 (r7:Int))
   rw[hWF] at zz hBF hOF
   unfold set9 at hWF
   rw[hWF]
   obtain⟨y0,y1,y2,y3,y4,y5,y6,y7,y8⟩:=zz.nine
   refine bodyPost_ret (v := .tuple #[.agg #[.slice Ab nb cb,.int .i64 (r0:Int),.int .i64 (r1:Int),.int .i64 (r2:Int),.int .i64 (r3:Int),.int .i64 (r4:Int),.int .i64 (r5:Int),.int .i64 (r6:Int),.int .i64 (r7:Int)],.bool true]) (by simp[results,Tryz.results22,go_sem,y0,y1,y2,y3,y4,y5,y6,y7,y8]) rfl ⟨.slice Ab nb cb,by obtain⟨e0,e1,e2,e3,e4,e5,e6,e7⟩:=HRE.o;simp only[e0,e1,e2,e3,e4,e5,e6,e7],?_,hBF⟩
   rw[HLB.o,HNB.o]
   exact hOF
end
section
theorem eqStep (d:Nat)(xs ys:Array Value)(i:Nat)(a b:Int)(is:List Nat)(w:World)(hx:xs[i]?=some (.int .i64 a))(hy:ys[i]?=some (.int .i64 b)) :
  (Op.eqItems (d+1) 2 1 xs ys (i :: is)).run Tryz.prog w=if (a==b)=true then (Op.eqItems (d+1) 2 1 xs ys is).run Tryz.prog w else .ok false w:=by
 have p1:=run_part_plain (P := Tryz.prog) w (e := 2) qr (off:=i*1) (by rw[Nat.mul_one];exact hx)
 have p2:=run_part_plain (P := Tryz.prog) w (e := 2) qr (off:=i*1) (by rw[Nat.mul_one];exact hy)
 have p3:=run_equalIn_int (P := Tryz.prog) w d 2 .i64 .i64 a b Tryz.underlying2
 simp only[Op.eqItems,Sem.run_bind,p1,p2,p3,Result.andThen_ok]
 cases a==b <;> simp
theorem qXb (r0 r1 r2 r3 r4 r5 r6 r7 p0 p1 p2 p3 p4 p5 p6 p7:Int)(w:World) :
  (Op.equalIn 10000 49 (.agg #[.int .i64 r0,.int .i64 r1,.int .i64 r2,.int .i64 r3,.int .i64 r4,.int .i64 r5,.int .i64 r6,.int .i64 r7]) (.agg #[.int .i64 p0,.int .i64 p1,.int .i64 p2,.int .i64 p3,.int .i64 p4,.int .i64 p5,.int .i64 p6,.int .i64 p7])).run Tryz.prog w = .ok (r0==p0&&(r1==p1&&(r2==p2&&(r3==p3&&(r4==p4&&(r5==p5&&(r6==p6&&(r7==p7)))))))) w:=by
 obtain⟨i,hi⟩:∃ i,Tryz.prog.info? 2 = some i:=Option.isSome_iff_exists.1 qr
 have hc : Tryz.prog.cellsOf 2 = 1:=by kernel_rfl
 show (Op.equalIn (9999+1) _ _ _).run _ _=_
 rw[run_equalIn_array w 9999 _ _ Tryz.underlying49 hi,hc]
 show (Op.eqItems (9998+1) 2 1 _ _ [0,1,2,3,4,5,6,7]).run _ _=_
 rw[eqStep 9998 _ _ 0 r0 p0 _ w rfl rfl]
 rw[eqStep 9998 _ _ 1 r1 p1 _ w rfl rfl]
 rw[eqStep 9998 _ _ 2 r2 p2 _ w rfl rfl]
 rw[eqStep 9998 _ _ 3 r3 p3 _ w rfl rfl]
 rw[eqStep 9998 _ _ 4 r4 p4 _ w rfl rfl]
 rw[eqStep 9998 _ _ 5 r5 p5 _ w rfl rfl]
 rw[eqStep 9998 _ _ 6 r6 p6 _ w rfl rfl]
 rw[eqStep 9998 _ _ 7 r7 p7 _ w rfl rfl]
 have hn:∀ xs ys:Array Value,(Op.eqItems (9998+1) 2 1 xs ys []).run Tryz.prog w = .ok true w:=fun xs ys=>by simp[Op.eqItems]
 rw[hn]
 generalize (r0==p0)=e0
 generalize (r1==p1)=e1
 generalize (r2==p2)=e2
 generalize (r3==p3)=e3
 generalize (r4==p4)=e4
 generalize (r5==p5)=e5
 generalize (r6==p6)=e6
 generalize (r7==p7)=e7
 cases e0
 ·rfl
 cases e1
 ·rfl
 cases e2
 ·rfl
 cases e3
 ·rfl
 cases e4
 ·rfl
 cases e5
 ·rfl
 cases e6
 ·rfl
 cases e7
 ·rfl
 ·rfl

theorem qO2 (r0 r1 r2 r3 r4 r5 r6 r7 p0 p1 p2 p3 p4 p5 p6 p7:Int):(r0==p0&&(r1==p1&&(r2==p2&&(r3==p3&&(r4==p4&&(r5==p5&&(r6==p6&&(r7==p7))))))))=true ↔ [r0,r1,r2,r3,r4,r5,r6,r7] = [p0,p1,p2,p3,p4,p5,p6,p7]:=by simp
end
section
theorem qRt (l1 l2:List (Int × Int))(A1 A2:Option Addr)(nl c1 c2 b1 b2:Nat)(r0 r1 r2 r3 r4 r5 r6 r7 p0 p1 p2 p3 p4 p5 p6 p7:Int)(w:World)(h1:l1.length=nl)(h2:l2.length=nl)(hnl:nl<=100000)(hnl:nl<=100000)
  (hO1:w.ownsRow b1 59 2 (.slice A1 nl c1) nl (bkVs l1)) (hO2:w.ownsRow b2 59 2 (.slice A2 nl c2) nl (bkVs l2)) (b:Bool) (hb:b=true ↔ [r0,r1,r2,r3,r4,r5,r6,r7] = [p0,p1,p2,p3,p4,p5,p6,p7]/\l1=l2) :
  Calls Tryz.prog 25 #[.agg #[.slice A1 nl c1,.int .i64 r0,.int .i64 r1,.int .i64 r2,.int .i64 r3,.int .i64 r4,.int .i64 r5,.int .i64 r6,.int .i64 r7],.agg #[.slice A2 nl c2,.int .i64 p0,.int .i64 p1,.int .i64 p2,.int .i64 p3,.int .i64 p4,.int .i64 p5,.int .i64 p6,.int .i64 p7]] w fun e w'=>e = .returned (.bool b)/\Below w.heap.size w w':=by
 have HX1:=qh ((Held.new w 51 #[.slice A1 nl c1,.int .i64 r0,.int .i64 r1,.int .i64 r2,.int .i64 r3,.int .i64 r4,.int .i64 r5,.int .i64 r6,.int .i64 r7]).alloc (.cells #[.slice A2 nl c2,.int .i64 p0,.int .i64 p1,.int .i64 p2,.int .i64 p3,.int .i64 p4,.int .i64 p5,.int .i64 p6,.int .i64 p7] 51))
 have HX2:=qh (Held.new2 w (.cells #[.slice A1 nl c1,.int .i64 r0,.int .i64 r1,.int .i64 r2,.int .i64 r3,.int .i64 r4,.int .i64 r5,.int .i64 r6,.int .i64 r7] 51) 51 #[.slice A2 nl c2,.int .i64 p0,.int .i64 p1,.int .i64 p2,.int .i64 p3,.int .i64 p4,.int .i64 p5,.int .i64 p6,.int .i64 p7])
 obtain⟨x0,x1,x2,x3,x4,x5,x6,x7,x8⟩:=HX1.o.nine
 obtain⟨y0,y1,y2,y3,y4,y5,y6,y7,y8⟩:=HX2.o.nine
 have HBW:=qh (Bnew (Bnew (B0 w) (.cells #[.slice A1 nl c1,.int .i64 r0,.int .i64 r1,.int .i64 r2,.int .i64 r3,.int .i64 r4,.int .i64 r5,.int .i64 r6,.int .i64 r7] 51)) (.cells #[.slice A2 nl c2,.int .i64 p0,.int .i64 p1,.int .i64 p2,.int .i64 p3,.int .i64 p4,.int .i64 p5,.int .i64 p6,.int .i64 p7] 51))
 have HO1:=qh ((hO1.alloc (.cells #[.slice A1 nl c1,.int .i64 r0,.int .i64 r1,.int .i64 r2,.int .i64 r3,.int .i64 r4,.int .i64 r5,.int .i64 r6,.int .i64 r7] 51)).alloc (.cells #[.slice A2 nl c2,.int .i64 p0,.int .i64 p1,.int .i64 p2,.int .i64 p3,.int .i64 p4,.int .i64 p5,.int .i64 p6,.int .i64 p7] 51))
 have HO2:=qh ((hO2.alloc (.cells #[.slice A1 nl c1,.int .i64 r0,.int .i64 r1,.int .i64 r2,.int .i64 r3,.int .i64 r4,.int .i64 r5,.int .i64 r6,.int .i64 r7] 51)).alloc (.cells #[.slice A2 nl c2,.int .i64 p0,.int .i64 p1,.int .i64 p2,.int .i64 p3,.int .i64 p4,.int .i64 p5,.int .i64 p6,.int .i64 p7] 51))
 have HL1:=qh h1
 have HL2:=qh h2
 obtain⟨h11,h12⟩:=qJH hO1
 obtain⟨h21,h22⟩:=qJH hO2
 have h12:c1<=9223372036854775807:=h12
 have h22:c2<=9223372036854775807:=h22
 have hei:=qO2 r0 r1 r2 r3 r4 r5 r6 r7 p0 p1 p2 p3 p4 p5 p6 p7
 have he:=fun W=>qXb r0 r1 r2 r3 r4 r5 r6 r7 p0 p1 p2 p3 p4 p5 p6 p7 W
 obtain⟨eb,heb⟩:∃ eb,(r0==p0&&(r1==p1&&(r2==p2&&(r3==p3&&(r4==p4&&(r5==p5&&(r6==p6&&(r7==p7))))))))=eb:=⟨_,rfl⟩
 rw[heb] at hei
 simp only[heb] at he
 have q0:((nl:Int) != (nl:Int))=false:=by simp
 cases eb
 ·have HBF:qH (b=false):=qh (qE5 hb (fun h=>by have:=hei.2 h.1;cases this))
  clear hei heb hb h1 h2 hO1 hO2
  exact MfI
 ·have HBC:qH (b=true↔l1=l2):=qh (hb.trans ⟨fun h=>h.2,fun h=>⟨hei.1 rfl,h⟩⟩)
  clear hei heb hb h1 h2 hO1 hO2
  go_enter Tryz.func25,Tryz.ntmps25
  go_wp2_with fail
  generalize (w.alloc (.cells #[.slice A1 nl c1,.int .i64 r0,.int .i64 r1,.int .i64 r2,.int .i64 r3,.int .i64 r4,.int .i64 r5,.int .i64 r6,.int .i64 r7] 51)).alloc (.cells #[.slice A2 nl c2,.int .i64 p0,.int .i64 p1,.int .i64 p2,.int .i64 p3,.int .i64 p4,.int .i64 p5,.int .i64 p6,.int .i64 p7] 51)=WL at *
  clear he x1 x2 x3 x4 x5 x6 x7 x8 y1 y2 y3 y4 y5 y6 y7 y8 q0
  go_loopw [5] (fun u5 wr=>∃ (i d:Nat),i<=nl/\u5 = .int .i64 (i:Int)/\qH (l1.take i=l2.take i)/\wr=WL.drewN d) (fun u5 _=>nl-(intOf u5).toNat)
  case atStart=>exact⟨0,0,qo,rfl,qh rfl,rfl⟩
  case round =>
   obtain⟨i,d,hi,rfl,HTE,rfl⟩:=hrel
   by_cases hlt:i<nl
   ·obtain⟨x,hx⟩:∃ x,l1[i]?=some x:=⟨_,List.getElem?_eq_getElem (by have:=HL1.o;omega)⟩
    obtain⟨y,hy⟩:∃ y,l2[i]?=some y:=⟨_,List.getElem?_eq_getElem (by have:=HL2.o;omega)⟩
    obtain⟨g1,cv1,hv1,_,_⟩:=HO1.o.form qo
    injection hv1 with hv1 _ hc1
    subst hv1
    subst hc1
    obtain⟨g2,cv2,hv2,_,_⟩:=HO2.o.form qo
    injection hv2 with hv2 _ hc2
    subst hv2
    subst hc2
    obtain⟨p0,p1⟩:=qGH HO1.o HL1.o hx
    obtain⟨q0,q1⟩:=qGH HO2.o HL2.o hy
    have HNE:qH (x≠y->¬ l1=l2):=qh (fun h e=>h (by rw[e,hy] at hx;exact(Option.some.inj hx).symm))
    have HSU:qH (x=y->l1.take (i+1)=l2.take (i+1)):=qh (fun h=>by rw[List.take_add_one,List.take_add_one,HTE.o,hx,hy,h])
    obtain⟨a1,z1⟩:=x
    obtain⟨a2,z2⟩:=y
    have t0:decide ((i:Int)<nl)=true:=qt
    have t0n:decide (i<nl)=true:=decide_eq_true hlt
    simp only at p0 p1 q0 q1
    clear hx hy
    by_cases ha:a1=a2
    ·subst ha
     by_cases hz:z1=z2
     ·subst hz
      have HT1:=qh (HSU.o rfl)
      go_wp2_with fail
      refine wp_region_held_drew (S:=(fun w'=>w'.cell? ⟨g1,i*2,none⟩=some (.int .i64 a1)/\w'.cell? ⟨g1,i*2+1,none⟩=some (.int .i64 z1)/\w'.cell? ⟨g2,i*2,none⟩=some (.int .i64 a1)/\w'.cell? ⟨g2,i*2+1,none⟩=some (.int .i64 z1)/\w'.cell? ⟨w.heap.size,0,none⟩=some (.slice (some ⟨g1,0,none⟩) nl c1)/\w'.cell? ⟨w.heap.size+1,0,none⟩=some (.slice (some ⟨g2,0,none⟩) nl c2))) qr ?_ (fun hHeld=>?_)
      ·exact MLK
      refine Rxn ?_
      refine tkz 7 ?_
      refine RYy ?_
      refine dnz ?_
      go_wp2_with fail
      go_roundw
      case rel=>exact⟨i+1,d+1,qo,by go_num,HT1,rfl⟩
      case measure=>simp[intOf];omega
     ·have qz:(z1==z2)=false:=by simpa using hz
      have HBF:qH (b=false):=qh (qE5 HBC.o (HNE.o (fun e=>hz (Prod.mk.inj e).2)))
      go_wp2_with fail
      refine wp_region_held_drew (S:=(fun w'=>w'.cell? ⟨g1,i*2,none⟩=some (.int .i64 a1)/\w'.cell? ⟨g1,i*2+1,none⟩=some (.int .i64 z1)/\w'.cell? ⟨g2,i*2,none⟩=some (.int .i64 a1)/\w'.cell? ⟨g2,i*2+1,none⟩=some (.int .i64 z2)/\w'.cell? ⟨w.heap.size,0,none⟩=some (.slice (some ⟨g1,0,none⟩) nl c1)/\w'.cell? ⟨w.heap.size+1,0,none⟩=some (.slice (some ⟨g2,0,none⟩) nl c2))) qr ?_ (fun hHeld=>?_)
      ·exact MLK
      exact MiY
    ·have qa:(a1==a2)=false:=by simpa using ha
     have HBF:qH (b=false):=qh (qE5 HBC.o (HNE.o (fun e=>ha (Prod.mk.inj e).1)))
     go_wp2_with fail
     refine wp_region_held_drew (S:=(fun w'=>w'.cell? ⟨g1,i*2,none⟩=some (.int .i64 a1)/\w'.cell? ⟨g1,i*2+1,none⟩=some (.int .i64 z1)/\w'.cell? ⟨g2,i*2,none⟩=some (.int .i64 a2)/\w'.cell? ⟨g2,i*2+1,none⟩=some (.int .i64 z2)/\w'.cell? ⟨w.heap.size,0,none⟩=some (.slice (some ⟨g1,0,none⟩) nl c1)/\w'.cell? ⟨w.heap.size+1,0,none⟩=some (.slice (some ⟨g2,0,none⟩) nl c2))) qr ?_ (fun hHeld=>?_)
     ·exact MLK
     exact MiY
   ·have t0:decide ((i:Int)<nl)=false:=qf
    have t0n:decide (i<nl)=false:=decide_eq_false hlt
    have HBT:qH (b=true):=qh (HBC.o.2 (by
     have h:=HTE.o
     rwa [List.take_of_length_le (by have:=HL1.o;omega),List.take_of_length_le (by have:=HL2.o;omega)] at h))
    go_wp2_with fail
    go_ret
    exact⟨by rw[HBT.o];rfl,Bdraw HBW.o d⟩
theorem qVO (l1 l2:List (Int × Int))(A1 A2:Option Addr)(n1 n2 c1 c2 b1 b2:Nat)(r0 r1 r2 r3 r4 r5 r6 r7 p0 p1 p2 p3 p4 p5 p6 p7:Int)(w:World)(h1:l1.length=n1)(h2:l2.length=n2)(hn1:n1<=100000)(hn2:n2<=100000)
  (hO1:w.ownsRow b1 59 2 (.slice A1 n1 c1) n1 (bkVs l1)) (hO2:w.ownsRow b2 59 2 (.slice A2 n2 c2) n2 (bkVs l2)) (b:Bool) (hb:b=true ↔ [r0,r1,r2,r3,r4,r5,r6,r7] = [p0,p1,p2,p3,p4,p5,p6,p7]/\l1=l2) :
  Calls Tryz.prog 25 #[.agg #[.slice A1 n1 c1,.int .i64 r0,.int .i64 r1,.int .i64 r2,.int .i64 r3,.int .i64 r4,.int .i64 r5,.int .i64 r6,.int .i64 r7],.agg #[.slice A2 n2 c2,.int .i64 p0,.int .i64 p1,.int .i64 p2,.int .i64 p3,.int .i64 p4,.int .i64 p5,.int .i64 p6,.int .i64 p7]] w fun e w'=>e = .returned (.bool b)/\Below w.heap.size w w':=by
 by_cases hne:n1=n2
 ·subst hne
  exact qRt l1 l2 A1 A2 n1 c1 c2 b1 b2 r0 r1 r2 r3 r4 r5 r6 r7 p0 p1 p2 p3 p4 p5 p6 p7 w h1 h2 hn1 hn2 hO1 hO2 b hb
 ·have q0:((n1:Int) != (n2:Int))=true:=qs
  have q0n:(n1 != n2)=true:=by simpa using hne
  have HBF:qH (b=false):=qh (qE5 hb (fun e=>hne (by rw[<- h1,<- h2,e.2])))
  have HX1:=qh ((Held.new w 51 #[.slice A1 n1 c1,.int .i64 r0,.int .i64 r1,.int .i64 r2,.int .i64 r3,.int .i64 r4,.int .i64 r5,.int .i64 r6,.int .i64 r7]).alloc (.cells #[.slice A2 n2 c2,.int .i64 p0,.int .i64 p1,.int .i64 p2,.int .i64 p3,.int .i64 p4,.int .i64 p5,.int .i64 p6,.int .i64 p7] 51))
  have HX2:=qh (Held.new2 w (.cells #[.slice A1 n1 c1,.int .i64 r0,.int .i64 r1,.int .i64 r2,.int .i64 r3,.int .i64 r4,.int .i64 r5,.int .i64 r6,.int .i64 r7] 51) 51 #[.slice A2 n2 c2,.int .i64 p0,.int .i64 p1,.int .i64 p2,.int .i64 p3,.int .i64 p4,.int .i64 p5,.int .i64 p6,.int .i64 p7])
  obtain⟨x0,x1,x2,x3,x4,x5,x6,x7,x8⟩:=HX1.o.nine
  obtain⟨y0,y1,y2,y3,y4,y5,y6,y7,y8⟩:=HX2.o.nine
  have HBW:=qh (Bnew (Bnew (B0 w) (.cells #[.slice A1 n1 c1,.int .i64 r0,.int .i64 r1,.int .i64 r2,.int .i64 r3,.int .i64 r4,.int .i64 r5,.int .i64 r6,.int .i64 r7] 51)) (.cells #[.slice A2 n2 c2,.int .i64 p0,.int .i64 p1,.int .i64 p2,.int .i64 p3,.int .i64 p4,.int .i64 p5,.int .i64 p6,.int .i64 p7] 51))
  have HO1:=qh ((hO1.alloc (.cells #[.slice A1 n1 c1,.int .i64 r0,.int .i64 r1,.int .i64 r2,.int .i64 r3,.int .i64 r4,.int .i64 r5,.int .i64 r6,.int .i64 r7] 51)).alloc (.cells #[.slice A2 n2 c2,.int .i64 p0,.int .i64 p1,.int .i64 p2,.int .i64 p3,.int .i64 p4,.int .i64 p5,.int .i64 p6,.int .i64 p7] 51))
  have HO2:=qh ((hO2.alloc (.cells #[.slice A1 n1 c1,.int .i64 r0,.int .i64 r1,.int .i64 r2,.int .i64 r3,.int .i64 r4,.int .i64 r5,.int .i64 r6,.int .i64 r7] 51)).alloc (.cells #[.slice A2 n2 c2,.int .i64 p0,.int .i64 p1,.int .i64 p2,.int .i64 p3,.int .i64 p4,.int .i64 p5,.int .i64 p6,.int .i64 p7] 51))
  have HL1:=qh h1
  have HL2:=qh h2
  obtain⟨h11,h12⟩:=qJH hO1
  obtain⟨h21,h22⟩:=qJH hO2
  have h12:c1<=9223372036854775807:=h12
  have h22:c2<=9223372036854775807:=h22
  have hei:=qO2 r0 r1 r2 r3 r4 r5 r6 r7 p0 p1 p2 p3 p4 p5 p6 p7
  have he:=fun W=>qXb r0 r1 r2 r3 r4 r5 r6 r7 p0 p1 p2 p3 p4 p5 p6 p7 W
  obtain⟨eb,heb⟩:∃ eb,(r0==p0&&(r1==p1&&(r2==p2&&(r3==p3&&(r4==p4&&(r5==p5&&(r6==p6&&(r7==p7))))))))=eb:=⟨_,rfl⟩
  rw[heb] at hei
  simp only[heb] at he
  clear hei heb hb h1 h2 hO1 hO2 hne he
  exact MfI
end
open Go.Maps
section
section
variable {W w : World} {O1 O2 : Ob} {A B G : Nat -> Prop} {s1 s2 : Vst}
theorem Duo.poke (h:Duo W O1 O2 A B G s1 s2 w){p:Addr}(ha:¬ A p.block)(hb:¬ B p.block)(hW:W.heap.size<=p.block)(u:Value):Duo W O1 O2 A B G s1 s2 (w.setCell p u) :=
 ⟨O1.turns h.i1 ((T0 (fun i=>i=p.block) w).put (p:=p) rfl u) (fun i hi e=>ha (by rw[<- e];exact hi)),O2.turns h.i2 ((T0 (fun i=>i=p.block) w).put (p:=p) rfl u) (fun i hi e=>hb (by rw[<- e];exact hi)),h.ab,
  fun g hg=>⟨by simp;exact(h.aG g hg).1,(h.aG g hg).2⟩,h.lo,Bput h.bel hW u⟩
theorem Duo.set9 {g:Nat}(h:Duo W O1 O2 A B G s1 s2 w)(ha:¬ A g)(hb:¬ B g)(hW:W.heap.size<=g)(a0 a1 a2 a3 a4 a5 a6 a7 a8:Value):Duo W O1 O2 A B G s1 s2 (set9 w g a0 a1 a2 a3 a4 a5 a6 a7 a8) :=
 ((((((((h.poke (p:=⟨g,0,none⟩) ha hb hW a0).poke (p:=⟨g,1,none⟩) ha hb hW a1).poke (p:=⟨g,2,none⟩) ha hb hW a2).poke (p:=⟨g,3,none⟩) ha hb hW a3).poke (p:=⟨g,4,none⟩) ha hb hW a4).poke (p:=⟨g,5,none⟩) ha hb hW a5).poke (p:=⟨g,6,none⟩) ha hb hW a6).poke (p:=⟨g,7,none⟩) ha hb hW a7).poke (p:=⟨g,8,none⟩) ha hb hW a8
end
def wr9 (w:World) (g:Nat) (u:Value) (r0 r1 r2 r3 r4 r5 r6 r7:Nat):World:=set9 w g u (.int .i64 (r0:Int)) (.int .i64 (r1:Int)) (.int .i64 (r2:Int)) (.int .i64 (r3:Int)) (.int .i64 (r4:Int)) (.int .i64 (r5:Int)) (.int .i64 (r6:Int)) (.int .i64 (r7:Int))
section
variable {W w WF : World} {O1 O2 : Ob} {A B G : Nat -> Prop} {s1 s2 : Vst} {g g2 r0 r1 r2 r3 r4 r5 r6 r7 : Nat} {t : TypeId} {cs : Array Value} {u : Value}
theorem qXJ (hw:wr9 w g u r0 r1 r2 r3 r4 r5 r6 r7=WF){c0 c1 c2 c3 c4 c5 c6 c7 c8:Value}(h:Held w g t #[c0,c1,c2,c3,c4,c5,c6,c7,c8]):Held WF g t #[u,.int .i64 (r0:Int),.int .i64 (r1:Int),.int .i64 (r2:Int),.int .i64 (r3:Int),.int .i64 (r4:Int),.int .i64 (r5:Int),.int .i64 (r6:Int),.int .i64 (r7:Int)]:=by
 subst hw
 exact h.set9 _ _ _ _ _ _ _ _ _
theorem far9 (hw:wr9 w g u r0 r1 r2 r3 r4 r5 r6 r7=WF)(hne:g2≠g)(h:Held w g2 t cs):Held WF g2 t cs:=by
 subst hw
 exact(qMB hne _ _ _ _ _ _ _ _ _).trans h
theorem own9 (hw:wr9 w g u r0 r1 r2 r3 r4 r5 r6 r7=WF){base size n:Nat}{v:Value}{xs:List Value}(hne:v.ownBlock≠some g)(h:w.ownsRow base t size v n xs):WF.ownsRow base t size v n xs:=by
 subst hw
 exact qL8 h (fun j hj e=>hne (by rw[hj,e])) _ _ _ _ _ _ _ _ _
theorem duo9 (hw:wr9 w g u r0 r1 r2 r3 r4 r5 r6 r7=WF)(ha:¬ A g)(hb:¬ B g)(hW:W.heap.size<=g)(h:Duo W O1 O2 A B G s1 s2 w):Duo W O1 O2 A B G s1 s2 WF:=by
 subst hw
 exact h.set9 ha hb hW _ _ _ _ _ _ _ _ _
end
theorem qXC {H:AuH}{n c:Nat}(HV:HeapV H n c):(blocksOf H.parts).length<=60000:=by
 have h1:=qY6 H.parts
 have h2:H.parts.length<=H.p*33:=AuH.parts_len H.p
 have:=HV.nums.2.2.2.1
 omega
theorem qNU {H:AuH}{n c:Nat}{K:Nat->Option Nat}(HV:HeapV H n c){st:Vst}(hok:VOk n st)(h32:∀ i x,K i=some x->x<2^32)(hvw:VW n K st)(hr:∀ i,i<10->(nowH H n K st).rule i)(ho:∀ i,i<8->(nowH H n K st).V (22+i)=H.V (22+i))
  (L:List (Int × Int)) (hL:blocksOf (nowH H n K st).parts=L) (r0 r1 r2 r3 r4 r5 r6 r7:Nat) (h0:H.V 22=r0) (h1:H.V 23=r1) (h2:H.V 24=r2) (h3:H.V 25=r3) (h4:H.V 26=r4) (h5:H.V 27=r5) (h6:H.V 28=r6) (h7:H.V 29=r7) (w:World) (g cp:Nat) (hrow:RowF w g 57 n cp (valF (nowV K st.wr))) :
  Calls Tryz.prog 22 #[.agg #[.int .i64 (H.t:Int),.int .i64 (H.p:Int),.int .i64 (H.s:Int)],.slice (some ⟨g,0,none⟩) n cp] w fun e w'=>∃ u,e = .returned (.tuple #[.agg #[u,.int .i64 (r0:Int),.int .i64 (r1:Int),.int .i64 (r2:Int),.int .i64 (r3:Int),.int .i64 (r4:Int),.int .i64 (r5:Int),.int .i64 (r6:Int),.int .i64 (r7:Int)],.bool true])/\w'.ownsRow w.heap.size 59 2 u L.length (bkVs L)/\Below w.heap.size w w':=by
 have HV':=qN5 HV hok h32 (cp:=cp) hrow.le hrow.max
 have hv':IsVals w ⟨g,0,none⟩ n (nowH H n K st).V:=⟨hrow.lt,fun i hi=>by
  have e:(⟨g,0,none⟩:Addr).add i=⟨g,i,none⟩:=by
   unfold Addr.add
   by_cases hz:i=0
   ·rw[if_pos hz,hz]
   ·rw[if_neg hz];simp
  have e2:nowV K st.wr i=(nowH H n K st).V i:=by
   show _=curV n (getV n K st) H.V i
   rw[qG7 hi,hvw.at_ hi]
   rfl
  rw[e,hrow.cell hi]
  unfold valF
  rw[e2]⟩
 have hC:=qZU HV' ⟨g,0,none⟩ w hv' (m:=0) (b:=true) (.inl ⟨rfl,rfl,hr⟩)
 have:=qJ4 HV' ⟨g,0,none⟩ 0 w hv' hC
 rw[hL,show (nowH H n K st).V 22=r0 from (ho 0 qo).trans h0,show (nowH H n K st).V 23=r1 from (ho 1 qo).trans h1,show (nowH H n K st).V 24=r2 from (ho 2 qo).trans h2,show (nowH H n K st).V 25=r3 from (ho 3 qo).trans h3,show (nowH H n K st).V 26=r4 from (ho 4 qo).trans h4,show (nowH H n K st).V 27=r5 from (ho 5 qo).trans h5,show (nowH H n K st).V 28=r6 from (ho 6 qo).trans h6,show (nowH H n K st).V 29=r7 from (ho 7 qo).trans h7] at this
 exact this
theorem qYk {H:AuH}{n c:Nat}(HV:HeapV H n c):10<=H.s/\H.s<=20:=by
 have:=(qQB _ _ _).1 HV.right
 omega
theorem qOB {H:AuH}{n c g:Nat}(HV:HeapV H n c)(hg:g=2^H.s):g<=1048576:=by
 have h:=(qYk HV).2
 rw[hg]
 have:=Nat.pow_le_pow_right (show 0<2 by omega) h
 omega
theorem qP1 {H:AuH}{n c g:Nat}(HV:HeapV H n c)(hg:g=2^H.s):IntKind.i64.wrap (2^H.s)=(g:Int):=by
 have h1:=qOB HV hg
 have e:((2:Int)^H.s)=(g:Int):=by rw[hg];push_cast;rfl
 rw[e]
 exact qIv qo qo
end
section
section
variable {H : AuH} {n c : Nat} {K : Nat -> Option Nat} {st : Vst}
theorem qEv (hK:∀ i,i<n->K i=some (H.V i)):VW n K freshS:=⟨fun i hi=>⟨_,hK i hi⟩,rfl⟩
theorem qSi (hK:∀ i,i<n->K i=some (H.V i)):nowH H n K freshS=H:=by
 unfold nowH AuH.re
 have:curV n (getV n K freshS) H.V=H.V:=by
  funext i
  unfold curV
  split
  ·rename_i h
   rw[(qEv hK).at_ h,hK i h]
   rfl
  ·rfl
 rw[this]
end
end
end Go.Proofs.YtgifnhcknodekaaGreat
