/-
  The document's Check. Written by doc12/gen_doccheck.py.
-/
import Derived.Test.YtjjfcaliippgpaaGreatDoorXDocFeet
import Derived.Test.YtjjfcaliippgpaaGreatDoorX14
import Derived.Test.YtjjfcaliippgpaaGreatDoorXDocLoose
import Derived.Test.YtjjfcaliippgpaaGreatDoorX15
import Derived.Test.YtjjfcaliippgpaaGreatDoorX16
import Derived.Test.YtjjfcaliippgpaaGreatDoorX05
import Derived.Test.YtjjfcaliippgpaaGreatDoorX02
import Derived.Test.YtjjfcaliippgpaaGreatDoorX06
import Derived.Test.YtjjfcaliippgpaaGreatDoorX07
import Derived.Test.YtjjfcaliippgpaaGreatDoorX08
namespace Go.Proofs.YtjjfcaliippgpaaGreatDoor
theorem RiX {P Q:Prop}(kq:Q)(h:HQ Q->P:=by
 intro kq
 go_at_call 109
 refine(qDP H.t H.p H.s _).mono ?_
 rintro e w2 ⟨rfl,hb2⟩
 rw[HRI.o]
 have HB2:=qh (Bgo HBW.o hb2)
 have HX2:=qh (HX0.o.keep hb2)
 clear hb2
 obtain⟨c0,c1,c2⟩:=HX2.o.three
 revert w2 HB2 HX2 c0 c1 c2
 exact kq.o):P:=h ⟨kq⟩
theorem Rye {P Q:Prop}(kq:Q)(h:HQ Q->P:=by
 intro kq
 go_at_call 139
 refine(qIM H.t H.p H.s _).mono ?_
 rintro e w3 ⟨rfl,hb3⟩
 rw[HLC.o]
 have HB3:=qh (Bgo HB2.o hb3)
 have HX3:=qh (HX2.o.keep hb3)
 clear hb3
 obtain⟨c0,c1,c2⟩:=HX3.o.three
 obtain⟨x0,x1,x2,x3⟩:=(Held.new w3 114 #[.int .i64 (H.t:Int),.int .i64 (H.p:Int),.int .i64 (H.s:Int),.slice (some ad) n c]).four
 revert w3 HB3 HX3 c0 c1 c2 x0 x1 x2 x3
 exact kq.o):P:=h ⟨kq⟩
theorem RH5 {P Q:Prop}(kq:Q)(h:HQ Q->P:=by
 intro kq
 go_at_call 140
 refine(HR1.o _ (HVL.o.below (Bnew HB3.o (.cells #[.int .i64 (H.t:Int),.int .i64 (H.p:Int),.int .i64 (H.s:Int),.slice (some ad) n c] 114)))).mono ?_
 rintro e w4 ⟨rfl,hb4⟩
 have HB4:=qh (Bgo (Bnew HB3.o (.cells #[.int .i64 (H.t:Int),.int .i64 (H.p:Int),.int .i64 (H.s:Int),.slice (some ad) n c] 114)) hb4)
 have HX4:=qh ((Held.new w3 114 #[.int .i64 (H.t:Int),.int .i64 (H.p:Int),.int .i64 (H.s:Int),.slice (some ad) n c]).keep hb4)
 clear hb4
 obtain⟨x0,x1,x2,x3⟩:=HX4.o.four
 revert w4 HB4 HX4 x0 x1 x2 x3
 exact kq.o):P:=h ⟨kq⟩
theorem Ry7 {P Q:Prop}(kq:Q)(h:HQ Q->P:=by
 intro kq
 go_at_call 141
 refine(HR2.o _ (HVL.o.below HB4.o)).mono ?_
 rintro e w5 ⟨rfl,hb5⟩
 have HB5:=qh (Bgo HB4.o hb5)
 have HX5:=qh (HX4.o.keep hb5)
 clear hb5
 obtain⟨x0,x1,x2,x3⟩:=HX5.o.four
 revert w5 HB5 HX5 x0 x1 x2 x3
 exact kq.o):P:=h ⟨kq⟩
theorem RFC {P Q:Prop}(kq:Q)(h:HQ Q->P:=by
 intro kq
 go_at_call 142
 refine(HR3.o _ (HVL.o.below HB5.o)).mono ?_
 rintro e w6 ⟨rfl,hb6⟩
 have HB6:=qh (Bgo HB5.o hb6)
 have HX6:=qh (HX5.o.keep hb6)
 clear hb6
 obtain⟨x0,x1,x2,x3⟩:=HX6.o.four
 revert w6 HB6 HX6 x0 x1 x2 x3
 exact kq.o):P:=h ⟨kq⟩
theorem RNO {P Q:Prop}(kq:Q)(h:HQ Q->P:=by
 intro kq
 go_at_call 143
 refine(HR4.o _ (HVL.o.below HB6.o)).mono ?_
 rintro e w7 ⟨rfl,hb7⟩
 have HB7:=qh (Bgo HB6.o hb7)
 have HX7:=qh (HX6.o.keep hb7)
 clear hb7
 obtain⟨x0,x1,x2,x3⟩:=HX7.o.four
 revert w7 HB7 HX7 x0 x1 x2 x3
 exact kq.o):P:=h ⟨kq⟩
theorem RRm {P Q:Prop}(kq:Q)(h:HQ Q->P:=by
 intro kq
 go_at_call 144
 refine(HR5.o _ (HVL.o.below HB7.o)).mono ?_
 rintro e w8 ⟨rfl,hb8⟩
 have HB8:=qh (Bgo HB7.o hb8)
 have HX8:=qh (HX7.o.keep hb8)
 clear hb8
 obtain⟨x0,x1,x2,x3⟩:=HX8.o.four
 revert w8 HB8 HX8 x0 x1 x2 x3
 exact kq.o):P:=h ⟨kq⟩
theorem Rfm {P Q:Prop}(kq:Q)(h:HQ Q->P:=by
 intro kq
 go_at_call 145
 refine(HR6.o _ (HVL.o.below HB8.o)).mono ?_
 rintro e w9 ⟨rfl,hb9⟩
 have HB9:=qh (Bgo HB8.o hb9)
 have HX9:=qh (HX8.o.keep hb9)
 clear hb9
 obtain⟨x0,x1,x2,x3⟩:=HX9.o.four
 revert w9 HB9 HX9 x0 x1 x2 x3
 exact kq.o):P:=h ⟨kq⟩
theorem RCS {P Q:Prop}(kq:Q)(h:HQ Q->P:=by
 intro kq
 go_at_call 146
 refine(HR7.o _ (HVL.o.below HB9.o)).mono ?_
 rintro e w10 ⟨rfl,hb10⟩
 have HB10:=qh (Bgo HB9.o hb10)
 have HX10:=qh (HX9.o.keep hb10)
 clear hb10
 obtain⟨x0,x1,x2,x3⟩:=HX10.o.four
 revert w10 HB10 HX10 x0 x1 x2 x3
 exact kq.o):P:=h ⟨kq⟩
theorem Rwb {P Q:Prop}(kq:Q)(h:HQ Q->P:=by
 intro kq
 go_at_call 147
 refine(HR8.o _ (HVL.o.below HB10.o)).mono ?_
 rintro e w11 ⟨rfl,hb11⟩
 have HB11:=qh (Bgo HB10.o hb11)
 have HX11:=qh (HX10.o.keep hb11)
 clear hb11
 obtain⟨x0,x1,x2,x3⟩:=HX11.o.four
 revert w11 HB11 HX11 x0 x1 x2 x3
 exact kq.o):P:=h ⟨kq⟩
theorem R8l {P Q:Prop}(kq:Q)(h:HQ Q->P:=by
 intro kq
 go_at_call 148
 refine(HR9.o _ (HVL.o.below HB11.o)).mono ?_
 rintro e w12 ⟨rfl,hb12⟩
 have HB12:=qh (Bgo HB11.o hb12)
 have HX12:=qh (HX11.o.keep hb12)
 clear hb12
 obtain⟨x0,x1,x2,x3⟩:=HX12.o.four
 revert w12 HB12 HX12 x0 x1 x2 x3
 exact kq.o):P:=h ⟨kq⟩
theorem Rjx {P Q:Prop}(kq:Q)(h:HQ Q->P:=by
 intro kq
 go_at_call 65
 refine HSO.o.mono ?_
 rintro e w2 ⟨rfl,hb2⟩
 have HX2:=qh (HX0.o.keep hb2)
 have HB2:=qh (Bgo HBW.o hb2)
 have HB3:=qh (Bnew HB2.o (.cells #[.int .i64 (H.t:Int),.int .i64 (H.p:Int),.int .i64 (H.s:Int),.slice (some ad) n c] 114))
 clear hb2
 obtain⟨c0,c1,c2⟩:=HX2.o.three
 obtain⟨x0,x1,x2,x3⟩:=(Held.new w2 114 #[.int .i64 (H.t:Int),.int .i64 (H.p:Int),.int .i64 (H.s:Int),.slice (some ad) n c]).four
 revert w2 HX2 HB2 HB3 c0 c1 c2 x0 x1 x2 x3
 exact kq.o):P:=h ⟨kq⟩
end Go.Proofs.YtjjfcaliippgpaaGreatDoor
set_option linter.unusedVariables false
set_option linter.unusedSimpArgs false
set_option maxRecDepth 100000
set_option maxHeartbeats 25600000
namespace Go.Proofs.YtjjfcaliippgpaaGreatDoor
open Go.ChangeShapes Go.WideShapes Go.ChangeAt Go.RowKit Go.Shelf
section
theorem qA2 (t q s:Int)(A:Option Addr)(n c:Nat)(hnc:n<=c)(hc:c<=maxLen)(h:¬ (lC t q s≠0/\(n:Int)=lC t q s))(w:World) :
  Calls Tryz.prog 106 #[.agg #[.int .i64 t,.int .i64 q,.int .i64 s],.slice A n c] w fun e w'=>e = .returned (.tuple #[.int .i64 1,.bool false])/\Below w.heap.size w w':=by
 have HX0:=qh (Held.new w 23 #[.int .i64 t,.int .i64 q,.int .i64 s])
 obtain⟨c0,c1,c2⟩:=HX0.o.three
 have HBW:=qh (Bnew (B0 w) (.cells #[.int .i64 t,.int .i64 q,.int .i64 s] 23))
 cases hr:rightB t q s
 ·have HRI:=qh hr
  clear hr h
  go_enter Tryz.func106,Tryz.ntmps106
  go_wp2_with (first
   | (go_at_call 109;refine(qDP t q s _).mono ?_;rintro e w2 ⟨rfl,hb2⟩;rw[HRI.o];have HB2:=qh (Bgo HBW.o hb2);have HX2:=qh (HX0.o.keep hb2);clear hb2 c0 c1 c2;obtain⟨c0,c1,c2⟩:=HX2.o.three)
   | fail)
  go_ret2
  exact⟨rfl,HB2.o⟩
 ·have HRI:=qh hr
  have hl0:lC t q s≠0:=by
   have:=(qVu hr).5
   have h4:=(qQB t q s).1 hr
   omega
  have hne:¬ (n:Int)=lC t q s:=fun h2=>h ⟨hl0,h2⟩
  obtain⟨l,hl⟩:∃ l,lC t q s=l:=⟨_,rfl⟩
  have HLC:=qh hl
  rw[hl] at hne
  have q0:((n:Int) != l)=true:=by simpa using hne
  clear hr h hl0 hl hne
  go_enter Tryz.func106,Tryz.ntmps106
  go_wp2_with (first
   | (go_at_call 109;refine(qDP t q s _).mono ?_;rintro e w2 ⟨rfl,hb2⟩;rw[HRI.o];have HB2:=qh (Bgo HBW.o hb2);have HX2:=qh (HX0.o.keep hb2);clear hb2 c0 c1 c2;obtain⟨c0,c1,c2⟩:=HX2.o.three)
   | (go_at_call 139;refine(qIM t q s _).mono ?_;rintro e w3 ⟨rfl,hb3⟩;rw[HLC.o];have HB3:=qh (Bgo HB2.o hb3))
   | fail)
  go_ret2
  exact⟨rfl,HB3.o⟩

theorem qSe {H:AuH}{n c:Nat}(HV:HeapV H n c)(ad:Addr)(hr:∀ i,i<1->H.rule i)(hno:¬ H.rule 1)(w:World)(hv:IsVals w ad n H.V) :
  Calls Tryz.prog 106 #[.agg #[.int .i64 (H.t:Int),.int .i64 (H.p:Int),.int .i64 (H.s:Int)],.slice (some ad) n c] w fun e w'=>e = .returned (.tuple #[.int .i64 2,.bool false])/\Below w.heap.size w w':=by
 have HVL:=qh hv
 have HX0:=qh (Held.new w 23 #[.int .i64 (H.t:Int),.int .i64 (H.p:Int),.int .i64 (H.s:Int)])
 obtain⟨c0,c1,c2⟩:=HX0.o.three
 have HBW:=qh (Bnew (B0 w) (.cells #[.int .i64 (H.t:Int),.int .i64 (H.p:Int),.int .i64 (H.s:Int)] 23))
 have HRI:=qh HV.right
 have HLC:qH (lC H.t H.p H.s=(n:Int)):=qh (by have:=(qVu HV.right).5;have:=HV.len;omega)
 have HR1:=qh (fun (W:World) (hv:IsVals W ad n H.V)=>qIG HV ad false ⟨fun h=>(by cases h),fun h=>absurd h hno⟩ W hv)
 have hn:=HV.nums
 have hcx:c<=9223372036854775807:=hn.2.2.2.2.2.2.2.2
 have hni:n<=6238:=hn.2.2.2.2.2.2.1
 have hnc:=HV.cap
 clear hv hr hno hn
 go_enter Tryz.func106,Tryz.ntmps106
 go_wp2_with (first
  | (refine RiX ?_;clear c0 c1 c2;intro w2 HB2 HX2 c0 c1 c2)
  | (refine Rye ?_;clear c0 c1 c2;intro w3 HB3 HX3 c0 c1 c2 x0 x1 x2 x3)
  | (refine RH5 ?_;clear x0 x1 x2 x3;intro w4 HB4 HX4 x0 x1 x2 x3)
  | fail)
 go_ret2
 exact⟨rfl,HB4.o⟩

theorem qSi {H:AuH}{n c:Nat}(HV:HeapV H n c)(ad:Addr)(hr:∀ i,i<2->H.rule i)(hno:¬ H.rule 2)(w:World)(hv:IsVals w ad n H.V) :
  Calls Tryz.prog 106 #[.agg #[.int .i64 (H.t:Int),.int .i64 (H.p:Int),.int .i64 (H.s:Int)],.slice (some ad) n c] w fun e w'=>e = .returned (.tuple #[.int .i64 3,.bool false])/\Below w.heap.size w w':=by
 have HVL:=qh hv
 have HX0:=qh (Held.new w 23 #[.int .i64 (H.t:Int),.int .i64 (H.p:Int),.int .i64 (H.s:Int)])
 obtain⟨c0,c1,c2⟩:=HX0.o.three
 have HBW:=qh (Bnew (B0 w) (.cells #[.int .i64 (H.t:Int),.int .i64 (H.p:Int),.int .i64 (H.s:Int)] 23))
 have HRI:=qh HV.right
 have HLC:qH (lC H.t H.p H.s=(n:Int)):=qh (by have:=(qVu HV.right).5;have:=HV.len;omega)
 have HR1:=qh (fun (W:World) (hv:IsVals W ad n H.V)=>qIG HV ad true ⟨fun _=>hr 1 qo,fun _=>rfl⟩ W hv)
 have HR2:=qh (fun (W:World) (hv:IsVals W ad n H.V)=>qY3 HV (hr 1 qo) ad false ⟨fun h=>(by cases h),fun h=>absurd h hno⟩ W hv)
 have hn:=HV.nums
 have hcx:c<=9223372036854775807:=hn.2.2.2.2.2.2.2.2
 have hni:n<=6238:=hn.2.2.2.2.2.2.1
 have hnc:=HV.cap
 clear hv hr hno hn
 go_enter Tryz.func106,Tryz.ntmps106
 go_wp2_with (first
  | (refine RiX ?_;clear c0 c1 c2;intro w2 HB2 HX2 c0 c1 c2)
  | (refine Rye ?_;clear c0 c1 c2;intro w3 HB3 HX3 c0 c1 c2 x0 x1 x2 x3)
  | (refine RH5 ?_;clear x0 x1 x2 x3;intro w4 HB4 HX4 x0 x1 x2 x3)
  | (refine Ry7 ?_;clear x0 x1 x2 x3;intro w5 HB5 HX5 x0 x1 x2 x3)
  | fail)
 go_ret2
 exact⟨rfl,HB5.o⟩

theorem qQ2 {H:AuH}{n c:Nat}(HV:HeapV H n c)(ad:Addr)(hr:∀ i,i<3->H.rule i)(hno:¬ H.rule 3)(w:World)(hv:IsVals w ad n H.V) :
  Calls Tryz.prog 106 #[.agg #[.int .i64 (H.t:Int),.int .i64 (H.p:Int),.int .i64 (H.s:Int)],.slice (some ad) n c] w fun e w'=>e = .returned (.tuple #[.int .i64 4,.bool false])/\Below w.heap.size w w':=by
 have HVL:=qh hv
 have HX0:=qh (Held.new w 23 #[.int .i64 (H.t:Int),.int .i64 (H.p:Int),.int .i64 (H.s:Int)])
 obtain⟨c0,c1,c2⟩:=HX0.o.three
 have HBW:=qh (Bnew (B0 w) (.cells #[.int .i64 (H.t:Int),.int .i64 (H.p:Int),.int .i64 (H.s:Int)] 23))
 have HRI:=qh HV.right
 have HLC:qH (lC H.t H.p H.s=(n:Int)):=qh (by have:=(qVu HV.right).5;have:=HV.len;omega)
 have HR1:=qh (fun (W:World) (hv:IsVals W ad n H.V)=>qIG HV ad true ⟨fun _=>hr 1 qo,fun _=>rfl⟩ W hv)
 have HR2:=qh (fun (W:World) (hv:IsVals W ad n H.V)=>qY3 HV (hr 1 qo) ad true ⟨fun _=>hr 2 qo,fun _=>rfl⟩ W hv)
 have HR3:=qh (fun (W:World) (hv:IsVals W ad n H.V)=>qVH HV (hr 1 qo) ad false ⟨fun h=>(by cases h),fun h=>absurd h hno⟩ W hv)
 have hn:=HV.nums
 have hcx:c<=9223372036854775807:=hn.2.2.2.2.2.2.2.2
 have hni:n<=6238:=hn.2.2.2.2.2.2.1
 have hnc:=HV.cap
 clear hv hr hno hn
 go_enter Tryz.func106,Tryz.ntmps106
 go_wp2_with (first
  | (refine RiX ?_;clear c0 c1 c2;intro w2 HB2 HX2 c0 c1 c2)
  | (refine Rye ?_;clear c0 c1 c2;intro w3 HB3 HX3 c0 c1 c2 x0 x1 x2 x3)
  | (refine RH5 ?_;clear x0 x1 x2 x3;intro w4 HB4 HX4 x0 x1 x2 x3)
  | (refine Ry7 ?_;clear x0 x1 x2 x3;intro w5 HB5 HX5 x0 x1 x2 x3)
  | (refine RFC ?_;clear x0 x1 x2 x3;intro w6 HB6 HX6 x0 x1 x2 x3)
  | fail)
 go_ret2
 exact⟨rfl,HB6.o⟩

theorem qCV {H:AuH}{n c:Nat}(HV:HeapV H n c)(ad:Addr)(hr:∀ i,i<4->H.rule i)(hno:¬ H.rule 4)(w:World)(hv:IsVals w ad n H.V) :
  Calls Tryz.prog 106 #[.agg #[.int .i64 (H.t:Int),.int .i64 (H.p:Int),.int .i64 (H.s:Int)],.slice (some ad) n c] w fun e w'=>e = .returned (.tuple #[.int .i64 5,.bool false])/\Below w.heap.size w w':=by
 have HVL:=qh hv
 have HX0:=qh (Held.new w 23 #[.int .i64 (H.t:Int),.int .i64 (H.p:Int),.int .i64 (H.s:Int)])
 obtain⟨c0,c1,c2⟩:=HX0.o.three
 have HBW:=qh (Bnew (B0 w) (.cells #[.int .i64 (H.t:Int),.int .i64 (H.p:Int),.int .i64 (H.s:Int)] 23))
 have HRI:=qh HV.right
 have HLC:qH (lC H.t H.p H.s=(n:Int)):=qh (by have:=(qVu HV.right).5;have:=HV.len;omega)
 have HR1:=qh (fun (W:World) (hv:IsVals W ad n H.V)=>qIG HV ad true ⟨fun _=>hr 1 qo,fun _=>rfl⟩ W hv)
 have HR2:=qh (fun (W:World) (hv:IsVals W ad n H.V)=>qY3 HV (hr 1 qo) ad true ⟨fun _=>hr 2 qo,fun _=>rfl⟩ W hv)
 have HR3:=qh (fun (W:World) (hv:IsVals W ad n H.V)=>qVH HV (hr 1 qo) ad true ⟨fun _=>hr 3 qo,fun _=>rfl⟩ W hv)
 have HR4:=qh (fun (W:World) (hv:IsVals W ad n H.V)=>qPG HV ad false ⟨fun h=>(by cases h),fun h=>absurd h hno⟩ W hv)
 have hn:=HV.nums
 have hcx:c<=9223372036854775807:=hn.2.2.2.2.2.2.2.2
 have hni:n<=6238:=hn.2.2.2.2.2.2.1
 have hnc:=HV.cap
 clear hv hr hno hn
 go_enter Tryz.func106,Tryz.ntmps106
 go_wp2_with (first
  | (refine RiX ?_;clear c0 c1 c2;intro w2 HB2 HX2 c0 c1 c2)
  | (refine Rye ?_;clear c0 c1 c2;intro w3 HB3 HX3 c0 c1 c2 x0 x1 x2 x3)
  | (refine RH5 ?_;clear x0 x1 x2 x3;intro w4 HB4 HX4 x0 x1 x2 x3)
  | (refine Ry7 ?_;clear x0 x1 x2 x3;intro w5 HB5 HX5 x0 x1 x2 x3)
  | (refine RFC ?_;clear x0 x1 x2 x3;intro w6 HB6 HX6 x0 x1 x2 x3)
  | (refine RNO ?_;clear x0 x1 x2 x3;intro w7 HB7 HX7 x0 x1 x2 x3)
  | fail)
 go_ret2
 exact⟨rfl,HB7.o⟩

theorem qPx {H:AuH}{n c:Nat}(HV:HeapV H n c)(ad:Addr)(hr:∀ i,i<5->H.rule i)(hno:¬ H.rule 5)(w:World)(hv:IsVals w ad n H.V) :
  Calls Tryz.prog 106 #[.agg #[.int .i64 (H.t:Int),.int .i64 (H.p:Int),.int .i64 (H.s:Int)],.slice (some ad) n c] w fun e w'=>e = .returned (.tuple #[.int .i64 6,.bool false])/\Below w.heap.size w w':=by
 have HVL:=qh hv
 have HX0:=qh (Held.new w 23 #[.int .i64 (H.t:Int),.int .i64 (H.p:Int),.int .i64 (H.s:Int)])
 obtain⟨c0,c1,c2⟩:=HX0.o.three
 have HBW:=qh (Bnew (B0 w) (.cells #[.int .i64 (H.t:Int),.int .i64 (H.p:Int),.int .i64 (H.s:Int)] 23))
 have HRI:=qh HV.right
 have HLC:qH (lC H.t H.p H.s=(n:Int)):=qh (by have:=(qVu HV.right).5;have:=HV.len;omega)
 have HR1:=qh (fun (W:World) (hv:IsVals W ad n H.V)=>qIG HV ad true ⟨fun _=>hr 1 qo,fun _=>rfl⟩ W hv)
 have HR2:=qh (fun (W:World) (hv:IsVals W ad n H.V)=>qY3 HV (hr 1 qo) ad true ⟨fun _=>hr 2 qo,fun _=>rfl⟩ W hv)
 have HR3:=qh (fun (W:World) (hv:IsVals W ad n H.V)=>qVH HV (hr 1 qo) ad true ⟨fun _=>hr 3 qo,fun _=>rfl⟩ W hv)
 have HR4:=qh (fun (W:World) (hv:IsVals W ad n H.V)=>qPG HV ad true ⟨fun _=>hr 4 qo,fun _=>rfl⟩ W hv)
 have HR5:=qh (fun (W:World) (hv:IsVals W ad n H.V)=>qJ0 HV ad false ⟨fun h=>(by cases h),fun h=>absurd h hno⟩ W hv)
 have hn:=HV.nums
 have hcx:c<=9223372036854775807:=hn.2.2.2.2.2.2.2.2
 have hni:n<=6238:=hn.2.2.2.2.2.2.1
 have hnc:=HV.cap
 clear hv hr hno hn
 go_enter Tryz.func106,Tryz.ntmps106
 go_wp2_with (first
  | (refine RiX ?_;clear c0 c1 c2;intro w2 HB2 HX2 c0 c1 c2)
  | (refine Rye ?_;clear c0 c1 c2;intro w3 HB3 HX3 c0 c1 c2 x0 x1 x2 x3)
  | (refine RH5 ?_;clear x0 x1 x2 x3;intro w4 HB4 HX4 x0 x1 x2 x3)
  | (refine Ry7 ?_;clear x0 x1 x2 x3;intro w5 HB5 HX5 x0 x1 x2 x3)
  | (refine RFC ?_;clear x0 x1 x2 x3;intro w6 HB6 HX6 x0 x1 x2 x3)
  | (refine RNO ?_;clear x0 x1 x2 x3;intro w7 HB7 HX7 x0 x1 x2 x3)
  | (refine RRm ?_;clear x0 x1 x2 x3;intro w8 HB8 HX8 x0 x1 x2 x3)
  | fail)
 go_ret2
 exact⟨rfl,HB8.o⟩

theorem qWo {H:AuH}{n c:Nat}(HV:HeapV H n c)(ad:Addr)(hr:∀ i,i<6->H.rule i)(hno:¬ H.rule 6)(w:World)(hv:IsVals w ad n H.V) :
  Calls Tryz.prog 106 #[.agg #[.int .i64 (H.t:Int),.int .i64 (H.p:Int),.int .i64 (H.s:Int)],.slice (some ad) n c] w fun e w'=>e = .returned (.tuple #[.int .i64 7,.bool false])/\Below w.heap.size w w':=by
 have HVL:=qh hv
 have HX0:=qh (Held.new w 23 #[.int .i64 (H.t:Int),.int .i64 (H.p:Int),.int .i64 (H.s:Int)])
 obtain⟨c0,c1,c2⟩:=HX0.o.three
 have HBW:=qh (Bnew (B0 w) (.cells #[.int .i64 (H.t:Int),.int .i64 (H.p:Int),.int .i64 (H.s:Int)] 23))
 have HRI:=qh HV.right
 have HLC:qH (lC H.t H.p H.s=(n:Int)):=qh (by have:=(qVu HV.right).5;have:=HV.len;omega)
 have HR1:=qh (fun (W:World) (hv:IsVals W ad n H.V)=>qIG HV ad true ⟨fun _=>hr 1 qo,fun _=>rfl⟩ W hv)
 have HR2:=qh (fun (W:World) (hv:IsVals W ad n H.V)=>qY3 HV (hr 1 qo) ad true ⟨fun _=>hr 2 qo,fun _=>rfl⟩ W hv)
 have HR3:=qh (fun (W:World) (hv:IsVals W ad n H.V)=>qVH HV (hr 1 qo) ad true ⟨fun _=>hr 3 qo,fun _=>rfl⟩ W hv)
 have HR4:=qh (fun (W:World) (hv:IsVals W ad n H.V)=>qPG HV ad true ⟨fun _=>hr 4 qo,fun _=>rfl⟩ W hv)
 have HR5:=qh (fun (W:World) (hv:IsVals W ad n H.V)=>qJ0 HV ad true ⟨fun _=>hr 5 qo,fun _=>rfl⟩ W hv)
 have HR6:=qh (fun (W:World) (hv:IsVals W ad n H.V)=>qFV HV (hr 4 qo) ad false ⟨fun h=>(by cases h),fun h=>absurd h hno⟩ W hv)
 have hn:=HV.nums
 have hcx:c<=9223372036854775807:=hn.2.2.2.2.2.2.2.2
 have hni:n<=6238:=hn.2.2.2.2.2.2.1
 have hnc:=HV.cap
 clear hv hr hno hn
 go_enter Tryz.func106,Tryz.ntmps106
 go_wp2_with (first
  | (refine RiX ?_;clear c0 c1 c2;intro w2 HB2 HX2 c0 c1 c2)
  | (refine Rye ?_;clear c0 c1 c2;intro w3 HB3 HX3 c0 c1 c2 x0 x1 x2 x3)
  | (refine RH5 ?_;clear x0 x1 x2 x3;intro w4 HB4 HX4 x0 x1 x2 x3)
  | (refine Ry7 ?_;clear x0 x1 x2 x3;intro w5 HB5 HX5 x0 x1 x2 x3)
  | (refine RFC ?_;clear x0 x1 x2 x3;intro w6 HB6 HX6 x0 x1 x2 x3)
  | (refine RNO ?_;clear x0 x1 x2 x3;intro w7 HB7 HX7 x0 x1 x2 x3)
  | (refine RRm ?_;clear x0 x1 x2 x3;intro w8 HB8 HX8 x0 x1 x2 x3)
  | (refine Rfm ?_;clear x0 x1 x2 x3;intro w9 HB9 HX9 x0 x1 x2 x3)
  | fail)
 go_ret2
 exact⟨rfl,HB9.o⟩

theorem qBK {H:AuH}{n c:Nat}(HV:HeapV H n c)(ad:Addr)(hr:∀ i,i<7->H.rule i)(hno:¬ H.rule 7)(w:World)(hv:IsVals w ad n H.V) :
  Calls Tryz.prog 106 #[.agg #[.int .i64 (H.t:Int),.int .i64 (H.p:Int),.int .i64 (H.s:Int)],.slice (some ad) n c] w fun e w'=>e = .returned (.tuple #[.int .i64 8,.bool false])/\Below w.heap.size w w':=by
 have HVL:=qh hv
 have HX0:=qh (Held.new w 23 #[.int .i64 (H.t:Int),.int .i64 (H.p:Int),.int .i64 (H.s:Int)])
 obtain⟨c0,c1,c2⟩:=HX0.o.three
 have HBW:=qh (Bnew (B0 w) (.cells #[.int .i64 (H.t:Int),.int .i64 (H.p:Int),.int .i64 (H.s:Int)] 23))
 have HRI:=qh HV.right
 have HLC:qH (lC H.t H.p H.s=(n:Int)):=qh (by have:=(qVu HV.right).5;have:=HV.len;omega)
 have HR1:=qh (fun (W:World) (hv:IsVals W ad n H.V)=>qIG HV ad true ⟨fun _=>hr 1 qo,fun _=>rfl⟩ W hv)
 have HR2:=qh (fun (W:World) (hv:IsVals W ad n H.V)=>qY3 HV (hr 1 qo) ad true ⟨fun _=>hr 2 qo,fun _=>rfl⟩ W hv)
 have HR3:=qh (fun (W:World) (hv:IsVals W ad n H.V)=>qVH HV (hr 1 qo) ad true ⟨fun _=>hr 3 qo,fun _=>rfl⟩ W hv)
 have HR4:=qh (fun (W:World) (hv:IsVals W ad n H.V)=>qPG HV ad true ⟨fun _=>hr 4 qo,fun _=>rfl⟩ W hv)
 have HR5:=qh (fun (W:World) (hv:IsVals W ad n H.V)=>qJ0 HV ad true ⟨fun _=>hr 5 qo,fun _=>rfl⟩ W hv)
 have HR6:=qh (fun (W:World) (hv:IsVals W ad n H.V)=>qFV HV (hr 4 qo) ad true ⟨fun _=>hr 6 qo,fun _=>rfl⟩ W hv)
 have HR7:=qh (fun (W:World) (hv:IsVals W ad n H.V)=>qKJ HV (hr 4 qo) ad false ⟨fun h=>(by cases h),fun h=>absurd h hno⟩ W hv)
 have hn:=HV.nums
 have hcx:c<=9223372036854775807:=hn.2.2.2.2.2.2.2.2
 have hni:n<=6238:=hn.2.2.2.2.2.2.1
 have hnc:=HV.cap
 clear hv hr hno hn
 go_enter Tryz.func106,Tryz.ntmps106
 go_wp2_with (first
  | (refine RiX ?_;clear c0 c1 c2;intro w2 HB2 HX2 c0 c1 c2)
  | (refine Rye ?_;clear c0 c1 c2;intro w3 HB3 HX3 c0 c1 c2 x0 x1 x2 x3)
  | (refine RH5 ?_;clear x0 x1 x2 x3;intro w4 HB4 HX4 x0 x1 x2 x3)
  | (refine Ry7 ?_;clear x0 x1 x2 x3;intro w5 HB5 HX5 x0 x1 x2 x3)
  | (refine RFC ?_;clear x0 x1 x2 x3;intro w6 HB6 HX6 x0 x1 x2 x3)
  | (refine RNO ?_;clear x0 x1 x2 x3;intro w7 HB7 HX7 x0 x1 x2 x3)
  | (refine RRm ?_;clear x0 x1 x2 x3;intro w8 HB8 HX8 x0 x1 x2 x3)
  | (refine Rfm ?_;clear x0 x1 x2 x3;intro w9 HB9 HX9 x0 x1 x2 x3)
  | (refine RCS ?_;clear x0 x1 x2 x3;intro w10 HB10 HX10 x0 x1 x2 x3)
  | fail)
 go_ret2
 exact⟨rfl,HB10.o⟩

theorem qZ8 {H:AuH}{n c:Nat}(HV:HeapV H n c)(ad:Addr)(hr:∀ i,i<8->H.rule i)(hno:¬ H.rule 8)(w:World)(hv:IsVals w ad n H.V) :
  Calls Tryz.prog 106 #[.agg #[.int .i64 (H.t:Int),.int .i64 (H.p:Int),.int .i64 (H.s:Int)],.slice (some ad) n c] w fun e w'=>e = .returned (.tuple #[.int .i64 9,.bool false])/\Below w.heap.size w w':=by
 have HVL:=qh hv
 have HX0:=qh (Held.new w 23 #[.int .i64 (H.t:Int),.int .i64 (H.p:Int),.int .i64 (H.s:Int)])
 obtain⟨c0,c1,c2⟩:=HX0.o.three
 have HBW:=qh (Bnew (B0 w) (.cells #[.int .i64 (H.t:Int),.int .i64 (H.p:Int),.int .i64 (H.s:Int)] 23))
 have HRI:=qh HV.right
 have HLC:qH (lC H.t H.p H.s=(n:Int)):=qh (by have:=(qVu HV.right).5;have:=HV.len;omega)
 have HR1:=qh (fun (W:World) (hv:IsVals W ad n H.V)=>qIG HV ad true ⟨fun _=>hr 1 qo,fun _=>rfl⟩ W hv)
 have HR2:=qh (fun (W:World) (hv:IsVals W ad n H.V)=>qY3 HV (hr 1 qo) ad true ⟨fun _=>hr 2 qo,fun _=>rfl⟩ W hv)
 have HR3:=qh (fun (W:World) (hv:IsVals W ad n H.V)=>qVH HV (hr 1 qo) ad true ⟨fun _=>hr 3 qo,fun _=>rfl⟩ W hv)
 have HR4:=qh (fun (W:World) (hv:IsVals W ad n H.V)=>qPG HV ad true ⟨fun _=>hr 4 qo,fun _=>rfl⟩ W hv)
 have HR5:=qh (fun (W:World) (hv:IsVals W ad n H.V)=>qJ0 HV ad true ⟨fun _=>hr 5 qo,fun _=>rfl⟩ W hv)
 have HR6:=qh (fun (W:World) (hv:IsVals W ad n H.V)=>qFV HV (hr 4 qo) ad true ⟨fun _=>hr 6 qo,fun _=>rfl⟩ W hv)
 have HR7:=qh (fun (W:World) (hv:IsVals W ad n H.V)=>qKJ HV (hr 4 qo) ad true ⟨fun _=>hr 7 qo,fun _=>rfl⟩ W hv)
 have HR8:=qh (fun (W:World) (hv:IsVals W ad n H.V)=>qBB HV (hr 4 qo) ad false ⟨fun h=>(by cases h),fun h=>absurd h hno⟩ W hv)
 have hn:=HV.nums
 have hcx:c<=9223372036854775807:=hn.2.2.2.2.2.2.2.2
 have hni:n<=6238:=hn.2.2.2.2.2.2.1
 have hnc:=HV.cap
 clear hv hr hno hn
 go_enter Tryz.func106,Tryz.ntmps106
 go_wp2_with (first
  | (refine RiX ?_;clear c0 c1 c2;intro w2 HB2 HX2 c0 c1 c2)
  | (refine Rye ?_;clear c0 c1 c2;intro w3 HB3 HX3 c0 c1 c2 x0 x1 x2 x3)
  | (refine RH5 ?_;clear x0 x1 x2 x3;intro w4 HB4 HX4 x0 x1 x2 x3)
  | (refine Ry7 ?_;clear x0 x1 x2 x3;intro w5 HB5 HX5 x0 x1 x2 x3)
  | (refine RFC ?_;clear x0 x1 x2 x3;intro w6 HB6 HX6 x0 x1 x2 x3)
  | (refine RNO ?_;clear x0 x1 x2 x3;intro w7 HB7 HX7 x0 x1 x2 x3)
  | (refine RRm ?_;clear x0 x1 x2 x3;intro w8 HB8 HX8 x0 x1 x2 x3)
  | (refine Rfm ?_;clear x0 x1 x2 x3;intro w9 HB9 HX9 x0 x1 x2 x3)
  | (refine RCS ?_;clear x0 x1 x2 x3;intro w10 HB10 HX10 x0 x1 x2 x3)
  | (refine Rwb ?_;clear x0 x1 x2 x3;intro w11 HB11 HX11 x0 x1 x2 x3)
  | fail)
 go_ret2
 exact⟨rfl,HB11.o⟩

theorem qV0 {H:AuH}{n c:Nat}(HV:HeapV H n c)(ad:Addr)(hr:∀ i,i<9->H.rule i)(hno:¬ H.rule 9)(w:World)(hv:IsVals w ad n H.V) :
  Calls Tryz.prog 106 #[.agg #[.int .i64 (H.t:Int),.int .i64 (H.p:Int),.int .i64 (H.s:Int)],.slice (some ad) n c] w fun e w'=>e = .returned (.tuple #[.int .i64 10,.bool false])/\Below w.heap.size w w':=by
 have HVL:=qh hv
 have HX0:=qh (Held.new w 23 #[.int .i64 (H.t:Int),.int .i64 (H.p:Int),.int .i64 (H.s:Int)])
 obtain⟨c0,c1,c2⟩:=HX0.o.three
 have HBW:=qh (Bnew (B0 w) (.cells #[.int .i64 (H.t:Int),.int .i64 (H.p:Int),.int .i64 (H.s:Int)] 23))
 have HRI:=qh HV.right
 have HLC:qH (lC H.t H.p H.s=(n:Int)):=qh (by have:=(qVu HV.right).5;have:=HV.len;omega)
 have HR1:=qh (fun (W:World) (hv:IsVals W ad n H.V)=>qIG HV ad true ⟨fun _=>hr 1 qo,fun _=>rfl⟩ W hv)
 have HR2:=qh (fun (W:World) (hv:IsVals W ad n H.V)=>qY3 HV (hr 1 qo) ad true ⟨fun _=>hr 2 qo,fun _=>rfl⟩ W hv)
 have HR3:=qh (fun (W:World) (hv:IsVals W ad n H.V)=>qVH HV (hr 1 qo) ad true ⟨fun _=>hr 3 qo,fun _=>rfl⟩ W hv)
 have HR4:=qh (fun (W:World) (hv:IsVals W ad n H.V)=>qPG HV ad true ⟨fun _=>hr 4 qo,fun _=>rfl⟩ W hv)
 have HR5:=qh (fun (W:World) (hv:IsVals W ad n H.V)=>qJ0 HV ad true ⟨fun _=>hr 5 qo,fun _=>rfl⟩ W hv)
 have HR6:=qh (fun (W:World) (hv:IsVals W ad n H.V)=>qFV HV (hr 4 qo) ad true ⟨fun _=>hr 6 qo,fun _=>rfl⟩ W hv)
 have HR7:=qh (fun (W:World) (hv:IsVals W ad n H.V)=>qKJ HV (hr 4 qo) ad true ⟨fun _=>hr 7 qo,fun _=>rfl⟩ W hv)
 have HR8:=qh (fun (W:World) (hv:IsVals W ad n H.V)=>qBB HV (hr 4 qo) ad true ⟨fun _=>hr 8 qo,fun _=>rfl⟩ W hv)
 have HR9:=qh (fun (W:World) (hv:IsVals W ad n H.V)=>qNX HV ad false ⟨fun h=>(by cases h),fun h=>absurd h hno⟩ W hv)
 have hn:=HV.nums
 have hcx:c<=9223372036854775807:=hn.2.2.2.2.2.2.2.2
 have hni:n<=6238:=hn.2.2.2.2.2.2.1
 have hnc:=HV.cap
 clear hv hr hno hn
 go_enter Tryz.func106,Tryz.ntmps106
 go_wp2_with (first
  | (refine RiX ?_;clear c0 c1 c2;intro w2 HB2 HX2 c0 c1 c2)
  | (refine Rye ?_;clear c0 c1 c2;intro w3 HB3 HX3 c0 c1 c2 x0 x1 x2 x3)
  | (refine RH5 ?_;clear x0 x1 x2 x3;intro w4 HB4 HX4 x0 x1 x2 x3)
  | (refine Ry7 ?_;clear x0 x1 x2 x3;intro w5 HB5 HX5 x0 x1 x2 x3)
  | (refine RFC ?_;clear x0 x1 x2 x3;intro w6 HB6 HX6 x0 x1 x2 x3)
  | (refine RNO ?_;clear x0 x1 x2 x3;intro w7 HB7 HX7 x0 x1 x2 x3)
  | (refine RRm ?_;clear x0 x1 x2 x3;intro w8 HB8 HX8 x0 x1 x2 x3)
  | (refine Rfm ?_;clear x0 x1 x2 x3;intro w9 HB9 HX9 x0 x1 x2 x3)
  | (refine RCS ?_;clear x0 x1 x2 x3;intro w10 HB10 HX10 x0 x1 x2 x3)
  | (refine Rwb ?_;clear x0 x1 x2 x3;intro w11 HB11 HX11 x0 x1 x2 x3)
  | (refine R8l ?_;clear x0 x1 x2 x3;intro w12 HB12 HX12 x0 x1 x2 x3)
  | fail)
 go_ret2
 exact⟨rfl,HB12.o⟩

theorem qI9 {H:AuH}{n c:Nat}(HV:HeapV H n c)(ad:Addr)(hr:∀ i,i<10->H.rule i)(w:World)(hv:IsVals w ad n H.V) :
  Calls Tryz.prog 106 #[.agg #[.int .i64 (H.t:Int),.int .i64 (H.p:Int),.int .i64 (H.s:Int)],.slice (some ad) n c] w fun e w'=>e = .returned (.tuple #[.int .i64 0,.bool true])/\Below w.heap.size w w':=by
 have HVL:=qh hv
 have HX0:=qh (Held.new w 23 #[.int .i64 (H.t:Int),.int .i64 (H.p:Int),.int .i64 (H.s:Int)])
 obtain⟨c0,c1,c2⟩:=HX0.o.three
 have HBW:=qh (Bnew (B0 w) (.cells #[.int .i64 (H.t:Int),.int .i64 (H.p:Int),.int .i64 (H.s:Int)] 23))
 have HRI:=qh HV.right
 have HLC:qH (lC H.t H.p H.s=(n:Int)):=qh (by have:=(qVu HV.right).5;have:=HV.len;omega)
 have HR1:=qh (fun (W:World) (hv:IsVals W ad n H.V)=>qIG HV ad true ⟨fun _=>hr 1 qo,fun _=>rfl⟩ W hv)
 have HR2:=qh (fun (W:World) (hv:IsVals W ad n H.V)=>qY3 HV (hr 1 qo) ad true ⟨fun _=>hr 2 qo,fun _=>rfl⟩ W hv)
 have HR3:=qh (fun (W:World) (hv:IsVals W ad n H.V)=>qVH HV (hr 1 qo) ad true ⟨fun _=>hr 3 qo,fun _=>rfl⟩ W hv)
 have HR4:=qh (fun (W:World) (hv:IsVals W ad n H.V)=>qPG HV ad true ⟨fun _=>hr 4 qo,fun _=>rfl⟩ W hv)
 have HR5:=qh (fun (W:World) (hv:IsVals W ad n H.V)=>qJ0 HV ad true ⟨fun _=>hr 5 qo,fun _=>rfl⟩ W hv)
 have HR6:=qh (fun (W:World) (hv:IsVals W ad n H.V)=>qFV HV (hr 4 qo) ad true ⟨fun _=>hr 6 qo,fun _=>rfl⟩ W hv)
 have HR7:=qh (fun (W:World) (hv:IsVals W ad n H.V)=>qKJ HV (hr 4 qo) ad true ⟨fun _=>hr 7 qo,fun _=>rfl⟩ W hv)
 have HR8:=qh (fun (W:World) (hv:IsVals W ad n H.V)=>qBB HV (hr 4 qo) ad true ⟨fun _=>hr 8 qo,fun _=>rfl⟩ W hv)
 have HR9:=qh (fun (W:World) (hv:IsVals W ad n H.V)=>qNX HV ad true ⟨fun _=>hr 9 qo,fun _=>rfl⟩ W hv)
 have hn:=HV.nums
 have hcx:c<=9223372036854775807:=hn.2.2.2.2.2.2.2.2
 have hni:n<=6238:=hn.2.2.2.2.2.2.1
 have hnc:=HV.cap
 clear hv hr hn
 go_enter Tryz.func106,Tryz.ntmps106
 go_wp2_with (first
  | (refine RiX ?_;clear c0 c1 c2;intro w2 HB2 HX2 c0 c1 c2)
  | (refine Rye ?_;clear c0 c1 c2;intro w3 HB3 HX3 c0 c1 c2 x0 x1 x2 x3)
  | (refine RH5 ?_;clear x0 x1 x2 x3;intro w4 HB4 HX4 x0 x1 x2 x3)
  | (refine Ry7 ?_;clear x0 x1 x2 x3;intro w5 HB5 HX5 x0 x1 x2 x3)
  | (refine RFC ?_;clear x0 x1 x2 x3;intro w6 HB6 HX6 x0 x1 x2 x3)
  | (refine RNO ?_;clear x0 x1 x2 x3;intro w7 HB7 HX7 x0 x1 x2 x3)
  | (refine RRm ?_;clear x0 x1 x2 x3;intro w8 HB8 HX8 x0 x1 x2 x3)
  | (refine Rfm ?_;clear x0 x1 x2 x3;intro w9 HB9 HX9 x0 x1 x2 x3)
  | (refine RCS ?_;clear x0 x1 x2 x3;intro w10 HB10 HX10 x0 x1 x2 x3)
  | (refine Rwb ?_;clear x0 x1 x2 x3;intro w11 HB11 HX11 x0 x1 x2 x3)
  | (refine R8l ?_;clear x0 x1 x2 x3;intro w12 HB12 HX12 x0 x1 x2 x3)
  | fail)
 go_ret2
 exact⟨rfl,HB12.o⟩

def XCheckIs (w:World) (t q s:Int) (A:Option Addr) (n c:Nat) (m:Nat) (b:Bool):Prop :=
 ∀ W,Below w.heap.size w W->Calls Tryz.prog 106 #[.agg #[.int .i64 t,.int .i64 q,.int .i64 s],.slice A n c] W fun e w'=>e = .returned (.tuple #[.int .i64 (m:Int),.bool b])/\Below W.heap.size W w'
theorem XCheckIs.grown {w w1:World}{t q s:Int}{A:Option Addr}{n c m:Nat}{b:Bool}(h:XCheckIs w t q s A n c m b)(hb:Below w.heap.size w w1):XCheckIs w1 t q s A n c m b :=
 fun W hW=>h W (Bgo hb hW)
theorem qTG (w:World)(t q s:Int)(A:Option Addr)(n c:Nat)(hnc:n<=c)(hc:c<=maxLen)(h:¬ (lC t q s≠0/\(n:Int)=lC t q s)):XCheckIs w t q s A n c 1 false :=
 fun W _=>qA2 t q s A n c hnc hc h W
theorem qZU {H:AuH}{n c:Nat}(HV:HeapV H n c)(ad:Addr)(w:World)(hv:IsVals w ad n H.V){m:Nat}{b:Bool}(h:H.Told m b):XCheckIs w H.t H.p H.s (some ad) n c m b:=by
 intro W hW
 rcases h with ⟨rfl,rfl,hr⟩|⟨rfl,k,rfl,h1,h2,hr,hno⟩
 ·exact qI9 HV ad hr W (hv.below hW)
 ·rcases(by omega:k=1\/k=2\/k=3\/k=4\/k=5\/k=6\/k=7\/k=8\/k=9) with rfl|rfl|rfl|rfl|rfl|rfl|rfl|rfl|rfl
  ·exact qSe HV ad hr hno W (hv.below hW)
  ·exact qSi HV ad hr hno W (hv.below hW)
  ·exact qQ2 HV ad hr hno W (hv.below hW)
  ·exact qCV HV ad hr hno W (hv.below hW)
  ·exact qPx HV ad hr hno W (hv.below hW)
  ·exact qWo HV ad hr hno W (hv.below hW)
  ·exact qBK HV ad hr hno W (hv.below hW)
  ·exact qZ8 HV ad hr hno W (hv.below hW)
  ·exact qV0 HV ad hr hno W (hv.below hW)
end
section
theorem qHm (t q s:Int)(A:Option Addr)(n c m:Nat)(b:Bool)(w:World)(hC:XCheckIs w t q s A n c m b) :
  Calls Tryz.prog 65 #[.agg #[.int .i64 t,.int .i64 q,.int .i64 s],.slice A n c] w fun e w'=>e = .returned (.bool b)/\Below w.heap.size w w':=by
 have HX0:=qh (Held.new w 23 #[.int .i64 t,.int .i64 q,.int .i64 s])
 obtain⟨c0,c1,c2⟩:=HX0.o.three
 have HBW:=qh (Bnew (B0 w) (.cells #[.int .i64 t,.int .i64 q,.int .i64 s] 23))
 have HCK:=qh (hC _ HBW.o)
 clear hC
 go_enter Tryz.func65,Tryz.ntmps65
 go_wp2_with (first
  | (go_at_call 106;refine HCK.o.mono ?_;rintro e w2 ⟨rfl,hb2⟩;have HB2:=qh (Bgo HBW.o hb2);clear hb2)
  | fail)
 go_ret
 exact⟨rfl,HB2.o⟩

theorem qAK {H:AuH}{n c:Nat}(HV:HeapV H n c)(ad:Addr)(m:Nat)(w:World)(hv:IsVals w ad n H.V)(hC:XCheckIs w H.t H.p H.s (some ad) n c m true) :
  Calls Tryz.prog 68 #[.agg #[.int .i64 (H.t:Int),.int .i64 (H.p:Int),.int .i64 (H.s:Int)],.slice (some ad) n c] w fun e w'=>∃ u,e = .returned u/\w'.ownsRow w.heap.size 128 3 u H.parts.length (ptVs H.parts)/\Below w.heap.size w w':=by
 have HX0:=qh (Held.new w 23 #[.int .i64 (H.t:Int),.int .i64 (H.p:Int),.int .i64 (H.s:Int)])
 obtain⟨c0,c1,c2⟩:=HX0.o.three
 have HBW:=qh (Bnew (B0 w) (.cells #[.int .i64 (H.t:Int),.int .i64 (H.p:Int),.int .i64 (H.s:Int)] 23))
 have HSO:=qh (qHm (H.t:Int) (H.p:Int) (H.s:Int) (some ad) n c m true _ (hC.grown HBW.o))
 have HPP:=qh (fun (W:World) (h1:Below w.heap.size w W)=>qIF HV ad W (hv.below h1))
 unfold hpV at HPP
 clear hC hv
 go_enter Tryz.func68,Tryz.ntmps68
 go_wp2_with (first
  | (refine Rjx ?_;clear c0 c1 c2;intro w2 HX2 HB2 HB3 c0 c1 c2 x0 x1 x2 x3)
  | (go_at_call 108;refine(HPP.o _ HB3.o).mono ?_;rintro e w4 ⟨u,rfl,hown4,hb4⟩;have HO4:=qh hown4;have HB4:=qh (Bgo HB3.o hb4);clear hown4 hb4)
  | fail)
 go_ret
 exact⟨u,rfl,qIX HO4.o HB3.o.size,HB4.o⟩

theorem qIn {H:AuH}{n c:Nat}(HV:HeapV H n c)(ad:Addr)(m:Nat)(w:World)(hv:IsVals w ad n H.V)(hC:XCheckIs w H.t H.p H.s (some ad) n c m true) :
  Calls Tryz.prog 66 #[.agg #[.int .i64 (H.t:Int),.int .i64 (H.p:Int),.int .i64 (H.s:Int)],.slice (some ad) n c] w fun e w'=>∃ u,e = .returned u/\w'.ownsRow w.heap.size 64 2 u (blocksOf H.parts).length (bkVs (blocksOf H.parts))/\Below w.heap.size w w':=by
 have HX0:=qh (Held.new w 23 #[.int .i64 (H.t:Int),.int .i64 (H.p:Int),.int .i64 (H.s:Int)])
 obtain⟨c0,c1,c2⟩:=HX0.o.three
 have HBW:=qh (Bnew (B0 w) (.cells #[.int .i64 (H.t:Int),.int .i64 (H.p:Int),.int .i64 (H.s:Int)] 23))
 have HSO:=qh (qHm (H.t:Int) (H.p:Int) (H.s:Int) (some ad) n c m true _ (hC.grown HBW.o))
 have HPP:=qh (fun (W:World) (h1:Below w.heap.size w W)=>qGF HV ad W (hv.below h1))
 unfold hpV at HPP
 clear hC hv
 go_enter Tryz.func66,Tryz.ntmps66
 go_wp2_with (first
  | (refine Rjx ?_;clear c0 c1 c2;intro w2 HX2 HB2 HB3 c0 c1 c2 x0 x1 x2 x3)
  | (go_at_call 107;refine(HPP.o _ HB3.o).mono ?_;rintro e w4 ⟨u,rfl,hown4,hb4⟩;have HO4:=qh hown4;have HB4:=qh (Bgo HB3.o hb4);clear hown4 hb4)
  | fail)
 go_ret
 exact⟨u,rfl,qIX HO4.o HB3.o.size,HB4.o⟩
end
section
section
variable {H : Type} {enc : TypeId × Value -> H} {P : Program} {w : World} {base : Nat} {sp : Nat -> Bool} {held : Bool}
theorem qV8 {t e:TypeId}{v:Value}{d:DataW H}{p:List MemPlace}(ht:P.underlying t=some (.slice e))(he:P.underlying e=some (.int .u32))(hc:P.cellsOf e=1)
  {r:Reach} {b0:Nat} (hval:Value.okWide P w r b0 t v) (h:DataW.Trod enc P w base sp held t v d p) (hlt:∀ x∈p,x.block<w.heap.size) :
  ∃ (A:Option Addr) (c:Nat) (ws:List Nat),v = .slice A ws.length c/\ws.length<=c/\c<=maxLen/\(∀ x∈ws,x<2^32)/\Reads w w.heap.size 1 A ws.length (valVs ws):=by
 obtain⟨fuel,hf⟩:=h
 have hv:v.cells=#[v]:=by
  obtain⟨A,n,c,rfl⟩:=okWide_slice ht hval
  rfl
 rw[hv] at hf
 rcases open_ints ht he hc hf with ⟨hcs,_⟩|⟨a,len,cap,zs,hcs,hb,hl,hm,hz,hx,hcell,hwf⟩
 ·exact MsV
 ·injection hcs with hcs
  subst hcs
  have hlz:len<=zs.length:=by rw[hz];split <;> omega
  have hlen:((zs.take len).map Int.toNat).length=len:=qs
  refine⟨some a,cap,(zs.take len).map Int.toNat,by rw[hlen],by rw[hlen];exact hl,hm,?_,?_⟩
  ·intro x hx
   obtain⟨z,hz1,rfl⟩:=List.mem_map.1 hx
   obtain⟨n,rfl,hn⟩:=qNK (hwf z (List.mem_of_mem_take hz1))
   simpa using hn
  ·refine⟨by rw[qBt];omega,fun hn=>?_⟩
   rw[hlen] at hn
   refine⟨a,rfl,?_,fun j u hu=>?_⟩
   ·exact MfV
   ·unfold valVs at hu
    rw[List.map_map] at hu
    have hj:j<len:=by
     rcases Nat.lt_or_ge j len with h1|h1
     ·exact h1
     ·rw[List.getElem?_eq_none qs] at hu;cases hu
    rw[List.getElem?_map,List.getElem?_take_of_lt hj,List.getElem?_eq_getElem qo] at hu
    simp only[Option.map_some,Option.some.injEq,Function.comp_apply] at hu
    subst hu
    rw[hcell j qo]
    have hw:=hwf zs[j] (List.getElem_mem _)
    obtain⟨n,hn1,_⟩:=qNK hw
    exact MM6
end
end
section
theorem qFz (W:World)(t q s:Int)(A:Option Addr)(c:Nat)(vals:List Nat)(hnc:vals.length<=c)(hcm:c<=maxLen)(h32:∀ x∈vals,x<2^32)(hR:Reads W W.heap.size 1 A vals.length (valVs vals))(h:lC t q s≠0/\(vals.length:Int)=lC t q s) :
  ∃ (H:AuH) (ad:Addr),t=H.t/\q=H.p/\s=H.s/\A=some ad/\(∀ i,H.V i=vals.getD i 0)/\HeapV H vals.length c/\IsVals W ad vals.length H.V:=by
 cases hr:rightB t q s
 ·exact absurd (qJj hr).5 h.1
 ·have hn:=(qQB t q s).1 hr
  have hl:=(qVu hr).5
  have hlen:0<vals.length:=by have:=h.2;rw[hl] at this;omega
  obtain⟨ad,rfl,hb,hc⟩:=hR.2 hlen
  have hx:∀ i,i<vals.length->vals[i]?=some (vals.getD i 0):=fun i hi=>by simp[List.getD,List.getElem?_eq_getElem hi]
  refine⟨⟨t.toNat,q.toNat,s.toNat,fun i=>vals.getD i 0⟩,ad,by show t=_;simp;omega,by show q=_;simp;omega,by show s=_;simp;omega,rfl,fun i=>rfl,⟨?_,?_,hnc,hcm,fun i hi=>?_⟩,hb,fun i hi=>?_⟩
  ·show rightB ((t.toNat:Nat):Int) ((q.toNat:Nat):Int) ((s.toNat:Nat):Int)=true
   rw[show ((t.toNat:Nat):Int)=t by omega,show ((q.toNat:Nat):Int)=q by omega,show ((s.toNat:Nat):Int)=s by omega]
   exact hr
  ·show vals.length=30+4*t.toNat+6*q.toNat
   have:=h.2
   rw[hl] at this
   omega
  ·exact h32 _ (List.mem_of_getElem? (hx i hi))
  ·refine hc i _ ?_
   unfold valVs
   rw[List.getElem?_map,hx i hi]
   rfl
theorem qXV (W:World)(t q s:Int)(A:Option Addr)(c:Nat)(vals:List Nat)(hnc:vals.length<=c)(hcm:c<=maxLen)(h32:∀ x∈vals,x<2^32)(hR:Reads W W.heap.size 1 A vals.length (valVs vals)) :
  (∃ m,XCheckIs W t q s A vals.length c m false)\/∃ (H:AuH) (ad:Addr) (m:Nat),t=H.t/\q=H.p/\s=H.s/\A=some ad/\(∀ i,H.V i=vals.getD i 0)/\HeapV H vals.length c/\IsVals W ad vals.length H.V/\H.Told m true/\XCheckIs W H.t H.p H.s (some ad) vals.length c m true:=by
 by_cases h:lC t q s≠0/\(vals.length:Int)=lC t q s
 ·obtain⟨H,ad,rfl,rfl,rfl,rfl,hV,HV,hv⟩:=qFz W t q s A c vals hnc hcm h32 hR h
  obtain⟨m,b,hto⟩:=H.told_is
  have hX:=qZU HV ad W hv hto
  cases b with
  | true=>exact .inr ⟨H,ad,m,rfl,rfl,rfl,rfl,hV,HV,hv,hto,hX⟩
  | false=>exact .inl ⟨m,hX⟩
 ·exact .inl ⟨1,qTG W t q s A vals.length c hnc hcm h⟩
end
open Go.Maps
section
theorem qAW {H:AuH}{m:Nat}(h:H.Told m true):∀ i,i<10->H.rule i:=by
 rcases h with ⟨_,_,h⟩|⟨h,_⟩
 ·exact h
 ·cases h
end
section
def offB (a:Int) (L:List (Int × Int)):List (Int × Int):=L.filter fun x=>decide (x.1≠a)
theorem qLD {a:Int}{L:List (Int × Int)}(h:∀ x∈L,x.1≠a):offB a L=L:=by
 unfold offB
 rw[List.filter_eq_self]
 exact fun x hx=>decide_eq_true (h x hx)
theorem qGw {X Y:List (Int × Int)}{b:Int × Int}(hX:∀ x∈X,x.1<b.1)(hY:∀ y∈Y,b.1<y.1):offB b.1 (X ++ [b]++Y)=X++Y:=by
 have e:offB b.1 (X ++ [b]++Y)=offB b.1 X++offB b.1 [b]++offB b.1 Y:=by unfold offB;simp
 rw[e,qLD (fun x hx=>by have:=hX x hx;omega),qLD (L:=Y) (fun x hx=>by have:=hY x hx;omega)]
 unfold offB
 simp

section
variable {H : AuH} {n c : Nat} {K : Nat -> Option Nat} {st s' : Vst} {L L' : Nat -> List Nat} {g : Nat -> Nat} {A k e : Nat}
theorem qGU (h:H.Ok L)(hP:H.p<=1024):H.V 1=AuH.sumTo H.liveF H.p/\H.V 1<=32768:=by
 have h1:=(AuH.sums_le (H:=H) H.p hP).2
 have h2:=h.counts.2
 rw[Nat.mod_eq_of_lt qo] at h2
 exact⟨h2,qo⟩
end
section
variable {H : AuH} {n c : Nat} {K : Nat -> Option Nat} {st : Vst} {L L' : Nat -> List Nat} {g : Nat -> Nat} {A k e : Nat}

end
end
section
section
variable {H : AuH} {n c : Nat} {K : Nat -> Option Nat} {st : Vst} {L L' : Nat -> List Nat} {g : Nat -> Nat} {p v : Nat}
structure LiveG (H:AuH) (g:Nat->Nat) (p v:Nat):Prop where
 at_:p<H.p
 kind:H.K p=3
 sub:SubB v (H.cel p 5)
 live_:g (pc H.t p 4)=v
 cells:∀ q b,q<H.p->b<6->b≠2->b≠3->¬ (q=p/\b=4)->g (pc H.t q b)=H.cel q b
 low:∀ i,i=0\/(22<=i/\i<30)->g i=H.V i
 one:g 1+HM.onesTo (H.cel p 4) 32=H.V 1+HM.onesTo v 32
 named:∀ i,i<8->H.V (22+i)≠0->(spotP H.t H.p H.s (H.V (22+i):Int)).toNat=p ->
  v.testBit (slotR H.t H.p H.s (H.Cl p) (spotO H.t H.p H.s (H.V (22+i):Int))).toNat=true
theorem qBW (HV:HeapV H n c)(h:H.Ok L)(W:Work H.t H.p H.s n K st L g)(S:LiveG H g p v):H.Laid (curV n (getV n K st) H.V) L L p 1:=by
 refine RSH ?_;intro hlen hp hc
 have hs:∀ q b,q<H.p->b<6->b≠2->b≠3->¬ (q=p/\b=4)->(H.re (curV n (getV n K st) H.V)).cel q b=H.cel q b:=fun q b hq hb h2 h3 hne=>(hc q b hq hb h2 h3).trans (S.cells q b hq hb h2 h3 hne)
 have h4p:(H.re (curV n (getV n K st) H.V)).cel p 4=v:=by rw[hc p 4 hp qo qo qo,S.live_]
 have hK:∀ q,q<H.p->(H.re (curV n (getV n K st) H.V)).K q=H.K q/\(H.re (curV n (getV n K st) H.V)).ln q=H.ln q/\(H.re (curV n (getV n K st) H.V)).Cl q=H.Cl q/\(H.re (curV n (getV n K st) H.V)).nx q=H.nx q:=fun q hq=>by
  unfold AuH.nx AuH.ln AuH.L AuH.K AuH.Cl
  rw[hs q 0 hq qo qo qo qo]
  exact⟨rfl,rfl,rfl,rfl⟩
 obtain⟨s1,s2,s3⟩:=qXl h hp S.kind
 have hKp:=hK p hp
 have hb:=AuH.sums_le (H:=H) H.p (by have:=HV.fit.nums;omega)
 have hcnt:=h.counts
 have hones:=HM.onesTo_le v 32
 have e3:(H.re (curV n (getV n K st) H.V)).K p=3:=by rw[hKp.1];exact S.kind
 have et:(H.re (curV n (getV n K st) H.V)).tgt p=H.tgt p:=by
  unfold AuH.tgt
  rw[hKp.1,hKp.2.1,hKp.2.2.1,hs p 5 hp qo qo qo qo]
 have hno:∀ q,q<H.p->H.tgt q = -1->∀ hd:Nat,2<=hd->hd<=21->¬ q∈L hd:=fun q hq ht hd h2 h21 hm=>by
  have:=((h.mem hd h2 h21 q).1 hm).2
  omega
 exact {
  cut:=⟨⟨qo,qo,by rw[S.kind];decide,s3⟩,fun q hq a=>hs q 0 hq qo qo qo qo,by rw[e3];decide,fun q a1 a2 _=>by
    obtain rfl:q=p:=qo
    rw[hKp.2.2.2,s2];exact Nat.le_refl _,fun q a1 a2 _ a3=>by
    obtain rfl:q=p:=qo
    rw[hKp.2.2.2,s2] at a3;omega,fun q r a1 a2 _ a3 a4=>by
    obtain rfl:q=p:=qo
    rw[hKp.2.2.2,s2] at a4;omega,fun q a1 a2 a3=>by
    obtain rfl:q=p:=qo
    rw[e3] at a3;omega⟩
  foot:=fun q a1 a2 _=>by
   obtain rfl:q=p:=qo
   obtain⟨f1,f2⟩:=h.feet q hp (by rw[S.kind];decide)
   unfold AuH.Foot
   rw[hKp.2.1,s1] at *
   exact⟨fun r b1 b2=>by omega,by rw[hs _ 1 qo qo qo qo qo];exact f2⟩
  feet:=fun q hq _=>hs q 1 hq qo qo qo qo
  left:=fun q _ _ _=>by rw[e3];decide
  mid:=fun q a1 a2 a3=>by
   obtain rfl:q=p:=qo
   rw[e3] at a3;omega
  right:=fun q a1 a2 a3=>by
   obtain rfl:q=p:=qo
   rw[e3] at a3;omega
  slot:=fun q a1 a2=>by
   obtain rfl:q=p:=qo
   obtain⟨b0,b1,_⟩:=(h.slots q hp).1 S.kind
   unfold AuH.Slot5
   rw[h4p,hs q 5 hp qo qo qo qo,hKp.2.2.1]
   exact⟨fun _=>⟨b0,b1,S.sub⟩,fun a3=>absurd e3 a3⟩
  bits:=fun q hq a=>⟨hs q 4 hq qo qo qo qo,hs q 5 hq qo qo qo qo⟩
  list:=fun hd h2 h21=>W.lists.isL HV h2 h21
  memIn:=fun hd h2 h21 y a1 a2=>by
   obtain rfl:y=p:=qo
   rw[et,h.mem hd h2 h21 y]
   exact⟨fun a=>a.2,fun a=>⟨hp,a⟩⟩
  memOut:=fun hd h2 h21 y a=>Iff.rfl
  bare:=fun q a1 a2 a3=>by
   obtain rfl:q=p:=qo
   rw[et] at a3
   exact W.links hlen hp (hno q hp a3)
  loose:=fun q hq a ht=>by
   obtain⟨b1,b2⟩:=W.links hlen hq (hno q hq ht)
   obtain⟨b3,b4⟩:=h.loose q hq ht
   rw[b1,b2,b3,b4]
   exact⟨rfl,rfl⟩
  free:=by
   rw[(W.low hlen (.inl qo)).trans (S.low 0 (.inl rfl))]
   exact Mm8
  live:=by
   rw[W.low hlen (i:=1) (.inl qo)]
   show g 1+(0+H.liveF (p+0))=H.V 1+(0+(H.re (curV n (getV n K st) H.V)).liveF (p+0))
   rw[Nat.add_zero]
   unfold AuH.liveF
   rw[hKp.1,h4p,S.kind,if_neg (by decide),if_pos rfl,if_neg (by decide),if_pos rfl]
   have:=S.one
   omega
  few:=by
   rw[(W.low hlen (.inl qo)).trans (S.low 0 (.inl rfl)),W.low hlen (i:=1) (.inl qo)]
   obtain⟨c1,c2⟩:=hcnt
   have:=S.one
   exact⟨qo,qo⟩
  roots:=fun i hi=>(W.low hlen (.inr qo)).trans (S.low (22+i) (.inr qo))
  named:=fun i hi hv a1 a2=>by
   obtain⟨b1,b2⟩:=h.roots i hi hv
   have e:(spotP H.t H.p H.s (H.V (22+i):Int)).toNat=p:=qo
   have hn:=S.named i hi hv e
   refine⟨b1,?_⟩
   show ((H.re (curV n (getV n K st) H.V)).K (spotP H.t H.p H.s (H.V (22+i):Int)).toNat=2/\_)\/((H.re (curV n (getV n K st) H.V)).K (spotP H.t H.p H.s (H.V (22+i):Int)).toNat=3/\slotB H.t H.p H.s ((H.re (curV n (getV n K st) H.V)).Cl (spotP H.t H.p H.s (H.V (22+i):Int)).toNat) _=true/\((H.re (curV n (getV n K st) H.V)).cel (spotP H.t H.p H.s (H.V (22+i):Int)).toNat 4).testBit (slotR H.t H.p H.s ((H.re (curV n (getV n K st) H.V)).Cl (spotP H.t H.p H.s (H.V (22+i):Int)).toNat) _).toNat=true)
   rw[e] at b2 ⊢
   rw[hKp.1,hKp.2.2.1,h4p]
   rcases b2 with b2|⟨b2,b3,_⟩
   ·exact .inl b2
   ·exact .inr ⟨b2,b3,hn⟩ }
end
theorem qOL {H H':AuH}{q i:Nat}(hf:H'.first q=H.first q)(hz:H'.zs q=H.zs q)(hi:(H.cel q 4).testBit i=false)(hb:∀ j,(H'.cel q 4).testBit j=((H.cel q 4).testBit j || decide (j=i))) :
  blocksOf (H'.slotsTo q i)=blocksOf (H.slotsTo q i)/\blocksOf [H'.slotPart q i] = [(H.slotA q i,(H.zs q:Int))]/\blocksOf [H.slotPart q i] = [] /\
   ∀ k,∃ r r',H.slotsTo q (i+1+k)=H.slotsTo q i ++ [H.slotPart q i]++r/\H'.slotsTo q (i+1+k)=H'.slotsTo q i ++ [H'.slotPart q i]++r'/\blocksOf r'=blocksOf r:=by
 have one:∀ k,k≠i->blocksOf [H'.slotPart q k]=blocksOf [H.slotPart q k]:=fun k hk=>by
  have h1:=(qHe (H.cel q 5) (H.cel q 4) k).1
  have h2:=(qHe (H'.cel q 5) (H'.cel q 4) k).1
  rw[hb k,decide_eq_false hk,Bool.or_false] at h2
  unfold AuH.slotPart
  rw[hf,hz]
  by_cases hx:(H.cel q 4).testBit k=true
  ·rw[h1.2 hx,h2.2 hx]
  ·rw[qCe (by intro e;exact hx (h2.1 (by have e:((slotKd (H'.cel q 5) (H'.cel q 4) k:Nat):Int)=2:=e;omega))),qCe (by intro e;exact hx (h1.1 (by have e:((slotKd (H.cel q 5) (H.cel q 4) k:Nat):Int)=2:=e;omega)))]
 have low:∀ k,k<=i->blocksOf (H'.slotsTo q k)=blocksOf (H.slotsTo q k):=fun k=>by
  induction k with
  | zero=>intro _;rfl
  | succ k ih=>intro hk;rw[AuH.slotsTo_succ,AuH.slotsTo_succ,qGG,qGG,ih qo,one k qo]
 refine⟨low i (Nat.le_refl _),?_,?_,fun k=>?_⟩
 ·have h2:=(qHe (H'.cel q 5) (H'.cel q 4) i).1
  rw[qId (by show ((slotKd (H'.cel q 5) (H'.cel q 4) i:Nat):Int)=2;rw[h2.2 (by rw[hb i];simp)];rfl)]
  show [(H'.first q+(i:Int)*(H'.zs q:Int),(H'.zs q:Int))]=_
  rw[hf,hz]
  rfl
 ·have h1:=(qHe (H.cel q 5) (H.cel q 4) i).1
  refine qCe fun e=>?_
  have e:((slotKd (H.cel q 5) (H.cel q 4) i:Nat):Int)=2:=e
  have:=h1.1 qo
  rw[hi] at this
  cases this
 ·induction k with
  | zero=>exact⟨[],[],by rw[Nat.add_zero,AuH.slotsTo_succ,List.append_nil],by rw[Nat.add_zero,AuH.slotsTo_succ,List.append_nil],rfl⟩
  | succ k ih =>
   obtain⟨r,r',h1,h2,h3⟩:=ih
   refine⟨r ++ [H.slotPart q (i+1+k)],r' ++ [H'.slotPart q (i+1+k)],?_,?_,by rw[qGG,qGG,h3,one _ qo]⟩
   ·rw[show i+1+(k+1)=i+1+k+1 by omega,AuH.slotsTo_succ,h1,List.append_assoc]
   ·rw[show i+1+(k+1)=i+1+k+1 by omega,AuH.slotsTo_succ,h2,List.append_assoc]
theorem qX2:∀ {l:List (Int × Int × Int)} {a b:Int},Contig a l b->(∀ x∈blocksOf l,a<=x.1)/\(blocksOf l).Pairwise (fun x y=>x.1<y.1)
 | [],a,b,h=>⟨fun x hx=>by simp[blocksOf] at hx,by simp[blocksOf]⟩
 | x :: l,a,b,h=>by
  obtain⟨⟨h1,h2,_,_⟩,h3⟩:=h
  obtain⟨g1,g2⟩:=qX2 h3
  rw[show x :: l = [x]++l from rfl,qGG]
  by_cases hk:x.1=2
  ·rw[qId hk]
   refine⟨fun y hy=>?_,List.pairwise_cons.2 ⟨fun y hy=>?_,g2⟩⟩
   ·rcases List.mem_cons.1 hy with rfl|hy
    ·omega
    ·have:=g1 y hy;omega
   ·have:=g1 y hy;omega
  ·rw[qCe hk]
   exact⟨fun y hy=>by have:=g1 y hy;omega,g2⟩
end
end Go.Proofs.YtjjfcaliippgpaaGreatDoor
