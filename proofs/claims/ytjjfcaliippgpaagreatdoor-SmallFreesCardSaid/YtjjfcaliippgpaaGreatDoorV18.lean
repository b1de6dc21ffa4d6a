/-
  The document's Check. Written by doc12/gen_doccheck.py.
-/
import Derived.Test.YtjjfcaliippgpaaGreatDoorVDocFeet
import Derived.Test.YtjjfcaliippgpaaGreatDoorV15
import Derived.Test.YtjjfcaliippgpaaGreatDoorVDocLoose
import Derived.Test.YtjjfcaliippgpaaGreatDoorV16
import Derived.Test.YtjjfcaliippgpaaGreatDoorV17
import Derived.Test.YtjjfcaliippgpaaGreatDoorV06
import Derived.Test.YtjjfcaliippgpaaGreatDoorV03
import Derived.Test.YtjjfcaliippgpaaGreatDoorV07
import Derived.Test.YtjjfcaliippgpaaGreatDoorV09
import Derived.Test.YtjjfcaliippgpaaGreatDoorV08
namespace Go.Proofs.YtjjfcaliippgpaaGreatDoor
theorem RiX {P Q:Prop}(kq:Q)(h:HQ Q->P:=by
 intro kq
 go_at_call 109
 refine(qDP H.t H.p H.s _).mono ?_
 rintro e w2 ⟨rfl,hb2⟩
 rw[HRI.o]
 have HB2:=qh (Bgo HBW.o hb2)
 have HX2:=qh (HX0.o.keep hb2)
 clear hb2
 obtain⟨c0,c1,c2⟩:=HX2.o.three
 revert w2 HB2 HX2 c0 c1 c2
 exact kq.o):P:=h ⟨kq⟩
theorem Rye {P Q:Prop}(kq:Q)(h:HQ Q->P:=by
 intro kq
 go_at_call 139
 refine(qIM H.t H.p H.s _).mono ?_
 rintro e w3 ⟨rfl,hb3⟩
 rw[HLC.o]
 have HB3:=qh (Bgo HB2.o hb3)
 have HX3:=qh (HX2.o.keep hb3)
 clear hb3
 obtain⟨c0,c1,c2⟩:=HX3.o.three
 obtain⟨x0,x1,x2,x3⟩:=(Held.new w3 114 #[.int .i64 (H.t:Int),.int .i64 (H.p:Int),.int .i64 (H.s:Int),.slice (some ad) n c]).four
 revert w3 HB3 HX3 c0 c1 c2 x0 x1 x2 x3
 exact kq.o):P:=h ⟨kq⟩
theorem RH5 {P Q:Prop}(kq:Q)(h:HQ Q->P:=by
 intro kq
 go_at_call 140
 refine(HR1.o _ (HVL.o.below (Bnew HB3.o (.cells #[.int .i64 (H.t:Int),.int .i64 (H.p:Int),.int .i64 (H.s:Int),.slice (some ad) n c] 114)))).mono ?_
 rintro e w4 ⟨rfl,hb4⟩
 have HB4:=qh (Bgo (Bnew HB3.o (.cells #[.int .i64 (H.t:Int),.int .i64 (H.p:Int),.int .i64 (H.s:Int),.slice (some ad) n c] 114)) hb4)
 have HX4:=qh ((Held.new w3 114 #[.int .i64 (H.t:Int),.int .i64 (H.p:Int),.int .i64 (H.s:Int),.slice (some ad) n c]).keep hb4)
 clear hb4
 obtain⟨x0,x1,x2,x3⟩:=HX4.o.four
 revert w4 HB4 HX4 x0 x1 x2 x3
 exact kq.o):P:=h ⟨kq⟩
theorem Ry7 {P Q:Prop}(kq:Q)(h:HQ Q->P:=by
 intro kq
 go_at_call 141
 refine(HR2.o _ (HVL.o.below HB4.o)).mono ?_
 rintro e w5 ⟨rfl,hb5⟩
 have HB5:=qh (Bgo HB4.o hb5)
 have HX5:=qh (HX4.o.keep hb5)
 clear hb5
 obtain⟨x0,x1,x2,x3⟩:=HX5.o.four
 revert w5 HB5 HX5 x0 x1 x2 x3
 exact kq.o):P:=h ⟨kq⟩
theorem RFC {P Q:Prop}(kq:Q)(h:HQ Q->P:=by
 intro kq
 go_at_call 142
 refine(HR3.o _ (HVL.o.below HB5.o)).mono ?_
 rintro e w6 ⟨rfl,hb6⟩
 have HB6:=qh (Bgo HB5.o hb6)
 have HX6:=qh (HX5.o.keep hb6)
 clear hb6
 obtain⟨x0,x1,x2,x3⟩:=HX6.o.four
 revert w6 HB6 HX6 x0 x1 x2 x3
 exact kq.o):P:=h ⟨kq⟩
theorem RNO {P Q:Prop}(kq:Q)(h:HQ Q->P:=by
 intro kq
 go_at_call 143
 refine(HR4.o _ (HVL.o.below HB6.o)).mono ?_
 rintro e w7 ⟨rfl,hb7⟩
 have HB7:=qh (Bgo HB6.o hb7)
 have HX7:=qh (HX6.o.keep hb7)
 clear hb7
 obtain⟨x0,x1,x2,x3⟩:=HX7.o.four
 revert w7 HB7 HX7 x0 x1 x2 x3
 exact kq.o):P:=h ⟨kq⟩
theorem RRm {P Q:Prop}(kq:Q)(h:HQ Q->P:=by
 intro kq
 go_at_call 144
 refine(HR5.o _ (HVL.o.below HB7.o)).mono ?_
 rintro e w8 ⟨rfl,hb8⟩
 have HB8:=qh (Bgo HB7.o hb8)
 have HX8:=qh (HX7.o.keep hb8)
 clear hb8
 obtain⟨x0,x1,x2,x3⟩:=HX8.o.four
 revert w8 HB8 HX8 x0 x1 x2 x3
 exact kq.o):P:=h ⟨kq⟩
theorem Rfm {P Q:Prop}(kq:Q)(h:HQ Q->P:=by
 intro kq
 go_at_call 145
 refine(HR6.o _ (HVL.o.below HB8.o)).mono ?_
 rintro e w9 ⟨rfl,hb9⟩
 have HB9:=qh (Bgo HB8.o hb9)
 have HX9:=qh (HX8.o.keep hb9)
 clear hb9
 obtain⟨x0,x1,x2,x3⟩:=HX9.o.four
 revert w9 HB9 HX9 x0 x1 x2 x3
 exact kq.o):P:=h ⟨kq⟩
theorem RCS {P Q:Prop}(kq:Q)(h:HQ Q->P:=by
 intro kq
 go_at_call 146
 refine(HR7.o _ (HVL.o.below HB9.o)).mono ?_
 rintro e w10 ⟨rfl,hb10⟩
 have HB10:=qh (Bgo HB9.o hb10)
 have HX10:=qh (HX9.o.keep hb10)
 clear hb10
 obtain⟨x0,x1,x2,x3⟩:=HX10.o.four
 revert w10 HB10 HX10 x0 x1 x2 x3
 exact kq.o):P:=h ⟨kq⟩
theorem Rwb {P Q:Prop}(kq:Q)(h:HQ Q->P:=by
 intro kq
 go_at_call 147
 refine(HR8.o _ (HVL.o.below HB10.o)).mono ?_
 rintro e w11 ⟨rfl,hb11⟩
 have HB11:=qh (Bgo HB10.o hb11)
 have HX11:=qh (HX10.o.keep hb11)
 clear hb11
 obtain⟨x0,x1,x2,x3⟩:=HX11.o.four
 revert w11 HB11 HX11 x0 x1 x2 x3
 exact kq.o):P:=h ⟨kq⟩
theorem R8l {P Q:Prop}(kq:Q)(h:HQ Q->P:=by
 intro kq
 go_at_call 148
 refine(HR9.o _ (HVL.o.below HB11.o)).mono ?_
 rintro e w12 ⟨rfl,hb12⟩
 have HB12:=qh (Bgo HB11.o hb12)
 have HX12:=qh (HX11.o.keep hb12)
 clear hb12
 obtain⟨x0,x1,x2,x3⟩:=HX12.o.four
 revert w12 HB12 HX12 x0 x1 x2 x3
 exact kq.o):P:=h ⟨kq⟩
end Go.Proofs.YtjjfcaliippgpaaGreatDoor
set_option linter.unusedVariables false
set_option linter.unusedSimpArgs false
set_option maxRecDepth 100000
set_option maxHeartbeats 25600000
namespace Go.Proofs.YtjjfcaliippgpaaGreatDoor
open Go.ChangeShapes Go.WideShapes Go.ChangeAt Go.RowKit Go.Shelf
section
theorem qA2 (t q s:Int)(A:Option Addr)(n c:Nat)(hnc:n<=c)(hc:c<=maxLen)(h:¬ (lC t q s≠0/\(n:Int)=lC t q s))(w:World) :
  Calls Tryz.prog 106 #[.agg #[.int .i64 t,.int .i64 q,.int .i64 s],.slice A n c] w fun e w'=>e = .returned (.tuple #[.int .i64 1,.bool false])/\Below w.heap.size w w':=by
 have HX0:=qh (Held.new w 23 #[.int .i64 t,.int .i64 q,.int .i64 s])
 obtain⟨c0,c1,c2⟩:=HX0.o.three
 have HBW:=qh (Bnew (B0 w) (.cells #[.int .i64 t,.int .i64 q,.int .i64 s] 23))
 cases hr:rightB t q s
 ·have HRI:=qh hr
  clear hr h
  go_enter Tryz.func106,Tryz.ntmps106
  go_wp2_with (first
   | (go_at_call 109;refine(qDP t q s _).mono ?_;rintro e w2 ⟨rfl,hb2⟩;rw[HRI.o];have HB2:=qh (Bgo HBW.o hb2);have HX2:=qh (HX0.o.keep hb2);clear hb2 c0 c1 c2;obtain⟨c0,c1,c2⟩:=HX2.o.three)
   | fail)
  go_ret2
  exact⟨rfl,HB2.o⟩
 ·have HRI:=qh hr
  have hl0:lC t q s≠0:=by
   have:=(qVu hr).5
   have h4:=(qQB t q s).1 hr
   omega
  have hne:¬ (n:Int)=lC t q s:=fun h2=>h ⟨hl0,h2⟩
  obtain⟨l,hl⟩:∃ l,lC t q s=l:=⟨_,rfl⟩
  have HLC:=qh hl
  rw[hl] at hne
  have q0:((n:Int) != l)=true:=by simpa using hne
  clear hr h hl0 hl hne
  go_enter Tryz.func106,Tryz.ntmps106
  go_wp2_with (first
   | (go_at_call 109;refine(qDP t q s _).mono ?_;rintro e w2 ⟨rfl,hb2⟩;rw[HRI.o];have HB2:=qh (Bgo HBW.o hb2);have HX2:=qh (HX0.o.keep hb2);clear hb2 c0 c1 c2;obtain⟨c0,c1,c2⟩:=HX2.o.three)
   | (go_at_call 139;refine(qIM t q s _).mono ?_;rintro e w3 ⟨rfl,hb3⟩;rw[HLC.o];have HB3:=qh (Bgo HB2.o hb3))
   | fail)
  go_ret2
  exact⟨rfl,HB3.o⟩

theorem qSe {H:AuH}{n c:Nat}(HV:HeapV H n c)(ad:Addr)(hr:∀ i,i<1->H.rule i)(hno:¬ H.rule 1)(w:World)(hv:IsVals w ad n H.V) :
  Calls Tryz.prog 106 #[.agg #[.int .i64 (H.t:Int),.int .i64 (H.p:Int),.int .i64 (H.s:Int)],.slice (some ad) n c] w fun e w'=>e = .returned (.tuple #[.int .i64 2,.bool false])/\Below w.heap.size w w':=by
 have HVL:=qh hv
 have HX0:=qh (Held.new w 23 #[.int .i64 (H.t:Int),.int .i64 (H.p:Int),.int .i64 (H.s:Int)])
 obtain⟨c0,c1,c2⟩:=HX0.o.three
 have HBW:=qh (Bnew (B0 w) (.cells #[.int .i64 (H.t:Int),.int .i64 (H.p:Int),.int .i64 (H.s:Int)] 23))
 have HRI:=qh HV.right
 have HLC:qH (lC H.t H.p H.s=(n:Int)):=qh (by have:=(qVu HV.right).5;have:=HV.len;omega)
 have HR1:=qh (fun (W:World) (hv:IsVals W ad n H.V)=>qIG HV ad false ⟨fun h=>(by cases h),fun h=>absurd h hno⟩ W hv)
 have hn:=HV.nums
 have hcx:c<=9223372036854775807:=hn.2.2.2.2.2.2.2.2
 have hni:n<=6238:=hn.2.2.2.2.2.2.1
 have hnc:=HV.cap
 clear hv hr hno hn
 go_enter Tryz.func106,Tryz.ntmps106
 go_wp2_with (first
  | (refine RiX ?_;clear c0 c1 c2;intro w2 HB2 HX2 c0 c1 c2)
  | (refine Rye ?_;clear c0 c1 c2;intro w3 HB3 HX3 c0 c1 c2 x0 x1 x2 x3)
  | (refine RH5 ?_;clear x0 x1 x2 x3;intro w4 HB4 HX4 x0 x1 x2 x3)
  | fail)
 go_ret2
 exact⟨rfl,HB4.o⟩

theorem qSi {H:AuH}{n c:Nat}(HV:HeapV H n c)(ad:Addr)(hr:∀ i,i<2->H.rule i)(hno:¬ H.rule 2)(w:World)(hv:IsVals w ad n H.V) :
  Calls Tryz.prog 106 #[.agg #[.int .i64 (H.t:Int),.int .i64 (H.p:Int),.int .i64 (H.s:Int)],.slice (some ad) n c] w fun e w'=>e = .returned (.tuple #[.int .i64 3,.bool false])/\Below w.heap.size w w':=by
 have HVL:=qh hv
 have HX0:=qh (Held.new w 23 #[.int .i64 (H.t:Int),.int .i64 (H.p:Int),.int .i64 (H.s:Int)])
 obtain⟨c0,c1,c2⟩:=HX0.o.three
 have HBW:=qh (Bnew (B0 w) (.cells #[.int .i64 (H.t:Int),.int .i64 (H.p:Int),.int .i64 (H.s:Int)] 23))
 have HRI:=qh HV.right
 have HLC:qH (lC H.t H.p H.s=(n:Int)):=qh (by have:=(qVu HV.right).5;have:=HV.len;omega)
 have HR1:=qh (fun (W:World) (hv:IsVals W ad n H.V)=>qIG HV ad true ⟨fun _=>hr 1 qo,fun _=>rfl⟩ W hv)
 have HR2:=qh (fun (W:World) (hv:IsVals W ad n H.V)=>qY3 HV (hr 1 qo) ad false ⟨fun h=>(by cases h),fun h=>absurd h hno⟩ W hv)
 have hn:=HV.nums
 have hcx:c<=9223372036854775807:=hn.2.2.2.2.2.2.2.2
 have hni:n<=6238:=hn.2.2.2.2.2.2.1
 have hnc:=HV.cap
 clear hv hr hno hn
 go_enter Tryz.func106,Tryz.ntmps106
 go_wp2_with (first
  | (refine RiX ?_;clear c0 c1 c2;intro w2 HB2 HX2 c0 c1 c2)
  | (refine Rye ?_;clear c0 c1 c2;intro w3 HB3 HX3 c0 c1 c2 x0 x1 x2 x3)
  | (refine RH5 ?_;clear x0 x1 x2 x3;intro w4 HB4 HX4 x0 x1 x2 x3)
  | (refine Ry7 ?_;clear x0 x1 x2 x3;intro w5 HB5 HX5 x0 x1 x2 x3)
  | fail)
 go_ret2
 exact⟨rfl,HB5.o⟩

theorem qQ2 {H:AuH}{n c:Nat}(HV:HeapV H n c)(ad:Addr)(hr:∀ i,i<3->H.rule i)(hno:¬ H.rule 3)(w:World)(hv:IsVals w ad n H.V) :
  Calls Tryz.prog 106 #[.agg #[.int .i64 (H.t:Int),.int .i64 (H.p:Int),.int .i64 (H.s:Int)],.slice (some ad) n c] w fun e w'=>e = .returned (.tuple #[.int .i64 4,.bool false])/\Below w.heap.size w w':=by
 have HVL:=qh hv
 have HX0:=qh (Held.new w 23 #[.int .i64 (H.t:Int),.int .i64 (H.p:Int),.int .i64 (H.s:Int)])
 obtain⟨c0,c1,c2⟩:=HX0.o.three
 have HBW:=qh (Bnew (B0 w) (.cells #[.int .i64 (H.t:Int),.int .i64 (H.p:Int),.int .i64 (H.s:Int)] 23))
 have HRI:=qh HV.right
 have HLC:qH (lC H.t H.p H.s=(n:Int)):=qh (by have:=(qVu HV.right).5;have:=HV.len;omega)
 have HR1:=qh (fun (W:World) (hv:IsVals W ad n H.V)=>qIG HV ad true ⟨fun _=>hr 1 qo,fun _=>rfl⟩ W hv)
 have HR2:=qh (fun (W:World) (hv:IsVals W ad n H.V)=>qY3 HV (hr 1 qo) ad true ⟨fun _=>hr 2 qo,fun _=>rfl⟩ W hv)
 have HR3:=qh (fun (W:World) (hv:IsVals W ad n H.V)=>qVH HV (hr 1 qo) ad false ⟨fun h=>(by cases h),fun h=>absurd h hno⟩ W hv)
 have hn:=HV.nums
 have hcx:c<=9223372036854775807:=hn.2.2.2.2.2.2.2.2
 have hni:n<=6238:=hn.2.2.2.2.2.2.1
 have hnc:=HV.cap
 clear hv hr hno hn
 go_enter Tryz.func106,Tryz.ntmps106
 go_wp2_with (first
  | (refine RiX ?_;clear c0 c1 c2;intro w2 HB2 HX2 c0 c1 c2)
  | (refine Rye ?_;clear c0 c1 c2;intro w3 HB3 HX3 c0 c1 c2 x0 x1 x2 x3)
  | (refine RH5 ?_;clear x0 x1 x2 x3;intro w4 HB4 HX4 x0 x1 x2 x3)
  | (refine Ry7 ?_;clear x0 x1 x2 x3;intro w5 HB5 HX5 x0 x1 x2 x3)
  | (refine RFC ?_;clear x0 x1 x2 x3;intro w6 HB6 HX6 x0 x1 x2 x3)
  | fail)
 go_ret2
 exact⟨rfl,HB6.o⟩

theorem qJb {H:AuH}{n c:Nat}(HV:HeapV H n c)(ad:Addr)(hr:∀ i,i<4->H.rule i)(hno:¬ H.rule 4)(w:World)(hv:IsVals w ad n H.V) :
  Calls Tryz.prog 106 #[.agg #[.int .i64 (H.t:Int),.int .i64 (H.p:Int),.int .i64 (H.s:Int)],.slice (some ad) n c] w fun e w'=>e = .returned (.tuple #[.int .i64 5,.bool false])/\Below w.heap.size w w':=by
 have HVL:=qh hv
 have HX0:=qh (Held.new w 23 #[.int .i64 (H.t:Int),.int .i64 (H.p:Int),.int .i64 (H.s:Int)])
 obtain⟨c0,c1,c2⟩:=HX0.o.three
 have HBW:=qh (Bnew (B0 w) (.cells #[.int .i64 (H.t:Int),.int .i64 (H.p:Int),.int .i64 (H.s:Int)] 23))
 have HRI:=qh HV.right
 have HLC:qH (lC H.t H.p H.s=(n:Int)):=qh (by have:=(qVu HV.right).5;have:=HV.len;omega)
 have HR1:=qh (fun (W:World) (hv:IsVals W ad n H.V)=>qIG HV ad true ⟨fun _=>hr 1 qo,fun _=>rfl⟩ W hv)
 have HR2:=qh (fun (W:World) (hv:IsVals W ad n H.V)=>qY3 HV (hr 1 qo) ad true ⟨fun _=>hr 2 qo,fun _=>rfl⟩ W hv)
 have HR3:=qh (fun (W:World) (hv:IsVals W ad n H.V)=>qVH HV (hr 1 qo) ad true ⟨fun _=>hr 3 qo,fun _=>rfl⟩ W hv)
 have HR4:=qh (fun (W:World) (hv:IsVals W ad n H.V)=>qPG HV ad false ⟨fun h=>(by cases h),fun h=>absurd h hno⟩ W hv)
 have hn:=HV.nums
 have hcx:c<=9223372036854775807:=hn.2.2.2.2.2.2.2.2
 have hni:n<=6238:=hn.2.2.2.2.2.2.1
 have hnc:=HV.cap
 clear hv hr hno hn
 go_enter Tryz.func106,Tryz.ntmps106
 go_wp2_with (first
  | (refine RiX ?_;clear c0 c1 c2;intro w2 HB2 HX2 c0 c1 c2)
  | (refine Rye ?_;clear c0 c1 c2;intro w3 HB3 HX3 c0 c1 c2 x0 x1 x2 x3)
  | (refine RH5 ?_;clear x0 x1 x2 x3;intro w4 HB4 HX4 x0 x1 x2 x3)
  | (refine Ry7 ?_;clear x0 x1 x2 x3;intro w5 HB5 HX5 x0 x1 x2 x3)
  | (refine RFC ?_;clear x0 x1 x2 x3;intro w6 HB6 HX6 x0 x1 x2 x3)
  | (refine RNO ?_;clear x0 x1 x2 x3;intro w7 HB7 HX7 x0 x1 x2 x3)
  | fail)
 go_ret2
 exact⟨rfl,HB7.o⟩

theorem qPx {H:AuH}{n c:Nat}(HV:HeapV H n c)(ad:Addr)(hr:∀ i,i<5->H.rule i)(hno:¬ H.rule 5)(w:World)(hv:IsVals w ad n H.V) :
  Calls Tryz.prog 106 #[.agg #[.int .i64 (H.t:Int),.int .i64 (H.p:Int),.int .i64 (H.s:Int)],.slice (some ad) n c] w fun e w'=>e = .returned (.tuple #[.int .i64 6,.bool false])/\Below w.heap.size w w':=by
 have HVL:=qh hv
 have HX0:=qh (Held.new w 23 #[.int .i64 (H.t:Int),.int .i64 (H.p:Int),.int .i64 (H.s:Int)])
 obtain⟨c0,c1,c2⟩:=HX0.o.three
 have HBW:=qh (Bnew (B0 w) (.cells #[.int .i64 (H.t:Int),.int .i64 (H.p:Int),.int .i64 (H.s:Int)] 23))
 have HRI:=qh HV.right
 have HLC:qH (lC H.t H.p H.s=(n:Int)):=qh (by have:=(qVu HV.right).5;have:=HV.len;omega)
 have HR1:=qh (fun (W:World) (hv:IsVals W ad n H.V)=>qIG HV ad true ⟨fun _=>hr 1 qo,fun _=>rfl⟩ W hv)
 have HR2:=qh (fun (W:World) (hv:IsVals W ad n H.V)=>qY3 HV (hr 1 qo) ad true ⟨fun _=>hr 2 qo,fun _=>rfl⟩ W hv)
 have HR3:=qh (fun (W:World) (hv:IsVals W ad n H.V)=>qVH HV (hr 1 qo) ad true ⟨fun _=>hr 3 qo,fun _=>rfl⟩ W hv)
 have HR4:=qh (fun (W:World) (hv:IsVals W ad n H.V)=>qPG HV ad true ⟨fun _=>hr 4 qo,fun _=>rfl⟩ W hv)
 have HR5:=qh (fun (W:World) (hv:IsVals W ad n H.V)=>qJ0 HV ad false ⟨fun h=>(by cases h),fun h=>absurd h hno⟩ W hv)
 have hn:=HV.nums
 have hcx:c<=9223372036854775807:=hn.2.2.2.2.2.2.2.2
 have hni:n<=6238:=hn.2.2.2.2.2.2.1
 have hnc:=HV.cap
 clear hv hr hno hn
 go_enter Tryz.func106,Tryz.ntmps106
 go_wp2_with (first
  | (refine RiX ?_;clear c0 c1 c2;intro w2 HB2 HX2 c0 c1 c2)
  | (refine Rye ?_;clear c0 c1 c2;intro w3 HB3 HX3 c0 c1 c2 x0 x1 x2 x3)
  | (refine RH5 ?_;clear x0 x1 x2 x3;intro w4 HB4 HX4 x0 x1 x2 x3)
  | (refine Ry7 ?_;clear x0 x1 x2 x3;intro w5 HB5 HX5 x0 x1 x2 x3)
  | (refine RFC ?_;clear x0 x1 x2 x3;intro w6 HB6 HX6 x0 x1 x2 x3)
  | (refine RNO ?_;clear x0 x1 x2 x3;intro w7 HB7 HX7 x0 x1 x2 x3)
  | (refine RRm ?_;clear x0 x1 x2 x3;intro w8 HB8 HX8 x0 x1 x2 x3)
  | fail)
 go_ret2
 exact⟨rfl,HB8.o⟩

theorem qWo {H:AuH}{n c:Nat}(HV:HeapV H n c)(ad:Addr)(hr:∀ i,i<6->H.rule i)(hno:¬ H.rule 6)(w:World)(hv:IsVals w ad n H.V) :
  Calls Tryz.prog 106 #[.agg #[.int .i64 (H.t:Int),.int .i64 (H.p:Int),.int .i64 (H.s:Int)],.slice (some ad) n c] w fun e w'=>e = .returned (.tuple #[.int .i64 7,.bool false])/\Below w.heap.size w w':=by
 have HVL:=qh hv
 have HX0:=qh (Held.new w 23 #[.int .i64 (H.t:Int),.int .i64 (H.p:Int),.int .i64 (H.s:Int)])
 obtain⟨c0,c1,c2⟩:=HX0.o.three
 have HBW:=qh (Bnew (B0 w) (.cells #[.int .i64 (H.t:Int),.int .i64 (H.p:Int),.int .i64 (H.s:Int)] 23))
 have HRI:=qh HV.right
 have HLC:qH (lC H.t H.p H.s=(n:Int)):=qh (by have:=(qVu HV.right).5;have:=HV.len;omega)
 have HR1:=qh (fun (W:World) (hv:IsVals W ad n H.V)=>qIG HV ad true ⟨fun _=>hr 1 qo,fun _=>rfl⟩ W hv)
 have HR2:=qh (fun (W:World) (hv:IsVals W ad n H.V)=>qY3 HV (hr 1 qo) ad true ⟨fun _=>hr 2 qo,fun _=>rfl⟩ W hv)
 have HR3:=qh (fun (W:World) (hv:IsVals W ad n H.V)=>qVH HV (hr 1 qo) ad true ⟨fun _=>hr 3 qo,fun _=>rfl⟩ W hv)
 have HR4:=qh (fun (W:World) (hv:IsVals W ad n H.V)=>qPG HV ad true ⟨fun _=>hr 4 qo,fun _=>rfl⟩ W hv)
 have HR5:=qh (fun (W:World) (hv:IsVals W ad n H.V)=>qJ0 HV ad true ⟨fun _=>hr 5 qo,fun _=>rfl⟩ W hv)
 have HR6:=qh (fun (W:World) (hv:IsVals W ad n H.V)=>qFV HV (hr 4 qo) ad false ⟨fun h=>(by cases h),fun h=>absurd h hno⟩ W hv)
 have hn:=HV.nums
 have hcx:c<=9223372036854775807:=hn.2.2.2.2.2.2.2.2
 have hni:n<=6238:=hn.2.2.2.2.2.2.1
 have hnc:=HV.cap
 clear hv hr hno hn
 go_enter Tryz.func106,Tryz.ntmps106
 go_wp2_with (first
  | (refine RiX ?_;clear c0 c1 c2;intro w2 HB2 HX2 c0 c1 c2)
  | (refine Rye ?_;clear c0 c1 c2;intro w3 HB3 HX3 c0 c1 c2 x0 x1 x2 x3)
  | (refine RH5 ?_;clear x0 x1 x2 x3;intro w4 HB4 HX4 x0 x1 x2 x3)
  | (refine Ry7 ?_;clear x0 x1 x2 x3;intro w5 HB5 HX5 x0 x1 x2 x3)
  | (refine RFC ?_;clear x0 x1 x2 x3;intro w6 HB6 HX6 x0 x1 x2 x3)
  | (refine RNO ?_;clear x0 x1 x2 x3;intro w7 HB7 HX7 x0 x1 x2 x3)
  | (refine RRm ?_;clear x0 x1 x2 x3;intro w8 HB8 HX8 x0 x1 x2 x3)
  | (refine Rfm ?_;clear x0 x1 x2 x3;intro w9 HB9 HX9 x0 x1 x2 x3)
  | fail)
 go_ret2
 exact⟨rfl,HB9.o⟩

theorem qBK {H:AuH}{n c:Nat}(HV:HeapV H n c)(ad:Addr)(hr:∀ i,i<7->H.rule i)(hno:¬ H.rule 7)(w:World)(hv:IsVals w ad n H.V) :
  Calls Tryz.prog 106 #[.agg #[.int .i64 (H.t:Int),.int .i64 (H.p:Int),.int .i64 (H.s:Int)],.slice (some ad) n c] w fun e w'=>e = .returned (.tuple #[.int .i64 8,.bool false])/\Below w.heap.size w w':=by
 have HVL:=qh hv
 have HX0:=qh (Held.new w 23 #[.int .i64 (H.t:Int),.int .i64 (H.p:Int),.int .i64 (H.s:Int)])
 obtain⟨c0,c1,c2⟩:=HX0.o.three
 have HBW:=qh (Bnew (B0 w) (.cells #[.int .i64 (H.t:Int),.int .i64 (H.p:Int),.int .i64 (H.s:Int)] 23))
 have HRI:=qh HV.right
 have HLC:qH (lC H.t H.p H.s=(n:Int)):=qh (by have:=(qVu HV.right).5;have:=HV.len;omega)
 have HR1:=qh (fun (W:World) (hv:IsVals W ad n H.V)=>qIG HV ad true ⟨fun _=>hr 1 qo,fun _=>rfl⟩ W hv)
 have HR2:=qh (fun (W:World) (hv:IsVals W ad n H.V)=>qY3 HV (hr 1 qo) ad true ⟨fun _=>hr 2 qo,fun _=>rfl⟩ W hv)
 have HR3:=qh (fun (W:World) (hv:IsVals W ad n H.V)=>qVH HV (hr 1 qo) ad true ⟨fun _=>hr 3 qo,fun _=>rfl⟩ W hv)
 have HR4:=qh (fun (W:World) (hv:IsVals W ad n H.V)=>qPG HV ad true ⟨fun _=>hr 4 qo,fun _=>rfl⟩ W hv)
 have HR5:=qh (fun (W:World) (hv:IsVals W ad n H.V)=>qJ0 HV ad true ⟨fun _=>hr 5 qo,fun _=>rfl⟩ W hv)
 have HR6:=qh (fun (W:World) (hv:IsVals W ad n H.V)=>qFV HV (hr 4 qo) ad true ⟨fun _=>hr 6 qo,fun _=>rfl⟩ W hv)
 have HR7:=qh (fun (W:World) (hv:IsVals W ad n H.V)=>qKJ HV (hr 4 qo) ad false ⟨fun h=>(by cases h),fun h=>absurd h hno⟩ W hv)
 have hn:=HV.nums
 have hcx:c<=9223372036854775807:=hn.2.2.2.2.2.2.2.2
 have hni:n<=6238:=hn.2.2.2.2.2.2.1
 have hnc:=HV.cap
 clear hv hr hno hn
 go_enter Tryz.func106,Tryz.ntmps106
 go_wp2_with (first
  | (refine RiX ?_;clear c0 c1 c2;intro w2 HB2 HX2 c0 c1 c2)
  | (refine Rye ?_;clear c0 c1 c2;intro w3 HB3 HX3 c0 c1 c2 x0 x1 x2 x3)
  | (refine RH5 ?_;clear x0 x1 x2 x3;intro w4 HB4 HX4 x0 x1 x2 x3)
  | (refine Ry7 ?_;clear x0 x1 x2 x3;intro w5 HB5 HX5 x0 x1 x2 x3)
  | (refine RFC ?_;clear x0 x1 x2 x3;intro w6 HB6 HX6 x0 x1 x2 x3)
  | (refine RNO ?_;clear x0 x1 x2 x3;intro w7 HB7 HX7 x0 x1 x2 x3)
  | (refine RRm ?_;clear x0 x1 x2 x3;intro w8 HB8 HX8 x0 x1 x2 x3)
  | (refine Rfm ?_;clear x0 x1 x2 x3;intro w9 HB9 HX9 x0 x1 x2 x3)
  | (refine RCS ?_;clear x0 x1 x2 x3;intro w10 HB10 HX10 x0 x1 x2 x3)
  | fail)
 go_ret2
 exact⟨rfl,HB10.o⟩

theorem qZ8 {H:AuH}{n c:Nat}(HV:HeapV H n c)(ad:Addr)(hr:∀ i,i<8->H.rule i)(hno:¬ H.rule 8)(w:World)(hv:IsVals w ad n H.V) :
  Calls Tryz.prog 106 #[.agg #[.int .i64 (H.t:Int),.int .i64 (H.p:Int),.int .i64 (H.s:Int)],.slice (some ad) n c] w fun e w'=>e = .returned (.tuple #[.int .i64 9,.bool false])/\Below w.heap.size w w':=by
 have HVL:=qh hv
 have HX0:=qh (Held.new w 23 #[.int .i64 (H.t:Int),.int .i64 (H.p:Int),.int .i64 (H.s:Int)])
 obtain⟨c0,c1,c2⟩:=HX0.o.three
 have HBW:=qh (Bnew (B0 w) (.cells #[.int .i64 (H.t:Int),.int .i64 (H.p:Int),.int .i64 (H.s:Int)] 23))
 have HRI:=qh HV.right
 have HLC:qH (lC H.t H.p H.s=(n:Int)):=qh (by have:=(qVu HV.right).5;have:=HV.len;omega)
 have HR1:=qh (fun (W:World) (hv:IsVals W ad n H.V)=>qIG HV ad true ⟨fun _=>hr 1 qo,fun _=>rfl⟩ W hv)
 have HR2:=qh (fun (W:World) (hv:IsVals W ad n H.V)=>qY3 HV (hr 1 qo) ad true ⟨fun _=>hr 2 qo,fun _=>rfl⟩ W hv)
 have HR3:=qh (fun (W:World) (hv:IsVals W ad n H.V)=>qVH HV (hr 1 qo) ad true ⟨fun _=>hr 3 qo,fun _=>rfl⟩ W hv)
 have HR4:=qh (fun (W:World) (hv:IsVals W ad n H.V)=>qPG HV ad true ⟨fun _=>hr 4 qo,fun _=>rfl⟩ W hv)
 have HR5:=qh (fun (W:World) (hv:IsVals W ad n H.V)=>qJ0 HV ad true ⟨fun _=>hr 5 qo,fun _=>rfl⟩ W hv)
 have HR6:=qh (fun (W:World) (hv:IsVals W ad n H.V)=>qFV HV (hr 4 qo) ad true ⟨fun _=>hr 6 qo,fun _=>rfl⟩ W hv)
 have HR7:=qh (fun (W:World) (hv:IsVals W ad n H.V)=>qKJ HV (hr 4 qo) ad true ⟨fun _=>hr 7 qo,fun _=>rfl⟩ W hv)
 have HR8:=qh (fun (W:World) (hv:IsVals W ad n H.V)=>qJh HV (hr 4 qo) ad false ⟨fun h=>(by cases h),fun h=>absurd h hno⟩ W hv)
 have hn:=HV.nums
 have hcx:c<=9223372036854775807:=hn.2.2.2.2.2.2.2.2
 have hni:n<=6238:=hn.2.2.2.2.2.2.1
 have hnc:=HV.cap
 clear hv hr hno hn
 go_enter Tryz.func106,Tryz.ntmps106
 go_wp2_with (first
  | (refine RiX ?_;clear c0 c1 c2;intro w2 HB2 HX2 c0 c1 c2)
  | (refine Rye ?_;clear c0 c1 c2;intro w3 HB3 HX3 c0 c1 c2 x0 x1 x2 x3)
  | (refine RH5 ?_;clear x0 x1 x2 x3;intro w4 HB4 HX4 x0 x1 x2 x3)
  | (refine Ry7 ?_;clear x0 x1 x2 x3;intro w5 HB5 HX5 x0 x1 x2 x3)
  | (refine RFC ?_;clear x0 x1 x2 x3;intro w6 HB6 HX6 x0 x1 x2 x3)
  | (refine RNO ?_;clear x0 x1 x2 x3;intro w7 HB7 HX7 x0 x1 x2 x3)
  | (refine RRm ?_;clear x0 x1 x2 x3;intro w8 HB8 HX8 x0 x1 x2 x3)
  | (refine Rfm ?_;clear x0 x1 x2 x3;intro w9 HB9 HX9 x0 x1 x2 x3)
  | (refine RCS ?_;clear x0 x1 x2 x3;intro w10 HB10 HX10 x0 x1 x2 x3)
  | (refine Rwb ?_;clear x0 x1 x2 x3;intro w11 HB11 HX11 x0 x1 x2 x3)
  | fail)
 go_ret2
 exact⟨rfl,HB11.o⟩

theorem qEo {H:AuH}{n c:Nat}(HV:HeapV H n c)(ad:Addr)(hr:∀ i,i<9->H.rule i)(hno:¬ H.rule 9)(w:World)(hv:IsVals w ad n H.V) :
  Calls Tryz.prog 106 #[.agg #[.int .i64 (H.t:Int),.int .i64 (H.p:Int),.int .i64 (H.s:Int)],.slice (some ad) n c] w fun e w'=>e = .returned (.tuple #[.int .i64 10,.bool false])/\Below w.heap.size w w':=by
 have HVL:=qh hv
 have HX0:=qh (Held.new w 23 #[.int .i64 (H.t:Int),.int .i64 (H.p:Int),.int .i64 (H.s:Int)])
 obtain⟨c0,c1,c2⟩:=HX0.o.three
 have HBW:=qh (Bnew (B0 w) (.cells #[.int .i64 (H.t:Int),.int .i64 (H.p:Int),.int .i64 (H.s:Int)] 23))
 have HRI:=qh HV.right
 have HLC:qH (lC H.t H.p H.s=(n:Int)):=qh (by have:=(qVu HV.right).5;have:=HV.len;omega)
 have HR1:=qh (fun (W:World) (hv:IsVals W ad n H.V)=>qIG HV ad true ⟨fun _=>hr 1 qo,fun _=>rfl⟩ W hv)
 have HR2:=qh (fun (W:World) (hv:IsVals W ad n H.V)=>qY3 HV (hr 1 qo) ad true ⟨fun _=>hr 2 qo,fun _=>rfl⟩ W hv)
 have HR3:=qh (fun (W:World) (hv:IsVals W ad n H.V)=>qVH HV (hr 1 qo) ad true ⟨fun _=>hr 3 qo,fun _=>rfl⟩ W hv)
 have HR4:=qh (fun (W:World) (hv:IsVals W ad n H.V)=>qPG HV ad true ⟨fun _=>hr 4 qo,fun _=>rfl⟩ W hv)
 have HR5:=qh (fun (W:World) (hv:IsVals W ad n H.V)=>qJ0 HV ad true ⟨fun _=>hr 5 qo,fun _=>rfl⟩ W hv)
 have HR6:=qh (fun (W:World) (hv:IsVals W ad n H.V)=>qFV HV (hr 4 qo) ad true ⟨fun _=>hr 6 qo,fun _=>rfl⟩ W hv)
 have HR7:=qh (fun (W:World) (hv:IsVals W ad n H.V)=>qKJ HV (hr 4 qo) ad true ⟨fun _=>hr 7 qo,fun _=>rfl⟩ W hv)
 have HR8:=qh (fun (W:World) (hv:IsVals W ad n H.V)=>qJh HV (hr 4 qo) ad true ⟨fun _=>hr 8 qo,fun _=>rfl⟩ W hv)
 have HR9:=qh (fun (W:World) (hv:IsVals W ad n H.V)=>qNX HV ad false ⟨fun h=>(by cases h),fun h=>absurd h hno⟩ W hv)
 have hn:=HV.nums
 have hcx:c<=9223372036854775807:=hn.2.2.2.2.2.2.2.2
 have hni:n<=6238:=hn.2.2.2.2.2.2.1
 have hnc:=HV.cap
 clear hv hr hno hn
 go_enter Tryz.func106,Tryz.ntmps106
 go_wp2_with (first
  | (refine RiX ?_;clear c0 c1 c2;intro w2 HB2 HX2 c0 c1 c2)
  | (refine Rye ?_;clear c0 c1 c2;intro w3 HB3 HX3 c0 c1 c2 x0 x1 x2 x3)
  | (refine RH5 ?_;clear x0 x1 x2 x3;intro w4 HB4 HX4 x0 x1 x2 x3)
  | (refine Ry7 ?_;clear x0 x1 x2 x3;intro w5 HB5 HX5 x0 x1 x2 x3)
  | (refine RFC ?_;clear x0 x1 x2 x3;intro w6 HB6 HX6 x0 x1 x2 x3)
  | (refine RNO ?_;clear x0 x1 x2 x3;intro w7 HB7 HX7 x0 x1 x2 x3)
  | (refine RRm ?_;clear x0 x1 x2 x3;intro w8 HB8 HX8 x0 x1 x2 x3)
  | (refine Rfm ?_;clear x0 x1 x2 x3;intro w9 HB9 HX9 x0 x1 x2 x3)
  | (refine RCS ?_;clear x0 x1 x2 x3;intro w10 HB10 HX10 x0 x1 x2 x3)
  | (refine Rwb ?_;clear x0 x1 x2 x3;intro w11 HB11 HX11 x0 x1 x2 x3)
  | (refine R8l ?_;clear x0 x1 x2 x3;intro w12 HB12 HX12 x0 x1 x2 x3)
  | fail)
 go_ret2
 exact⟨rfl,HB12.o⟩

theorem qI9 {H:AuH}{n c:Nat}(HV:HeapV H n c)(ad:Addr)(hr:∀ i,i<10->H.rule i)(w:World)(hv:IsVals w ad n H.V) :
  Calls Tryz.prog 106 #[.agg #[.int .i64 (H.t:Int),.int .i64 (H.p:Int),.int .i64 (H.s:Int)],.slice (some ad) n c] w fun e w'=>e = .returned (.tuple #[.int .i64 0,.bool true])/\Below w.heap.size w w':=by
 have HVL:=qh hv
 have HX0:=qh (Held.new w 23 #[.int .i64 (H.t:Int),.int .i64 (H.p:Int),.int .i64 (H.s:Int)])
 obtain⟨c0,c1,c2⟩:=HX0.o.three
 have HBW:=qh (Bnew (B0 w) (.cells #[.int .i64 (H.t:Int),.int .i64 (H.p:Int),.int .i64 (H.s:Int)] 23))
 have HRI:=qh HV.right
 have HLC:qH (lC H.t H.p H.s=(n:Int)):=qh (by have:=(qVu HV.right).5;have:=HV.len;omega)
 have HR1:=qh (fun (W:World) (hv:IsVals W ad n H.V)=>qIG HV ad true ⟨fun _=>hr 1 qo,fun _=>rfl⟩ W hv)
 have HR2:=qh (fun (W:World) (hv:IsVals W ad n H.V)=>qY3 HV (hr 1 qo) ad true ⟨fun _=>hr 2 qo,fun _=>rfl⟩ W hv)
 have HR3:=qh (fun (W:World) (hv:IsVals W ad n H.V)=>qVH HV (hr 1 qo) ad true ⟨fun _=>hr 3 qo,fun _=>rfl⟩ W hv)
 have HR4:=qh (fun (W:World) (hv:IsVals W ad n H.V)=>qPG HV ad true ⟨fun _=>hr 4 qo,fun _=>rfl⟩ W hv)
 have HR5:=qh (fun (W:World) (hv:IsVals W ad n H.V)=>qJ0 HV ad true ⟨fun _=>hr 5 qo,fun _=>rfl⟩ W hv)
 have HR6:=qh (fun (W:World) (hv:IsVals W ad n H.V)=>qFV HV (hr 4 qo) ad true ⟨fun _=>hr 6 qo,fun _=>rfl⟩ W hv)
 have HR7:=qh (fun (W:World) (hv:IsVals W ad n H.V)=>qKJ HV (hr 4 qo) ad true ⟨fun _=>hr 7 qo,fun _=>rfl⟩ W hv)
 have HR8:=qh (fun (W:World) (hv:IsVals W ad n H.V)=>qJh HV (hr 4 qo) ad true ⟨fun _=>hr 8 qo,fun _=>rfl⟩ W hv)
 have HR9:=qh (fun (W:World) (hv:IsVals W ad n H.V)=>qNX HV ad true ⟨fun _=>hr 9 qo,fun _=>rfl⟩ W hv)
 have hn:=HV.nums
 have hcx:c<=9223372036854775807:=hn.2.2.2.2.2.2.2.2
 have hni:n<=6238:=hn.2.2.2.2.2.2.1
 have hnc:=HV.cap
 clear hv hr hn
 go_enter Tryz.func106,Tryz.ntmps106
 go_wp2_with (first
  | (refine RiX ?_;clear c0 c1 c2;intro w2 HB2 HX2 c0 c1 c2)
  | (refine Rye ?_;clear c0 c1 c2;intro w3 HB3 HX3 c0 c1 c2 x0 x1 x2 x3)
  | (refine RH5 ?_;clear x0 x1 x2 x3;intro w4 HB4 HX4 x0 x1 x2 x3)
  | (refine Ry7 ?_;clear x0 x1 x2 x3;intro w5 HB5 HX5 x0 x1 x2 x3)
  | (refine RFC ?_;clear x0 x1 x2 x3;intro w6 HB6 HX6 x0 x1 x2 x3)
  | (refine RNO ?_;clear x0 x1 x2 x3;intro w7 HB7 HX7 x0 x1 x2 x3)
  | (refine RRm ?_;clear x0 x1 x2 x3;intro w8 HB8 HX8 x0 x1 x2 x3)
  | (refine Rfm ?_;clear x0 x1 x2 x3;intro w9 HB9 HX9 x0 x1 x2 x3)
  | (refine RCS ?_;clear x0 x1 x2 x3;intro w10 HB10 HX10 x0 x1 x2 x3)
  | (refine Rwb ?_;clear x0 x1 x2 x3;intro w11 HB11 HX11 x0 x1 x2 x3)
  | (refine R8l ?_;clear x0 x1 x2 x3;intro w12 HB12 HX12 x0 x1 x2 x3)
  | fail)
 go_ret2
 exact⟨rfl,HB12.o⟩

def XCheckIs (w:World) (t q s:Int) (A:Option Addr) (n c:Nat) (m:Nat) (b:Bool):Prop :=
 ∀ W,Below w.heap.size w W->Calls Tryz.prog 106 #[.agg #[.int .i64 t,.int .i64 q,.int .i64 s],.slice A n c] W fun e w'=>e = .returned (.tuple #[.int .i64 (m:Int),.bool b])/\Below W.heap.size W w'
theorem XCheckIs.grown {w w1:World}{t q s:Int}{A:Option Addr}{n c m:Nat}{b:Bool}(h:XCheckIs w t q s A n c m b)(hb:Below w.heap.size w w1):XCheckIs w1 t q s A n c m b :=
 fun W hW=>h W (Bgo hb hW)
theorem qOW (w:World)(t q s:Int)(A:Option Addr)(n c:Nat)(hnc:n<=c)(hc:c<=maxLen)(h:¬ (lC t q s≠0/\(n:Int)=lC t q s)):XCheckIs w t q s A n c 1 false :=
 fun W _=>qA2 t q s A n c hnc hc h W
theorem qZU {H:AuH}{n c:Nat}(HV:HeapV H n c)(ad:Addr)(w:World)(hv:IsVals w ad n H.V){m:Nat}{b:Bool}(h:H.Told m b):XCheckIs w H.t H.p H.s (some ad) n c m b:=by
 intro W hW
 rcases h with ⟨rfl,rfl,hr⟩|⟨rfl,k,rfl,h1,h2,hr,hno⟩
 ·exact qI9 HV ad hr W (hv.below hW)
 ·rcases(by omega:k=1\/k=2\/k=3\/k=4\/k=5\/k=6\/k=7\/k=8\/k=9) with rfl|rfl|rfl|rfl|rfl|rfl|rfl|rfl|rfl
  ·exact qSe HV ad hr hno W (hv.below hW)
  ·exact qSi HV ad hr hno W (hv.below hW)
  ·exact qQ2 HV ad hr hno W (hv.below hW)
  ·exact qJb HV ad hr hno W (hv.below hW)
  ·exact qPx HV ad hr hno W (hv.below hW)
  ·exact qWo HV ad hr hno W (hv.below hW)
  ·exact qBK HV ad hr hno W (hv.below hW)
  ·exact qZ8 HV ad hr hno W (hv.below hW)
  ·exact qEo HV ad hr hno W (hv.below hW)
end
section
theorem qHm (t q s:Int)(A:Option Addr)(n c m:Nat)(b:Bool)(w:World)(hC:XCheckIs w t q s A n c m b) :
  Calls Tryz.prog 65 #[.agg #[.int .i64 t,.int .i64 q,.int .i64 s],.slice A n c] w fun e w'=>e = .returned (.bool b)/\Below w.heap.size w w':=by
 have HX0:=qh (Held.new w 23 #[.int .i64 t,.int .i64 q,.int .i64 s])
 obtain⟨c0,c1,c2⟩:=HX0.o.three
 have HBW:=qh (Bnew (B0 w) (.cells #[.int .i64 t,.int .i64 q,.int .i64 s] 23))
 have HCK:=qh (hC _ HBW.o)
 clear hC
 go_enter Tryz.func65,Tryz.ntmps65
 go_wp2_with (first
  | (go_at_call 106;refine HCK.o.mono ?_;rintro e w2 ⟨rfl,hb2⟩;have HB2:=qh (Bgo HBW.o hb2);clear hb2)
  | fail)
 go_ret
 exact⟨rfl,HB2.o⟩

theorem qAK {H:AuH}{n c:Nat}(HV:HeapV H n c)(ad:Addr)(m:Nat)(w:World)(hv:IsVals w ad n H.V)(hC:XCheckIs w H.t H.p H.s (some ad) n c m true) :
  Calls Tryz.prog 68 #[.agg #[.int .i64 (H.t:Int),.int .i64 (H.p:Int),.int .i64 (H.s:Int)],.slice (some ad) n c] w fun e w'=>∃ u,e = .returned u/\w'.ownsRow w.heap.size 128 3 u H.parts.length (ptVs H.parts)/\Below w.heap.size w w':=by
 have HX0:=qh (Held.new w 23 #[.int .i64 (H.t:Int),.int .i64 (H.p:Int),.int .i64 (H.s:Int)])
 obtain⟨c0,c1,c2⟩:=HX0.o.three
 have HBW:=qh (Bnew (B0 w) (.cells #[.int .i64 (H.t:Int),.int .i64 (H.p:Int),.int .i64 (H.s:Int)] 23))
 have HSO:=qh (qHm (H.t:Int) (H.p:Int) (H.s:Int) (some ad) n c m true _ (hC.grown HBW.o))
 have HPP:=qh (fun (W:World) (h1:Below w.heap.size w W)=>qIF HV ad W (hv.below h1))
 unfold hpV at HPP
 clear hC hv
 go_enter Tryz.func68,Tryz.ntmps68
 go_wp2_with (first
  | (go_at_call 65;refine HSO.o.mono ?_;rintro e w2 ⟨rfl,hb2⟩;have HX2:=qh (HX0.o.keep hb2);have HB2:=qh (Bgo HBW.o hb2);have HB3:=qh (Bnew HB2.o (.cells #[.int .i64 (H.t:Int),.int .i64 (H.p:Int),.int .i64 (H.s:Int),.slice (some ad) n c] 114));clear hb2 c0 c1 c2;obtain⟨c0,c1,c2⟩:=HX2.o.three;obtain⟨x0,x1,x2,x3⟩:=(Held.new w2 114 #[.int .i64 (H.t:Int),.int .i64 (H.p:Int),.int .i64 (H.s:Int),.slice (some ad) n c]).four)
  | (go_at_call 108;refine(HPP.o _ HB3.o).mono ?_;rintro e w4 ⟨u,rfl,hown4,hb4⟩;have HO4:=qh hown4;have HB4:=qh (Bgo HB3.o hb4);clear hown4 hb4)
  | fail)
 go_ret
 exact⟨u,rfl,qIX HO4.o HB3.o.size,HB4.o⟩
end
section
section
variable {H : Type} {enc : TypeId × Value -> H} {P : Program} {w : World} {base : Nat} {sp : Nat -> Bool} {held : Bool}
theorem qV8 {t e:TypeId}{v:Value}{d:DataW H}{p:List MemPlace}(ht:P.underlying t=some (.slice e))(he:P.underlying e=some (.int .u32))(hc:P.cellsOf e=1)
  {r:Reach} {b0:Nat} (hval:Value.okWide P w r b0 t v) (h:DataW.Trod enc P w base sp held t v d p) (hlt:∀ x∈p,x.block<w.heap.size) :
  ∃ (A:Option Addr) (c:Nat) (ws:List Nat),v = .slice A ws.length c/\ws.length<=c/\c<=maxLen/\(∀ x∈ws,x<2^32)/\Reads w w.heap.size 1 A ws.length (valVs ws):=by
 obtain⟨fuel,hf⟩:=h
 have hv:v.cells=#[v]:=by
  obtain⟨A,n,c,rfl⟩:=okWide_slice ht hval
  rfl
 rw[hv] at hf
 rcases open_ints ht he hc hf with ⟨hcs,_⟩|⟨a,len,cap,zs,hcs,hb,hl,hm,hz,hx,hcell,hwf⟩
 ·exact MsV
 ·injection hcs with hcs
  subst hcs
  have hlz:len<=zs.length:=by rw[hz];split <;> omega
  have hlen:((zs.take len).map Int.toNat).length=len:=qs
  refine⟨some a,cap,(zs.take len).map Int.toNat,by rw[hlen],by rw[hlen];exact hl,hm,?_,?_⟩
  ·intro x hx
   obtain⟨z,hz1,rfl⟩:=List.mem_map.1 hx
   obtain⟨n,rfl,hn⟩:=qNK (hwf z (List.mem_of_mem_take hz1))
   simpa using hn
  ·refine⟨by rw[qBt];omega,fun hn=>?_⟩
   rw[hlen] at hn
   refine⟨a,rfl,?_,fun j u hu=>?_⟩
   ·exact MfV
   ·unfold valVs at hu
    rw[List.map_map] at hu
    have hj:j<len:=by
     rcases Nat.lt_or_ge j len with h1|h1
     ·exact h1
     ·rw[List.getElem?_eq_none qs] at hu;cases hu
    rw[List.getElem?_map,List.getElem?_take_of_lt hj,List.getElem?_eq_getElem qo] at hu
    simp only[Option.map_some,Option.some.injEq,Function.comp_apply] at hu
    subst hu
    rw[hcell j qo]
    have hw:=hwf zs[j] (List.getElem_mem _)
    obtain⟨n,hn1,_⟩:=qNK hw
    exact MM6
end
end
section
theorem qFz (W:World)(t q s:Int)(A:Option Addr)(c:Nat)(vals:List Nat)(hnc:vals.length<=c)(hcm:c<=maxLen)(h32:∀ x∈vals,x<2^32)(hR:Reads W W.heap.size 1 A vals.length (valVs vals))(h:lC t q s≠0/\(vals.length:Int)=lC t q s) :
  ∃ (H:AuH) (ad:Addr),t=H.t/\q=H.p/\s=H.s/\A=some ad/\(∀ i,H.V i=vals.getD i 0)/\HeapV H vals.length c/\IsVals W ad vals.length H.V:=by
 cases hr:rightB t q s
 ·exact absurd (qJj hr).5 h.1
 ·have hn:=(qQB t q s).1 hr
  have hl:=(qVu hr).5
  have hlen:0<vals.length:=by have:=h.2;rw[hl] at this;omega
  obtain⟨ad,rfl,hb,hc⟩:=hR.2 hlen
  have hx:∀ i,i<vals.length->vals[i]?=some (vals.getD i 0):=fun i hi=>by simp[List.getD,List.getElem?_eq_getElem hi]
  refine⟨⟨t.toNat,q.toNat,s.toNat,fun i=>vals.getD i 0⟩,ad,by show t=_;simp;omega,by show q=_;simp;omega,by show s=_;simp;omega,rfl,fun i=>rfl,⟨?_,?_,hnc,hcm,fun i hi=>?_⟩,hb,fun i hi=>?_⟩
  ·show rightB ((t.toNat:Nat):Int) ((q.toNat:Nat):Int) ((s.toNat:Nat):Int)=true
   rw[show ((t.toNat:Nat):Int)=t by omega,show ((q.toNat:Nat):Int)=q by omega,show ((s.toNat:Nat):Int)=s by omega]
   exact hr
  ·show vals.length=30+4*t.toNat+6*q.toNat
   have:=h.2
   rw[hl] at this
   omega
  ·exact h32 _ (List.mem_of_getElem? (hx i hi))
  ·refine hc i _ ?_
   unfold valVs
   rw[List.getElem?_map,hx i hi]
   rfl
theorem qXV (W:World)(t q s:Int)(A:Option Addr)(c:Nat)(vals:List Nat)(hnc:vals.length<=c)(hcm:c<=maxLen)(h32:∀ x∈vals,x<2^32)(hR:Reads W W.heap.size 1 A vals.length (valVs vals)) :
  (∃ m,XCheckIs W t q s A vals.length c m false)\/∃ (H:AuH) (ad:Addr) (m:Nat),t=H.t/\q=H.p/\s=H.s/\A=some ad/\(∀ i,H.V i=vals.getD i 0)/\HeapV H vals.length c/\IsVals W ad vals.length H.V/\H.Told m true/\XCheckIs W H.t H.p H.s (some ad) vals.length c m true:=by
 by_cases h:lC t q s≠0/\(vals.length:Int)=lC t q s
 ·obtain⟨H,ad,rfl,rfl,rfl,rfl,hV,HV,hv⟩:=qFz W t q s A c vals hnc hcm h32 hR h
  obtain⟨m,b,hto⟩:=H.told_is
  have hX:=qZU HV ad W hv hto
  cases b with
  | true=>exact .inr ⟨H,ad,m,rfl,rfl,rfl,rfl,hV,HV,hv,hto,hX⟩
  | false=>exact .inl ⟨m,hX⟩
 ·exact .inl ⟨1,qOW W t q s A vals.length c hnc hcm h⟩
end
open Go.Maps
section
theorem qAW {H:AuH}{m:Nat}(h:H.Told m true):∀ i,i<10->H.rule i:=by
 rcases h with ⟨_,_,h⟩|⟨h,_⟩
 ·exact h
 ·cases h
end
section
section
variable {H H' : AuH} {n c c' : Nat} {L L' : Nat -> List Nat} {q p i : Nat}
theorem qSR (HV:HeapV H n c)(hk:H.K q=3)(hi:i<slotI (H.Cl q)):1<=H.zs q/\i*H.zs q+H.zs q<=H.pg:=by
 have h8:0<=H.Cl q/\H.Cl q<=8:=by have:=H.K_cases q;omega
 obtain⟨k,hkk⟩:=Int.eq_ofNat_of_zero_le h8.1
 have hs:10<=(H.s:Int)/\(H.s:Int)<=20:=by have:=HV.nums;omega
 unfold AuH.zs
 rw[hkk] at hi ⊢
 rw[qPN] at hi
 have hf:=qRy hs (k:=k) qo
 have hp:pageS (H.s:Int)=H.pg:=by unfold AuH.pg;rw[qVt hs,Int.toNat_natCast]
 rw[hp] at hf
 have h1:(i+1)*sizeN (H.s:Int) (k:Int)<=slotN k*sizeN (H.s:Int) (k:Int):=Nat.mul_le_mul_right _ hi
 have h2:=hf.2.2.1
 rw[Nat.mul_comm] at h2
 rw[Nat.add_mul,Nat.one_mul] at h1
 omega
theorem qAC (HV:HeapV H n c)(h:H.Ok L)(z:Int):(pkA H.parts z).Nodup:=qEy (AuH.parts_contig HV h.spans.tiled) z
end
section
variable {Z : Nat -> Nat -> List Int} {t0 k0 k : Nat} {l : List Int}
end
end
section
def qTk (x:Nat):Nat:=(x+1)%4294967296
def qS4 (x:Nat):Nat:=(x+4294967295)%4294967296
section
variable (n : Nat) (K : Nat -> Option Nat) (t q s : Int)
def onS (p i:Nat) (st:Vst):Vst :=
 putS n (getS n K (putS n (getS n K st (pageI t q s p 4)) (pageI t q s p 4) (getV n K st (pageI t q s p 4) ||| 2^i)) 1) 1
  (qTk (getV n K (putS n (getS n K st (pageI t q s p 4)) (pageI t q s p 4) (getV n K st (pageI t q s p 4) ||| 2^i)) 1))
def offS (p i:Nat) (st:Vst):Vst :=
 putS n (getS n K (putS n (getS n K st (pageI t q s p 4)) (pageI t q s p 4) (clrB (getV n K st (pageI t q s p 4)) i)) 1) 1
  (qS4 (getV n K (putS n (getS n K st (pageI t q s p 4)) (pageI t q s p 4) (clrB (getV n K st (pageI t q s p 4)) i)) 1))
end
section
variable {H : AuH} {n c : Nat} {K : Nat -> Option Nat} {st : Vst} {L : Nat -> List Nat} {p i : Nat}
theorem qYz (HV:HeapV H n c)(W:Work H.t H.p H.s n K st L H.V)(hp:p<H.p)(v m:Nat) :
  getV n K st (pageI H.t H.p H.s p 4)=H.cel p 4/\getV n K (putS n (getS n K st (pageI H.t H.p H.s p 4)) (pageI H.t H.p H.s p 4) v) 1=H.V 1 /\
   Work H.t H.p H.s n K (putS n (getS n K (putS n (getS n K st (pageI H.t H.p H.s p 4)) (pageI H.t H.p H.s p 4) v) 1) 1 m) L (updF (updF H.V (pc H.t p 4) v) 1 m):=by
 have hlen:=HV.len
 have hpg:pageI H.t H.p H.s p 4=((pc H.t p 4:Nat):Int):=HV.page (b:=4) hp qo
 have hfar:¬ LinkCell H.t ((pc H.t p 4:Nat):Int):=qXR (q:=p) (b:=4) qo qo qo
 have hin:pc H.t p 4<n:=by unfold pc;omega
 have h1in:1<n:=qo
 have hne:pc H.t p 4≠1:=by unfold pc;omega
 have W1:=W.get (pageI H.t H.p H.s p 4)
 rw[hpg] at W1 ⊢
 have W2:=W1.put hin hfar v
 have hl1:¬ LinkCell H.t ((1:Nat):Int):=qCT (.inl qo)
 refine⟨?_,?_,?_⟩
 ·rw[W.val (i:=pc H.t p 4) hin hfar];rfl
 ·have:=W2.val (i:=1) h1in hl1
  rw[show ((1:Nat):Int)=1 from rfl] at this
  rw[this]
  show updF H.V (pc H.t p 4) v 1=_
  unfold updF
  rw[if_neg (Ne.symm hne)]
 ·exact(W2.get 1).put (i:=1) h1in hl1 m
end
end
end Go.Proofs.YtjjfcaliippgpaaGreatDoor
