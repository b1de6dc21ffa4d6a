/-
  Contracts of the functions of package half and of the document's answers to it that only reckon.
-/
import Derived.Test.YtjjfcaliippgpaaGreatDoorWKit
import Derived.Test.YtjjfcaliippgpaaGreatDoorW02
import Derived.WalkKit
import Derived.ProofKit
import Derived.BigQuiet
import Derived.Outline
import Derived.Deep.QuietTactic
import Derived.Test.YtjjfcaliippgpaaGreatDoorW01
import Derived.Deep.RegionHeld3
import Derived.IntWalk
import Derived.KernelRfl
namespace Go.Proofs.YtjjfcaliippgpaaGreatDoor
theorem Rjo {P Q:Prop}(kq:Q)(h:HQ Q->P:=by
 intro kq
 refine(qTb 0 t 1 16 _).mono ?_
 rintro e w1 ⟨rfl,hb0⟩
 rw[HX0.o]
 have hc1:=hc.keep hb0
 obtain⟨d0,d1,d2,d3,d4,d5,d6,d7,d8,d9,d10,d11⟩:=qID hc1
 revert w1 hb0 hc1 d0 d1 d2 d3 d4 d5 d6 d7 d8 d9 d10 d11
 exact kq.o):P:=h ⟨kq⟩
theorem MVv {P:Prop}(h:P:=by
 have HR:=qh hr
 clear hr
 go_enter Tryz.func152,Tryz.ntmps152
 go_wp2_with fail
 refine(qOU t p s _).mono ?_
 rintro e w1 ⟨rfl,hb1⟩
 go_wp2_with fail
 refine(qAM t p s _ _ (Held.new w1 _ _)).mono ?_
 rintro e w2 ⟨rfl,hb2⟩
 rw[HR.o]
 go_wp2
 go_ret
 exact⟨by rw[HK.o];rfl,Bgo (Bnew (Bgo (Bnew (B0 _) _) hb1) _) hb2⟩):P:=h
theorem M4N {P:Prop}(h:P:=by
 go_enter Tryz.func184,Tryz.ntmps184
 go_wp2_with fail
 refine(qXH t p s g _ hc).mono ?_
 rintro e w1 ⟨rfl,hb⟩
 rw[HK.o]
 go_wp2
 go_ret
 exact⟨by first|rfl|trivial,hb⟩):P:=h
theorem Mpd {P:Prop}(h:P:=by
 have H:=qh (qS8 (t:=t) (p:=p) (s:=s) qo)
 exact MoO):P:=h
theorem MV6 {P:Prop}(h:P:=by
 have H:=qh (qDV (a:=a) (k:=k) qo)
 exact M0u):P:=h
theorem MoO {P:Prop}(h:P:=by
 go_enter Tryz.func109,Tryz.ntmps109
 go_wp2
 go_ret
 exact⟨by rw[H.o];rfl,Bnew (B0 _) _⟩):P:=h
theorem MFq {P:Prop}(h:P:=by
 have h:¬ infoP k l c:=of_decide_eq_false hb
 unfold infoP at h
 simp only[and_true,reduceCtorEq,and_false,or_false,false_or]
 omega):P:=h
theorem Ms9 {P:Prop}(h:P:=by
 go_enter Tryz.func183,Tryz.ntmps183
 go_wp2
 go_ret
 exact⟨by rw[H.o];rfl,Bnew (B0 _) _⟩):P:=h
theorem Mx3 {P:Prop}(h:P:=by
 have h:infoP k l c:=qLf hb
 unfold infoP at h
 simp only[and_true,reduceCtorEq,and_false,or_false,false_or]
 omega):P:=h
theorem MRH {P:Prop}(h:P:=by
 unfold rightB at h
 unfold idxI
 cases h0:outB t 1 16 <;> cases h1:outB p 4 1024 <;> cases h2:outB s 10 20 <;> simp_all):P:=h
theorem M0u {P:Prop}(h:P:=by
 go_enter Tryz.func167,Tryz.ntmps167
 go_wp2
 go_ret
 exact⟨by rw[H.o];rfl,rfl⟩):P:=h
theorem Mrn {P:Prop}(h:P:=by
 go_wp2
 go_ret
 exact⟨by rw[HP.o];rfl,Bgo (Bnew (B0 _) _) hb1⟩):P:=h
end Go.Proofs.YtjjfcaliippgpaaGreatDoor
set_option linter.unusedVariables false
set_option linter.unusedSimpArgs false
set_option maxRecDepth 100000
set_option maxHeartbeats 25600000
namespace Go.Proofs.YtjjfcaliippgpaaGreatDoor
open Go.ChangeShapes Go.WideShapes Go.ChangeAt Go.RowKit
section
def fieldB (a k:Int):Bool:=decide (0<=a/\1<=k/\a<=64-k)
theorem qVM {a k:Int}(h0:0<=a)(h1:1<=k)(h2:a<=64-k):fieldB a k=true:=by unfold fieldB;simp[h0,h1,h2]
theorem qDV {a k:Int}(h:¬ (0<=a/\1<=k/\a<=64-k)):fieldB a k=false:=by unfold fieldB;exact decide_eq_false h
theorem qIz (a k:Int)(ha : -9223372036854775808<=a)(ha':a<=9223372036854775807)(hk : -9223372036854775808<=k)(hk':k<=9223372036854775807)(w:World) :
  Calls Tryz.prog 167 #[.int .i64 a,.int .i64 k] w fun e w'=>e = .returned (.bool (fieldB a k))/\w=w':=by
 by_cases h0:0<=a
 ·by_cases h1:1<=k
  ·by_cases h2:a<=64-k
   ·have H:=qh (qVM (a:=a) (k:=k) qo qo qo)
    exact M0u
   ·exact MV6
  ·exact MV6
 ·exact MV6
theorem qC2:∀ k:Fin 65,1<=k.val->IntKind.u64.wrap (IntKind.u64.wrap (2^k.val)-1)=((2^k.val-1:Nat):Int):=by decide +kernel
theorem qKr (k:Int)(h0:1<=k)(h1:k<=64)(w:World) :
  Calls Tryz.prog 168 #[.int .i64 k] w fun e w'=>e = .returned (.int .u64 ((2^k.toNat-1:Nat):Int))/\w=w':=by
 have H:=qh (qC2 ⟨k.toNat,qo⟩ qs)
 go_enter Tryz.func168,Tryz.ntmps168
 go_wp2
 go_ret
 exact⟨qYg H.o,rfl⟩
theorem qAJ (n:Nat)(h:n<2^32):bits .and .u32 (n:Int) 1=((n%2:Nat):Int):=by
 have:=u32_and_nat n 1 h qo
 rw[nat_mask1] at this
 exact this
theorem qH5 (v k:Nat):((((v / 2^k%2:Nat):Int))==1)=v.testBit k:=by
 rw[HM.bit_eq]
 cases v.testBit k <;> rfl
theorem qN6 (v:Nat)(i:Int)(b:Bool)(hv:v<2^32)(h0:0<=i)(h1:i<32)(hb:v.testBit i.toNat=b)(w:World) :
  Calls Tryz.prog 193 #[.int .u32 (v:Int),.int .i64 i] w fun e w'=>e = .returned (.bool b)/\w=w':=by
 have H:=qh hb
 clear hb
 go_enter Tryz.func193,Tryz.ntmps193
 go_wp2
 go_ret
 exact⟨qM8 (by rw[qKV,qAJ _ (Nat.lt_of_le_of_lt (Nat.div_le_self _ _) hv),qH5,H.o]),rfl⟩
theorem qA0 (v:Nat)(i:Int)(b:Bool)(hv:v<2^32)(h0:0<=i)(h1:i<32)(hb:v.testBit i.toNat=b)(w:World) :
  Calls Tryz.prog 58 #[.int .u32 (v:Int),.int .i64 i] w fun e w'=>e = .returned (.bool b)/\w=w':=by
 have H:=qh hb
 clear hb
 go_enter Tryz.func58,Tryz.ntmps58
 go_wp2
 go_ret
 exact⟨qM8 (by rw[qKV,qQI,qH5,H.o]),rfl⟩
theorem qNm (v:Nat)(hv:v<2^32)(w:World) :
  Calls Tryz.prog 194 #[.int .u32 (v:Int)] w fun e w'=>e = .returned (.int .i64 ((HM.onesTo v 32:Nat):Int))/\w=w':=by
 go_enter Tryz.func194,Tryz.ntmps194
 go_wp2
 go_loop [3,5] (fun s i=>∃ k:Nat,k<=32/\i = .int .i64 k/\s = .int .i64 ((HM.onesTo v k:Nat):Int)) (fun _ i=>32-(intOf i).toNat)
 case atStart=>exact⟨0,qo,rfl,rfl⟩
 case round =>
  obtain⟨k,hk,rfl,rfl⟩:=hrel
  have hle:=HM.onesTo_le v k
  by_cases hlt:k<32
  ·have HS:=qh (HM.onesTo_succ v k)
   cases hb:v.testBit k
   all_goals
    have HT:=qh ((congrArg v.testBit (Int.toNat_natCast k)).trans hb)
    have HB:=qh hb
    clear hb
    go_wp2_with (go_at_call 193;refine(qN6 v k _ hv qo qo HT.o _).mono ?_;rintro e w' ⟨rfl,rfl⟩)
    go_round
    case rel=>exact⟨k+1,qo,by go_num,by rw[HS.o,HB.o];go_num⟩
    case measure=>simp[intOf];omega
  ·obtain rfl:k=32:=qo
   go_wp2
   go_ret
   exact⟨rfl,rfl⟩
theorem qTN (v:Nat)(hv:v<2^32)(w:World) :
  Calls Tryz.prog 128 #[.int .u32 (v:Int)] w fun e w'=>e = .returned (.int .i64 ((HM.onesTo v 32:Nat):Int))/\w=w':=by
 go_enter Tryz.func128,Tryz.ntmps128
 go_wp2
 go_loop [3,4] (fun s i=>∃ k:Nat,k<=32/\i = .int .i64 k/\s = .int .i64 ((HM.onesTo v k:Nat):Int)) (fun _ i=>32-(intOf i).toNat)
 case atStart=>exact⟨0,qo,rfl,rfl⟩
 case round =>
  obtain⟨k,hk,rfl,rfl⟩:=hrel
  have hle:=HM.onesTo_le v k
  by_cases hlt:k<32
  ·have HS:=qh (HM.onesTo_succ v k)
   cases hb:v.testBit k
   all_goals
    have HT:=qh ((congrArg v.testBit (Int.toNat_natCast k)).trans hb)
    have HB:=qh hb
    clear hb
    go_wp2_with (go_at_call 58;refine(qA0 v k _ hv qo qo HT.o _).mono ?_;rintro e w' ⟨rfl,rfl⟩)
    go_round
    case rel=>exact⟨k+1,qo,by go_num,by rw[HS.o,HB.o];go_num⟩
    case measure=>simp[intOf];omega
  ·obtain rfl:k=32:=qo
   go_wp2
   go_ret
   exact⟨rfl,rfl⟩
theorem qLV (n:Int)(h0 : -9223372036854775808<=n)(h1:n<=9223372036854775807)(w:World) :
  Calls Tryz.prog 223 #[.int .i64 n] w fun e w'=>e = .returned (.int .i64 (HM.logI n))/\w=w':=by
 go_enter Tryz.func223,Tryz.ntmps223
 go_wp2
 go_loop [3,5] (fun l i=>∃ k:Nat,k<=63/\i = .int .i64 k/\l = .int .i64 ((k:Int)-1)/\qH (0<k->1<=n / 2^(k-1))) (fun _ i=>63-(intOf i).toNat)
 case atStart=>exact⟨0,qo,rfl,rfl,qh (fun h=>absurd h qo)⟩
 case round =>
  obtain⟨k,hk,rfl,rfl,HF⟩:=hrel
  by_cases hlt:n / 2^k<1
  ·have HL:qH (HM.logI n=(k:Int)-1):=by
    by_cases hk0:k=0
    ·subst hk0
     exact qh (HM.logI_no n (by simpa using hlt))
    ·have hs:k-1+1=k:=qo
     refine qh ((HM.logI_at n (k-1) (HF.o qo) (by rw[hs];exact hlt)).trans qo)
   go_wp2
   go_ret
   exact⟨qYg HL.o.symm,rfl⟩
  ·have hk2:k<63:=by
    rcases Nat.lt_or_ge k 63 with h|h
    ·exact h
    ·obtain rfl:k=63:=qo
     exact absurd (show n / 2^63<1 from by omega) hlt
   have HN:=qh hlt
   go_wp2
   go_round
   case rel=>exact⟨k+1,qo,by go_num,by go_num,qh (fun _=>by have:=HN.o;simp only[Nat.add_sub_cancel];omega)⟩
   case measure=>simp[intOf];omega
theorem qWT (n:Int)(h0 : -9223372036854775808<=n)(h1:n<=9223372036854775807)(w:World) :
  Calls Tryz.prog 198 #[.int .i64 n] w fun e w'=>e = .returned (.int .i64 (HM.logI n))/\w=w':=by
 go_enter Tryz.func198,Tryz.ntmps198
 go_wp2
 go_loop [0,3] (fun m l=>∃ (q:Int) (k:Nat),k<=63/\m = .int .i64 q /\ -9223372036854775808<=q/\q<=9223372036854775807/\qH (q=n / 2^k)/\l = .int .i64 ((k:Int)-1)/\qH (0<k->1<=n / 2^(k-1))) (fun m _=>(intOf m).toNat)
 case atStart=>exact⟨n,0,qo,rfl,h0,h1,qh (by simp),rfl,qh (fun h=>absurd h qo)⟩
 case round =>
  obtain⟨q,k,hk,rfl,hq0,hq1,HQ,rfl,HF⟩:=hrel
  by_cases hlt:q<1
  ·have HL:qH (HM.logI n=(k:Int)-1):=by
    have hq:=HQ.o
    by_cases hk0:k=0
    ·subst hk0
     exact qh (HM.logI_no n (by rw[hq] at hlt;simpa using hlt))
    ·have hs:k-1+1=k:=qo
     refine qh ((HM.logI_at n (k-1) (HF.o qo) (by rw[hs,<- hq];exact hlt)).trans qo)
   go_wp2
   go_ret
   exact⟨qYg HL.o.symm,rfl⟩
  ·have hk2:k<63:=by
    rcases Nat.lt_or_ge k 63 with h|h
    ·exact h
    ·obtain rfl:k=63:=qo
     have hq:=HQ.o
     omega
   have HS:qH (q / 2=n / 2^(k+1)):=qh (by rw[HQ.o,Int.pow_succ,Int.ediv_ediv_of_nonneg (Int.le_of_lt (Int.pow_pos qo))])
   have hp:1<=q:=qo
   clear hlt
   go_wp2
   go_round
   case rel=>exact⟨q / 2,k+1,qo,rfl,qo,qo,HS,by go_num,qh (fun _=>by have:=HQ.o;simp only[Nat.add_sub_cancel];omega)⟩
   case measure=>simp[intOf];omega
theorem qL0 (h l:Nat)(hh:h<2^32)(hl:l<2^32):bits .or .u64 ((h:Int)*4294967296) (l:Int)=((h*4294967296+l:Nat):Int):=by
 have e:(h:Int)*4294967296=((h*4294967296:Nat):Int):=qo
 rw[e,u64_or_nat _ _ qo qo,nat_join 32 _ _ qo hl]
theorem qPo (h l:Nat)(hh:h<2^32)(hl:l<2^32)(w:World) :
  Calls Tryz.prog 131 #[.int .u32 (h:Int),.int .u32 (l:Int)] w fun e w'=>e = .returned (.int .u64 ((h*4294967296+l:Nat):Int))/\w=w':=by
 go_enter Tryz.func131,Tryz.ntmps131
 go_wp2
 go_ret
 exact⟨qYg (qL0 h l hh hl),rfl⟩
theorem Lo_c (x:Nat)(hx:x<2^64)(w:World) :
  Calls Tryz.prog 171 #[.int .u64 (x:Int)] w fun e w'=>e = .returned (.int .u32 ((x%4294967296:Nat):Int))/\w=w':=by
 go_enter Tryz.func171,Tryz.ntmps171
 go_wp2
 go_ret
 exact⟨qYg (by first|omega|(rw[Int.tmod_eq_emod_of_nonneg qo];omega)|(rw[IntKind.wrap_u32];omega)),rfl⟩
theorem qYb {a k:Int}(h:fieldB a k=true):∃ a' k':Nat,a=a'/\k=k'/\1<=k'/\a'+k'<=64:=by
 unfold fieldB at h
 have:=of_decide_eq_true h
 exact⟨a.toNat,k.toNat,qo,qo,qo,qo⟩
def getI (x:Nat) (a k:Int):Nat:=if fieldB a k then HM.getN x a.toNat k.toNat else 0
theorem qCB (y k:Nat)(hy:y<2^64)(hk:k<=64):bits .and .u64 (y:Int) ((2^k-1:Nat):Int)=((y%2^k:Nat):Int):=by
 have h2:2^k<=2^64:=Nat.pow_le_pow_right qo hk
 rw[u64_and_nat y _ hy qo,Nat.and_two_pow_sub_one_eq_mod]
theorem qUM (x:Nat)(a k:Int)(hx:x<2^64)(ha : -9223372036854775808<=a)(ha':a<=9223372036854775807)(hk : -9223372036854775808<=k)(hk':k<=9223372036854775807)(w:World) :
  Calls Tryz.prog 133 #[.int .u64 (x:Int),.int .i64 a,.int .i64 k] w fun e w'=>e = .returned (.int .u64 ((getI x a k:Nat):Int))/\∃ n,w'=w.drewN n:=by
 cases hf:fieldB a k
 ·have H:=qh hf
  clear hf
  go_enter Tryz.func133,Tryz.ntmps133
  go_wp2_with (go_at_call 167;refine(qIz a k ha ha' hk hk' _).mono ?_;rintro e w' ⟨rfl,rfl⟩;rw[H.o])
  go_ret
  exact⟨qYg (by unfold getI;rw[H.o];rfl),0,rfl⟩
 ·have H:=qh hf
  obtain⟨a',k',rfl,rfl,h1,h2⟩:=qYb hf
  clear hf
  go_enter Tryz.func133,Tryz.ntmps133
  go_wp2_with (go_at_call 167;refine(qIz a' k' ha ha' hk hk' _).mono ?_;rintro e w' ⟨rfl,rfl⟩;rw[H.o])
  go_quiet ((go_at_call 168;exact qIx (qKr k' qo qo _)))
  go_wp2
  go_ret
  exact⟨qYg (by rw[qKV,qCB _ _ (Nat.lt_of_le_of_lt (Nat.div_le_self _ _) hx) qo];unfold getI;rw[H.o,if_pos rfl,Int.toNat_natCast,Int.toNat_natCast];rfl),nq,rfl⟩
def putOk (a k:Int) (v:Nat):Bool:=fieldB a k&&decide (v<2^k.toNat)
def putI (x:Nat) (a k:Int) (v:Nat):Nat:=if putOk a k v then HM.putN x a.toNat k.toNat v else 0
theorem qRB (n:Nat)(h:n<2^64):IntKind.u64.wrap (n:Int)=(n:Int):=by
 exact MMY
theorem qU1 (x a k v:Nat)(hx:x<2^64)(h:a+k<=64)(hv:v<2^k) :
  bits .or .u64 (bits .andNot .u64 (x:Int) (IntKind.u64.wrap (((2^k-1:Nat):Int)*2^a))) (IntKind.u64.wrap ((v:Int)*2^a))=((HM.putN x a k v:Nat):Int):=by
 have h1:=HM.mask_lt a k h
 have h2:v*2^a<2^64:=Nat.lt_of_le_of_lt (Nat.mul_le_mul_right _ qo) h1
 have e1:((2^k-1:Nat):Int)*2^a=(((2^k-1)*2^a:Nat):Int):=by rw[Int.natCast_mul,Int.natCast_pow];rfl
 have e2:(v:Int)*2^a=((v*2^a:Nat):Int):=by rw[Int.natCast_mul,Int.natCast_pow];rfl
 rw[e1,e2,qRB _ h1,qRB _ h2,u64_andNot_nat _ _ hx h1,u64_or_nat _ _ (Nat.lt_of_le_of_lt Nat.and_le_left hx) h2]
 rfl
theorem qNM (x v:Nat)(a k:Int)(hx:x<2^64)(hv:v<2^64)(ha : -9223372036854775808<=a)(ha':a<=9223372036854775807)(hk : -9223372036854775808<=k)(hk':k<=9223372036854775807)(w:World) :
  Calls Tryz.prog 170 #[.int .u64 (x:Int),.int .i64 a,.int .i64 k,.int .u64 (v:Int)] w fun e w'=>e = .returned (.tuple #[.int .u64 ((putI x a k v:Nat):Int),.bool (putOk a k v)])/\∃ n,w'=w.drewN n:=by
 cases hf:fieldB a k
 ·have H:=qh hf
  clear hf
  go_enter Tryz.func170,Tryz.ntmps170
  go_wp2_with (go_at_call 167;refine(qIz a k ha ha' hk hk' _).mono ?_;rintro e w' ⟨rfl,rfl⟩;rw[H.o])
  go_ret2
  exact⟨by unfold putI putOk;rw[H.o];rfl,0,rfl⟩
 ·have H:=qh hf
  obtain⟨a',k',rfl,rfl,h1,h2⟩:=qYb hf
  clear hf
  by_cases hlt:v<2^k'
  ·have HO:qH (putOk a' k' v=true):=qh (by unfold putOk;rw[H.o,Int.toNat_natCast];simp[hlt])
   have HP:qH (putI x a' k' v=HM.putN x a' k' v):=qh (by unfold putI;rw[HO.o,if_pos rfl,Int.toNat_natCast,Int.toNat_natCast])
   have HB:=qh (qU1 x a' k' v hx h2 hlt)
   have hng:¬ (((2^k'-1:Nat):Int)<(v:Int)):=qo
   go_enter Tryz.func170,Tryz.ntmps170
   go_wp2_with (first|(go_at_call 167;refine(qIz a' k' ha ha' hk hk' _).mono ?_;rintro e w' ⟨rfl,rfl⟩;rw[H.o])|(go_at_call 168;refine(qKr k' qo qo _).mono ?_;rintro e w' ⟨rfl,rfl⟩;rw[Int.toNat_natCast]))
   go_quiet ((go_at_call 168;exact qIx (qKr k' qo qo _)))
   go_wp2
   go_ret2
   exact⟨by rw[HO.o,HP.o,<- HB.o];rfl,nq,rfl⟩
  ·have HO:qH (putOk a' k' v=false):=qh (by unfold putOk;rw[H.o,Int.toNat_natCast];simp[hlt])
   have HP:qH (putI x a' k' v=0):=qh (by unfold putI;rw[HO.o];rfl)
   have hg:(((2^k'-1:Nat):Int)<(v:Int)):=by have:=Nat.two_pow_pos k';omega
   go_enter Tryz.func170,Tryz.ntmps170
   go_wp2_with (first|(go_at_call 167;refine(qIz a' k' ha ha' hk hk' _).mono ?_;rintro e w' ⟨rfl,rfl⟩;rw[H.o])|(go_at_call 168;refine(qKr k' qo qo _).mono ?_;rintro e w' ⟨rfl,rfl⟩;rw[Int.toNat_natCast]))
   go_ret2
   exact⟨by rw[HO.o,HP.o];rfl,0,rfl⟩
end
section
def outB (v l m:Int):Bool:=decide (v<l\/m<v)
theorem qFX {v l m:Int}(h:v<l):outB v l m=true:=by unfold outB;simp[h]
theorem qVh {v l m:Int}(h:m<v):outB v l m=true:=by unfold outB;simp[h]
theorem qMA {v l m:Int}(h:l<=v)(h':v<=m):outB v l m=false:=by unfold outB;exact qf
def rightB (t p s:Int):Bool := !(outB t 1 16)&&(!(outB p 4 1024) && !(outB s 10 20))
theorem qQB (t p s:Int):rightB t p s=true↔(1<=t/\t<=16)/\(4<=p/\p<=1024)/\10<=s/\s<=20:=by
 unfold rightB outB
 simp only[Bool.and_eq_true,Bool.not_eq_true',decide_eq_false_iff_not]
 omega

theorem qTb (a v l m:Int)(w:World) :
  Calls Tryz.prog 183 #[.agg #[.int .i64 a,.int .i64 v,.int .i64 l,.int .i64 m]] w fun e w'=>e = .returned (.bool (outB v l m))/\Below w.heap.size w w':=by
 by_cases h0:v<l
 ·have H:=qh (qFX (m:=m) h0)
  exact Ms9
 ·by_cases h1:m<v
  ·have H:=qh (qVh (l:=l) h1)
   exact Ms9
  ·have H:=qh (qMA (v:=v) (l:=l) (m:=m) qo qo)
   exact Ms9

def numV (t p s:Int):Array Value:=#[.int .i64 0,.int .i64 t,.int .i64 1,.int .i64 16,.int .i64 16,.int .i64 p,.int .i64 4,.int .i64 1024,.int .i64 32,.int .i64 s,.int .i64 10,.int .i64 20]
theorem qOU (t p s:Int)(w:World) :
  Calls Tryz.prog 182 #[.agg #[.int .i64 t,.int .i64 p,.int .i64 s]] w fun e w'=>e = .returned (.agg #[.int .i64 0,.int .i64 t,.int .i64 1,.int .i64 16,.int .i64 16,.int .i64 p,.int .i64 4,.int .i64 1024,.int .i64 32,.int .i64 s,.int .i64 10,.int .i64 20])/\Below w.heap.size w w':=by
 go_enter Tryz.func182,Tryz.ntmps182
 go_wp2
 exact bodyPost_ret (v := .agg #[.int .i64 0,.int .i64 t,.int .i64 1,.int .i64 16,.int .i64 16,.int .i64 p,.int .i64 4,.int .i64 1024,.int .i64 32,.int .i64 s,.int .i64 10,.int .i64 20]) (by simp[results,Tryz.results182,go_sem]) rfl ⟨rfl,Bnew (Bnew (B0 _) _) _⟩

theorem qID {t p s:Int}{g:Nat}{T:TypeId}{w:World}(h:Held w g T (numV t p s)):w.cell? ⟨g,0,none⟩=some (.int .i64 0)/\w.cell? ⟨g,1,none⟩=some (.int .i64 t)/\w.cell? ⟨g,2,none⟩=some (.int .i64 1)/\w.cell? ⟨g,3,none⟩=some (.int .i64 16)/\w.cell? ⟨g,4,none⟩=some (.int .i64 16)/\w.cell? ⟨g,5,none⟩=some (.int .i64 p)/\w.cell? ⟨g,6,none⟩=some (.int .i64 4)/\w.cell? ⟨g,7,none⟩=some (.int .i64 1024)/\w.cell? ⟨g,8,none⟩=some (.int .i64 32)/\w.cell? ⟨g,9,none⟩=some (.int .i64 s)/\w.cell? ⟨g,10,none⟩=some (.int .i64 10)/\w.cell? ⟨g,11,none⟩=some (.int .i64 20) :=
 ⟨h.cell 0,h.cell 1,h.cell 2,h.cell 3,h.cell 4,h.cell 5,h.cell 6,h.cell 7,h.cell 8,h.cell 9,h.cell 10,h.cell 11⟩
def idxI (t p s:Int):Int:=if outB t 1 16 then 0 else if outB p 4 1024 then 1 else if outB s 10 20 then 2 else -1
theorem qXH (t p s:Int)(g:Nat)(w:World)(hc:Held w g 207 (numV t p s)) :
  Calls Tryz.prog 202 #[.slice (some ⟨g,0,none⟩) 3 3,.func (.func 183) #[] #[]] w fun e w'=>e = .returned (.int .i64 (idxI t p s))/\Below w.heap.size w w':=by
 obtain⟨c0,c1,c2,c3,c4,c5,c6,c7,c8,c9,c10,c11⟩:=qID hc
 cases h0:outB t 1 16
 ·cases h1:outB p 4 1024
  ·cases h2:outB s 10 20
   ·have HX0:=qh h0
    have HX1:=qh h1
    have HX2:=qh h2
    have HI:qH (idxI t p s = -1):=qh (by unfold idxI;simp[h0,h1,h2])
    clear h0 h1 h2
    go_enter Tryz.func202,Tryz.ntmps202
    go_wp2
    refine wp_loop_rounds 4 ?_
    rw[rounds_succ]
    go_wp2_with fail
    refine Rjo ?_;clear c0 c1 c2 c3 c4 c5 c6 c7 c8 c9 c10 c11;intro w1 hb0 hc1 d0 d1 d2 d3 d4 d5 d6 d7 d8 d9 d10 d11
    go_wp2_with fail
    rw[rounds_succ]
    go_wp2_with fail
    refine(qTb 16 p 4 1024 _).mono ?_
    rintro e w2 ⟨rfl,hb1⟩
    rw[HX1.o]
    have hc2:=hc1.keep hb1
    clear d0 d1 d2 d3 d4 d5 d6 d7 d8 d9 d10 d11
    obtain⟨d0,d1,d2,d3,d4,d5,d6,d7,d8,d9,d10,d11⟩:=qID hc2
    go_wp2_with fail
    rw[rounds_succ]
    go_wp2_with fail
    refine(qTb 32 s 10 20 _).mono ?_
    rintro e w3 ⟨rfl,hb2⟩
    rw[HX2.o]
    have hc3:=hc2.keep hb2
    clear d0 d1 d2 d3 d4 d5 d6 d7 d8 d9 d10 d11
    obtain⟨d0,d1,d2,d3,d4,d5,d6,d7,d8,d9,d10,d11⟩:=qID hc3
    go_wp2_with fail
    rw[rounds_succ]
    go_wp2
    go_ret
    exact⟨by rw[HI.o];rfl,Bgo (Bgo (Bgo (B0 _) hb0) hb1) hb2⟩
   ·have HX0:=qh h0
    have HX1:=qh h1
    have HX2:=qh h2
    have HI:qH (idxI t p s=2):=qh (by unfold idxI;simp[h0,h1,h2])
    clear h0 h1 h2
    go_enter Tryz.func202,Tryz.ntmps202
    go_wp2
    refine wp_loop_rounds 3 ?_
    rw[rounds_succ]
    go_wp2_with fail
    refine Rjo ?_;clear c0 c1 c2 c3 c4 c5 c6 c7 c8 c9 c10 c11;intro w1 hb0 hc1 d0 d1 d2 d3 d4 d5 d6 d7 d8 d9 d10 d11
    go_wp2_with fail
    rw[rounds_succ]
    go_wp2_with fail
    refine(qTb 16 p 4 1024 _).mono ?_
    rintro e w2 ⟨rfl,hb1⟩
    rw[HX1.o]
    have hc2:=hc1.keep hb1
    clear d0 d1 d2 d3 d4 d5 d6 d7 d8 d9 d10 d11
    obtain⟨d0,d1,d2,d3,d4,d5,d6,d7,d8,d9,d10,d11⟩:=qID hc2
    go_wp2_with fail
    rw[rounds_succ]
    go_wp2_with fail
    refine(qTb 32 s 10 20 _).mono ?_
    rintro e w3 ⟨rfl,hb2⟩
    rw[HX2.o]
    have hc3:=hc2.keep hb2
    clear d0 d1 d2 d3 d4 d5 d6 d7 d8 d9 d10 d11
    obtain⟨d0,d1,d2,d3,d4,d5,d6,d7,d8,d9,d10,d11⟩:=qID hc3
    go_wp2
    go_ret
    exact⟨by rw[HI.o];rfl,Bgo (Bgo (Bgo (B0 _) hb0) hb1) hb2⟩
  ·have HX0:=qh h0
   have HX1:=qh h1
   have HI:qH (idxI t p s=1):=qh (by unfold idxI;simp[h0,h1])
   clear h0 h1
   go_enter Tryz.func202,Tryz.ntmps202
   go_wp2
   refine wp_loop_rounds 2 ?_
   rw[rounds_succ]
   go_wp2_with fail
   refine Rjo ?_;clear c0 c1 c2 c3 c4 c5 c6 c7 c8 c9 c10 c11;intro w1 hb0 hc1 d0 d1 d2 d3 d4 d5 d6 d7 d8 d9 d10 d11
   go_wp2_with fail
   rw[rounds_succ]
   go_wp2_with fail
   refine(qTb 16 p 4 1024 _).mono ?_
   rintro e w2 ⟨rfl,hb1⟩
   rw[HX1.o]
   have hc2:=hc1.keep hb1
   clear d0 d1 d2 d3 d4 d5 d6 d7 d8 d9 d10 d11
   obtain⟨d0,d1,d2,d3,d4,d5,d6,d7,d8,d9,d10,d11⟩:=qID hc2
   go_wp2
   go_ret
   exact⟨by rw[HI.o];rfl,Bgo (Bgo (B0 _) hb0) hb1⟩
 ·have HX0:=qh h0
  have HI:qH (idxI t p s=0):=qh (by unfold idxI;simp[h0])
  clear h0
  go_enter Tryz.func202,Tryz.ntmps202
  go_wp2
  refine wp_loop_rounds 1 ?_
  rw[rounds_succ]
  go_wp2_with fail
  refine Rjo ?_;clear c0 c1 c2 c3 c4 c5 c6 c7 c8 c9 c10 c11;intro w1 hb0 hc1 d0 d1 d2 d3 d4 d5 d6 d7 d8 d9 d10 d11
  go_wp2
  go_ret
  exact⟨by rw[HI.o];rfl,Bgo (B0 _) hb0⟩

theorem qX8 {t p s:Int}(h:rightB t p s=true):idxI t p s = -1:=by
 exact MRH
theorem qMn {t p s:Int}(h:rightB t p s=false):∃ k:Int,idxI t p s=k/\0<=k/\k<=2:=by
 exact MRH

theorem qAM (t p s:Int)(g:Nat)(w:World)(hc:Held w g 207 (numV t p s)) :
  Calls Tryz.prog 184 #[.slice (some ⟨g,0,none⟩) 3 3,.func (.func 183) #[] #[]] w fun e w'=>e = .returned (.bool (!rightB t p s))/\Below w.heap.size w w':=by
 cases hr:rightB t p s
 ·obtain⟨k,hk,h0,h2⟩:=qMn hr
  have HK:=qh hk
  clear hk
  exact M4N
 ·have HK:=qh (qX8 hr)
  exact M4N

def checkI (t p s:Int):Int:=if rightB t p s then 0 else 1
theorem qU9 {t p s:Int}(h:rightB t p s=true):checkI t p s=0:=by unfold checkI;rw[h];rfl
theorem qFe {t p s:Int}(h:rightB t p s=false):checkI t p s=1:=by unfold checkI;rw[h];rfl
theorem qI2 (t p s:Int)(w:World) :
  Calls Tryz.prog 152 #[.agg #[.int .i64 t,.int .i64 p,.int .i64 s]] w fun e w'=>e = .returned (.int .i64 (checkI t p s))/\Below w.heap.size w w':=by
 cases hr:rightB t p s
 ·have HK:=qh (qFe hr)
  exact MVv
 ·have HK:=qh (qU9 hr)
  exact MVv
end
section
theorem qV7 {t p s:Int}(h:(1<=t/\t<=16)/\(4<=p/\p<=1024)/\10<=s/\s<=20):rightB t p s=true:=(qQB t p s).2 h
theorem qS8 {t p s:Int}(h:¬ ((1<=t/\t<=16)/\(4<=p/\p<=1024)/\10<=s/\s<=20)):rightB t p s=false:=by
 cases hr:rightB t p s
 ·rfl
 ·exact absurd ((qQB t p s).1 hr) h

theorem qDP (t p s:Int)(w:World) :
  Calls Tryz.prog 109 #[.agg #[.int .i64 t,.int .i64 p,.int .i64 s]] w fun e w'=>e = .returned (.bool (rightB t p s))/\Below w.heap.size w w':=by
 by_cases a1:1<=t
 ·by_cases a2:t<=16
  ·by_cases a3:4<=p
   ·by_cases a4:p<=1024
    ·by_cases a5:10<=s
     ·by_cases a6:s<=20
      ·have H:=qh (qV7 (t:=t) (p:=p) (s:=s) qo)
       exact MoO
      ·exact Mpd
     ·exact Mpd
    ·exact Mpd
   ·exact Mpd
  ·exact Mpd
 ·exact Mpd

def pageN (t p s:Int):Nat:=if rightB t p s then 2^s.toNat else 0
def bytesN (t p s:Int):Nat:=if rightB t p s then p.toNat*2^s.toNat else 0
theorem qXq {t p s:Int}(h:rightB t p s=true):pageN t p s=2^s.toNat:=by unfold pageN;rw[if_pos h]
theorem qAf {t p s:Int}(h:rightB t p s=false):pageN t p s=0:=by unfold pageN;rw[h];rfl
theorem qG6 {t p s:Int}(h:rightB t p s=true):bytesN t p s=p.toNat*2^s.toNat:=by unfold bytesN;rw[if_pos h]
theorem qNu {t p s:Int}(h:rightB t p s=false):bytesN t p s=0:=by unfold bytesN;rw[h];rfl
theorem qDn (k:Nat)(h:k<=20):1<=2^k/\2^k<=1048576:=⟨Nat.one_le_two_pow,by have:=Nat.pow_le_pow_right (show 0<2 by omega) h;omega⟩
theorem qSE (k:Nat):2^(k+1)=2^k*2:=Nat.pow_succ 2 k

theorem qYE (t p s:Int)(w:World) :
  Calls Tryz.prog 71 #[.agg #[.int .i64 t,.int .i64 p,.int .i64 s]] w fun e w'=>e = .returned (.int .i64 ((pageN t p s:Nat):Int))/\Below w.heap.size w w':=by
 cases hr:rightB t p s
 ·have HP:=qh (qAf hr)
  have HR:=qh hr
  clear hr
  go_enter Tryz.func71,Tryz.ntmps71
  go_wp2_with fail
  refine(qDP t p s _).mono ?_
  rintro e w1 ⟨rfl,hb1⟩
  rw[HR.o]
  exact Mrn
 ·have HP:=qh (qXq hr)
  have HR:=qh hr
  obtain⟨_,_,hs,hs'⟩:=(qQB t p s).1 hr
  clear hr
  go_enter Tryz.func71,Tryz.ntmps71
  go_wp2_with fail
  have hc:=Held.new w 23 #[.int .i64 t,.int .i64 p,.int .i64 s]
  refine(qDP t p s _).mono ?_
  rintro e w1 ⟨rfl,hb1⟩
  rw[HR.o]
  obtain⟨c0,c1,c2⟩:=(hc.keep hb1).three
  go_wp2
  go_loop [3,4] (fun n i=>∃ k:Nat,(k:Int)<=s/\i = .int .i64 k/\n = .int .i64 ((2^k:Nat):Int)) (fun _ i=>64-(intOf i).toNat)
  case atStart=>exact⟨0,qo,rfl,rfl⟩
  case round =>
   obtain⟨k,hk,rfl,rfl⟩:=hrel
   obtain⟨b1,b2⟩:=qDn k qo
   by_cases hlt:(k:Int)<s
   ·have HS:=qh (qSE k)
    obtain⟨m,hm⟩:∃ m,m=2^k:=⟨_,rfl⟩
    rw[<- hm] at b1 b2 HS
    rw[<- hm]
    have HM:=qh hm
    clear hm
    go_wp2
    go_round
    case rel=>exact⟨k+1,qo,by go_num,by rw[HS.o];go_num⟩
    case measure=>simp[intOf];omega
   ·obtain rfl:s=k:=qo
    exact Mrn
end
section
def lT (t p s:Int):Int:=if rightB t p s then t else 0
def lP (t p s:Int):Int:=if rightB t p s then p else 0
def lS (t p s:Int):Int:=if rightB t p s then s else 0
def lA (t p s:Int):Int:=if rightB t p s then 30+4*t else 0
def lC (t p s:Int):Int:=if rightB t p s then 30+4*t+6*p else 0
def lM (t p s:Int):Int:=if rightB t p s then (16+(30+4*t+6*p)+7) / 8*8 else 0
def lK (t p s:Int):Int:=if rightB t p s then t+1 else 0
structure qWg (t p s T P S A C M K:Int):Prop where
 hT:lT t p s=T
 hP:lP t p s=P
 hS:lS t p s=S
 hA:lA t p s=A
 hC:lC t p s=C
 hM:lM t p s=M
 hK:lK t p s=K
theorem qVu {t p s:Int}(h:rightB t p s=true):qWg t p s t p s (30+4*t) (30+4*t+6*p) ((16+(30+4*t+6*p)+7) / 8*8) (t+1):=by
 constructor <;> simp[lT,lP,lS,lA,lC,lM,lK,h]
theorem qJj {t p s:Int}(h:rightB t p s=false):qWg t p s 0 0 0 0 0 0 0:=by
 constructor <;> simp[lT,lP,lS,lA,lC,lM,lK,h]
theorem qXs (t p s:Int):(0<=lT t p s/\lT t p s<=16)/\(0<=lP t p s/\lP t p s<=1024)/\(0<=lA t p s/\lA t p s<=94)/\(0<=lC t p s/\lC t p s<=6238)/\(0<=lM t p s/\lM t p s<=6256)/\(0<=lK t p s/\lK t p s<=17)/\lM t p s%8=0:=by
 cases hr:rightB t p s
 ·obtain⟨h1,h2,h3,h4,h5,h6,h7⟩:=qJj hr
  omega
 ·obtain⟨h1,h2,h3,h4,h5,h6,h7⟩:=qVu hr
  have:=(qQB t p s).1 hr
  omega
def nthI (f n e i:Int):Int:=if f = -1\/i<0\/n<=i then -1 else f+i*e
theorem qJo {f n e i:Int}(h:f = -1\/i<0\/n<=i):nthI f n e i = -1:=by unfold nthI;rw[if_pos h]
theorem qLq {f n e i:Int}(h:¬ f = -1)(h0:0<=i)(h1:i<n):nthI f n e i=f+i*e:=by unfold nthI;rw[if_neg qo]
theorem qOD {f n e i B:Int}(hf : -1<=f)(hB:f<=B)(he:0<=e)(hn:0<=n) : -1<=nthI f n e i/\nthI f n e i<=B+n*e:=by
 have h2:=Int.mul_nonneg hn he
 by_cases h:f = -1\/i<0\/n<=i
 ·rw[qJo h];omega
 ·rw[qLq qo qo qo]
  have h1:=Int.mul_nonneg (show 0<=i by omega) he
  have h3:=Int.mul_le_mul_of_nonneg_right (show i<=n by omega) he
  omega

def pageI (t p s q b:Int):Int:=nthI (nthI (lA t p s) (lP t p s) 6 q) 6 1 b
def makerI (t p s m b:Int):Int:=nthI (nthI (lM t p s) (lK t p s) 120 m) 120 1 b
def logI (t p s m i:Int):Int:=nthI (makerI t p s m 24) 96 1 i

theorem qQL {t p s q b:Int}(h:¬ (rightB t p s=true/\0<=q/\q<p)):pageI t p s q b = -1:=by
 have h1:nthI (lA t p s) (lP t p s) 6 q = -1:=by
  apply qJo
  cases hr:rightB t p s
  ·have:=qJj hr;have:=this.hP;omega
  ·have:=(qVu hr).hP;rw[hr] at h;simp at h;omega
 unfold pageI
 exact qJo (.inl h1)
theorem qKF {t p s q b:Int}(hr:rightB t p s=true)(h0:0<=q)(h1:q<p)(h2:0<=b)(h3:b<6):pageI t p s q b=30+4*t+6*q+b:=by
 obtain⟨e1,e2,e3,e4,e5,e6,e7⟩:=qVu hr
 have:=(qQB t p s).1 hr
 unfold pageI
 rw[qLq (f:=lA t p s) qo h0 qo,qLq qo h2 h3,e4]
 omega
section
variable {t p s w : Int}
end
end
open Go.Maps
section
def pgB (P p:Int):Bool:=decide (0<=p)&&decide (p<P)
theorem qHC (P p:Int):pgB P p=true↔0<=p/\p<P:=by unfold pgB;simp
section
variable (n : Nat) (K : Nat -> Option Nat) (t q s hd : Int)
def qBQ (k:Nat) (st:Vst):Vst:=putS n (putS n (getS n K st hd) (pageI t q s (k:Int) 2) (getV n K st hd)) (pageI t q s (k:Int) 3) 0
def qXk (k:Nat) (st:Vst):Vst:=if getV n K st hd=0 then qBQ n K t q s hd k st else putS n (qBQ n K t q s hd k st) (pageI t q s ((getV n K st hd:Nat)-1:Int) 3) (k+1)
def pushS (k:Nat) (st:Vst):Vst:=putS n (qXk n K t q s hd k st) hd (k+1)
def pushI (p:Int) (st:Vst):Vst:=if pgB q p then pushS n K t q s hd p.toNat st else st

def pullN (k:Nat) (st:Vst):Nat:=getV n K st (pageI t q s (k:Int) 2)
def pullB (k:Nat) (st:Vst):Nat:=getV n K (getS n K st (pageI t q s (k:Int) 2)) (pageI t q s (k:Int) 3)
def qQi (k:Nat) (st:Vst):Vst:=getS n K (getS n K st (pageI t q s (k:Int) 2)) (pageI t q s (k:Int) 3)
def qRp (k:Nat) (st:Vst):Vst:=if pullB n K t q s k st=0 then putS n (qQi n K t q s k st) hd (pullN n K t q s k st) else putS n (qQi n K t q s k st) (pageI t q s ((pullB n K t q s k st:Nat)-1:Int) 2) (pullN n K t q s k st)
def qEX (k:Nat) (st:Vst):Vst:=if pullN n K t q s k st=0 then qRp n K t q s hd k st else putS n (qRp n K t q s hd k st) (pageI t q s ((pullN n K t q s k st:Nat)-1:Int) 3) (pullB n K t q s k st)
def pullS (k:Nat) (st:Vst):Vst:=putS n (putS n (qEX n K t q s hd k st) (pageI t q s (k:Int) 2) 0) (pageI t q s (k:Int) 3) 0
def pullI (p:Int) (st:Vst):Vst:=if pgB q p then pullS n K t q s hd p.toNat st else st

end
section
variable {n : Nat} {K : Nat -> Option Nat} {t q s hd : Int} {m l0 l : Nat} {st0 st : Vst} {out : List Nat}
theorem qK2 {k:Nat}{st:Vst}(h:pgB q (k:Int)=true):pushI n K t q s hd (k:Int) st=pushS n K t q s hd k st/\pullI n K t q s hd (k:Int) st=pullS n K t q s hd k st:=by
 unfold pushI pullI
 rw[if_pos h,if_pos h]
 exact⟨rfl,rfl⟩
theorem qEh {p:Int}{st:Vst}(h:pgB q p=false):pushI n K t q s hd p st=st/\pullI n K t q s hd p st=st:=by
 unfold pushI pullI
 rw[if_neg (by simp[h]),if_neg (by simp[h])]
 exact⟨rfl,rfl⟩
theorem qBk {a:Int}(hk:VOk n st)(h32:∀ i x,K i=some x->x<2^32):getV n K st a<2^32:=by
 by_cases ho:opn n st a=true
 ·obtain⟨i,rfl,hi,hl⟩:=qAh ho
  cases hp:pos st.wr i with
  | some k =>
   rw[qCJ ho hp]
   have h1:=(qG9 hp).1
   have h2:(st.wr[k]'h1)∈st.wr:=List.getElem_mem h1
   have h3:=(hk.wrLt _ h2).2
   unfold atW
   simp only[List.getD,List.getElem?_eq_getElem h1,Option.getD_some]
   exact h3
  | none =>
   cases hK:K i with
   | some v=>rw[qGE ho hp hK];exact h32 i v hK
   | none=>rw[qUa ho hp hK];omega
 ·rw[qDi (by simpa using ho)];omega
end

section
variable {base b n : Nat} {wh all : Bool} {K : Nat -> Option Nat} {st s' : Vst} {w ws w0 w' : World} {A G : Nat -> Prop} {N : Nat} {T : TypeId} {cs : Array Value} {O : Ob}
theorem qHJ (h:(vOb base b n wh K).At w0 A G st w)(a:Int):getV n K st a<2^32:=by
 obtain⟨B,⟨o,h1,_⟩,_⟩:=h
 exact qBk h1.ok h1.k32
structure WK (O:Ob) (w0:World) (A G:Nat->Prop) (ws:World) (N:Nat) (T:TypeId) (cs:Array Value) (st:Vst) (w:World):Prop where
 at_:O.At w0 A (And1 G N) st w
 held:Held w N T cs
 stay:Stay G ws w
theorem WK.two (h:O.At w0 A G st ws)(o:Obj)(T:TypeId)(cs:Array Value):WK O w0 A G ws (ws.heap.size+1) T cs st ((ws.alloc o).alloc (.cells cs T)) :=
 ⟨by have:=(h.alloc o).box (.cells cs T);simpa using this,Held.new2 _ _ _ _,Stay.of_below (Bnew (Bnew (B0 _) _) _) G⟩
theorem WK.keep (h:WK O w0 A G ws N T cs st w)(hb:Below w.heap.size w w'):WK O w0 A G ws N T cs st w':=⟨h.at_.keep hb,h.held.keep hb,h.stay.trans (Stay.of_below hb G)⟩
theorem WK.drew (h:WK O w0 A G ws N T cs st w):WK O w0 A G ws N T cs st w.drew:=h.keep (Bdrew (B0 w))
theorem WK.call (h:WK O w0 A G ws N T cs st w)(h1:O.At w0 A (And1 G N) s' w')(h2:Stay (And1 G N) w w'):WK O w0 A G ws N T cs s' w' :=
 ⟨h1,h2.held (.inr rfl) h.held,h.stay.trans (h2.less fun g x => .inl x)⟩
theorem WK.fin (h:WK O w0 A G ws N T cs st w):O.At w0 A G st w/\Stay G ws w:=⟨h.at_.less fun g x => .inl x,h.stay⟩
end
end
section
theorem qWj (l:List Nat)(q:Nat):ntVs (l ++ [q])=ntVs l ++ [.int .i64 (q:Int)]:=by unfold ntVs;simp
theorem qNr (l:List Nat):(ntVs l).length=l.length:=by unfold ntVs;simp
theorem qFm {w:World}{base:Nat}{e:TypeId}{size n c:Nat}{A:Option Addr}{xs:List Value}(h:w.ownsRow base e size (.slice A n c) n xs):n<=c/\c<=9223372036854775807:=by
 exact Mxe
theorem qXO {w:World}{base base':Nat}{e:TypeId}{size n:Nat}{v:Value}{xs:List Value}(h:w.ownsRow base e size v n xs)(hb:base'<=base):w.ownsRow base' e size v n xs:=by
 refine⟨h.1,?_⟩
 rcases h.2 with h2|⟨g,cap,cur,rfl,hbg,hg,hr⟩
 ·exact .inl h2
 ·exact .inr ⟨g,cap,cur,rfl,Nat.le_trans hb hbg,hg,hr⟩

def WalkEnd (O:Ob) (w0:World) (A G:Nat->Prop) (l:List Nat) (s:Vst) (w:World) (e:Ending) (w':World):Prop :=
 ∃ u,e = .returned u/\w'.ownsRow w.heap.size 3 1 u l.length (ntVs l)/\O.At w0 A (GU G u) s w'/\Stay G w w'
structure RowW (O:Ob) (w0:World) (A G:Nat->Prop) (ws:World) (N:Nat) (T:TypeId) (cs:Array Value) (base:Nat) (u:Value) (nl:Nat) (xs:List Value) (st:Vst) (w:World):Prop where
 at_:O.At w0 A (GU (And1 G N) u) st w
 own:w.ownsRow base 3 1 u nl xs
 held:Held w N T cs
 stay:Stay G ws w
section
variable {O : Ob} {w0 ws w w' : World} {A G : Nat -> Prop} {N : Nat} {T : TypeId} {cs : Array Value} {base : Nat} {u : Value} {nl : Nat} {xs : List Value} {st s' : Vst}
theorem RowW.keep (h:RowW O w0 A G ws N T cs base u nl xs st w)(hb:Below w.heap.size w w'):RowW O w0 A G ws N T cs base u nl xs st w':=⟨h.at_.keep hb,qEc h.own hb,h.held.keep hb,h.stay.trans (Stay.of_below hb G)⟩
theorem RowW.call (h:RowW O w0 A G ws N T cs base u nl xs st w)(h1:O.At w0 A (GU (And1 G N) u) s' w')(h2:Stay (GU (And1 G N) u) w w'):RowW O w0 A G ws N T cs base u nl xs s' w' :=
 ⟨h1,h2.own (fun g e => .inr e) h.own,h2.held (.inl (.inr rfl)) h.held,h.stay.trans (h2.less fun g x => .inl (.inl x))⟩
theorem qLg {t e:TypeId}{size:Nat}{v:Value}{g:Nat}(h:Held w g t cs)(ho:w.ownsRow base e size v nl xs)(hne:t≠e):v.ownBlock≠some g:=by
 intro hv
 rcases ho.2 with ⟨rfl,_⟩|⟨g',cap,cur,rfl,hb,hg,_⟩
 ·simp[Value.ownBlock] at hv
 ·have:g'=g:=by simpa [Value.ownBlock] using hv
  subst this
  unfold Held at h
  rw[h] at hg
  injection hg with hg
  injection hg with _ h2
  exact hne h2
end
end
section
structure Duo (W:World) (O1 O2:Ob) (A B G:Nat->Prop) (s1 s2:Vst) (w:World):Prop where
 i1:O1.I w s1 A
 i2:O2.I w s2 B
 ab:∀ i,A i->¬ B i
 aG:∀ g,G g->g<w.heap.size/\¬ A g/\¬ B g
 lo:∀ i,A i\/B i->W.heap.size<=i
 bel:Below W.heap.size W w
def noOb:Ob where
 I _ _ A:=∀ i,¬ A i
 lt h i hi:=absurd hi (h i)
 turns h _ _:=h

section
variable {W w w' : World} {O1 O2 : Ob} {A B G : Nat -> Prop} {s1 s2 s' : Vst}
theorem Duo.keep (h:Duo W O1 O2 A B G s1 s2 w)(hb:Below w.heap.size w w'):Duo W O1 O2 A B G s1 s2 w' :=
 ⟨Ob.keep h.i1 hb,Ob.keep h.i2 hb,h.ab,fun g hg=>⟨Nat.lt_of_lt_of_le (h.aG g hg).1 hb.size,(h.aG g hg).2⟩,h.lo,Bgo h.bel hb⟩
theorem Duo.keep2 {G':Nat->Prop}(h:Duo W O1 O2 A B G s1 s2 w)(hb:Below w.heap.size w w')(hG:∀ g,G' g->G g\/(w.heap.size<=g/\g<w'.heap.size)):Duo W O1 O2 A B G' s1 s2 w':=by
 have hk:=h.keep hb
 refine⟨hk.i1,hk.i2,hk.ab,fun g x=>?_,hk.lo,hk.bel⟩
 rcases hG g x with h1|h1
 ·exact hk.aG g h1
 ·exact⟨h1.2,fun y=>by have:=O1.lt h.i1 g y;omega,fun y=>by have:=O2.lt h.i2 g y;omega⟩
theorem Duo.less {G':Nat->Prop}(h:Duo W O1 O2 A B G s1 s2 w)(hg:∀ g,G' g->G g):Duo W O1 O2 A B G' s1 s2 w := { h with aG:=fun g x=>h.aG g (hg g x) }
theorem qAg {b n base:Nat}{wh:Bool}{o:VGeo}{K:Nat->Option Nat}{s:Vst}(hI:IsView w base b n wh o K s)(hb:W.heap.size<=base)(hB:Below W.heap.size W w)(hG:∀ g,G g->g<w.heap.size/\¬ o.A b g) :
  Duo W (vOb base b n wh K) noOb (o.A b) (fun _=>False) G s freshS w :=
 ⟨⟨o,hI,rfl⟩,fun _ x=>x,fun _ _ x=>x,fun g hg=>⟨(hG g hg).1,(hG g hg).2,fun x=>x⟩,fun i hi=>by
  rcases hi with hi|hi
  ·exact Nat.le_trans hb (hI.ge i hi)
  ·exact hi.elim,hB⟩
end
end
section
def PB (U:Nat->Sl) (Z:Nat->List Int) (i:Nat):Prop:=∃ j ad,j<9/\(U j).a=some ad/\Z j ≠ []/\ad.block=i
section
variable {w w' : World} {U V : Nat -> Sl} {Z Y : Nat -> List Int} {k : Nat} {x : Sl} {l : List Int}
theorem qUJ {w:World}{u:Sl}{l:List Int}(h:LongsAt w u.v l):∃ c,u.v = .slice u.a l.length c/\l.length<=c/\c<=maxLen/\(∀ z∈l,-9223372036854775808<=z/\z<=9223372036854775807)/\(u.a=none->l = []/\c=0) /\
  ∀ ad,u.a=some ad->(l ≠ []->ad.block<w.heap.size)/\∀ i z,l[i]?=some z->w.cell? (ad.add i)=some (.int .i64 z):=by
 obtain⟨A,c,h1,h2⟩:=h
 have e:(Value.slice u.a u.n u.c) = .slice A l.length c:=h1
 injection e with e1 e2 e3
 subst e1
 exact⟨c,h1,h2⟩
theorem PB.lt (h:PkV w U Z){i:Nat}(hi:PB U Z i):i<w.heap.size:=by
 obtain⟨j,ad,hj,ha,hz,rfl⟩:=hi
 obtain⟨c,_,_,_,_,_,hcl⟩:=qUJ (h j hj)
 exact(hcl ad ha).1 hz
theorem LongsAt.stay {u:Sl}{l:List Int}(h:LongsAt w u.v l)(hz:w.heap.size<=w'.heap.size)(hs:∀ ad,u.a=some ad->l ≠ []->w'.heap[ad.block]?=w.heap[ad.block]?):LongsAt w' u.v l:=by
 obtain⟨c,h1,h2,h3,h4,h5,h6⟩:=qUJ h
 refine⟨u.a,c,h1,h2,h3,h4,h5,fun ad e=>⟨fun hl=>Nat.lt_of_lt_of_le ((h6 ad e).1 hl) hz,fun i z hi=>?_⟩⟩
 have hl:l ≠ []:=fun e=>by rw[e] at hi;simp at hi
 rw[<- (h6 ad e).2 i z hi]
 have:=hs ad e hl
 unfold World.cell?
 rw[qXL,this]
theorem PkV.stay (h:PkV w U Z)(hz:w.heap.size<=w'.heap.size)(hs:∀ i,PB U Z i->w'.heap[i]?=w.heap[i]?):PkV w' U Z :=
 fun k hk=>(h k hk).stay hz fun ad e hl=>hs _ ⟨k,ad,hk,e,hl,rfl⟩
theorem PkV.held_ne {g:Nat}{t:TypeId}{cs:Array Value}(h:PkV w U Z)(hg:¬ PB U Z g)(v:Value)(i:Nat):PkV (w.setCell ⟨g,i,none⟩ v) U Z :=
 h.stay (by simp) fun j hj=>Below.heap_setCell w ⟨g,i,none⟩ v j (fun e=>by have e:j=g:=e;subst e;exact hg hj)
theorem PB.turn {i:Nat}(h:PB (updF U k x) (updF Z k l) i):PB U Z i\/∃ ad,x.a=some ad/\l ≠ []/\ad.block=i:=by
 obtain⟨j,ad,hj,ha,hz,e⟩:=h
 by_cases hjk:j=k
 ·subst hjk
  rw[qJN] at ha hz
  exact .inr ⟨ad,ha,hz,e⟩
 ·rw[qR2 _ _ hjk] at ha hz
  exact .inl ⟨j,ad,hj,ha,hz,e⟩
theorem PB.turn_new {i:Nat}(h:PB (updF U k x) (updF Z k l) i)(hx:∀ ad,x.a=some ad->w.heap.size<=ad.block):PB U Z i\/w.heap.size<=i:=by
 rcases h.turn with h|⟨ad,ha,_,rfl⟩
 ·exact .inl h
 ·exact .inr (hx ad ha)
end
def PG (w0:World) (G:Nat->Prop) (U:Nat->Sl) (Z:Nat->List Int):Nat->Prop:=fun i=>G i\/(PB U Z i/\w0.heap.size<=i)
structure Pkt (O:Ob) (w0:World) (A Q G:Nat->Prop) (U:Nat->Sl) (Z:Nat->List Int) (s:Vst) (w:World):Prop where
 at_:O.At w0 A (PG w0 G U Z) s w
 pk:PkV w U Z
 old:∀ i,PB U Z i->(Q i/\¬ A i/\i<w0.heap.size)\/w0.heap.size<=i
structure PkLeft (O:Ob) (w0:World) (A Q:Nat->Prop) (U:Nat->Sl) (Z:Nat->List Int) (s:Vst) (w:World):Prop where
 left:∃ A',O.I w s A'/\(∀ g,A' g->A g\/w0.heap.size<=g)/\Turns A w0 w/\∀ i,PB U Z i->¬ A' i
 pk:PkV w U Z
 old:∀ i,PB U Z i->Q i\/w0.heap.size<=i
section
variable {O : Ob} {w0 w w' : World} {A Q G G' : Nat -> Prop} {U V : Nat -> Sl} {Z Y : Nat -> List Int} {s s' : Vst}
theorem Pkt.start (h:O.I w s A)(hp:PkV w U Z)(hf:∀ i,PB U Z i->¬ A i):Pkt O w A (PB U Z) (fun _=>False) U Z s w :=
 ⟨(Ob.At.start h).less fun g hg=>by
  rcases hg with hg|⟨hg,h1⟩
  ·exact hg
  ·have:=hg.lt hp;omega,hp,fun i hi => .inl ⟨hi,hf i hi,hi.lt hp⟩⟩
theorem Pkt.fin (h:Pkt O w0 A Q G U Z s w):PkLeft O w0 A Q U Z s w:=by
 obtain⟨A',h1,h2,h3,h4⟩:=h.at_
 refine⟨⟨A',h1,h2,h3,fun i hi hA=>?_⟩,h.pk,fun i hi=>?_⟩
 ·rcases h.old i hi with ⟨_,h5,h6⟩|h5
  ·rcases h2 i hA with h7|h7
   ·exact h5 h7
   ·omega
  ·exact(h4 i (.inr ⟨hi,h5⟩)).2.2 hA
 ·rcases h.old i hi with ⟨h5,_⟩|h5
  ·exact .inl h5
  ·exact .inr h5
theorem Pkt.keep (h:Pkt O w0 A Q G U Z s w)(hb:Below w.heap.size w w'):Pkt O w0 A Q G U Z s w':=⟨h.at_.keep hb,h.pk.below hb,h.old⟩
theorem Pkt.less (h:Pkt O w0 A Q G U Z s w)(hg:∀ g,G' g->G g):Pkt O w0 A Q G' U Z s w :=
 ⟨h.at_.less fun g x=>by
  rcases x with x|x
  ·exact .inl (hg g x)
  ·exact .inr x,h.pk,h.old⟩
theorem Pkt.call (h:Pkt O w0 A Q G U Z s w)(h1:O.At w0 A (PG w0 G U Z) s' w')(h2:Stay (PG w0 G U Z) w w'):Pkt O w0 A Q G U Z s' w':=by
 refine⟨h1,h.pk.stay h2.1 fun i hi=>?_,h.old⟩
 rcases h.old i hi with ⟨_,h5,h6⟩|h5
 ·obtain⟨_,_,_,t1,_⟩:=h.at_
  obtain⟨_,_,_,t2,_⟩:=h1
  rw[t2.block i h6 h5,t1.block i h6 h5]
 ·exact h2.2 i (.inr ⟨hi,h5⟩) (hi.lt h.pk)
theorem Pkt.keep2 (h:Pkt O w0 A Q G U Z s w)(hb:Below w.heap.size w w')(hG:∀ g,G' g->G g\/(w.heap.size<=g/\g<w'.heap.size)):Pkt O w0 A Q G' U Z s w':=by
 refine⟨h.at_.keep2 hb fun g hg=>?_,h.pk.below hb,h.old⟩
 rcases hg with hg|hg
 ·rcases hG g hg with h1|h1
  ·exact .inl (.inl h1)
  ·exact .inr h1
 ·exact .inl (.inr hg)
theorem Pkt.own (h:Pkt O w0 A Q G U Z s w){g:Nat}(hg:G g):w0.heap.size<=g/\g<w.heap.size:=by
 obtain⟨_,_,_,_,h4⟩:=h.at_
 exact⟨(h4 g (.inl hg)).1,(h4 g (.inl hg)).2.1⟩
theorem Pkt.put (h:Pkt O w0 A Q G U Z s w){g:Nat}(hg:G g)(hn:¬ PB U Z g)(i:Nat)(v:Value):Pkt O w0 A Q G U Z s (w.setCell ⟨g,i,none⟩ v) :=
 ⟨h.at_.put (p:=⟨g,i,none⟩) (.inl hg) v,h.pk.held_ne (t:=0) (cs:=#[]) hn v i,h.old⟩
theorem Pkt.turn (h:Pkt O w0 A Q G U Z s w)(hb:Below w.heap.size w w')(hp:PkV w' V Y)(hn:∀ i,PB V Y i->PB U Z i\/w.heap.size<=i):Pkt O w0 A Q G V Y s w':=by
 have hs:=h.at_.size
 refine⟨h.at_.keep2 hb fun g hg=>?_,hp,fun i hi=>?_⟩
 ·rcases hg with hg|⟨hg,h1⟩
  ·exact .inl (.inl hg)
  ·rcases hn g hg with h2|h2
   ·exact .inl (.inr ⟨h2,h1⟩)
   ·exact .inr ⟨h2,hg.lt hp⟩
 ·rcases hn i hi with h2|h2
  ·exact h.old i h2
  ·exact .inr qo
end
section
variable {W w w' : World} {O1 O2 : Ob} {A B G : Nat -> Prop} {s1 s2 s' : Vst} {U V : Nat -> Sl} {Z Y : Nat -> List Int}
theorem Duo.pkt1 (h:Duo W O1 O2 A B G s1 s2 w)(hp:PkV w U Z)(hf:∀ i,PB U Z i->G i)(hl:PkLeft O1 w A (PB U Z) V Y s' w') :
  ∃ A',Duo W O1 O2 A' B (fun i=>G i\/PB V Y i) s' s2 w'/\PkV w' V Y/\Stay G w w':=by
 obtain⟨⟨A',k1,k2,k3,k4⟩,k5,k6⟩:=hl
 have hs:=h.bel.size
 refine⟨A',⟨k1,O2.turns h.i2 k3 (fun i hi ha=>h.ab i ha hi),fun i hi hb=>?_,fun g hg=>?_,fun i hi=>?_,k3.below h.bel (fun i hi=>h.lo i (.inl hi))⟩,k5,⟨k3.size,fun g hg hl=>k3.block g hl (h.aG g hg).2.1⟩⟩
 ·rcases k2 i hi with h1|h1
  ·exact h.ab i h1 hb
  ·have:=O2.lt h.i2 i hb;omega
 ·rcases hg with hg|hg
  ·refine⟨Nat.lt_of_lt_of_le (h.aG g hg).1 k3.size,fun x=>?_,(h.aG g hg).2.2⟩
   rcases k2 g x with h1|h1
   ·exact(h.aG g hg).2.1 h1
   ·have:=(h.aG g hg).1;omega
  ·refine⟨hg.lt k5,k4 g hg,fun x=>?_⟩
   rcases k6 g hg with h1|h1
   ·exact(h.aG g (hf g h1)).2.2 x
   ·have:=O2.lt h.i2 g x;omega
 ·rcases hi with hi|hi
  ·rcases k2 i hi with h1|h1
   ·exact h.lo i (.inl h1)
   ·omega
  ·exact h.lo i (.inr hi)
end
end
section
structure Blk where
 n:Nat
 t:TypeId
 cs:Array Value
def GB (G:Nat->Prop) (L:List Blk):Nat->Prop:=fun g=>G g\/∃ x,x∈L/\x.n=g

structure WL (O:Ob) (w0:World) (A G:Nat->Prop) (ws:World) (L:List Blk) (st:Vst) (w:World):Prop where
 at_:O.At w0 A (GB G L) st w
 held:∀ x∈L,Held w x.n x.t x.cs
 stay:Stay G ws w
 lo:∀ x∈L,ws.heap.size<=x.n
 nd:(L.map (·.n)).Nodup

section
variable {O : Ob} {w0 ws w w' : World} {A G : Nat -> Prop} {L : List Blk} {x y z : Blk} {st s' : Vst}
theorem WL.start (h:O.At w0 A G st ws):WL O w0 A G ws [] st ws :=
 ⟨h.less (fun g hg=>by
  rcases hg with hg|⟨x,hx,_⟩
  ·exact hg
  ·exact absurd hx (List.not_mem_nil)),fun x hx=>absurd hx (List.not_mem_nil),Stay.of_below (B0 _) G,fun x hx=>absurd hx (List.not_mem_nil),List.nodup_nil⟩
theorem WL.keep (h:WL O w0 A G ws L st w)(hb:Below w.heap.size w w'):WL O w0 A G ws L st w' :=
 ⟨h.at_.keep hb,fun x hx=>(h.held x hx).keep hb,h.stay.trans (Stay.of_below hb G),h.lo,h.nd⟩
theorem WL.drew (h:WL O w0 A G ws L st w):WL O w0 A G ws L st w.drew:=h.keep (Bdrew (B0 w))
theorem WL.alloc (h:WL O w0 A G ws L st w)(o:Obj):WL O w0 A G ws L st (w.alloc o):=h.keep (Bnew (B0 w) o)
theorem WL.call (h:WL O w0 A G ws L st w)(h1:O.At w0 A (GB G L) s' w')(h2:Stay (GB G L) w w'):WL O w0 A G ws L s' w' :=
 ⟨h1,fun x hx=>h2.held (.inr ⟨x,hx,rfl⟩) (h.held x hx),h.stay.trans (h2.less fun g x => .inl x),h.lo,h.nd⟩
theorem WL.fin (h:WL O w0 A G ws L st w):O.At w0 A G st w/\Stay G ws w:=⟨h.at_.less fun g x => .inl x,h.stay⟩
theorem WL.new (h:WL O w0 A G ws L st w)(t:TypeId)(cs:Array Value):WL O w0 A G ws (⟨w.heap.size,t,cs⟩ :: L) st (w.alloc (.cells cs t)):=by
 have hk:=h.alloc (.cells cs t)
 refine⟨(h.at_.box (.cells cs t)).less (fun g hg=>?_),fun x hx=>?_,hk.stay,fun x hx=>?_,?_⟩
 ·rcases hg with hg|⟨x,hx,rfl⟩
  ·exact .inl (.inl hg)
  ·rcases List.mem_cons.1 hx with rfl|hx
   ·exact .inr rfl
   ·exact .inl (.inr ⟨x,hx,rfl⟩)
 ·rcases List.mem_cons.1 hx with rfl|hx
  ·exact Held.new w t cs
  ·exact hk.held x hx
 ·rcases List.mem_cons.1 hx with rfl|hx
  ·exact h.stay.1
  ·exact h.lo x hx
 ·rw[List.map_cons]
  refine List.nodup_cons.2 ⟨fun hm=>?_,h.nd⟩
  obtain⟨x,hx,e⟩:=List.mem_map.1 hm
  have h1:=(h.held x hx).lt
  have e:x.n=w.heap.size:=e
  omega
theorem WL.put (h:WL O w0 A G ws (x :: L) st w)(i:Nat)(v:Value):WL O w0 A G ws (⟨x.n,x.t,x.cs.setIfInBounds i v⟩ :: L) st (w.setCell ⟨x.n,i,none⟩ v):=by
 have hnd:=List.nodup_cons.1 h.nd
 have hlo:=h.lo x (List.mem_cons_self ..)
 refine⟨(h.at_.put (p:=⟨x.n,i,none⟩) (.inr ⟨x,List.mem_cons_self ..,rfl⟩) v).less (fun g hg=>?_),fun y hy=>?_,⟨by simp;exact h.stay.1,fun g hg hl=>(Below.heap_setCell w ⟨x.n,i,none⟩ v g (fun e=>by have e:g=x.n:=e;omega)).trans (h.stay.2 g hg hl)⟩,fun y hy=>?_,h.nd⟩
 ·rcases hg with hg|⟨y,hy,rfl⟩
  ·exact .inl hg
  ·rcases List.mem_cons.1 hy with rfl|hy
   ·exact .inr ⟨x,List.mem_cons_self ..,rfl⟩
   ·exact .inr ⟨y,List.mem_cons_of_mem _ hy,rfl⟩
 ·rcases List.mem_cons.1 hy with rfl|hy
  ·exact(h.held x (List.mem_cons_self ..)).put i v
  ·refine(h.held y (List.mem_cons_of_mem _ hy)).far (p:=⟨x.n,i,none⟩) (fun e=>hnd.1 ?_) v
   have e:y.n=x.n:=e
   exact List.mem_map.2 ⟨y,hy,e⟩
 ·rcases List.mem_cons.1 hy with rfl|hy
  ·exact hlo
  ·exact h.lo y (List.mem_cons_of_mem _ hy)
theorem WL.swap (h:WL O w0 A G ws (x :: y :: L) st w):WL O w0 A G ws (y :: x :: L) st w:=by
 refine⟨h.at_.less (fun g hg=>?_),fun z hz=>h.held z (by simp at hz ⊢;rcases hz with e|e|e <;> simp[e]),h.stay,fun z hz=>h.lo z (by simp at hz ⊢;rcases hz with e|e|e <;> simp[e]),?_⟩
 ·rcases hg with hg|⟨z,hz,e⟩
  ·exact .inl hg
  ·exact .inr ⟨z,by simp at hz ⊢;rcases hz with e|e|e <;> simp[e],e⟩
 ·have:=h.nd
  simp only[List.map_cons,List.nodup_cons,List.mem_cons,not_or] at this ⊢
  exact⟨⟨fun e=>this.1.1 e.symm,this.2.1⟩,this.1.2,this.2.2⟩
theorem WL.h0 (h:WL O w0 A G ws (x :: L) st w):Held w x.n x.t x.cs:=h.held x (List.mem_cons_self ..)
theorem WL.h1 (h:WL O w0 A G ws (x :: y :: L) st w):Held w y.n y.t y.cs:=h.held y (List.mem_cons_of_mem _ (List.mem_cons_self ..))
theorem WL.h2 (h:WL O w0 A G ws (x :: y :: z :: L) st w):Held w z.n z.t z.cs:=h.held z (List.mem_cons_of_mem _ (List.mem_cons_of_mem _ (List.mem_cons_self ..)))
theorem qJe {base b n:Nat}{wh:Bool}{K:Nat->Option Nat}(h:WL (vOb base b n wh K) w0 A G ws L st w)(a:Int):getV n K st a<2^32:=qHJ h.at_ a
end
end
section
abbrev hdC (b:Nat) (t q s:Int) (U:Nat->Sl):Array Value:=#[.pointer (some ⟨b,0,none⟩),.int .i64 t,.int .i64 q,.int .i64 s,(U 0).v,(U 1).v,(U 2).v,(U 3).v,(U 4).v,(U 5).v,(U 6).v,(U 7).v,(U 8).v]
def setH (w:World) (g:Nat) (U:Nat->Sl):World:=((((((((w.setCell ⟨g,4,none⟩ (.slice (U 0).a (U 0).n (U 0).c)).setCell ⟨g,5,none⟩ (.slice (U 1).a (U 1).n (U 1).c)).setCell ⟨g,6,none⟩ (.slice (U 2).a (U 2).n (U 2).c)).setCell ⟨g,7,none⟩ (.slice (U 3).a (U 3).n (U 3).c)).setCell ⟨g,8,none⟩ (.slice (U 4).a (U 4).n (U 4).c)).setCell ⟨g,9,none⟩ (.slice (U 5).a (U 5).n (U 5).c)).setCell ⟨g,10,none⟩ (.slice (U 6).a (U 6).n (U 6).c)).setCell ⟨g,11,none⟩ (.slice (U 7).a (U 7).n (U 7).c)).setCell ⟨g,12,none⟩ (.slice (U 8).a (U 8).n (U 8).c)
section
variable {w w' : World} {g b j : Nat} {T : TypeId} {t q s : Int} {U V : Nat -> Sl}
theorem Held.hd4 (h:Held w g T (hdC b t q s U)):w.cell? ⟨g,0,none⟩=some (.pointer (some ⟨b,0,none⟩))/\w.cell? ⟨g,1,none⟩=some (.int .i64 t)/\w.cell? ⟨g,2,none⟩=some (.int .i64 q)/\w.cell? ⟨g,3,none⟩=some (.int .i64 s):=⟨h.cell 0,h.cell 1,h.cell 2,h.cell 3⟩
theorem Held.hdU (h:Held w g T (hdC b t q s U)):w.cell? ⟨g,4,none⟩=some (U 0).v/\w.cell? ⟨g,5,none⟩=some (U 1).v/\w.cell? ⟨g,6,none⟩=some (U 2).v/\w.cell? ⟨g,7,none⟩=some (U 3).v/\w.cell? ⟨g,8,none⟩=some (U 4).v/\w.cell? ⟨g,9,none⟩=some (U 5).v/\w.cell? ⟨g,10,none⟩=some (U 6).v/\w.cell? ⟨g,11,none⟩=some (U 7).v/\w.cell? ⟨g,12,none⟩=some (U 8).v :=
 ⟨h.cell 4,h.cell 5,h.cell 6,h.cell 7,h.cell 8,h.cell 9,h.cell 10,h.cell 11,h.cell 12⟩
theorem Held.hdF {cs:Array Value}(h:Held w g T cs):w.frozen? ⟨g,4,none⟩=false/\w.frozen? ⟨g,5,none⟩=false/\w.frozen? ⟨g,6,none⟩=false/\w.frozen? ⟨g,7,none⟩=false/\w.frozen? ⟨g,8,none⟩=false/\w.frozen? ⟨g,9,none⟩=false/\w.frozen? ⟨g,10,none⟩=false/\w.frozen? ⟨g,11,none⟩=false/\w.frozen? ⟨g,12,none⟩=false :=
 ⟨h.thawed 4,h.thawed 5,h.thawed 6,h.thawed 7,h.thawed 8,h.thawed 9,h.thawed 10,h.thawed 11,h.thawed 12⟩
theorem Held.setH (h:Held w g T (hdC b t q s V))(U:Nat->Sl):Held (_root_.Go.Proofs.YtjjfcaliippgpaaGreatDoor.setH w g U) g T (hdC b t q s U):=by
 have h0:Held _ g T #[.pointer (some ⟨b,0,none⟩),.int .i64 t,.int .i64 q,.int .i64 s,(U 0).v,(V 1).v,(V 2).v,(V 3).v,(V 4).v,(V 5).v,(V 6).v,(V 7).v,(V 8).v]:=h.put 4 (U 0).v
 have h1:Held _ g T #[.pointer (some ⟨b,0,none⟩),.int .i64 t,.int .i64 q,.int .i64 s,(U 0).v,(U 1).v,(V 2).v,(V 3).v,(V 4).v,(V 5).v,(V 6).v,(V 7).v,(V 8).v]:=h0.put 5 (U 1).v
 have h2:Held _ g T #[.pointer (some ⟨b,0,none⟩),.int .i64 t,.int .i64 q,.int .i64 s,(U 0).v,(U 1).v,(U 2).v,(V 3).v,(V 4).v,(V 5).v,(V 6).v,(V 7).v,(V 8).v]:=h1.put 6 (U 2).v
 have h3:Held _ g T #[.pointer (some ⟨b,0,none⟩),.int .i64 t,.int .i64 q,.int .i64 s,(U 0).v,(U 1).v,(U 2).v,(U 3).v,(V 4).v,(V 5).v,(V 6).v,(V 7).v,(V 8).v]:=h2.put 7 (U 3).v
 have h4:Held _ g T #[.pointer (some ⟨b,0,none⟩),.int .i64 t,.int .i64 q,.int .i64 s,(U 0).v,(U 1).v,(U 2).v,(U 3).v,(U 4).v,(V 5).v,(V 6).v,(V 7).v,(V 8).v]:=h3.put 8 (U 4).v
 have h5:Held _ g T #[.pointer (some ⟨b,0,none⟩),.int .i64 t,.int .i64 q,.int .i64 s,(U 0).v,(U 1).v,(U 2).v,(U 3).v,(U 4).v,(U 5).v,(V 6).v,(V 7).v,(V 8).v]:=h4.put 9 (U 5).v
 have h6:Held _ g T #[.pointer (some ⟨b,0,none⟩),.int .i64 t,.int .i64 q,.int .i64 s,(U 0).v,(U 1).v,(U 2).v,(U 3).v,(U 4).v,(U 5).v,(U 6).v,(V 7).v,(V 8).v]:=h5.put 10 (U 6).v
 have h7:Held _ g T #[.pointer (some ⟨b,0,none⟩),.int .i64 t,.int .i64 q,.int .i64 s,(U 0).v,(U 1).v,(U 2).v,(U 3).v,(U 4).v,(U 5).v,(U 6).v,(U 7).v,(V 8).v]:=h6.put 11 (U 7).v
 exact h7.put 12 (U 8).v
theorem qAq (hj:j≠g)(U:Nat->Sl):(setH w g U).heap[j]?=w.heap[j]?:=by
 unfold _root_.Go.Proofs.YtjjfcaliippgpaaGreatDoor.setH
 repeat rw[Below.heap_setCell _ _ _ _ hj]
theorem qHx (w:World)(g:Nat)(U:Nat->Sl):(setH w g U).heap.size=w.heap.size:=by
 unfold _root_.Go.Proofs.YtjjfcaliippgpaaGreatDoor.setH
 simp
end
structure Hnd (O:Ob) (w0:World) (A Q G:Nat->Prop) (ws:World) (g b:Nat) (t q s:Int) (U:Nat->Sl) (Z:Nat->List Int) (st:Vst) (w:World):Prop where
 p:Pkt O w0 A Q (And1 G g) U Z st w
 held:Held w g 83 (hdC b t q s U)
 stay:Stay G ws w
 ng:¬ G g
 npb:¬ PB U Z g
section
variable {O : Ob} {w0 ws w w' : World} {A Q G : Nat -> Prop} {g b : Nat} {t q s : Int} {U V : Nat -> Sl} {Z Y : Nat -> List Int} {st s' : Vst}
theorem Hnd.keep (h:Hnd O w0 A Q G ws g b t q s U Z st w)(hb:Below w.heap.size w w'):Hnd O w0 A Q G ws g b t q s U Z st w':=⟨h.p.keep hb,h.held.keep hb,h.stay.trans (Stay.of_below hb G),h.ng,h.npb⟩
theorem Hnd.drew (h:Hnd O w0 A Q G ws g b t q s U Z st w):Hnd O w0 A Q G ws g b t q s U Z st w.drew:=h.keep (Bdrew (B0 w))
theorem Hnd.begin_ (h:Hnd O w0 A Q G ws g b t q s U Z st w):Hnd O w0 A Q G w g b t q s U Z st w:=⟨h.p,h.held,Stay.of_below (B0 w) G,h.ng,h.npb⟩
theorem Hnd.then_ (h:Hnd O w0 A Q G ws g b t q s U Z st w)(k:Hnd O w0 A Q G w g b t q s V Y s' w'):Hnd O w0 A Q G ws g b t q s V Y s' w':=⟨k.p,k.held,h.stay.trans k.stay,k.ng,k.npb⟩
def HG (w0:World) (G:Nat->Prop) (g:Nat) (U:Nat->Sl) (Z:Nat->List Int):Nat->Prop:=PG w0 (And1 G g) U Z
theorem Hnd.at_ (h:Hnd O w0 A Q G ws g b t q s U Z st w):O.At w0 A (HG w0 G g U Z) st w:=h.p.at_
theorem HG.hand:HG w0 G g U Z g := .inl (.inr rfl)
theorem Hnd.call (h:Hnd O w0 A Q G ws g b t q s U Z st w)(h1:O.At w0 A (HG w0 G g U Z) s' w')(h2:Stay (HG w0 G g U Z) w w'):Hnd O w0 A Q G ws g b t q s U Z s' w' :=
 ⟨h.p.call h1 h2,h2.held (.inl (.inr rfl)) h.held,h.stay.trans (h2.less fun i x => .inl (.inl x)),h.ng,h.npb⟩
theorem Hnd.put (h:Hnd O w0 A Q G ws g b t q s U Z st w){i:Nat}(hi:G i)(hn:¬ PB U Z i)(hw:ws.heap.size<=i)(k:Nat)(v:Value):Hnd O w0 A Q G ws g b t q s U Z st (w.setCell ⟨i,k,none⟩ v) :=
 ⟨h.p.put (.inl hi) hn k v,h.held.far (p:=⟨i,k,none⟩) (fun e=>h.ng (by have e:g=i:=e;subst e;exact hi)) v,⟨by simp;exact h.stay.1,fun j hj hl=>(Below.heap_setCell w ⟨i,k,none⟩ v j (fun e=>by have e:j=i:=e;omega)).trans (h.stay.2 j hj hl)⟩,h.ng,h.npb⟩
theorem Hnd.turn (h:Hnd O w0 A Q G ws g b t q s U Z st w)(hb:Below w.heap.size w w')(hp:PkV w' V Y)(hn:∀ i,PB V Y i->PB U Z i\/w.heap.size<=i):Hnd O w0 A Q G ws g b t q s V Y st (setH w' g V):=by
 have hg:¬ PB V Y g:=fun x=>by
  rcases hn g x with h1|h1
  ·exact h.npb h1
  ·have:=h.held.lt;omega
 have k0:=h.p.turn hb hp hn
 have m:And1 G g g := .inr rfl
 refine⟨?_,(h.held.keep hb).setH V,⟨by rw[qHx];exact Nat.le_trans h.stay.1 hb.size,fun j hj hl=>?_⟩,h.ng,hg⟩
 ·exact((((((((k0.put m hg 4 _).put m hg 5 _).put m hg 6 _).put m hg 7 _).put m hg 8 _).put m hg 9 _).put m hg 10 _).put m hg 11 _).put m hg 12 _
 ·rw[qAq (fun e=>h.ng (by rw[<- e];exact hj))]
  exact(h.stay.trans (Stay.of_below hb G)).2 j hj hl
theorem Hnd.less {G':Nat->Prop}(h:Hnd O w0 A Q G ws g b t q s U Z st w)(hg:∀ i,G' i->G i):Hnd O w0 A Q G' ws g b t q s U Z st w :=
 ⟨h.p.less fun i x=>by
  rcases x with x|x
  ·exact .inl (hg i x)
  ·exact .inr x,h.held,h.stay.less hg,fun x=>h.ng (hg g x),h.npb⟩
theorem Hnd.more {G':Nat->Prop}(h:Hnd O w0 A Q G ws g b t q s U Z st w)(hb:Below w.heap.size w w')(hG:∀ i,G' i->G i\/(w.heap.size<=i/\i<w'.heap.size)):Hnd O w0 A Q G' ws g b t q s U Z st w' :=
 ⟨h.p.keep2 hb fun i x=>by
  rcases x with x|x
  ·rcases hG i x with h1|h1
   ·exact .inl (.inl h1)
   ·exact .inr h1
  ·exact .inl (.inr x),h.held.keep hb,⟨Nat.le_trans h.stay.1 hb.size,fun i x hl=>by
   rcases hG i x with h1|h1
   ·exact(h.stay.trans (Stay.of_below hb G)).2 i h1 hl
   ·have:=h.stay.1;omega⟩,fun x=>by
   rcases hG g x with h1|h1
   ·exact h.ng h1
   ·have:=h.held.lt;omega,h.npb⟩
theorem Hnd.row {u:Value}(h:Hnd O w0 A Q G ws g b t q s U Z st w)(h1:O.At w0 A (GU (HG w0 G g U Z) u) s' w')(h2:Stay (HG w0 G g U Z) w w')(hu:∀ i,u.ownBlock=some i->w.heap.size<=i):Hnd O w0 A Q (GU G u) ws g b t q s U Z s' w':=by
 have k:=h.call (h1.less fun i x => .inl x) h2
 refine⟨⟨h1.less fun i x=>?_,k.p.pk,k.p.old⟩,k.held,⟨k.stay.1,fun i x hl=>?_⟩,fun x=>?_,k.npb⟩
 ·rcases x with (x|x)|x
  ·rcases x with x|x
   ·exact .inl (.inl (.inl x))
   ·exact .inr x
  ·exact .inl (.inl (.inr x))
  ·exact .inl (.inr x)
 ·rcases x with x|x
  ·exact k.stay.2 i x hl
  ·have:=hu i x;have:=h.stay.1;omega
 ·rcases x with x|x
  ·exact h.ng x
  ·have:=hu g x;have:=h.held.lt;omega
theorem Hnd.forget (h:Hnd O w0 A Q G ws g b t q s U Z st w):Hnd noOb w0 A Q G ws g b t q s U Z freshS w:=by
 obtain⟨A',h1,h2,h3,h4⟩:=h.p.at_
 exact⟨⟨⟨fun _=>False,fun _ x=>x,fun i x=>x.elim,h3,fun i x=>⟨(h4 i x).1,(h4 i x).2.1,fun y=>y⟩⟩,h.p.pk,h.p.old⟩,h.held,h.stay,h.ng,h.npb⟩
theorem Turns.setH {F:Nat->Prop}(h:Turns F w w')(hg:F g)(U:Nat->Sl):Turns F w (_root_.Go.Proofs.YtjjfcaliippgpaaGreatDoor.setH w' g U) :=
 ((((((((h.put (p:=⟨g,4,none⟩) hg _).put (p:=⟨g,5,none⟩) hg _).put (p:=⟨g,6,none⟩) hg _).put (p:=⟨g,7,none⟩) hg _).put (p:=⟨g,8,none⟩) hg _).put (p:=⟨g,9,none⟩) hg _).put (p:=⟨g,10,none⟩) hg _).put (p:=⟨g,11,none⟩) hg _).put (p:=⟨g,12,none⟩) hg _
end
end
section
def infoP (k l c:Int):Prop:=(k=0/\l=0/\c=0)\/((k=1\/k=2)/\1<=l/\l<=1024/\c=0)\/(k=3/\l=1/\0<=c/\c<=8)
instance (k l c:Int):Decidable (infoP k l c):=by unfold infoP;infer_instance
def infoB (k l c:Int):Bool:=decide (infoP k l c)
theorem qPX {k l c:Int}(h:infoP k l c):infoB k l c=true:=decide_eq_true h
theorem qLf {k l c:Int}(h:infoB k l c=true):infoP k l c:=of_decide_eq_true h
def infoV (k l c:Int):Nat:=if infoB k l c then k.toNat+16*l.toNat+65536*c.toNat else 0
theorem qXn {k l c:Int}(h:infoB k l c=true):infoV k l c=k.toNat+16*l.toNat+65536*c.toNat:=by unfold infoV;rw[if_pos h]
theorem qEg {k l c:Int}(h:infoB k l c=false):infoV k l c=0:=by unfold infoV;rw[h];rfl

theorem qZX (k l c:Int)(w:World) :
  Calls Tryz.prog 169 #[.agg #[.int .i64 k,.int .i64 l,.int .i64 c]] w fun e w'=>e = .returned (.bool (infoB k l c))/\Below w.heap.size w w':=by
 have hC:∃ b,infoB k l c=b:=⟨_,rfl⟩
 obtain⟨b,hb⟩:=hC
 rw[hb]
 have hcase:(k=3/\l≠1/\b=false)\/(k=3/\l=1/\c<0/\b=false)\/(k=3/\l=1/\0<=c/\9<=c/\b=false)\/(k=3/\l=1/\0<=c/\c<9/\b=true) \/
   ((k=1\/k=2)/\l<1/\b=false)\/((k=1\/k=2)/\1<=l/\1024<l/\b=false)\/((k=1\/k=2)/\1<=l/\l<=1024/\c≠0/\b=false)\/((k=1\/k=2)/\1<=l/\l<=1024/\c=0/\b=true) \/
   (k=0/\l≠0/\b=false)\/(k=0/\l=0/\c≠0/\b=false)\/(k=0/\l=0/\c=0/\b=true)\/(k≠0/\k≠1/\k≠2/\k≠3/\b=false):=by
  cases b
  ·exact MFq
  ·exact Mx3
 clear hb
 rcases hcase with ⟨rfl,h1,rfl⟩|⟨rfl,rfl,h1,rfl⟩|⟨rfl,rfl,h1,h2,rfl⟩|⟨rfl,rfl,h1,h2,rfl⟩|⟨rfl|rfl,h1,rfl⟩|⟨rfl|rfl,h1,h2,rfl⟩|⟨rfl|rfl,h1,h2,h3,rfl⟩|⟨rfl|rfl,h1,h2,rfl,rfl⟩|⟨rfl,h1,rfl⟩|⟨rfl,rfl,h1,rfl⟩|⟨rfl,rfl,rfl,rfl⟩|⟨h0,h1,h2,h3,rfl⟩
 all_goals
  go_enter Tryz.func169,Tryz.ntmps169
  go_wp2
  go_ret
  refine⟨by first|rfl|(refine qM8 ?_;simp;done)|(refine qM8 ?_;simp;omega),?_⟩
  repeat (first|exact B0 _|(with_reducible refine Bdrew ?_)|(with_reducible refine Bdraw ?_ _)|(with_reducible refine Bnew ?_ _)|(refine Bput ?_ (Nat.le_refl _) _))
theorem qOQ (k l c:Int)(w:World) :
  Calls Tryz.prog 138 #[.agg #[.int .i64 k,.int .i64 l,.int .i64 c]] w fun e w'=>e = .returned (.bool (infoB k l c))/\Below w.heap.size w w':=by
 have hC:∃ b,infoB k l c=b:=⟨_,rfl⟩
 obtain⟨b,hb⟩:=hC
 rw[hb]
 have hcase:(k=3/\l≠1/\b=false)\/(k=3/\l=1/\c<0/\b=false)\/(k=3/\l=1/\0<=c/\8<c/\b=false)\/(k=3/\l=1/\0<=c/\c<=8/\b=true) \/
   ((k=1\/k=2)/\l<1/\b=false)\/((k=1\/k=2)/\1<=l/\1024<l/\b=false)\/((k=1\/k=2)/\1<=l/\l<=1024/\c≠0/\b=false)\/((k=1\/k=2)/\1<=l/\l<=1024/\c=0/\b=true) \/
   (k=0/\l≠0/\b=false)\/(k=0/\l=0/\c≠0/\b=false)\/(k=0/\l=0/\c=0/\b=true)\/(k≠0/\k≠1/\k≠2/\k≠3/\b=false):=by
  cases b
  ·exact MFq
  ·exact Mx3
 clear hb
 rcases hcase with ⟨rfl,h1,rfl⟩|⟨rfl,rfl,h1,rfl⟩|⟨rfl,rfl,h1,h2,rfl⟩|⟨rfl,rfl,h1,h2,rfl⟩|⟨rfl|rfl,h1,rfl⟩|⟨rfl|rfl,h1,h2,rfl⟩|⟨rfl|rfl,h1,h2,h3,rfl⟩|⟨rfl|rfl,h1,h2,rfl,rfl⟩|⟨rfl,h1,rfl⟩|⟨rfl,rfl,h1,rfl⟩|⟨rfl,rfl,rfl,rfl⟩|⟨h0,h1,h2,h3,rfl⟩
 all_goals
  go_enter Tryz.func138,Tryz.ntmps138
  go_wp2
  go_ret
  refine⟨by first|rfl|(refine qM8 ?_;simp;done)|(refine qM8 ?_;simp;omega),?_⟩
  repeat (first|exact B0 _|(with_reducible refine Bdrew ?_)|(with_reducible refine Bdraw ?_ _)|(with_reducible refine Bnew ?_ _)|(refine Bput ?_ (Nat.le_refl _) _))
end
end Go.Proofs.YtjjfcaliippgpaaGreatDoor
