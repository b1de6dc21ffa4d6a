/-
  What the document's automaton tells of a block that is made (nacreref26.made). Written by model/gen_ref.py.
-/
import Derived.Test.YtedakmhffjhfnaaDoorA02
import Derived.Test.YtedakmhffjhfnaaDoorAKit
import Derived.Below
import Derived.WalkKit
import Derived.ProofKit
import Derived.BigQuiet
import Derived.Outline
import Derived.Deep.QuietTactic
import Derived.Deep.RegionHeld3
import Derived.IntWalk
import Derived.KernelRfl
import Derived.Test.YtedakmhffjhfnaaDoorA01
namespace Go.Proofs.YtedakmhffjhfnaaDoor
open Go.ChangeShapes Go.WideShapes Go.ChangeAt Go.RowKit Go.Maps
set_option linter.unusedVariables false
set_option linter.unusedSimpArgs false
set_option maxRecDepth 100000
section
set_option maxHeartbeats 1600000 in
theorem r26Made_no {w : World} {g base : Nat} {Z : Nat -> Prop} {t p s : Int} {L : List (Int × Int)} {R : Nat -> Int} (h : RMod w g base Z t p s L R) (hn : L.length <= 90000) (size err out aux own u : Int) (b : Bool) (hu : rdI t p s size = u) (hnb : needB t p s size = false) (hj : justB 2 err out aux = b) (hz : -9223372036854775808 <= size /\ size <= 9223372036854775807) : Calls Tryd.prog 45 #[.pointer (some ⟨g, 0, none⟩), .int .i64 size, .agg #[.int .i64 err, .int .i64 out, .int .i64 aux], .int .i64 own] w fun e w' => e = .returned (.bool b) /\ Below w.heap.size w w' := by
 have HM := hidp (h.keep (Bnew (B0 w) (.cells #[.int .i64 err, .int .i64 out, .int .i64 aux] 32)))
 have HX := hidp (Held.new w 32 #[.int .i64 err, .int .i64 out, .int .i64 aux])
 have HB := hidp (Bnew (B0 w) (.cells #[.int .i64 err, .int .i64 out, .int .i64 aux] 32))
 have HN := hidp hn
 have HZ := hidp hz
 have HU : Hid (rdI t p s size = u /\ needB t p s size = false) := hidp ⟨hu, hnb⟩
 have HJ := hidp hj
 clear hu hnb hj
 clear h hn hz
 obtain ⟨x0, x1, x2⟩ := HX.out.three
 obtain ⟨A, c, hx, _⟩ := HM.out.ex
 obtain ⟨y0, y1, y2, _⟩ := mod_cells hx
 clear hx
 go_enter Tryd.func45, Tryd.ntmps45
 go_wp2_with fail
 refine (r26Round_c t p s size HZ.out _).mono ?_; rintro e w1 ⟨rfl, hb⟩; rw [HU.out.1, HU.out.2]
 replace HX := hidp (HX.out.keep hb)
 replace HM := hidp (HM.out.keep hb)
 replace HB := hidp (Bgo HB.out hb)
 clear hb x0 x1 x2
 obtain ⟨x0, x1, x2⟩ := HX.out.three
 go_wp2_with fail
 refine (r26Just_c 2 err out aux _).mono ?_; rintro e w1 ⟨rfl, hb⟩; rw [HJ.out]
 replace HX := hidp (HX.out.keep hb)
 replace HM := hidp (HM.out.keep hb)
 replace HB := hidp (Bgo HB.out hb)
 clear hb x0 x1 x2
 obtain ⟨x0, x1, x2⟩ := HX.out.three
 go_wp2
 go_ret
 exact ⟨rfl, HB.out⟩

set_option maxHeartbeats 1600000 in
theorem r26Made_room {w : World} {g base : Nat} {Z : Nat -> Prop} {t p s : Int} {L : List (Int × Int)} {R : Nat -> Int} (h : RMod w g base Z t p s L R) (hn : L.length <= 90000) (size err out aux own u : Int) (hu : rdI t p s size = u) (hnb : needB t p s size = true) (hj : justB 3 err out aux = true) (hz : -9223372036854775808 <= size /\ size <= 9223372036854775807) : Calls Tryd.prog 45 #[.pointer (some ⟨g, 0, none⟩), .int .i64 size, .agg #[.int .i64 err, .int .i64 out, .int .i64 aux], .int .i64 own] w fun e w' => e = .returned (.bool true) /\ Below w.heap.size w w' := by
 have HM := hidp (h.keep (Bnew (B0 w) (.cells #[.int .i64 err, .int .i64 out, .int .i64 aux] 32)))
 have HX := hidp (Held.new w 32 #[.int .i64 err, .int .i64 out, .int .i64 aux])
 have HB := hidp (Bnew (B0 w) (.cells #[.int .i64 err, .int .i64 out, .int .i64 aux] 32))
 have HN := hidp hn
 have HZ := hidp hz
 have HU : Hid (rdI t p s size = u /\ needB t p s size = true) := hidp ⟨hu, hnb⟩
 have HJ := hidp hj
 clear hu hnb hj
 clear h hn hz
 obtain ⟨x0, x1, x2⟩ := HX.out.three
 obtain ⟨A, c, hx, _⟩ := HM.out.ex
 obtain ⟨y0, y1, y2, _⟩ := mod_cells hx
 clear hx
 go_enter Tryd.func45, Tryd.ntmps45
 go_wp2_with fail
 refine (r26Round_c t p s size HZ.out _).mono ?_; rintro e w1 ⟨rfl, hb⟩; rw [HU.out.1, HU.out.2]
 replace HX := hidp (HX.out.keep hb)
 replace HM := hidp (HM.out.keep hb)
 replace HB := hidp (Bgo HB.out hb)
 clear hb x0 x1 x2
 obtain ⟨x0, x1, x2⟩ := HX.out.three
 go_wp2_with fail
 refine (r26Just_c 3 err out aux _).mono ?_; rintro e w1 ⟨rfl, hb⟩; rw [HJ.out]
 replace HX := hidp (HX.out.keep hb)
 replace HM := hidp (HM.out.keep hb)
 replace HB := hidp (Bgo HB.out hb)
 clear hb x0 x1 x2
 obtain ⟨x0, x1, x2⟩ := HX.out.three
 go_wp2
 go_ret
 exact ⟨rfl, HB.out⟩

set_option maxHeartbeats 1600000 in
theorem r26Made_err {w : World} {g base : Nat} {Z : Nat -> Prop} {t p s : Int} {L : List (Int × Int)} {R : Nat -> Int} (h : RMod w g base Z t p s L R) (hn : L.length <= 90000) (size err out aux own u : Int) (hu : rdI t p s size = u) (hnb : needB t p s size = true) (hj : justB 3 err out aux = false) (he : err ≠ 0) (hz : -9223372036854775808 <= size /\ size <= 9223372036854775807) : Calls Tryd.prog 45 #[.pointer (some ⟨g, 0, none⟩), .int .i64 size, .agg #[.int .i64 err, .int .i64 out, .int .i64 aux], .int .i64 own] w fun e w' => e = .returned (.bool false) /\ Below w.heap.size w w' := by
 have HM := hidp (h.keep (Bnew (B0 w) (.cells #[.int .i64 err, .int .i64 out, .int .i64 aux] 32)))
 have HX := hidp (Held.new w 32 #[.int .i64 err, .int .i64 out, .int .i64 aux])
 have HB := hidp (Bnew (B0 w) (.cells #[.int .i64 err, .int .i64 out, .int .i64 aux] 32))
 have HN := hidp hn
 have HZ := hidp hz
 have HU : Hid (rdI t p s size = u /\ needB t p s size = true) := hidp ⟨hu, hnb⟩
 have HJ := hidp hj
 clear hu hnb hj
 have q0 : (err == 0) = false := by simpa using he
 clear he
 clear h hn hz
 obtain ⟨x0, x1, x2⟩ := HX.out.three
 obtain ⟨A, c, hx, _⟩ := HM.out.ex
 obtain ⟨y0, y1, y2, _⟩ := mod_cells hx
 clear hx
 go_enter Tryd.func45, Tryd.ntmps45
 go_wp2_with fail
 refine (r26Round_c t p s size HZ.out _).mono ?_; rintro e w1 ⟨rfl, hb⟩; rw [HU.out.1, HU.out.2]
 replace HX := hidp (HX.out.keep hb)
 replace HM := hidp (HM.out.keep hb)
 replace HB := hidp (Bgo HB.out hb)
 clear hb x0 x1 x2
 obtain ⟨x0, x1, x2⟩ := HX.out.three
 go_wp2_with fail
 refine (r26Just_c 3 err out aux _).mono ?_; rintro e w1 ⟨rfl, hb⟩; rw [HJ.out]
 replace HX := hidp (HX.out.keep hb)
 replace HM := hidp (HM.out.keep hb)
 replace HB := hidp (Bgo HB.out hb)
 clear hb x0 x1 x2
 obtain ⟨x0, x1, x2⟩ := HX.out.three
 go_wp2
 go_ret
 exact ⟨rfl, HB.out⟩

set_option maxHeartbeats 1600000 in
theorem r26Made_free {w : World} {g base : Nat} {Z : Nat -> Prop} {t p s : Int} {L : List (Int × Int)} {R : Nat -> Int} (h : RMod w g base Z t p s L R) (hn : L.length <= 90000) (size err out aux own u : Int) (hu : rdI t p s size = u) (hnb : needB t p s size = true) (hj : justB 3 err out aux = false) (he : err = 0) (b : Bool) (hf : freeM (pageN t p s : Int) (endI t p s) L out u own = b) (hz : -9223372036854775808 <= size /\ size <= 9223372036854775807) : Calls Tryd.prog 45 #[.pointer (some ⟨g, 0, none⟩), .int .i64 size, .agg #[.int .i64 err, .int .i64 out, .int .i64 aux], .int .i64 own] w fun e w' => e = .returned (.bool b) /\ Below w.heap.size w w' := by
 have HM := hidp (h.keep (Bnew (B0 w) (.cells #[.int .i64 err, .int .i64 out, .int .i64 aux] 32)))
 have HX := hidp (Held.new w 32 #[.int .i64 err, .int .i64 out, .int .i64 aux])
 have HB := hidp (Bnew (B0 w) (.cells #[.int .i64 err, .int .i64 out, .int .i64 aux] 32))
 have HN := hidp hn
 have HZ := hidp hz
 have HU : Hid (rdI t p s size = u /\ needB t p s size = true) := hidp ⟨hu, hnb⟩
 have HJ := hidp hj
 clear hu hnb hj
 have HF := hidp hf
 have q0 : (err == 0) = true := by simpa using he
 clear he hf
 clear h hn hz
 obtain ⟨x0, x1, x2⟩ := HX.out.three
 obtain ⟨A, c, hx, _⟩ := HM.out.ex
 obtain ⟨y0, y1, y2, _⟩ := mod_cells hx
 clear hx
 go_enter Tryd.func45, Tryd.ntmps45
 go_wp2_with fail
 refine (r26Round_c t p s size HZ.out _).mono ?_; rintro e w1 ⟨rfl, hb⟩; rw [HU.out.1, HU.out.2]
 replace HX := hidp (HX.out.keep hb)
 replace HM := hidp (HM.out.keep hb)
 replace HB := hidp (Bgo HB.out hb)
 clear hb x0 x1 x2
 obtain ⟨x0, x1, x2⟩ := HX.out.three
 go_wp2_with fail
 refine (r26Just_c 3 err out aux _).mono ?_; rintro e w1 ⟨rfl, hb⟩; rw [HJ.out]
 replace HX := hidp (HX.out.keep hb)
 replace HM := hidp (HM.out.keep hb)
 replace HB := hidp (Bgo HB.out hb)
 clear hb x0 x1 x2
 obtain ⟨x0, x1, x2⟩ := HX.out.three
 go_wp2_with fail
 refine (r26Free_c HM.out HN.out out u own).mono ?_; rintro e w1 ⟨rfl, hb⟩; rw [HF.out]
 replace HX := hidp (HX.out.keep hb)
 replace HM := hidp (HM.out.keep hb)
 replace HB := hidp (Bgo HB.out hb)
 clear hb x0 x1 x2
 obtain ⟨x0, x1, x2⟩ := HX.out.three
 go_wp2
 go_ret
 exact ⟨rfl, HB.out⟩

theorem r26Made_c {w : World} {g base : Nat} {Z : Nat -> Prop} {t p s : Int} {L : List (Int × Int)} {R : Nat -> Int} (h : RMod w g base Z t p s L R) (hn : L.length <= 90000) (size err out aux own : Int) (hz : -9223372036854775808 <= size /\ size <= 9223372036854775807) : Calls Tryd.prog 45 #[.pointer (some ⟨g, 0, none⟩), .int .i64 size, .agg #[.int .i64 err, .int .i64 out, .int .i64 aux], .int .i64 own] w fun e w' => e = .returned (.bool (madeM t p s L size err out aux own)) /\ Below w.heap.size w w' := by
 unfold madeM
 cases hnb : needB t p s size with
 | false =>
  rw [if_neg (by simp)]
  exact r26Made_no h hn size err out aux own _ _ rfl hnb rfl hz
 | true =>
  rw [if_pos rfl]
  cases hj : justB 3 err out aux with
  | true =>
   rw [Bool.true_or]
   exact r26Made_room h hn size err out aux own _ rfl hnb hj hz
  | false =>
   rw [Bool.false_or]
   by_cases he : err = 0
   ·rw [decide_eq_true he, Bool.true_and]
    exact r26Made_free h hn size err out aux own _ rfl hnb hj he _ rfl hz
   ·rw [decide_eq_false he, Bool.false_and]
    exact r26Made_err h hn size err out aux own _ rfl hnb hj he hz
end
section
set_option maxHeartbeats 3200000 in
theorem r26Root_lo {w : World} {g base : Nat} {Z : Nat -> Prop} {t p s : Int} {L : List (Int × Int)} {R : Nat -> Int} (h : RMod w g base Z t p s L R) (hn : L.length <= 90000) (k a b err out aux : Int) (ha : -9223372036854775808 <= a /\ a <= 9223372036854775807) (hb : -9223372036854775808 <= b /\ b <= 9223372036854775807) (h0 : a < 0) (jb : Bool) (hj : justB 5 err out aux = jb) : Calls Tryd.prog 49 #[.pointer (some ⟨g, 0, none⟩), .agg #[.int .i64 k, .int .i64 a, .int .i64 b], .agg #[.int .i64 err, .int .i64 out, .int .i64 aux]] w fun e w' => e = .returned (.bool (jb)) /\ Below w.heap.size w w' := by
 have t0 : decide (a < 0) = true := decide_eq_true (by omega)
 have HJ := hidp hj
 clear hj
 clear h0
 have HB := hidp (Bnew (Bnew (B0 w) (.cells #[.int .i64 k, .int .i64 a, .int .i64 b] 29)) (.cells #[.int .i64 err, .int .i64 out, .int .i64 aux] 32))
 have HM := hidp (h.keep HB.out)
 have HX := hidp ((Held.new w 29 #[.int .i64 k, .int .i64 a, .int .i64 b]).alloc (.cells #[.int .i64 err, .int .i64 out, .int .i64 aux] 32))
 have HY := hidp (Held.new2 w (.cells #[.int .i64 k, .int .i64 a, .int .i64 b] 29) 32 #[.int .i64 err, .int .i64 out, .int .i64 aux])
 have HN := hidp hn
 obtain ⟨A, c, hx, ho⟩ := h.ex
 have HG := hidp (hx.keep HB.out)
 have HO := hidp (own_below ho HB.out)
 have hcv := own_caps3 ho
 clear hx ho h hn
 obtain ⟨x0, x1, x2⟩ := HX.out.three
 obtain ⟨y0, y1, y2⟩ := HY.out.three
 obtain ⟨m0, m1, m2, m3⟩ := mod_cells HG.out
 go_enter Tryd.func49, Tryd.ntmps49
 go_wp2_with fail
 refine (r26Just_c 5 err out aux _).mono ?_; rintro e w1 ⟨rfl, hb⟩; rw [HJ.out]
 clear x0 x1 x2 y0 y1 y2 m0 m1 m2 m3
 replace HX := hidp (HX.out.keep hb)
 replace HY := hidp (HY.out.keep hb)
 replace HG := hidp (HG.out.keep hb)
 replace HO := hidp (own_below HO.out hb)
 replace HM := hidp (HM.out.keep hb)
 replace HB := hidp (Bgo HB.out hb)
 clear hb
 obtain ⟨x0, x1, x2⟩ := HX.out.three
 obtain ⟨y0, y1, y2⟩ := HY.out.three
 obtain ⟨m0, m1, m2, m3⟩ := mod_cells HG.out
 go_wp2_with fail
 go_ret
 exact ⟨by first | rfl | (rw [HV.out]; rfl), HB.out⟩

set_option maxHeartbeats 3200000 in
theorem r26Root_hi {w : World} {g base : Nat} {Z : Nat -> Prop} {t p s : Int} {L : List (Int × Int)} {R : Nat -> Int} (h : RMod w g base Z t p s L R) (hn : L.length <= 90000) (k a b err out aux : Int) (ha : -9223372036854775808 <= a /\ a <= 9223372036854775807) (hb : -9223372036854775808 <= b /\ b <= 9223372036854775807) (h0 : 7 < a) (jb : Bool) (hj : justB 5 err out aux = jb) : Calls Tryd.prog 49 #[.pointer (some ⟨g, 0, none⟩), .agg #[.int .i64 k, .int .i64 a, .int .i64 b], .agg #[.int .i64 err, .int .i64 out, .int .i64 aux]] w fun e w' => e = .returned (.bool (jb)) /\ Below w.heap.size w w' := by
 have t0 : decide (a < 0) = false := decide_eq_false (by omega)
 have t1 : decide (7 < a) = true := decide_eq_true (by omega)
 have HJ := hidp hj
 clear hj
 clear h0
 have HB := hidp (Bnew (Bnew (B0 w) (.cells #[.int .i64 k, .int .i64 a, .int .i64 b] 29)) (.cells #[.int .i64 err, .int .i64 out, .int .i64 aux] 32))
 have HM := hidp (h.keep HB.out)
 have HX := hidp ((Held.new w 29 #[.int .i64 k, .int .i64 a, .int .i64 b]).alloc (.cells #[.int .i64 err, .int .i64 out, .int .i64 aux] 32))
 have HY := hidp (Held.new2 w (.cells #[.int .i64 k, .int .i64 a, .int .i64 b] 29) 32 #[.int .i64 err, .int .i64 out, .int .i64 aux])
 have HN := hidp hn
 obtain ⟨A, c, hx, ho⟩ := h.ex
 have HG := hidp (hx.keep HB.out)
 have HO := hidp (own_below ho HB.out)
 have hcv := own_caps3 ho
 clear hx ho h hn
 obtain ⟨x0, x1, x2⟩ := HX.out.three
 obtain ⟨y0, y1, y2⟩ := HY.out.three
 obtain ⟨m0, m1, m2, m3⟩ := mod_cells HG.out
 go_enter Tryd.func49, Tryd.ntmps49
 go_wp2_with fail
 refine (r26Just_c 5 err out aux _).mono ?_; rintro e w1 ⟨rfl, hb⟩; rw [HJ.out]
 clear x0 x1 x2 y0 y1 y2 m0 m1 m2 m3
 replace HX := hidp (HX.out.keep hb)
 replace HY := hidp (HY.out.keep hb)
 replace HG := hidp (HG.out.keep hb)
 replace HO := hidp (own_below HO.out hb)
 replace HM := hidp (HM.out.keep hb)
 replace HB := hidp (Bgo HB.out hb)
 clear hb
 obtain ⟨x0, x1, x2⟩ := HX.out.three
 obtain ⟨y0, y1, y2⟩ := HY.out.three
 obtain ⟨m0, m1, m2, m3⟩ := mod_cells HG.out
 go_wp2_with fail
 go_ret
 exact ⟨by first | rfl | (rw [HV.out]; rfl), HB.out⟩

set_option maxHeartbeats 3200000 in
theorem r26Root_made {w : World} {g base : Nat} {Z : Nat -> Prop} {t p s : Int} {L : List (Int × Int)} {R : Nat -> Int} (h : RMod w g base Z t p s L R) (hn : L.length <= 90000) (a b err out aux : Int) (ha : -9223372036854775808 <= a /\ a <= 9223372036854775807) (hb : -9223372036854775808 <= b /\ b <= 9223372036854775807) (n : Nat) (h8 : n < 8) (ea : a = (n : Int)) (r : Int) (hr : R n = r) (mb xb : Bool) (hm : madeM t p s L b err out aux (-1) = mb) (hx : auxB err aux r = xb) (hmb : mb = true) : Calls Tryd.prog 49 #[.pointer (some ⟨g, 0, none⟩), .agg #[.int .i64 4, .int .i64 a, .int .i64 b], .agg #[.int .i64 err, .int .i64 out, .int .i64 aux]] w fun e w' => e = .returned (.bool (xb)) /\ Below w.heap.size w w' := by
 subst ea
 have t0 : decide ((n : Int) < 0) = false := decide_eq_false (by omega)
 have t1 : decide (7 < (n : Int)) = false := decide_eq_false (by omega)
 have h8i : (n : Int) < 8 := by omega
 have HR := hidp hr
 clear hr
 have HMB := hidp hm
 have HXB := hidp hx
 subst hmb
 clear hm hx
 have HBL := hidp hb
 clear hb
 have HB := hidp (Bnew (Bnew (B0 w) (.cells #[.int .i64 4, .int .i64 (n : Int), .int .i64 b] 29)) (.cells #[.int .i64 err, .int .i64 out, .int .i64 aux] 32))
 have HM := hidp (h.keep HB.out)
 have HX := hidp ((Held.new w 29 #[.int .i64 4, .int .i64 (n : Int), .int .i64 b]).alloc (.cells #[.int .i64 err, .int .i64 out, .int .i64 aux] 32))
 have HY := hidp (Held.new2 w (.cells #[.int .i64 4, .int .i64 (n : Int), .int .i64 b] 29) 32 #[.int .i64 err, .int .i64 out, .int .i64 aux])
 have HN := hidp hn
 obtain ⟨A, c, hx, ho⟩ := h.ex
 have HG := hidp (hx.keep HB.out)
 have HO := hidp (own_below ho HB.out)
 have hcv := own_caps3 ho
 clear hx ho h hn
 obtain ⟨x0, x1, x2⟩ := HX.out.three
 obtain ⟨y0, y1, y2⟩ := HY.out.three
 obtain ⟨m0, m1, m2, m3⟩ := mod_cells HG.out
 go_enter Tryd.func49, Tryd.ntmps49
 go_wp2_with fail
 clear x0 x1 x2 y0 y1 y2 m0 m1 m2 m3
 replace HX := hidp (HX.out.keep (Bdrew (B0 _)))
 replace HY := hidp (HY.out.keep (Bdrew (B0 _)))
 replace HG := hidp (HG.out.keep (Bdrew (B0 _)))
 replace HO := hidp (own_below HO.out (Bdrew (B0 _)))
 replace HM := hidp (HM.out.keep (Bdrew (B0 _)))
 replace HB := hidp (Bgo HB.out (Bdrew (B0 _)))
 refine wp_region_held_drew (S := (fun w' => (w'.cell? ⟨w.heap.size, 0, none⟩ = some (.int .i64 4) /\ w'.cell? ⟨w.heap.size, 1, none⟩ = some (.int .i64 (n : Int)) /\ w'.cell? ⟨w.heap.size, 2, none⟩ = some (.int .i64 b)) /\ (w'.cell? ⟨w.heap.size + 1, 0, none⟩ = some (.int .i64 err) /\ w'.cell? ⟨w.heap.size + 1, 1, none⟩ = some (.int .i64 out) /\ w'.cell? ⟨w.heap.size + 1, 2, none⟩ = some (.int .i64 aux)) /\ (w'.cell? ⟨g, 0, none⟩ = some (.int .i64 t) /\ w'.cell? ⟨g, 1, none⟩ = some (.int .i64 p) /\ w'.cell? ⟨g, 2, none⟩ = some (.int .i64 s) /\ w'.cell? ⟨g, 3, none⟩ = some (.slice A L.length c)) /\ w'.cell? ⟨g, 4 + n, none⟩ = some (.int .i64 r))) (by kernel_rfl) ?_ (fun hHeld => ?_)
 ·(try dsimp only)
  first | exact ⟨HX.out.three, HY.out.three, mod_cells HG.out, (by have := mod_root HG.out h8; rwa [HR.out] at this)⟩ | exact hHeld
 refine tkz 0 ?_
 refine tkz 1 ?_
 refine tkz 2 ?_
 refine tkz 3 ?_
 refine tkz 4 ?_
 refine tkz 5 ?_
 refine tkz 6 ?_
 refine tkz 7 ?_
 refine tkz 8 ?_
 refine dnz ?_
 obtain ⟨x0, x1, x2⟩ := HX.out.three
 obtain ⟨y0, y1, y2⟩ := HY.out.three
 obtain ⟨m0, m1, m2, m3⟩ := mod_cells HG.out
 go_wp2_with fail
 refine (r26Made_c HM.out HN.out b err out aux (-1) HBL.out).mono ?_; rintro e w1 ⟨rfl, hb⟩; rw [HMB.out]
 clear x0 x1 x2 y0 y1 y2 m0 m1 m2 m3
 replace HX := hidp (HX.out.keep hb)
 replace HY := hidp (HY.out.keep hb)
 replace HG := hidp (HG.out.keep hb)
 replace HO := hidp (own_below HO.out hb)
 replace HM := hidp (HM.out.keep hb)
 replace HB := hidp (Bgo HB.out hb)
 clear hb
 obtain ⟨x0, x1, x2⟩ := HX.out.three
 obtain ⟨y0, y1, y2⟩ := HY.out.three
 obtain ⟨m0, m1, m2, m3⟩ := mod_cells HG.out
 go_wp2_with fail
 refine (r26Aux_c err out aux r _).mono ?_; rintro e w1 ⟨rfl, hb⟩; rw [HXB.out]
 clear x0 x1 x2 y0 y1 y2 m0 m1 m2 m3
 replace HX := hidp (HX.out.keep hb)
 replace HY := hidp (HY.out.keep hb)
 replace HG := hidp (HG.out.keep hb)
 replace HO := hidp (own_below HO.out hb)
 replace HM := hidp (HM.out.keep hb)
 replace HB := hidp (Bgo HB.out hb)
 clear hb
 obtain ⟨x0, x1, x2⟩ := HX.out.three
 obtain ⟨y0, y1, y2⟩ := HY.out.three
 obtain ⟨m0, m1, m2, m3⟩ := mod_cells HG.out
 go_wp2_with fail
 go_ret
 exact ⟨by first | rfl | (rw [HV.out]; rfl), HB.out⟩

set_option maxHeartbeats 3200000 in
theorem r26Root_nomade {w : World} {g base : Nat} {Z : Nat -> Prop} {t p s : Int} {L : List (Int × Int)} {R : Nat -> Int} (h : RMod w g base Z t p s L R) (hn : L.length <= 90000) (a b err out aux : Int) (ha : -9223372036854775808 <= a /\ a <= 9223372036854775807) (hb : -9223372036854775808 <= b /\ b <= 9223372036854775807) (n : Nat) (h8 : n < 8) (ea : a = (n : Int)) (r : Int) (hr : R n = r) (hm : madeM t p s L b err out aux (-1) = false) : Calls Tryd.prog 49 #[.pointer (some ⟨g, 0, none⟩), .agg #[.int .i64 4, .int .i64 a, .int .i64 b], .agg #[.int .i64 err, .int .i64 out, .int .i64 aux]] w fun e w' => e = .returned (.bool (false)) /\ Below w.heap.size w w' := by
 subst ea
 have t0 : decide ((n : Int) < 0) = false := decide_eq_false (by omega)
 have t1 : decide (7 < (n : Int)) = false := decide_eq_false (by omega)
 have h8i : (n : Int) < 8 := by omega
 have HR := hidp hr
 clear hr
 have HMB := hidp hm
 clear hm
 have HBL := hidp hb
 clear hb
 have HB := hidp (Bnew (Bnew (B0 w) (.cells #[.int .i64 4, .int .i64 (n : Int), .int .i64 b] 29)) (.cells #[.int .i64 err, .int .i64 out, .int .i64 aux] 32))
 have HM := hidp (h.keep HB.out)
 have HX := hidp ((Held.new w 29 #[.int .i64 4, .int .i64 (n : Int), .int .i64 b]).alloc (.cells #[.int .i64 err, .int .i64 out, .int .i64 aux] 32))
 have HY := hidp (Held.new2 w (.cells #[.int .i64 4, .int .i64 (n : Int), .int .i64 b] 29) 32 #[.int .i64 err, .int .i64 out, .int .i64 aux])
 have HN := hidp hn
 obtain ⟨A, c, hx, ho⟩ := h.ex
 have HG := hidp (hx.keep HB.out)
 have HO := hidp (own_below ho HB.out)
 have hcv := own_caps3 ho
 clear hx ho h hn
 obtain ⟨x0, x1, x2⟩ := HX.out.three
 obtain ⟨y0, y1, y2⟩ := HY.out.three
 obtain ⟨m0, m1, m2, m3⟩ := mod_cells HG.out
 go_enter Tryd.func49, Tryd.ntmps49
 go_wp2_with fail
 clear x0 x1 x2 y0 y1 y2 m0 m1 m2 m3
 replace HX := hidp (HX.out.keep (Bdrew (B0 _)))
 replace HY := hidp (HY.out.keep (Bdrew (B0 _)))
 replace HG := hidp (HG.out.keep (Bdrew (B0 _)))
 replace HO := hidp (own_below HO.out (Bdrew (B0 _)))
 replace HM := hidp (HM.out.keep (Bdrew (B0 _)))
 replace HB := hidp (Bgo HB.out (Bdrew (B0 _)))
 refine wp_region_held_drew (S := (fun w' => (w'.cell? ⟨w.heap.size, 0, none⟩ = some (.int .i64 4) /\ w'.cell? ⟨w.heap.size, 1, none⟩ = some (.int .i64 (n : Int)) /\ w'.cell? ⟨w.heap.size, 2, none⟩ = some (.int .i64 b)) /\ (w'.cell? ⟨w.heap.size + 1, 0, none⟩ = some (.int .i64 err) /\ w'.cell? ⟨w.heap.size + 1, 1, none⟩ = some (.int .i64 out) /\ w'.cell? ⟨w.heap.size + 1, 2, none⟩ = some (.int .i64 aux)) /\ (w'.cell? ⟨g, 0, none⟩ = some (.int .i64 t) /\ w'.cell? ⟨g, 1, none⟩ = some (.int .i64 p) /\ w'.cell? ⟨g, 2, none⟩ = some (.int .i64 s) /\ w'.cell? ⟨g, 3, none⟩ = some (.slice A L.length c)) /\ w'.cell? ⟨g, 4 + n, none⟩ = some (.int .i64 r))) (by kernel_rfl) ?_ (fun hHeld => ?_)
 ·(try dsimp only)
  first | exact ⟨HX.out.three, HY.out.three, mod_cells HG.out, (by have := mod_root HG.out h8; rwa [HR.out] at this)⟩ | exact hHeld
 refine tkz 0 ?_
 refine tkz 1 ?_
 refine tkz 2 ?_
 refine tkz 3 ?_
 refine tkz 4 ?_
 refine tkz 5 ?_
 refine tkz 6 ?_
 refine tkz 7 ?_
 refine tkz 8 ?_
 refine dnz ?_
 obtain ⟨x0, x1, x2⟩ := HX.out.three
 obtain ⟨y0, y1, y2⟩ := HY.out.three
 obtain ⟨m0, m1, m2, m3⟩ := mod_cells HG.out
 go_wp2_with fail
 refine (r26Made_c HM.out HN.out b err out aux (-1) HBL.out).mono ?_; rintro e w1 ⟨rfl, hb⟩; rw [HMB.out]
 clear x0 x1 x2 y0 y1 y2 m0 m1 m2 m3
 replace HX := hidp (HX.out.keep hb)
 replace HY := hidp (HY.out.keep hb)
 replace HG := hidp (HG.out.keep hb)
 replace HO := hidp (own_below HO.out hb)
 replace HM := hidp (HM.out.keep hb)
 replace HB := hidp (Bgo HB.out hb)
 clear hb
 obtain ⟨x0, x1, x2⟩ := HX.out.three
 obtain ⟨y0, y1, y2⟩ := HY.out.three
 obtain ⟨m0, m1, m2, m3⟩ := mod_cells HG.out
 go_wp2_with fail
 go_ret
 exact ⟨by first | rfl | (rw [HV.out]; rfl), HB.out⟩

set_option maxHeartbeats 3200000 in
theorem r26Root_set0 {w : World} {g base : Nat} {Z : Nat -> Prop} {t p s : Int} {L : List (Int × Int)} {R : Nat -> Int} (h : RMod w g base Z t p s L R) (hn : L.length <= 90000) (a b err out aux : Int) (ha : -9223372036854775808 <= a /\ a <= 9223372036854775807) (hb : -9223372036854775808 <= b /\ b <= 9223372036854775807) (n : Nat) (h8 : n < 8) (ea : a = (n : Int)) (r : Int) (hr : R n = r) (h0 : b = 0) (gb : Bool) (hg : givesB err out aux b r = gb) : Calls Tryd.prog 49 #[.pointer (some ⟨g, 0, none⟩), .agg #[.int .i64 5, .int .i64 a, .int .i64 b], .agg #[.int .i64 err, .int .i64 out, .int .i64 aux]] w fun e w' => e = .returned (.bool (gb)) /\ Below w.heap.size w w' := by
 subst ea
 have t0 : decide ((n : Int) < 0) = false := decide_eq_false (by omega)
 have t1 : decide (7 < (n : Int)) = false := decide_eq_false (by omega)
 have h8i : (n : Int) < 8 := by omega
 have HR := hidp hr
 clear hr
 have HGB := hidp hg
 have q0 : (b != 0) = false := by simpa using h0
 clear hg h0
 have HB := hidp (Bnew (Bnew (B0 w) (.cells #[.int .i64 5, .int .i64 (n : Int), .int .i64 b] 29)) (.cells #[.int .i64 err, .int .i64 out, .int .i64 aux] 32))
 have HM := hidp (h.keep HB.out)
 have HX := hidp ((Held.new w 29 #[.int .i64 5, .int .i64 (n : Int), .int .i64 b]).alloc (.cells #[.int .i64 err, .int .i64 out, .int .i64 aux] 32))
 have HY := hidp (Held.new2 w (.cells #[.int .i64 5, .int .i64 (n : Int), .int .i64 b] 29) 32 #[.int .i64 err, .int .i64 out, .int .i64 aux])
 have HN := hidp hn
 obtain ⟨A, c, hx, ho⟩ := h.ex
 have HG := hidp (hx.keep HB.out)
 have HO := hidp (own_below ho HB.out)
 have hcv := own_caps3 ho
 clear hx ho h hn
 obtain ⟨x0, x1, x2⟩ := HX.out.three
 obtain ⟨y0, y1, y2⟩ := HY.out.three
 obtain ⟨m0, m1, m2, m3⟩ := mod_cells HG.out
 go_enter Tryd.func49, Tryd.ntmps49
 go_wp2_with fail
 clear x0 x1 x2 y0 y1 y2 m0 m1 m2 m3
 replace HX := hidp (HX.out.keep (Bdrew (B0 _)))
 replace HY := hidp (HY.out.keep (Bdrew (B0 _)))
 replace HG := hidp (HG.out.keep (Bdrew (B0 _)))
 replace HO := hidp (own_below HO.out (Bdrew (B0 _)))
 replace HM := hidp (HM.out.keep (Bdrew (B0 _)))
 replace HB := hidp (Bgo HB.out (Bdrew (B0 _)))
 refine wp_region_held_drew (S := (fun w' => (w'.cell? ⟨w.heap.size, 0, none⟩ = some (.int .i64 5) /\ w'.cell? ⟨w.heap.size, 1, none⟩ = some (.int .i64 (n : Int)) /\ w'.cell? ⟨w.heap.size, 2, none⟩ = some (.int .i64 b)) /\ (w'.cell? ⟨w.heap.size + 1, 0, none⟩ = some (.int .i64 err) /\ w'.cell? ⟨w.heap.size + 1, 1, none⟩ = some (.int .i64 out) /\ w'.cell? ⟨w.heap.size + 1, 2, none⟩ = some (.int .i64 aux)) /\ (w'.cell? ⟨g, 0, none⟩ = some (.int .i64 t) /\ w'.cell? ⟨g, 1, none⟩ = some (.int .i64 p) /\ w'.cell? ⟨g, 2, none⟩ = some (.int .i64 s) /\ w'.cell? ⟨g, 3, none⟩ = some (.slice A L.length c)) /\ w'.cell? ⟨g, 4 + n, none⟩ = some (.int .i64 r))) (by kernel_rfl) ?_ (fun hHeld => ?_)
 ·(try dsimp only)
  first | exact ⟨HX.out.three, HY.out.three, mod_cells HG.out, (by have := mod_root HG.out h8; rwa [HR.out] at this)⟩ | exact hHeld
 refine tkz 0 ?_
 refine tkz 1 ?_
 refine tkz 2 ?_
 refine tkz 3 ?_
 refine tkz 4 ?_
 refine tkz 5 ?_
 refine tkz 6 ?_
 refine tkz 7 ?_
 refine tkz 8 ?_
 refine dnz ?_
 obtain ⟨x0, x1, x2⟩ := HX.out.three
 obtain ⟨y0, y1, y2⟩ := HY.out.three
 obtain ⟨m0, m1, m2, m3⟩ := mod_cells HG.out
 go_wp2_with fail
 refine (r26Gives_c err out aux b r _).mono ?_; rintro e w1 ⟨rfl, hb⟩; rw [HGB.out]
 clear x0 x1 x2 y0 y1 y2 m0 m1 m2 m3
 replace HX := hidp (HX.out.keep hb)
 replace HY := hidp (HY.out.keep hb)
 replace HG := hidp (HG.out.keep hb)
 replace HO := hidp (own_below HO.out hb)
 replace HM := hidp (HM.out.keep hb)
 replace HB := hidp (Bgo HB.out hb)
 clear hb
 obtain ⟨x0, x1, x2⟩ := HX.out.three
 obtain ⟨y0, y1, y2⟩ := HY.out.three
 obtain ⟨m0, m1, m2, m3⟩ := mod_cells HG.out
 go_wp2_with fail
 go_ret
 exact ⟨by first | rfl | (rw [HV.out]; rfl), HB.out⟩

set_option maxHeartbeats 3200000 in
theorem r26Root_set {w : World} {g base : Nat} {Z : Nat -> Prop} {t p s : Int} {L : List (Int × Int)} {R : Nat -> Int} (h : RMod w g base Z t p s L R) (hn : L.length <= 90000) (a b err out aux : Int) (ha : -9223372036854775808 <= a /\ a <= 9223372036854775807) (hb : -9223372036854775808 <= b /\ b <= 9223372036854775807) (n : Nat) (h8 : n < 8) (ea : a = (n : Int)) (r : Int) (hr : R n = r) (h0 : b ≠ 0) (i : Nat) (hi : mAt L b = (i : Int)) (gb : Bool) (hg : givesB err out aux b r = gb) : Calls Tryd.prog 49 #[.pointer (some ⟨g, 0, none⟩), .agg #[.int .i64 5, .int .i64 a, .int .i64 b], .agg #[.int .i64 err, .int .i64 out, .int .i64 aux]] w fun e w' => e = .returned (.bool (gb)) /\ Below w.heap.size w w' := by
 subst ea
 have t0 : decide ((n : Int) < 0) = false := decide_eq_false (by omega)
 have t1 : decide (7 < (n : Int)) = false := decide_eq_false (by omega)
 have h8i : (n : Int) < 8 := by omega
 have HR := hidp hr
 clear hr
 have HGB := hidp hg
 have HI := hidp hi
 have q0 : (b != 0) = true := by simpa using h0
 have t2 : decide ((i : Int) < 0) = false := decide_eq_false (by omega)
 clear hg h0 hi
 have HB := hidp (Bnew (Bnew (B0 w) (.cells #[.int .i64 5, .int .i64 (n : Int), .int .i64 b] 29)) (.cells #[.int .i64 err, .int .i64 out, .int .i64 aux] 32))
 have HM := hidp (h.keep HB.out)
 have HX := hidp ((Held.new w 29 #[.int .i64 5, .int .i64 (n : Int), .int .i64 b]).alloc (.cells #[.int .i64 err, .int .i64 out, .int .i64 aux] 32))
 have HY := hidp (Held.new2 w (.cells #[.int .i64 5, .int .i64 (n : Int), .int .i64 b] 29) 32 #[.int .i64 err, .int .i64 out, .int .i64 aux])
 have HN := hidp hn
 obtain ⟨A, c, hx, ho⟩ := h.ex
 have HG := hidp (hx.keep HB.out)
 have HO := hidp (own_below ho HB.out)
 have hcv := own_caps3 ho
 clear hx ho h hn
 obtain ⟨x0, x1, x2⟩ := HX.out.three
 obtain ⟨y0, y1, y2⟩ := HY.out.three
 obtain ⟨m0, m1, m2, m3⟩ := mod_cells HG.out
 go_enter Tryd.func49, Tryd.ntmps49
 go_wp2_with fail
 clear x0 x1 x2 y0 y1 y2 m0 m1 m2 m3
 replace HX := hidp (HX.out.keep (Bdrew (B0 _)))
 replace HY := hidp (HY.out.keep (Bdrew (B0 _)))
 replace HG := hidp (HG.out.keep (Bdrew (B0 _)))
 replace HO := hidp (own_below HO.out (Bdrew (B0 _)))
 replace HM := hidp (HM.out.keep (Bdrew (B0 _)))
 replace HB := hidp (Bgo HB.out (Bdrew (B0 _)))
 refine wp_region_held_drew (S := (fun w' => (w'.cell? ⟨w.heap.size, 0, none⟩ = some (.int .i64 5) /\ w'.cell? ⟨w.heap.size, 1, none⟩ = some (.int .i64 (n : Int)) /\ w'.cell? ⟨w.heap.size, 2, none⟩ = some (.int .i64 b)) /\ (w'.cell? ⟨w.heap.size + 1, 0, none⟩ = some (.int .i64 err) /\ w'.cell? ⟨w.heap.size + 1, 1, none⟩ = some (.int .i64 out) /\ w'.cell? ⟨w.heap.size + 1, 2, none⟩ = some (.int .i64 aux)) /\ (w'.cell? ⟨g, 0, none⟩ = some (.int .i64 t) /\ w'.cell? ⟨g, 1, none⟩ = some (.int .i64 p) /\ w'.cell? ⟨g, 2, none⟩ = some (.int .i64 s) /\ w'.cell? ⟨g, 3, none⟩ = some (.slice A L.length c)) /\ w'.cell? ⟨g, 4 + n, none⟩ = some (.int .i64 r))) (by kernel_rfl) ?_ (fun hHeld => ?_)
 ·(try dsimp only)
  first | exact ⟨HX.out.three, HY.out.three, mod_cells HG.out, (by have := mod_root HG.out h8; rwa [HR.out] at this)⟩ | exact hHeld
 refine tkz 0 ?_
 refine tkz 1 ?_
 refine tkz 2 ?_
 refine tkz 3 ?_
 refine tkz 4 ?_
 refine tkz 5 ?_
 refine tkz 6 ?_
 refine tkz 7 ?_
 refine tkz 8 ?_
 refine dnz ?_
 obtain ⟨x0, x1, x2⟩ := HX.out.three
 obtain ⟨y0, y1, y2⟩ := HY.out.three
 obtain ⟨m0, m1, m2, m3⟩ := mod_cells HG.out
 go_wp2_with fail
 refine (r26At_c HM.out HN.out b).mono ?_; rintro e w1 ⟨rfl, rfl⟩; rw [HI.out]
 go_wp2_with fail
 refine (r26Gives_c err out aux b r _).mono ?_; rintro e w1 ⟨rfl, hb⟩; rw [HGB.out]
 clear x0 x1 x2 y0 y1 y2 m0 m1 m2 m3
 replace HX := hidp (HX.out.keep hb)
 replace HY := hidp (HY.out.keep hb)
 replace HG := hidp (HG.out.keep hb)
 replace HO := hidp (own_below HO.out hb)
 replace HM := hidp (HM.out.keep hb)
 replace HB := hidp (Bgo HB.out hb)
 clear hb
 obtain ⟨x0, x1, x2⟩ := HX.out.three
 obtain ⟨y0, y1, y2⟩ := HY.out.three
 obtain ⟨m0, m1, m2, m3⟩ := mod_cells HG.out
 go_wp2_with fail
 go_ret
 exact ⟨by first | rfl | (rw [HV.out]; rfl), HB.out⟩

set_option maxHeartbeats 3200000 in
theorem r26Root_noset {w : World} {g base : Nat} {Z : Nat -> Prop} {t p s : Int} {L : List (Int × Int)} {R : Nat -> Int} (h : RMod w g base Z t p s L R) (hn : L.length <= 90000) (a b err out aux : Int) (ha : -9223372036854775808 <= a /\ a <= 9223372036854775807) (hb : -9223372036854775808 <= b /\ b <= 9223372036854775807) (n : Nat) (h8 : n < 8) (ea : a = (n : Int)) (r : Int) (hr : R n = r) (h0 : b ≠ 0) (hi : mAt L b = -1) (jb : Bool) (hj : justB 4 err out aux = jb) : Calls Tryd.prog 49 #[.pointer (some ⟨g, 0, none⟩), .agg #[.int .i64 5, .int .i64 a, .int .i64 b], .agg #[.int .i64 err, .int .i64 out, .int .i64 aux]] w fun e w' => e = .returned (.bool (jb)) /\ Below w.heap.size w w' := by
 subst ea
 have t0 : decide ((n : Int) < 0) = false := decide_eq_false (by omega)
 have t1 : decide (7 < (n : Int)) = false := decide_eq_false (by omega)
 have h8i : (n : Int) < 8 := by omega
 have HR := hidp hr
 clear hr
 have HI := hidp hi
 have HJ := hidp hj
 have q0 : (b != 0) = true := by simpa using h0
 clear hj h0 hi
 have HB := hidp (Bnew (Bnew (B0 w) (.cells #[.int .i64 5, .int .i64 (n : Int), .int .i64 b] 29)) (.cells #[.int .i64 err, .int .i64 out, .int .i64 aux] 32))
 have HM := hidp (h.keep HB.out)
 have HX := hidp ((Held.new w 29 #[.int .i64 5, .int .i64 (n : Int), .int .i64 b]).alloc (.cells #[.int .i64 err, .int .i64 out, .int .i64 aux] 32))
 have HY := hidp (Held.new2 w (.cells #[.int .i64 5, .int .i64 (n : Int), .int .i64 b] 29) 32 #[.int .i64 err, .int .i64 out, .int .i64 aux])
 have HN := hidp hn
 obtain ⟨A, c, hx, ho⟩ := h.ex
 have HG := hidp (hx.keep HB.out)
 have HO := hidp (own_below ho HB.out)
 have hcv := own_caps3 ho
 clear hx ho h hn
 obtain ⟨x0, x1, x2⟩ := HX.out.three
 obtain ⟨y0, y1, y2⟩ := HY.out.three
 obtain ⟨m0, m1, m2, m3⟩ := mod_cells HG.out
 go_enter Tryd.func49, Tryd.ntmps49
 go_wp2_with fail
 clear x0 x1 x2 y0 y1 y2 m0 m1 m2 m3
 replace HX := hidp (HX.out.keep (Bdrew (B0 _)))
 replace HY := hidp (HY.out.keep (Bdrew (B0 _)))
 replace HG := hidp (HG.out.keep (Bdrew (B0 _)))
 replace HO := hidp (own_below HO.out (Bdrew (B0 _)))
 replace HM := hidp (HM.out.keep (Bdrew (B0 _)))
 replace HB := hidp (Bgo HB.out (Bdrew (B0 _)))
 refine wp_region_held_drew (S := (fun w' => (w'.cell? ⟨w.heap.size, 0, none⟩ = some (.int .i64 5) /\ w'.cell? ⟨w.heap.size, 1, none⟩ = some (.int .i64 (n : Int)) /\ w'.cell? ⟨w.heap.size, 2, none⟩ = some (.int .i64 b)) /\ (w'.cell? ⟨w.heap.size + 1, 0, none⟩ = some (.int .i64 err) /\ w'.cell? ⟨w.heap.size + 1, 1, none⟩ = some (.int .i64 out) /\ w'.cell? ⟨w.heap.size + 1, 2, none⟩ = some (.int .i64 aux)) /\ (w'.cell? ⟨g, 0, none⟩ = some (.int .i64 t) /\ w'.cell? ⟨g, 1, none⟩ = some (.int .i64 p) /\ w'.cell? ⟨g, 2, none⟩ = some (.int .i64 s) /\ w'.cell? ⟨g, 3, none⟩ = some (.slice A L.length c)) /\ w'.cell? ⟨g, 4 + n, none⟩ = some (.int .i64 r))) (by kernel_rfl) ?_ (fun hHeld => ?_)
 ·(try dsimp only)
  first | exact ⟨HX.out.three, HY.out.three, mod_cells HG.out, (by have := mod_root HG.out h8; rwa [HR.out] at this)⟩ | exact hHeld
 refine tkz 0 ?_
 refine tkz 1 ?_
 refine tkz 2 ?_
 refine tkz 3 ?_
 refine tkz 4 ?_
 refine tkz 5 ?_
 refine tkz 6 ?_
 refine tkz 7 ?_
 refine tkz 8 ?_
 refine dnz ?_
 obtain ⟨x0, x1, x2⟩ := HX.out.three
 obtain ⟨y0, y1, y2⟩ := HY.out.three
 obtain ⟨m0, m1, m2, m3⟩ := mod_cells HG.out
 go_wp2_with fail
 refine (r26At_c HM.out HN.out b).mono ?_; rintro e w1 ⟨rfl, rfl⟩; rw [HI.out]
 go_wp2_with fail
 refine (r26Just_c 4 err out aux _).mono ?_; rintro e w1 ⟨rfl, hb⟩; rw [HJ.out]
 clear x0 x1 x2 y0 y1 y2 m0 m1 m2 m3
 replace HX := hidp (HX.out.keep hb)
 replace HY := hidp (HY.out.keep hb)
 replace HG := hidp (HG.out.keep hb)
 replace HO := hidp (own_below HO.out hb)
 replace HM := hidp (HM.out.keep hb)
 replace HB := hidp (Bgo HB.out hb)
 clear hb
 obtain ⟨x0, x1, x2⟩ := HX.out.three
 obtain ⟨y0, y1, y2⟩ := HY.out.three
 obtain ⟨m0, m1, m2, m3⟩ := mod_cells HG.out
 go_wp2_with fail
 go_ret
 exact ⟨by first | rfl | (rw [HV.out]; rfl), HB.out⟩

set_option maxHeartbeats 3200000 in
theorem r26Root_get {w : World} {g base : Nat} {Z : Nat -> Prop} {t p s : Int} {L : List (Int × Int)} {R : Nat -> Int} (h : RMod w g base Z t p s L R) (hn : L.length <= 90000) (a b err out aux : Int) (ha : -9223372036854775808 <= a /\ a <= 9223372036854775807) (hb : -9223372036854775808 <= b /\ b <= 9223372036854775807) (n : Nat) (h8 : n < 8) (ea : a = (n : Int)) (r : Int) (hr : R n = r) (gb : Bool) (hg : givesB err out aux r 0 = gb) : Calls Tryd.prog 49 #[.pointer (some ⟨g, 0, none⟩), .agg #[.int .i64 6, .int .i64 a, .int .i64 b], .agg #[.int .i64 err, .int .i64 out, .int .i64 aux]] w fun e w' => e = .returned (.bool (gb)) /\ Below w.heap.size w w' := by
 subst ea
 have t0 : decide ((n : Int) < 0) = false := decide_eq_false (by omega)
 have t1 : decide (7 < (n : Int)) = false := decide_eq_false (by omega)
 have h8i : (n : Int) < 8 := by omega
 have HR := hidp hr
 clear hr
 have HGB := hidp hg
 clear hg
 have HB := hidp (Bnew (Bnew (B0 w) (.cells #[.int .i64 6, .int .i64 (n : Int), .int .i64 b] 29)) (.cells #[.int .i64 err, .int .i64 out, .int .i64 aux] 32))
 have HM := hidp (h.keep HB.out)
 have HX := hidp ((Held.new w 29 #[.int .i64 6, .int .i64 (n : Int), .int .i64 b]).alloc (.cells #[.int .i64 err, .int .i64 out, .int .i64 aux] 32))
 have HY := hidp (Held.new2 w (.cells #[.int .i64 6, .int .i64 (n : Int), .int .i64 b] 29) 32 #[.int .i64 err, .int .i64 out, .int .i64 aux])
 have HN := hidp hn
 obtain ⟨A, c, hx, ho⟩ := h.ex
 have HG := hidp (hx.keep HB.out)
 have HO := hidp (own_below ho HB.out)
 have hcv := own_caps3 ho
 clear hx ho h hn
 obtain ⟨x0, x1, x2⟩ := HX.out.three
 obtain ⟨y0, y1, y2⟩ := HY.out.three
 obtain ⟨m0, m1, m2, m3⟩ := mod_cells HG.out
 go_enter Tryd.func49, Tryd.ntmps49
 go_wp2_with fail
 clear x0 x1 x2 y0 y1 y2 m0 m1 m2 m3
 replace HX := hidp (HX.out.keep (Bdrew (B0 _)))
 replace HY := hidp (HY.out.keep (Bdrew (B0 _)))
 replace HG := hidp (HG.out.keep (Bdrew (B0 _)))
 replace HO := hidp (own_below HO.out (Bdrew (B0 _)))
 replace HM := hidp (HM.out.keep (Bdrew (B0 _)))
 replace HB := hidp (Bgo HB.out (Bdrew (B0 _)))
 refine wp_region_held_drew (S := (fun w' => (w'.cell? ⟨w.heap.size, 0, none⟩ = some (.int .i64 6) /\ w'.cell? ⟨w.heap.size, 1, none⟩ = some (.int .i64 (n : Int)) /\ w'.cell? ⟨w.heap.size, 2, none⟩ = some (.int .i64 b)) /\ (w'.cell? ⟨w.heap.size + 1, 0, none⟩ = some (.int .i64 err) /\ w'.cell? ⟨w.heap.size + 1, 1, none⟩ = some (.int .i64 out) /\ w'.cell? ⟨w.heap.size + 1, 2, none⟩ = some (.int .i64 aux)) /\ (w'.cell? ⟨g, 0, none⟩ = some (.int .i64 t) /\ w'.cell? ⟨g, 1, none⟩ = some (.int .i64 p) /\ w'.cell? ⟨g, 2, none⟩ = some (.int .i64 s) /\ w'.cell? ⟨g, 3, none⟩ = some (.slice A L.length c)) /\ w'.cell? ⟨g, 4 + n, none⟩ = some (.int .i64 r))) (by kernel_rfl) ?_ (fun hHeld => ?_)
 ·(try dsimp only)
  first | exact ⟨HX.out.three, HY.out.three, mod_cells HG.out, (by have := mod_root HG.out h8; rwa [HR.out] at this)⟩ | exact hHeld
 refine tkz 0 ?_
 refine tkz 1 ?_
 refine tkz 2 ?_
 refine tkz 3 ?_
 refine tkz 4 ?_
 refine tkz 5 ?_
 refine tkz 6 ?_
 refine tkz 7 ?_
 refine tkz 8 ?_
 refine dnz ?_
 obtain ⟨x0, x1, x2⟩ := HX.out.three
 obtain ⟨y0, y1, y2⟩ := HY.out.three
 obtain ⟨m0, m1, m2, m3⟩ := mod_cells HG.out
 go_wp2_with fail
 refine (r26Gives_c err out aux r 0 _).mono ?_; rintro e w1 ⟨rfl, hb⟩; rw [HGB.out]
 clear x0 x1 x2 y0 y1 y2 m0 m1 m2 m3
 replace HX := hidp (HX.out.keep hb)
 replace HY := hidp (HY.out.keep hb)
 replace HG := hidp (HG.out.keep hb)
 replace HO := hidp (own_below HO.out hb)
 replace HM := hidp (HM.out.keep hb)
 replace HB := hidp (Bgo HB.out hb)
 clear hb
 obtain ⟨x0, x1, x2⟩ := HX.out.three
 obtain ⟨y0, y1, y2⟩ := HY.out.three
 obtain ⟨m0, m1, m2, m3⟩ := mod_cells HG.out
 go_wp2_with fail
 go_ret
 exact ⟨by first | rfl | (rw [HV.out]; rfl), HB.out⟩

theorem r26Root_c {w : World} {g base : Nat} {Z : Nat -> Prop} {t p s : Int} {L : List (Int × Int)} {R : Nat -> Int} (h : RMod w g base Z t p s L R) (hn : L.length <= 90000) (k a b err out aux : Int) (ha : -9223372036854775808 <= a /\ a <= 9223372036854775807) (hb : -9223372036854775808 <= b /\ b <= 9223372036854775807) (hk : k = 4 \/ k = 5 \/ k = 6) : Calls Tryd.prog 49 #[.pointer (some ⟨g, 0, none⟩), .agg #[.int .i64 k, .int .i64 a, .int .i64 b], .agg #[.int .i64 err, .int .i64 out, .int .i64 aux]] w fun e w' => e = .returned (.bool (rootM t p s L R k a b err out aux)) /\ Below w.heap.size w w' := by
 unfold rootM
 by_cases c0 : a < 0
 ·rw [if_pos (.inl c0)]
  exact r26Root_lo h hn k a b err out aux ha hb c0 _ rfl
 by_cases c1 : 7 < a
 ·rw [if_pos (.inr c1)]
  exact r26Root_hi h hn k a b err out aux ha hb c1 _ rfl
 rw [if_neg (by omega)]
 obtain ⟨n, rfl⟩ := Int.eq_ofNat_of_zero_le (show 0 <= a by omega)
 rw [Int.toNat_natCast]
 rcases hk with rfl | rfl | rfl
 ·rw [if_pos rfl]
  cases hm : madeM t p s L b err out aux (-1) with
  | true =>
   rw [Bool.true_and]
   exact r26Root_made h hn _ b err out aux ha hb n (by omega) rfl _ rfl _ _ hm rfl rfl
  | false =>
   rw [Bool.false_and]
   exact r26Root_nomade h hn _ b err out aux ha hb n (by omega) rfl _ rfl hm
 ·rw [if_neg (by omega), if_pos rfl]
  by_cases h0 : b = 0
  ·rw [if_neg (by omega)]
   exact r26Root_set0 h hn _ b err out aux ha hb n (by omega) rfl _ rfl h0 _ rfl
  ·rcases mAt_cases L b with ⟨hi, _⟩ | ⟨i, z, hi, _, _⟩
   ·rw [if_pos ⟨h0, by omega⟩]
    exact r26Root_noset h hn _ b err out aux ha hb n (by omega) rfl _ rfl h0 hi _ rfl
   ·rw [if_neg (by omega)]
    exact r26Root_set h hn _ b err out aux ha hb n (by omega) rfl _ rfl h0 i hi _ rfl
 ·rw [if_neg (by omega), if_neg (by omega)]
  exact r26Root_get h hn _ b err out aux ha hb n (by omega) rfl _ rfl _ rfl
end
end Go.Proofs.YtedakmhffjhfnaaDoor
