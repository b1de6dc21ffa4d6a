/-
  The parts of a heap stand one behind the other.
-/
import Derived.Test.YtnamlhkccgnbfaaGreatH14
import Derived.Test.YtnamlhkccgnbfaaGreatH08
import Derived.Test.YtnamlhkccgnbfaaGreatH19
import Derived.Test.YtnamlhkccgnbfaaGreatH17
import Derived.Test.YtnamlhkccgnbfaaGreatKit
import Derived.Lib.SmallJoins
import Derived.OpenShut
namespace Go.Proofs.YtnamlhkccgnbfaaGreat
open Go.ChangeShapes Go.WideShapes Go.ChangeAt Go.RowKit
set_option linter.unusedVariables false

def Contig : Int → List (Int × Int × Int) → Int → Prop
  | a, [], b => a = b
  | a, x :: l, b => (x.2.1 = a ∧ 1 ≤ x.2.2 ∧ 1 ≤ x.1 ∧ x.1 ≤ 5) ∧ Contig (a + x.2.2) l b
theorem Contig.one {k a z : Int} (hk : 1 ≤ k ∧ k ≤ 5) (hz : 1 ≤ z) : Contig a [(k, a, z)] (a + z) := ⟨⟨rfl, hz, hk.1, hk.2⟩, rfl⟩
theorem Contig.le : ∀ {l : List (Int × Int × Int)} {a b : Int}, Contig a l b → a ≤ b
  | [], a, b, h => by have : a = b := h; omega
  | x :: l, a, b, h => by have := Contig.le h.2; have := h.1.2.1; omega
theorem Contig.at_ : ∀ {l : List (Int × Int × Int)} {a b : Int} {i : Nat} {x : Int × Int × Int}, Contig a (l.drop i) b → l[i]? = some x → (x.2.1 = a ∧ 1 ≤ x.2.2 ∧ 1 ≤ x.1 ∧ x.1 ≤ 5) ∧ Contig (a + x.2.2) (l.drop (i + 1)) b := by
  intro l a b i x h hx
  have hi : i < l.length := by
    rcases Nat.lt_or_ge i l.length with h1 | h1
    · exact h1
    · rw [List.getElem?_eq_none h1] at hx; cases hx
  rw [List.drop_eq_getElem_cons hi] at h
  have e : l[i] = x := by rw [List.getElem?_eq_getElem hi] at hx; injection hx
  rw [e] at h
  exact h
namespace AuH
variable {H : AuH}
end AuH
end Go.Proofs.YtnamlhkccgnbfaaGreat

namespace Go.Proofs.YtnamlhkccgnbfaaGreat
open Go.ChangeShapes Go.WideShapes Go.ChangeAt Go.RowKit Go.Maps
set_option linter.unusedVariables false
set_option linter.unusedSimpArgs false
set_option maxRecDepth 100000

theorem told_room {H : AuH} {m : Nat} (h : H.Told m true) {p : Nat} (hp : p < H.p) (hk : H.K p ≠ 0) : p + H.ln p ≤ H.p := by
  rcases h with ⟨_, _, h⟩ | ⟨h, _⟩
  · have ht : H.Tiled := h 1 (by omega)
    exact ((H.can_iff p).1 (ht.start hp hk).2).2.2
  · cases h
theorem used15_no (t q s p : Int) (A : Option Addr) (n c : Nat) (h : p < 0 ∨ q ≤ p) (w : World) :
    Calls Tryz.prog 18 #[.agg #[.int .i64 t, .int .i64 q, .int .i64 s], .slice A n c, .int .i64 p] w fun e w' => e = .returned (.tuple #[.int .i64 0, .bool false]) ∧ Below w.heap.size w w' := by
  have HB := hidp (Bnew (B0 w) (.cells #[.int .i64 t, .int .i64 q, .int .i64 s] 23))
  obtain ⟨x0, x1, x2⟩ := (Held.new w 23 #[.int .i64 t, .int .i64 q, .int .i64 s]).three
  by_cases h0 : p < 0
  · have t0 : decide (p < (0 : Int)) = true := decide_eq_true h0
    go_enter Tryz.func18, Tryz.ntmps18
    go_wp2
    go_ret2
    exact ⟨rfl, HB.out⟩
  · have t0 : decide (p < (0 : Int)) = false := decide_eq_false h0
    have t1 : decide (q ≤ p) = true := decide_eq_true (by omega)
    go_enter Tryz.func18, Tryz.ntmps18
    go_wp2
    go_ret2
    exact ⟨rfl, HB.out⟩
set_option maxHeartbeats 3200000 in
theorem used15_c {H : AuH} {n c : Nat} (HV : HeapV H n c) (ad : Addr) {p : Nat} (hp : p < H.p) (b : Bool) (hb : b = true ↔ H.K p = 2) (w : World) (hv : IsVals w ad n H.V) :
    Calls Tryz.prog 18 #[.agg #[.int .i64 (H.t : Int), .int .i64 (H.p : Int), .int .i64 (H.s : Int)], .slice (some ad) n c, .int .i64 (p : Int)] w fun e w' => e = .returned (.tuple #[.int .i64 (H.ln p : Int), .bool b]) ∧ Below w.heap.size w w' := by
  have t0 : decide ((p : Int) < 0) = false := decide_eq_false (by omega)
  have t1 : decide ((H.p : Int) ≤ (p : Int)) = false := decide_eq_false (by omega)
  have HVL := hidp hv
  have HC := hidp ((Held.new w 23 #[.int .i64 (H.t : Int), .int .i64 (H.p : Int), .int .i64 (H.s : Int)]).alloc (.cells #[.int .i64 (H.t : Int), .int .i64 (H.p : Int), .int .i64 (H.s : Int), .slice (some ad) n c] 101))
  have HX := hidp (Held.new2 w (.cells #[.int .i64 (H.t : Int), .int .i64 (H.p : Int), .int .i64 (H.s : Int)] 23) 101 #[.int .i64 (H.t : Int), .int .i64 (H.p : Int), .int .i64 (H.s : Int), .slice (some ad) n c])
  have HB := hidp (Bnew (Bnew (B0 w) (.cells #[.int .i64 (H.t : Int), .int .i64 (H.p : Int), .int .i64 (H.s : Int)] 23)) (.cells #[.int .i64 (H.t : Int), .int .i64 (H.p : Int), .int .i64 (H.s : Int), .slice (some ad) n c] 101))
  obtain ⟨x0, x1, x2⟩ := HC.out.three
  obtain ⟨v0, v1, v2⟩ := (Held.new w 23 #[.int .i64 (H.t : Int), .int .i64 (H.p : Int), .int .i64 (H.s : Int)]).three
  obtain ⟨y0, y1, y2, y3⟩ := HX.out.four
  obtain ⟨kk, hkk⟩ : ∃ kk, H.K p = kk := ⟨_, rfl⟩
  obtain ⟨ll, hll⟩ : ∃ ll, H.ln p = ll := ⟨_, rfl⟩
  obtain ⟨cc, hcc⟩ : ∃ cc, H.Cl p = cc := ⟨_, rfl⟩
  have HK := hidp hkk
  have HL := hidp hll
  have HCC := hidp hcc
  rw [hkk] at hb
  rw [hll]
  have t2 : (kk == 2) = b := by
    cases b with
    | true => simpa using hb
    | false => simpa using hb
  clear hkk hll hcc hv hb
  go_enter Tryz.func18, Tryz.ntmps18
  go_wp2_with fail
  refine (xInfo_c HV ad hp _ (HVL.out.below HB.out)).mono ?_
  rintro e w4 ⟨rfl, hb⟩
  rw [HK.out, HL.out, HCC.out]
  have HI := hidp (Held.new w4 103 #[.int .i64 kk, .int .i64 (ll : Int), .int .i64 cc])
  replace HB := hidp (Bnew (Bgo HB.out hb) (.cells #[.int .i64 kk, .int .i64 (ll : Int), .int .i64 cc] 103))
  clear hb HC HX x0 x1 x2 y0 y1 y2 y3 v0 v1 v2
  obtain ⟨y0, y1, y2⟩ := HI.out.three
  go_wp2_with fail
  refine wp_region_held_drew (S := (fun w' => w'.cell? ⟨w4.heap.size, 0, none⟩ = some (.int .i64 kk) ∧ w'.cell? ⟨w4.heap.size, 1, none⟩ = some (.int .i64 (ll : Int)))) (by kernel_rfl) ?_ (fun hHeld => ?_)
  · (try dsimp only)
    first | exact ⟨HI.out.drw.three.1, HI.out.drw.three.2.1⟩ | exact hHeld
  refine tkz 0 ?_
  refine tkz 1 ?_
  refine tkz 2 ?_
  refine tkz 3 ?_
  refine tkz 4 ?_
  refine tkz 5 ?_
  refine tkz 6 ?_
  refine wpAnyH_done (by kernel_rfl) ?_ _
  go_wp2
  go_ret2
  exact ⟨rfl, Bdrew HB.out⟩
end Go.Proofs.YtnamlhkccgnbfaaGreat

namespace Go.Proofs.YtnamlhkccgnbfaaGreat
open Go.ChangeShapes Go.WideShapes Go.ChangeAt Go.RowKit Go.Maps
set_option linter.unusedVariables false
set_option linter.unusedSimpArgs false
set_option maxRecDepth 100000

theorem SpanTurns_few (t q s x0 x1 : Int) (A : Option Addr) (n c m : Nat) (hq : 64 < q) (W : World)  : Calls Tryz.prog 4 #[.agg #[.int .i64 t, .int .i64 q, .int .i64 s], .slice A n c, .agg #[.int .i64 x0, .int .i64 x1]] W (Keeps W) := by
  have t2 : decide (q ≤ (64 : Int)) = false := decide_eq_false (by omega)
  have HC := hidp ((Held.new W 23 #[.int .i64 t, .int .i64 q, .int .i64 s]).alloc (.cells #[.int .i64 x0, .int .i64 x1] 42))
  have HX := hidp (Held.new2 W (.cells #[.int .i64 t, .int .i64 q, .int .i64 s] 23) 42 #[.int .i64 x0, .int .i64 x1])
  have HB := hidp (Bnew (Bnew (B0 W) (.cells #[.int .i64 t, .int .i64 q, .int .i64 s] 23)) (.cells #[.int .i64 x0, .int .i64 x1] 42))
  obtain ⟨x0', x1', x2'⟩ := HC.out.three
  obtain ⟨y0', y1'⟩ := HX.out.two
  go_enter Tryz.func4, Tryz.ntmps4
  go_wp2_with fail
  refine (few14_c t q s _).mono ?_
  rintro e w1 ⟨rfl, hb⟩
  rw [t2]
  replace HC := hidp (HC.out.keep hb)
  replace HX := hidp (HX.out.keep hb)
  replace HB := hidp (Bgo HB.out hb)
  clear hb
  clear x0' x1' x2' y0' y1'
  obtain ⟨x0', x1', x2'⟩ := HC.out.three
  obtain ⟨y0', y1'⟩ := HX.out.two

  
  go_wp2_with fail
  refine (live15_c _).mono ?_
  rintro e w19 ⟨rfl, hb⟩
  have HBL := hidp (Bgo HB.out hb)
  clear hb
  go_wp2
  go_ret
  exact ⟨rfl, HBL.out⟩

theorem SpanTurns_no (t q s x0 x1 : Int) (A : Option Addr) (n c m : Nat) (hq : q ≤ 64) (W : World) (hX : Hid (XCheckIs W t q s A n c m false)) : Calls Tryz.prog 4 #[.agg #[.int .i64 t, .int .i64 q, .int .i64 s], .slice A n c, .agg #[.int .i64 x0, .int .i64 x1]] W (Keeps W) := by
  have t2 : decide (q ≤ (64 : Int)) = true := decide_eq_true (by omega)
  have HC := hidp ((Held.new W 23 #[.int .i64 t, .int .i64 q, .int .i64 s]).alloc (.cells #[.int .i64 x0, .int .i64 x1] 42))
  have HX := hidp (Held.new2 W (.cells #[.int .i64 t, .int .i64 q, .int .i64 s] 23) 42 #[.int .i64 x0, .int .i64 x1])
  have HB := hidp (Bnew (Bnew (B0 W) (.cells #[.int .i64 t, .int .i64 q, .int .i64 s] 23)) (.cells #[.int .i64 x0, .int .i64 x1] 42))
  obtain ⟨x0', x1', x2'⟩ := HC.out.three
  obtain ⟨y0', y1'⟩ := HX.out.two
  go_enter Tryz.func4, Tryz.ntmps4
  go_wp2_with fail
  refine (few14_c t q s _).mono ?_
  rintro e w1 ⟨rfl, hb⟩
  rw [t2]
  replace HC := hidp (HC.out.keep hb)
  replace HX := hidp (HX.out.keep hb)
  replace HB := hidp (Bgo HB.out hb)
  clear hb
  clear x0' x1' x2' y0' y1'
  obtain ⟨x0', x1', x2'⟩ := HC.out.three
  obtain ⟨y0', y1'⟩ := HX.out.two
  go_wp2_with fail
  refine (xSound_c t q s A n c m false _ (hX.out.grown HB.out)).mono ?_
  rintro e w2 ⟨rfl, hb⟩
  replace HC := hidp (HC.out.keep hb)
  replace HX := hidp (HX.out.keep hb)
  replace HB := hidp (Bgo HB.out hb)
  clear hb
  clear x0' x1' x2' y0' y1'
  obtain ⟨x0', x1', x2'⟩ := HC.out.three
  obtain ⟨y0', y1'⟩ := HX.out.two
  
  go_wp2_with fail
  refine (live15_c _).mono ?_
  rintro e w19 ⟨rfl, hb⟩
  have HBL := hidp (Bgo HB.out hb)
  clear hb
  go_wp2
  go_ret
  exact ⟨rfl, HBL.out⟩

theorem SpanTurns_off (t q s x0 x1 : Int) (A : Option Addr) (n c m : Nat) (hq : q ≤ 64) (hx0 : x0 < 0 ∨ q ≤ x0) (W : World) (hX : Hid (XCheckIs W t q s A n c m true)) : Calls Tryz.prog 4 #[.agg #[.int .i64 t, .int .i64 q, .int .i64 s], .slice A n c, .agg #[.int .i64 x0, .int .i64 x1]] W (Keeps W) := by
  have t2 : decide (q ≤ (64 : Int)) = true := decide_eq_true (by omega)
  have HC := hidp ((Held.new W 23 #[.int .i64 t, .int .i64 q, .int .i64 s]).alloc (.cells #[.int .i64 x0, .int .i64 x1] 42))
  have HX := hidp (Held.new2 W (.cells #[.int .i64 t, .int .i64 q, .int .i64 s] 23) 42 #[.int .i64 x0, .int .i64 x1])
  have HB := hidp (Bnew (Bnew (B0 W) (.cells #[.int .i64 t, .int .i64 q, .int .i64 s] 23)) (.cells #[.int .i64 x0, .int .i64 x1] 42))
  obtain ⟨x0', x1', x2'⟩ := HC.out.three
  obtain ⟨y0', y1'⟩ := HX.out.two
  go_enter Tryz.func4, Tryz.ntmps4
  go_wp2_with fail
  refine (few14_c t q s _).mono ?_
  rintro e w1 ⟨rfl, hb⟩
  rw [t2]
  replace HC := hidp (HC.out.keep hb)
  replace HX := hidp (HX.out.keep hb)
  replace HB := hidp (Bgo HB.out hb)
  clear hb
  clear x0' x1' x2' y0' y1'
  obtain ⟨x0', x1', x2'⟩ := HC.out.three
  obtain ⟨y0', y1'⟩ := HX.out.two
  go_wp2_with fail
  refine (xSound_c t q s A n c m true _ (hX.out.grown HB.out)).mono ?_
  rintro e w2 ⟨rfl, hb⟩
  replace HC := hidp (HC.out.keep hb)
  replace HX := hidp (HX.out.keep hb)
  replace HB := hidp (Bgo HB.out hb)
  clear hb
  clear x0' x1' x2' y0' y1'
  obtain ⟨x0', x1', x2'⟩ := HC.out.three
  obtain ⟨y0', y1'⟩ := HX.out.two
  go_wp2_with fail
  refine (used15_no t q s x0 A n c hx0 _).mono ?_
  rintro e w3 ⟨rfl, hb⟩
  replace HB := hidp (Bgo HB.out hb)
  clear hb
  go_wp2_with fail
  refine (live15_c _).mono ?_
  rintro e w19 ⟨rfl, hb⟩
  have HBL := hidp (Bgo HB.out hb)
  clear hb
  go_wp2
  go_ret
  exact ⟨rfl, HBL.out⟩

theorem SpanTurns_kind {H : AuH} (ad : Addr) (n c m p : Nat) (x1 : Int) (HV : HeapV H n c) (hq : H.p ≤ 64) (hp : p < H.p) (hk : H.K p ≠ 2) (W : World) (hv : Hid (IsVals W ad n H.V)) (hX : Hid (XCheckIs W H.t H.p H.s (some ad) n c m true)) :
    Calls Tryz.prog 4 #[.agg #[.int .i64 (H.t : Int), .int .i64 (H.p : Int), .int .i64 (H.s : Int)], .slice (some ad) n c, .agg #[.int .i64 (p : Int), .int .i64 x1]] W (Keeps W) := by
  have t2 : decide ((H.p : Int) ≤ (64 : Int)) = true := decide_eq_true (by omega)
  have HC := hidp ((Held.new W 23 #[.int .i64 (H.t : Int), .int .i64 (H.p : Int), .int .i64 (H.s : Int)]).alloc (.cells #[.int .i64 (p : Int), .int .i64 x1] 42))
  have HX := hidp (Held.new2 W (.cells #[.int .i64 (H.t : Int), .int .i64 (H.p : Int), .int .i64 (H.s : Int)] 23) 42 #[.int .i64 (p : Int), .int .i64 x1])
  have HB := hidp (Bnew (Bnew (B0 W) (.cells #[.int .i64 (H.t : Int), .int .i64 (H.p : Int), .int .i64 (H.s : Int)] 23)) (.cells #[.int .i64 (p : Int), .int .i64 x1] 42))
  obtain ⟨x0', x1', x2'⟩ := HC.out.three
  obtain ⟨y0', y1'⟩ := HX.out.two
  go_enter Tryz.func4, Tryz.ntmps4
  go_wp2_with fail
  refine (few14_c H.t H.p H.s _).mono ?_
  rintro e w1 ⟨rfl, hb⟩
  rw [t2]
  replace HC := hidp (HC.out.keep hb)
  replace HX := hidp (HX.out.keep hb)
  replace HB := hidp (Bgo HB.out hb)
  clear hb
  clear x0' x1' x2' y0' y1'
  obtain ⟨x0', x1', x2'⟩ := HC.out.three
  obtain ⟨y0', y1'⟩ := HX.out.two
  go_wp2_with fail
  refine (xSound_c H.t H.p H.s (some ad) n c m true _ (hX.out.grown HB.out)).mono ?_
  rintro e w2 ⟨rfl, hb⟩
  replace HC := hidp (HC.out.keep hb)
  replace HX := hidp (HX.out.keep hb)
  replace HB := hidp (Bgo HB.out hb)
  clear hb
  clear x0' x1' x2' y0' y1'
  obtain ⟨x0', x1', x2'⟩ := HC.out.three
  obtain ⟨y0', y1'⟩ := HX.out.two
  go_wp2_with fail
  refine (used15_c HV ad hp false (by simpa using hk) _ (hv.out.below HB.out)).mono ?_
  rintro e w3 ⟨rfl, hb⟩
  replace HB := hidp (Bgo HB.out hb)
  clear hb
  go_wp2_with fail
  refine (live15_c _).mono ?_
  rintro e w19 ⟨rfl, hb⟩
  have HBL := hidp (Bgo HB.out hb)
  clear hb
  go_wp2
  go_ret
  exact ⟨rfl, HBL.out⟩

set_option maxHeartbeats 12800000 in
theorem SpanTurns_main {H : AuH} (ad : Addr) (n c m p : Nat) (x1 : Int) (hx1m : x1 ≤ 9223372036854775807) (HV : HeapV H n c) (hp : p < H.p) (hk : H.K p = 2) (hpl : p + H.ln p ≤ H.p) (vals : List Nat) (HNN : Hid (vals.length = n)) (H32 : Hid (∀ x ∈ vals, x < 2 ^ 32)) (hq : H.p ≤ 64) (hnc : n ≤ c)
    (W : World) (HR : Hid (Reads W W.heap.size 1 (some ad) n (valVs vals))) (hv : Hid (IsVals W ad n H.V)) (hX : Hid (XCheckIs W H.t H.p H.s (some ad) n c m true)) :
    Calls Tryz.prog 4 #[.agg #[.int .i64 (H.t : Int), .int .i64 (H.p : Int), .int .i64 (H.s : Int)], .slice (some ad) n c, .agg #[.int .i64 (p : Int), .int .i64 x1]] W (Keeps W) := by
  have t2 : decide ((H.p : Int) ≤ (64 : Int)) = true := decide_eq_true (by omega)
  have hn : n ≤ 6238 := by have := HV.nums; omega
  have hcm : c ≤ maxLen := HV.max
  have hcm2 : c ≤ 9223372036854775807 := hcm
  have hn40 : n < 2 ^ 40 := by omega
  have hq10 : (H.p : Int) ≤ 1024 := by omega
  obtain ⟨ll, hll⟩ : ∃ ll, H.ln p = ll := ⟨_, rfl⟩
  rw [hll] at hpl
  have HLL := hidp hll
  clear hll
  have hpl2 : p + ll ≤ 1024 := by omega
  have hpl3 : (p : Int) + (ll : Int) ≤ (H.p : Int) := by omega
  have HC := hidp ((Held.new W 23 #[.int .i64 (H.t : Int), .int .i64 (H.p : Int), .int .i64 (H.s : Int)]).alloc (.cells #[.int .i64 (p : Int), .int .i64 x1] 42))
  have HX := hidp (Held.new2 W (.cells #[.int .i64 (H.t : Int), .int .i64 (H.p : Int), .int .i64 (H.s : Int)] 23) 42 #[.int .i64 (p : Int), .int .i64 x1])
  have HB := hidp (Bnew (Bnew (B0 W) (.cells #[.int .i64 (H.t : Int), .int .i64 (H.p : Int), .int .i64 (H.s : Int)] 23)) (.cells #[.int .i64 (p : Int), .int .i64 x1] 42))
  obtain ⟨x0', x1', x2'⟩ := HC.out.three
  obtain ⟨y0', y1'⟩ := HX.out.two
  go_enter Tryz.func4, Tryz.ntmps4
  go_wp2_with fail
  refine (few14_c H.t H.p H.s _).mono ?_
  rintro e w1 ⟨rfl, hb⟩
  rw [t2]
  replace HC := hidp (HC.out.keep hb)
  replace HX := hidp (HX.out.keep hb)
  replace HB := hidp (Bgo HB.out hb)
  clear hb
  clear x0' x1' x2' y0' y1'
  obtain ⟨x0', x1', x2'⟩ := HC.out.three
  obtain ⟨y0', y1'⟩ := HX.out.two
  go_wp2_with fail
  refine (xSound_c H.t H.p H.s (some ad) n c m true _ (hX.out.grown HB.out)).mono ?_
  rintro e w2 ⟨rfl, hb⟩
  replace HC := hidp (HC.out.keep hb)
  replace HX := hidp (HX.out.keep hb)
  replace HB := hidp (Bgo HB.out hb)
  clear hb
  clear x0' x1' x2' y0' y1'
  obtain ⟨x0', x1', x2'⟩ := HC.out.three
  obtain ⟨y0', y1'⟩ := HX.out.two
  go_wp2_with fail
  refine (used15_c HV ad hp true (by simpa using hk) _ (hv.out.below HB.out)).mono ?_
  rintro e w2 ⟨rfl, hb⟩
  rw [HLL.out]
  replace HC := hidp (HC.out.keep hb)
  replace HX := hidp (HX.out.keep hb)
  replace HB := hidp (Bgo HB.out hb)
  clear hb
  clear x0' x1' x2' y0' y1'
  obtain ⟨x0', x1', x2'⟩ := HC.out.three
  obtain ⟨y0', y1'⟩ := HX.out.two
  have HL0 : Hid (W.heap.size < w2.heap.size) := hidp HC.out.lt
  have HL1 : Hid (W.heap.size + 1 < w2.heap.size) := hidp HX.out.lt
  have HWS : Hid (W.heap.size ≤ w2.heap.size) := hidp HB.out.size
  have HR1 : Hid (Reads w2 w2.heap.size 1 (some ad) n (valVs vals)) := hidp ((HR.out.below HB.out).more HB.out.size)
  go_wp2_with fail
  refine (Whole_c (some ad) c vals n HNN.out (by omega) H32.out _ (by
    intro h0
    obtain ⟨ad', e, _, hc⟩ := HR1.out.2 h0
    exact ⟨ad', e, hc⟩)).mono ?_
  rintro e w3 ⟨b1, o1, rfl, hI, hB⟩
  have HV2 : Hid (IsView w3 w2.heap.size b1 n true o1 (wholeV15 vals) freshS) := hidp hI
  replace HB := hidp (Bgo HB.out hB)
  have HR2 : Hid (Reads w3 w3.heap.size 1 (some ad) n (valVs vals)) := hidp ((HR1.out.below hB).more hB.size)
  replace HC := hidp (HC.out.keep hB)
  replace HX := hidp (HX.out.keep hB)
  have HLT : Hid ((W.heap.size) < w2.heap.size ∧ ((W.heap.size + 1)) < w2.heap.size) := hidp ⟨HL0.out, HL1.out⟩
  have HWZ : Hid (W.heap.size ≤ w2.heap.size) := hidp HWS.out
  clear hI hB HR1
  clear x0' x1' x2' y0' y1'
  obtain ⟨x0', x1', x2'⟩ := HC.out.three
  obtain ⟨y0', y1'⟩ := HX.out.two
  go_wp2_with fail
  refine (RWhole_c (some ad) c vals n HNN.out (by omega) hnc hcm H32.out _ HR2.out).mono ?_
  rintro e w4 ⟨b2, v2, rfl, hI, hB⟩
  have HV3 := hidp (HV2.out.keep hB)
  have HA3 : Hid (IsRefV w4 w3.heap.size b2 n true v2 (wholeV15 vals) freshS) := hidp hI
  replace HB := hidp (Bgo HB.out hB)
  replace HC := hidp (HC.out.keep hB)
  replace HX := hidp (HX.out.keep hB)
  have HL2 : Hid (∀ i, o1.A b1 i → i < w3.heap.size) := hidp HV2.out.lt
  have HL9 : Hid (w2.heap.size ≤ w3.heap.size) := hidp (by have h1 := HV2.out.head.lt; have h2 := HV2.out.ge b1 (.inl (.inl (.inl rfl))); omega)
  clear hI hB HV2 HR2
  generalize hz1 : w2.heap.size = z1 at *
  generalize hz2 : w3.heap.size = z2 at *
  have HD : Hid (Duo W (vOb z1 b1 n true (wholeV15 vals)) (rOb z2 b2 n true (wholeV15 vals)) (o1.A b1) (OwnF b2 6 v2) (fun g => g = W.heap.size ∨ g = (W.heap.size + 1)) freshS freshS w4) := hidp ⟨⟨o1, HV3.out, rfl⟩, ⟨v2, HA3.out, rfl⟩, fun i hi hj => by have := HL2.out i hi; have := HA3.out.parts.ge i hj; omega, fun g hg => by
      have hl := HLT.out
      have hl1 := HL9.out
      have hlt := HV3.out.head.lt
      rcases hg with hg | hg
      · subst hg; exact ⟨HC.out.lt, fun x => by have := HV3.out.ge _ x; omega, fun x => by have := HA3.out.parts.ge _ x; omega⟩
      · subst hg; exact ⟨HX.out.lt, fun x => by have := HV3.out.ge _ x; omega, fun x => by have := HA3.out.parts.ge _ x; omega⟩, fun i hi => by
      have := HWZ.out
      rcases hi with hi | hi
      · have := HV3.out.ge _ hi; omega
      · have := HA3.out.parts.ge _ hi; have := HL9.out; omega, HB.out⟩
  clear HV3 HA3 HL2 HL9 HLT HWZ hz1 hz2
  clear x0' x1' x2' y0' y1'
  obtain ⟨x0', x1', x2'⟩ := HC.out.three
  obtain ⟨y0', y1'⟩ := HX.out.two
  by_cases c1 : 1 ≤ x1
  · have t5 : decide ((1 : Int) ≤ x1) = true := decide_eq_true c1
    by_cases c2 : x1 < (ll : Int)
    · have t6 : decide (x1 < (ll : Int)) = true := decide_eq_true c2
      obtain ⟨mm, rfl⟩ := Int.eq_ofNat_of_zero_le (show 0 ≤ x1 by omega)
      have hml : mm ≤ ll := by omega
      obtain ⟨sx, hsx⟩ : ∃ sx, shrinkS n (wholeV15 vals) H.t H.p H.s p ll mm freshS = sx := ⟨_, rfl⟩
      have HSX := hidp hsx
      clear hsx
      go_wp2_with fail
      refine (snShrink_c hn40 hq10 p ll mm hpl2 hml HD.out.at1).mono ?_
      rintro e w5 ⟨rfl, h1, _⟩
      obtain ⟨A4, h2, h3⟩ := HD.out.left1 h1.left
      rw [HSX.out] at h2
      replace HC := hidp (h3.held (.inl rfl) HC.out)
      replace HX := hidp (h3.held (.inr rfl) HX.out)
      replace HD := hidp h2
      clear h1 h2 h3
      clear x0' x1' x2' y0' y1'
      obtain ⟨x0', x1', x2'⟩ := HC.out.three
      obtain ⟨y0', y1'⟩ := HX.out.two
      go_wp2_with fail
      refine (r15Shrink_c hn40 hq10 p ll mm hpl2 hml HD.out.at2).mono ?_
      rintro e w6 ⟨rfl, h1, _⟩
      obtain ⟨A4, h2, h3⟩ := HD.out.left2 h1.left
      rw [HSX.out] at h2
      replace HC := hidp (h3.held (.inl rfl) HC.out)
      replace HX := hidp (h3.held (.inr rfl) HX.out)
      replace HD := hidp h2
      clear h1 h2 h3
      clear HSX
      clear x0' x1' x2' y0' y1'
      obtain ⟨x0', x1', x2'⟩ := HC.out.three
      obtain ⟨y0', y1'⟩ := HX.out.two
      obtain ⟨o, hI, _⟩ := HD.out.i1
      obtain ⟨v, hR, _⟩ := HD.out.i2
      have HV := hidp hI
      have HAA := hidp hR
      have HB := hidp HD.out.bel
      have HL : Hid (sx.rd.length < 2 ^ 40 ∧ sx.wr.length < 2 ^ 40) := hidp (by have := hI.ok.few; omega)
      clear hI hR HD
      go_wp2_with fail
      refine (vReads_c HL.out.1 _ HV.out).mono ?_
      rintro e w90 ⟨r6, rfl, ho, hb⟩
      have HV := hidp (HV.out.keep hb)
      have HAA := hidp (HAA.out.keep hb)
      have HB := hidp (Bgo HB.out hb)
      have HR6 := hidp (rowV_nat6 ho)
      clear hb ho
      go_wp2_with fail
      refine (vWrites_c HL.out.2 _ HV.out).mono ?_
      rintro e w91 ⟨r7, rfl, ho, hb⟩
      have HV := hidp (HV.out.keep hb)
      have HAA := hidp (HAA.out.keep hb)
      have HB := hidp (Bgo HB.out hb)
      have HP7 := hidp (RowP.of_own ho)
      have HR7 := hidp (HR6.out.below hb)
      clear hb ho HR6
      go_wp2_with fail
      refine (vMissing_c _ HV.out).mono ?_
      rintro e w92 ⟨rfl, hw⟩
      subst hw
      go_wp2_with fail
      refine (Same_c HL.out.1 HL.out.2 r6 r7 _ HAA.out HR7.out HP7.out).mono ?_
      rintro e w93 ⟨rfl, hb⟩
      have HB := hidp (Bgo HB.out hb)
      clear hb HV HAA HR7 HP7
      go_wp2_with fail
      refine (live15_c _).mono ?_
      rintro e w19 ⟨rfl, hb⟩
      have HBL := hidp (Bgo HB.out hb)
      clear hb
      go_wp2
      go_ret
      exact ⟨rfl, HBL.out⟩
    · have t6 : decide (x1 < (ll : Int)) = false := decide_eq_false c2
      by_cases c3 : (ll : Int) < x1
      · have t7 : decide ((ll : Int) < x1) = true := decide_eq_true c3
        obtain ⟨sx, hsx⟩ : ∃ sx, growS n (wholeV15 vals) H.t H.p H.s p ll x1 freshS = sx := ⟨_, rfl⟩
        have HSX := hidp hsx
        clear hsx
        obtain ⟨gb, hgb⟩ : ∃ gb, growB n (wholeV15 vals) H.t H.p H.s p ll x1 freshS = gb := ⟨_, rfl⟩
        have HGB := hidp hgb
        clear hgb
        have tbb : (gb != gb) = false := by simp
        go_wp2_with fail
        replace HC := hidp HC.out.drw
        replace HX := hidp HX.out.drw
        replace HD := hidp (HD.out.keep (Bdrew (B0 _)))
        refine wp_region_held_drew (S := (fun w' => w'.cell? ⟨W.heap.size, 0, none⟩ = some (.int .i64 (H.t : Int)) ∧ w'.cell? ⟨W.heap.size, 1, none⟩ = some (.int .i64 (H.p : Int)) ∧ w'.cell? ⟨W.heap.size, 2, none⟩ = some (.int .i64 (H.s : Int)) ∧ w'.cell? ⟨W.heap.size + 1, 0, none⟩ = some (.int .i64 (p : Int)) ∧ w'.cell? ⟨W.heap.size + 1, 1, none⟩ = some (.int .i64 x1))) (by kernel_rfl) ?_ (fun hHeld => ?_)
        · (try dsimp only)
          first | exact ⟨HC.out.three.1, HC.out.three.2.1, HC.out.three.2.2, HX.out.two.1, HX.out.two.2⟩ | exact hHeld
        refine tkz 0 ?_
        refine tkz 1 ?_
        refine tkz 2 ?_
        refine tkz 3 ?_
        refine tkz 4 ?_
        refine tkz 5 ?_
        refine tkz 6 ?_
        refine tkz 8 ?_
        refine tkz 9 ?_
        refine tkz 10 ?_
        refine tkz 11 ?_
        refine tkz 12 ?_
        refine tkz 13 ?_
        refine tkz 14 ?_
        refine wpAnyH_ready (rs := [7]) (by kernel_rfl) (by simp) ?_
        refine AllReadyH.cons (o := _) rfl (fun K hK => ?_) AllReadyH.nil
        go_simp
        refine (snGrow_c hn40 hq10 p ll x1 hpl3 (by omega) hx1m HD.out.at1).mono ?_
        rintro e w5 ⟨rfl, h1, _⟩
        obtain ⟨A4, h2, h3⟩ := HD.out.left1 h1.left
        rw [HSX.out] at h2
        rw [HGB.out]
        replace HC := hidp (h3.held (.inl rfl) HC.out)
        replace HX := hidp (h3.held (.inr rfl) HX.out)
        replace HD := hidp h2
        clear h1 h2 h3
        refine hK.out _ _ ?_ (fun hHeld => ?_)
        · (try dsimp only)
          first | exact ⟨HC.out.three.1, HC.out.three.2.1, HC.out.three.2.2, HX.out.two.1, HX.out.two.2⟩ | exact hHeld
        clear hK K
        (try simp only [Act.put, gA, gB, gC, sA, sB, sC])
        refine wpAnyH_ready (rs := [15]) (by kernel_rfl) (by simp) ?_
        refine AllReadyH.cons (o := _) rfl (fun K hK => ?_) AllReadyH.nil
        go_simp
        refine (r15Grow_c hn40 hq10 p ll x1 hpl3 (by omega) hx1m HD.out.at2).mono ?_
        rintro e w6 ⟨rfl, h1, _⟩
        obtain ⟨A4, h2, h3⟩ := HD.out.left2 h1.left
        rw [HSX.out] at h2
        rw [HGB.out]
        replace HC := hidp (h3.held (.inl rfl) HC.out)
        replace HX := hidp (h3.held (.inr rfl) HX.out)
        replace HD := hidp h2
        clear h1 h2 h3
        refine hK.out _ _ ?_ (fun hHeld => ?_)
        · (try dsimp only)
          first | exact ⟨HC.out.three.1, HC.out.three.2.1, HC.out.three.2.2, HX.out.two.1, HX.out.two.2⟩ | exact hHeld
        clear hK K
        (try simp only [Act.put, gA, gB, gC, sA, sB, sC])
        refine tkz 16 ?_
        refine wpAnyH_done (by kernel_rfl) ?_ _
        clear x0' x1' x2' y0' y1'
        obtain ⟨x0', x1', x2'⟩ := HC.out.three
        obtain ⟨y0', y1'⟩ := HX.out.two
        clear HSX HGB
        obtain ⟨o, hI, _⟩ := HD.out.i1
        obtain ⟨v, hR, _⟩ := HD.out.i2
        have HV := hidp hI
        have HAA := hidp hR
        have HB := hidp HD.out.bel
        have HL : Hid (sx.rd.length < 2 ^ 40 ∧ sx.wr.length < 2 ^ 40) := hidp (by have := hI.ok.few; omega)
        clear hI hR HD
        go_wp2_with fail
        refine (vReads_c HL.out.1 _ HV.out).mono ?_
        rintro e w90 ⟨r6, rfl, ho, hb⟩
        have HV := hidp (HV.out.keep hb)
        have HAA := hidp (HAA.out.keep hb)
        have HB := hidp (Bgo HB.out hb)
        have HR6 := hidp (rowV_nat6 ho)
        clear hb ho
        go_wp2_with fail
        refine (vWrites_c HL.out.2 _ HV.out).mono ?_
        rintro e w91 ⟨r7, rfl, ho, hb⟩
        have HV := hidp (HV.out.keep hb)
        have HAA := hidp (HAA.out.keep hb)
        have HB := hidp (Bgo HB.out hb)
        have HP7 := hidp (RowP.of_own ho)
        have HR7 := hidp (HR6.out.below hb)
        clear hb ho HR6
        go_wp2_with fail
        refine (vMissing_c _ HV.out).mono ?_
        rintro e w92 ⟨rfl, hw⟩
        subst hw
        go_wp2_with fail
        refine (Same_c HL.out.1 HL.out.2 r6 r7 _ HAA.out HR7.out HP7.out).mono ?_
        rintro e w93 ⟨rfl, hb⟩
        have HB := hidp (Bgo HB.out hb)
        clear hb HV HAA HR7 HP7
        go_wp2_with fail
        refine (live15_c _).mono ?_
        rintro e w19 ⟨rfl, hb⟩
        have HBL := hidp (Bgo HB.out hb)
        clear hb
        go_wp2
        go_ret
        exact ⟨rfl, HBL.out⟩
      · have t7 : decide ((ll : Int) < x1) = false := decide_eq_false c3
        obtain ⟨sx, hsx⟩ : ∃ sx, releaseS n (wholeV15 vals) H.t H.p H.s p ll freshS = sx := ⟨_, rfl⟩
        have HSX := hidp hsx
        clear hsx
        go_wp2_with fail
        refine (snRelease_c hn40 hq10 p ll (by omega) (by omega) HD.out.at1).mono ?_
        rintro e w5 ⟨rfl, h1, _⟩
        obtain ⟨A4, h2, h3⟩ := HD.out.left1 h1.left
        rw [HSX.out] at h2
        replace HC := hidp (h3.held (.inl rfl) HC.out)
        replace HX := hidp (h3.held (.inr rfl) HX.out)
        replace HD := hidp h2
        clear h1 h2 h3
        clear x0' x1' x2' y0' y1'
        obtain ⟨x0', x1', x2'⟩ := HC.out.three
        obtain ⟨y0', y1'⟩ := HX.out.two
        go_wp2_with fail
        refine (r15Release_c hn40 hq10 p ll (by omega) (by omega) HD.out.at2).mono ?_
        rintro e w6 ⟨rfl, h1, _⟩
        obtain ⟨A4, h2, h3⟩ := HD.out.left2 h1.left
        rw [HSX.out] at h2
        replace HC := hidp (h3.held (.inl rfl) HC.out)
        replace HX := hidp (h3.held (.inr rfl) HX.out)
        replace HD := hidp h2
        clear h1 h2 h3
        clear HSX
        clear x0' x1' x2' y0' y1'
        obtain ⟨x0', x1', x2'⟩ := HC.out.three
        obtain ⟨y0', y1'⟩ := HX.out.two
        obtain ⟨o, hI, _⟩ := HD.out.i1
        obtain ⟨v, hR, _⟩ := HD.out.i2
        have HV := hidp hI
        have HAA := hidp hR
        have HB := hidp HD.out.bel
        have HL : Hid (sx.rd.length < 2 ^ 40 ∧ sx.wr.length < 2 ^ 40) := hidp (by have := hI.ok.few; omega)
        clear hI hR HD
        go_wp2_with fail
        refine (vReads_c HL.out.1 _ HV.out).mono ?_
        rintro e w90 ⟨r6, rfl, ho, hb⟩
        have HV := hidp (HV.out.keep hb)
        have HAA := hidp (HAA.out.keep hb)
        have HB := hidp (Bgo HB.out hb)
        have HR6 := hidp (rowV_nat6 ho)
        clear hb ho
        go_wp2_with fail
        refine (vWrites_c HL.out.2 _ HV.out).mono ?_
        rintro e w91 ⟨r7, rfl, ho, hb⟩
        have HV := hidp (HV.out.keep hb)
        have HAA := hidp (HAA.out.keep hb)
        have HB := hidp (Bgo HB.out hb)
        have HP7 := hidp (RowP.of_own ho)
        have HR7 := hidp (HR6.out.below hb)
        clear hb ho HR6
        go_wp2_with fail
        refine (vMissing_c _ HV.out).mono ?_
        rintro e w92 ⟨rfl, hw⟩
        subst hw
        go_wp2_with fail
        refine (Same_c HL.out.1 HL.out.2 r6 r7 _ HAA.out HR7.out HP7.out).mono ?_
        rintro e w93 ⟨rfl, hb⟩
        have HB := hidp (Bgo HB.out hb)
        clear hb HV HAA HR7 HP7
        go_wp2_with fail
        refine (live15_c _).mono ?_
        rintro e w19 ⟨rfl, hb⟩
        have HBL := hidp (Bgo HB.out hb)
        clear hb
        go_wp2
        go_ret
        exact ⟨rfl, HBL.out⟩
  · have t5 : decide ((1 : Int) ≤ x1) = false := decide_eq_false c1
    have t7 : decide ((ll : Int) < x1) = false := decide_eq_false (by omega)
    obtain ⟨sx, hsx⟩ : ∃ sx, releaseS n (wholeV15 vals) H.t H.p H.s p ll freshS = sx := ⟨_, rfl⟩
    have HSX := hidp hsx
    clear hsx
    go_wp2_with fail
    refine (snRelease_c hn40 hq10 p ll (by omega) (by omega) HD.out.at1).mono ?_
    rintro e w5 ⟨rfl, h1, _⟩
    obtain ⟨A4, h2, h3⟩ := HD.out.left1 h1.left
    rw [HSX.out] at h2
    replace HC := hidp (h3.held (.inl rfl) HC.out)
    replace HX := hidp (h3.held (.inr rfl) HX.out)
    replace HD := hidp h2
    clear h1 h2 h3
    clear x0' x1' x2' y0' y1'
    obtain ⟨x0', x1', x2'⟩ := HC.out.three
    obtain ⟨y0', y1'⟩ := HX.out.two
    go_wp2_with fail
    refine (r15Release_c hn40 hq10 p ll (by omega) (by omega) HD.out.at2).mono ?_
    rintro e w6 ⟨rfl, h1, _⟩
    obtain ⟨A4, h2, h3⟩ := HD.out.left2 h1.left
    rw [HSX.out] at h2
    replace HC := hidp (h3.held (.inl rfl) HC.out)
    replace HX := hidp (h3.held (.inr rfl) HX.out)
    replace HD := hidp h2
    clear h1 h2 h3
    clear HSX
    clear x0' x1' x2' y0' y1'
    obtain ⟨x0', x1', x2'⟩ := HC.out.three
    obtain ⟨y0', y1'⟩ := HX.out.two
    obtain ⟨o, hI, _⟩ := HD.out.i1
    obtain ⟨v, hR, _⟩ := HD.out.i2
    have HV := hidp hI
    have HAA := hidp hR
    have HB := hidp HD.out.bel
    have HL : Hid (sx.rd.length < 2 ^ 40 ∧ sx.wr.length < 2 ^ 40) := hidp (by have := hI.ok.few; omega)
    clear hI hR HD
    go_wp2_with fail
    refine (vReads_c HL.out.1 _ HV.out).mono ?_
    rintro e w90 ⟨r6, rfl, ho, hb⟩
    have HV := hidp (HV.out.keep hb)
    have HAA := hidp (HAA.out.keep hb)
    have HB := hidp (Bgo HB.out hb)
    have HR6 := hidp (rowV_nat6 ho)
    clear hb ho
    go_wp2_with fail
    refine (vWrites_c HL.out.2 _ HV.out).mono ?_
    rintro e w91 ⟨r7, rfl, ho, hb⟩
    have HV := hidp (HV.out.keep hb)
    have HAA := hidp (HAA.out.keep hb)
    have HB := hidp (Bgo HB.out hb)
    have HP7 := hidp (RowP.of_own ho)
    have HR7 := hidp (HR6.out.below hb)
    clear hb ho HR6
    go_wp2_with fail
    refine (vMissing_c _ HV.out).mono ?_
    rintro e w92 ⟨rfl, hw⟩
    subst hw
    go_wp2_with fail
    refine (Same_c HL.out.1 HL.out.2 r6 r7 _ HAA.out HR7.out HP7.out).mono ?_
    rintro e w93 ⟨rfl, hb⟩
    have HB := hidp (Bgo HB.out hb)
    clear hb HV HAA HR7 HP7
    go_wp2_with fail
    refine (live15_c _).mono ?_
    rintro e w19 ⟨rfl, hb⟩
    have HBL := hidp (Bgo HB.out hb)
    clear hb
    go_wp2
    go_ret
    exact ⟨rfl, HBL.out⟩
theorem SpanTurns_calls (t q s x0 x1 : Int) (hx1 : -9223372036854775808 ≤ x1 ∧ x1 ≤ 9223372036854775807) (A : Option Addr) (c : Nat) (vals : List Nat) (hnc : vals.length ≤ c) (hcm : c ≤ maxLen) (h32 : ∀ x ∈ vals, x < 2 ^ 32) (W : World) (HR : Hid (Reads W W.heap.size 1 A vals.length (valVs vals))) :
    Calls Tryz.prog 4 #[.agg #[.int .i64 t, .int .i64 q, .int .i64 s], .slice A vals.length c, .agg #[.int .i64 x0, .int .i64 x1]] W (Keeps W) := by
  by_cases hq : q ≤ 64
  · rcases heap13_or W t q s A c vals hnc hcm h32 HR.out with ⟨m, hX⟩ | ⟨H, ad, m, rfl, rfl, rfl, rfl, hV, HV, hv, hto, hX⟩
    · exact SpanTurns_no t q s x0 x1 A _ c m hq W (hidp hX)
    · by_cases h0 : x0 < 0 ∨ (H.p : Int) ≤ x0
      · exact SpanTurns_off _ _ _ x0 x1 _ _ c m hq h0 W (hidp hX)
      · obtain ⟨p, rfl⟩ := Int.eq_ofNat_of_zero_le (show 0 ≤ x0 by omega)
        by_cases hk : H.K p = 2
        · exact SpanTurns_main ad _ c m p x1 hx1.2 HV (by omega) hk (told_room hto (by omega) (by omega)) vals (hidp rfl) (hidp h32) (by omega) hnc W HR (hidp hv) (hidp hX)
        · exact SpanTurns_kind ad _ c m p x1 HV (by omega) (by omega) hk W (hidp hv) (hidp hX)
  · exact SpanTurns_few t q s x0 x1 A _ c 0 (by omega) W
end Go.Proofs.YtnamlhkccgnbfaaGreat

namespace Go.Proofs.YtnamlhkccgnbfaaGreat
open Go.ChangeShapes Go.WideShapes Go.ChangeAt Go.RowKit
set_option linter.unusedVariables false
set_option linter.unusedSimpArgs false

set_option maxRecDepth 100000 in
theorem open_two15 {H : Type} {enc : TypeId × Value → H} {W : World} {b base : Nat} {sp : Nat → Bool} {held : Bool} {v : Value} {d : DataW H} {p : List MemPlace}
    (hv : Value.okWide Tryz.prog W .any b 42 v) (h : DataW.Trod enc Tryz.prog W base sp held 42 v d p) :
    ∃ (x y : Int), v = .agg #[.int .i64 x, .int .i64 y] ∧ (-9223372036854775808 ≤ x ∧ x ≤ 9223372036854775807) ∧ (-9223372036854775808 ≤ y ∧ y ≤ 9223372036854775807) := by
  have hu : Tryz.prog.underlying 42 = some (.array 2 3) := by kernel_rfl
  have hC : Tryz.prog.cellsOf 42 = 2 := by kernel_rfl
  have hc : Tryz.prog.cellsOf 3 = 1 := by kernel_rfl
  simp only [Value.okWide, hu] at hv
  obtain ⟨cs, rfl, h2, _⟩ := hv
  rw [hC] at h2
  obtain ⟨c0, c1, rfl⟩ : ∃ c0 c1, cs = #[c0, c1] := by
    rcases cs with ⟨l⟩
    match l, h2 with
    | [c0, c1], _ => exact ⟨c0, c1, rfl⟩
  obtain ⟨fuel, hf⟩ := h
  obtain ⟨xs, m, _, _, _, hl, hi⟩ := DataW.trod_array hu hf
  have h0 := hi 0 (by omega)
  have h1 := hi 1 (by omega)
  rw [hc] at h0 h1
  obtain ⟨y0, e0⟩ : ∃ y, xs[0]? = some y := ⟨_, List.getElem?_eq_getElem (by omega)⟩
  obtain ⟨y1, e1⟩ : ∃ y, xs[1]? = some y := ⟨_, List.getElem?_eq_getElem (by omega)⟩
  rw [e0] at h0
  rw [e1] at h1
  obtain ⟨a, f0, _, w0⟩ := DataW.trod_int Tryz.underlying3 h0
  obtain ⟨c, f1, _, w1⟩ := DataW.trod_int Tryz.underlying3 h1
  simp [Value.cells] at f0 f1
  subst f0 f1
  exact ⟨a, c, rfl, i64_bounds w0, i64_bounds w1⟩
end Go.Proofs.YtnamlhkccgnbfaaGreat
