/-
  Which pockets fit a heap: the slots at hand, page by page. No program is named here.
-/
import Derived.Test.YtlpcdfcghgapkaaGreatB10
import Derived.Test.YtlpcdfcghgapkaaGreatB05
import Derived.Test.YtlpcdfcghgapkaaGreatB04
import Derived.Test.YtlpcdfcghgapkaaGreatB09
import Derived.Test.YtlpcdfcghgapkaaGreatB01
import Derived.Test.YtlpcdfcghgapkaaGreatB02
import Derived.Test.YtlpcdfcghgapkaaGreatBKit
import Derived.Deep.DeepFit
import Derived.WalkMore
import Derived.Lib.SmallJoins
namespace Go.Proofs.YtlpcdfcghgapkaaGreat
open Go.ChangeShapes Go.WideShapes Go.ChangeAt Go.RowKit Go.Maps
set_option linter.unusedVariables false
set_option linter.unusedSimpArgs false
section
theorem mem_pk {l : List (Int × Int × Int)} {z a : Int} : a ∈ pkA l z ↔ ∃ x ∈ l, x.1 = 4 /\ x.2.2 = z /\ x.2.1 = a := by
 unfold pkA
 simp only [List.mem_map, List.mem_filter, Bool.and_eq_true, decide_eq_true_eq]
 constructor
 ·rintro ⟨x, ⟨h1, h2, h3⟩, h4⟩; exact ⟨x, h1, h2, h3, h4⟩
 ·rintro ⟨x, h1, h2, h3, h4⟩; exact ⟨x, ⟨h1, h2, h3⟩, h4⟩
theorem mem_catTo {α : Type} {f : Nat -> List α} {x : α} : ∀ {n : Nat}, x ∈ AuH.catTo f n ↔ ∃ i, i < n /\ x ∈ f i
 | 0 => by simp [AuH.catTo]
 | n + 1 => by
  show x ∈ AuH.catTo f n ++ f n ↔ _
  rw [List.mem_append, mem_catTo]
  constructor
  ·rintro (⟨i, h1, h2⟩ | h)
   ·exact ⟨i, by omega, h2⟩
   ·exact ⟨n, by omega, h⟩
  ·rintro ⟨i, h1, h2⟩
   by_cases h : i = n
   ·subst h; exact .inr h2
   ·exact .inl ⟨i, by omega, h2⟩
def AuH.hand (H : AuH) (q i : Nat) : Prop := q < H.p /\ H.K q = 3 /\ i < slotI (H.Cl q) /\ (H.cel q 5).testBit i = true /\ (H.cel q 4).testBit i = false
def AuH.slotA (H : AuH) (q i : Nat) : Int := H.first q + (i : Int) * (H.zs q : Int)
section
variable {H H' : AuH}
theorem mem_pkA {z a : Int} : a ∈ pkA H.parts z ↔ ∃ q i, H.hand q i /\ (H.zs q : Int) = z /\ H.slotA q i = a := by
 rw [mem_pk]
 unfold AuH.parts
 constructor
 ·rintro ⟨x, hx, h4, hz, ha⟩
  obtain ⟨q, hq, hx⟩ := mem_catTo.1 hx
  unfold AuH.partsAt at hx
  split at hx
  ·rw [List.mem_singleton] at hx; subst hx; exact absurd (show (1 : Int) = 4 from h4) (by decide)
  ·split at hx
   ·rw [List.mem_singleton] at hx; subst hx; exact absurd (show (2 : Int) = 4 from h4) (by decide)
   ·split at hx
    ·rename_i hk
     rcases List.mem_append.1 hx with hx | hx
     ·unfold AuH.slotsTo at hx
      obtain ⟨i, hi, rfl⟩ := List.mem_map.1 hx
      rw [List.mem_range] at hi
      have h5 : slotKd (H.cel q 5) (H.cel q 4) i = 4 := by
       have : ((slotKd (H.cel q 5) (H.cel q 4) i : Nat) : Int) = 4 := h4
       omega
      obtain ⟨h6, h7⟩ := (slotKd_live (H.cel q 5) (H.cel q 4) i).2.1 h5
      exact ⟨q, i, ⟨hq, hk, hi, h6, h7⟩, hz, ha⟩
     ·unfold AuH.slack at hx
      split at hx
      ·rw [List.mem_singleton] at hx; subst hx; exact absurd (show (5 : Int) = 4 from h4) (by decide)
      ·simp at hx
    ·simp at hx
 ·rintro ⟨q, i, ⟨hq, hk, hi, h6, h7⟩, hz, ha⟩
  refine ⟨H.slotPart q i, mem_catTo.2 ⟨q, hq, ?_⟩, ?_, hz, ha⟩
  ·unfold AuH.partsAt
   rw [if_neg (by omega), if_neg (by omega), if_pos hk]
   exact List.mem_append_left _ (List.mem_map.2 ⟨i, List.mem_range.2 hi, rfl⟩)
  ·show ((slotKd (H.cel q 5) (H.cel q 4) i : Nat) : Int) = 4
   rw [(slotKd_live (H.cel q 5) (H.cel q 4) i).2.2 ⟨h6, h7⟩]
   rfl
end
end
section
section
variable {H H' : AuH} {n c c' : Nat} {L L' : Nat -> List Nat} {q p i : Nat}
theorem pkA_once (HV : HeapV H n c) (h : H.Ok L) (z : Int) : (pkA H.parts z).Nodup := pkA_nodup (AuH.parts_contig HV h.spans.tiled) z
end
section
variable {Z : Nat -> Nat -> List Int} {t0 k0 k : Nat} {l : List Int}
end
end
section
section
variable {H : AuH} {n c : Nat} {K : Nat -> Option Nat} {st : Vst} {L : Nat -> List Nat} {p : Nat}
theorem fits_empty (hno : ∀ q i, ¬ H.hand q i) (sz : Nat -> Int) (T : Nat) : FitsP H.parts sz T (fun _ _ => []) := by
 refine ⟨fun _ _ _ _ => by simp, fun k _ => ?_⟩
 have h1 : ∀ T, haveT (fun _ _ => []) k T = [] := fun T => by
  induction T with
  | zero => rfl
  | succ T ih => show haveT _ k T ++ [] = []; rw [ih]; rfl
 have h2 : pkA H.parts (sz k) = [] := List.eq_nil_iff_forall_not_mem.2 fun a ha => by
  obtain ⟨q, i, h, _⟩ := mem_pkA.1 ha
  exact hno q i h
 rw [h1, h2]
end
end
end Go.Proofs.YtlpcdfcghgapkaaGreat

namespace Go.Proofs.YtlpcdfcghgapkaaGreat
open Go.ChangeShapes Go.WideShapes Go.ChangeAt Go.RowKit Go.Maps
set_option linter.unusedVariables false
set_option linter.unusedSimpArgs false
set_option maxRecDepth 100000
section
theorem rowV_nil {w : World} {u : Value} (h : RowV w u []) : ∃ A c, u = .slice A 0 c := by
 rcases h.2 with ⟨h, _⟩ | ⟨g, o, c, h, _, _⟩
 ·exact ⟨none, 0, h⟩
 ·exact ⟨_, c, h⟩
theorem fr_blocks {t p s : Nat} (h1 : 1 <= p) (h2 : p <= 1024) : blocksOf (frH t p s).parts = [] := by
 refine blocks_none _ fun i hi => page_none ?_
 rcases Nat.eq_zero_or_pos i with h3 | h3
 ·subst h3; exact .inr (fr_K0 h1 h2).1
 ·exact .inl (fr_K h1 h2 hi (by omega))
theorem fr_heap {t p s n c : Nat} (hr : rightB t p s = true) (hn : n = 30 + 4 * t + 6 * p) (hc : n <= c) (hm : c <= maxLen) : HeapV (frH t p s) n c := by
 have hri := (rightB_iff t p s).1 hr
 exact ⟨hr, hn, hc, hm, fun i _ => frV_lt (by omega) (by omega) i⟩
theorem fr_isVals {t p s g n c : Nat} {w : World} (h : RowF w g 37 n c (valF (frV t p))) : IsVals w ⟨g, 0, none⟩ n (frH t p s).V := ⟨h.lt, fun i hi => by
 have e : (⟨g, 0, none⟩ : Addr).add i = ⟨g, i, none⟩ := by
  unfold Addr.add
  by_cases hz : i = 0
  ·rw [if_pos hz, hz]
  ·rw [if_neg hz]; simp
 rw [e, h.cell hi]
 rfl⟩
theorem fr_root {t p i : Nat} (h1 : 1 <= p) (h2 : p <= 1024) (hi : i < 8) : frV t p (22 + i) = 0 := by
 have hb := frB_at h1 h2
 unfold frV
 rw [if_neg (by omega), if_neg (by omega), if_neg (by omega), if_neg (by omega)]

set_option maxHeartbeats 1600000 in
theorem live25_c (w : World) : Calls Tryz.prog 7 #[] w fun e w' => e = .returned (.bool true) /\ Below w.heap.size w w' := by
 have HB := hidp (B0 w)
 have hl8 : frB 8 = 5 := by decide
 go_enter Tryz.func7, Tryz.ntmps7
 go_wp2_with fail
 refine (frVals_yes 1 8 10 82 (by decide) rfl _).mono ?_
 rintro e w1 ⟨g, c, rfl, hr, hg, hb⟩
 replace HB := hidp (Bgo HB.out hb)
 have c0 := hr.cell (i := 0) (by omega)
 have c5 := hr.cell (i := 5) (by omega)
 have c34 := hr.cell (i := 34) (by omega)
 have c77 := hr.cell (i := 77) (by omega)
 have hcl := hr.le
 have hcm : c <= 9223372036854775807 := hr.max
 simp only [valF, frV, hl8] at c0 c5 c34 c77
 simp at c0 c5 c34 c77
 clear hr hg hb hl8
 go_wp2
 go_ret
 exact ⟨rfl, HB.out⟩
end
section
theorem few14_c (t q s : Int) (w : World) : Calls Tryz.prog 8 #[.agg #[.int .i64 t, .int .i64 q, .int .i64 s]] w fun e w' => e = .returned (.bool (decide (q <= 64))) /\ Below w.heap.size w w' := by
 go_enter Tryz.func8, Tryz.ntmps8
 go_wp2
 go_ret
 exact ⟨rfl, Bnew (B0 _) _⟩
end
section
set_option maxHeartbeats 3200000 in
theorem FreshHolds_no (t p s : Int) (hr : rightB t p s = false) (W : World) : Calls Tryz.prog 3 #[.agg #[.int .i64 t, .int .i64 p, .int .i64 s]] W (Keeps W) := by
 have HVA := hidp (fun w => frVals_no t p s hr w)
 have HWO := hidp (fun w => frWords_no t p s hr w)
 have HRT := hidp hr
 clear hr
 have HC := hidp (Held.new W 23 #[.int .i64 t, .int .i64 p, .int .i64 s])
 have HB := hidp (Bnew (B0 W) (.cells #[.int .i64 t, .int .i64 p, .int .i64 s] 23))
 obtain ⟨x0, x1, x2⟩ := HC.out.three
 go_enter Tryz.func3, Tryz.ntmps3
 go_wp2_with fail
 refine (HVA.out _).mono ?_
 rintro e w1 ⟨u, rfl, hv, hb⟩
 obtain ⟨A1, c1, rfl⟩ := rowV_nil hv
 clear hv
 replace HC := hidp (HC.out.keep hb)
 replace HB := hidp (Bgo HB.out hb)
 clear hb
 clear x0 x1 x2
 obtain ⟨x0, x1, x2⟩ := HC.out.three
 go_wp2_with fail
 refine (r4Right_c _ _ _ _).mono ?_
 rintro e w2 ⟨rfl, hb⟩
 rw [HRT.out]
 replace HC := hidp (HC.out.keep hb)
 replace HB := hidp (Bgo HB.out hb)
 clear hb
 clear x0 x1 x2
 obtain ⟨x0, x1, x2⟩ := HC.out.three
 go_wp2_with fail
 refine (HWO.out _).mono ?_
 rintro e w3 ⟨u, rfl, hv, hb⟩
 obtain ⟨A2, c2, rfl⟩ := rowV_nil hv
 clear hv
 replace HC := hidp (HC.out.keep hb)
 replace HB := hidp (Bgo HB.out hb)
 clear hb
 go_wp2_with fail
 refine (live25_c _).mono ?_
 rintro e w4 ⟨rfl, hb⟩
 replace HC := hidp (HC.out.keep hb)
 replace HB := hidp (Bgo HB.out hb)
 clear hb
 go_wp2
 go_ret
 exact ⟨rfl, HB.out⟩
set_option maxHeartbeats 3200000 in
theorem FreshHolds_big (t p s n : Nat) (hr : rightB t p s = true) (hn : n = 30 + 4 * t + 6 * p) (hq : 64 < p) (W : World) : Calls Tryz.prog 3 #[.agg #[.int .i64 (t : Int), .int .i64 (p : Int), .int .i64 (s : Int)]] W (Keeps W) := by
 have t2 : decide ((p : Int) <= (64 : Int)) = false := decide_eq_false (by omega)
 have HVA := hidp (fun w => frVals_yes t p s n hr hn w)
 have HRT := hidp hr
 clear hr hn
 have HC := hidp (Held.new W 23 #[.int .i64 (t : Int), .int .i64 (p : Int), .int .i64 (s : Int)])
 have HB := hidp (Bnew (B0 W) (.cells #[.int .i64 (t : Int), .int .i64 (p : Int), .int .i64 (s : Int)] 23))
 obtain ⟨x0, x1, x2⟩ := HC.out.three
 go_enter Tryz.func3, Tryz.ntmps3
 go_wp2_with fail
 refine (HVA.out _).mono ?_
 rintro e w1 ⟨g1, c1, rfl, hv, _, hb⟩
 have HV := hidp hv
 have hc1 := hv.le
 have hcm1 : c1 <= 9223372036854775807 := hv.max
 clear hv
 replace HC := hidp (HC.out.keep hb)
 replace HB := hidp (Bgo HB.out hb)
 clear hb
 clear x0 x1 x2
 obtain ⟨x0, x1, x2⟩ := HC.out.three
 go_wp2_with fail
 refine (r4Right_c _ _ _ _).mono ?_
 rintro e w2 ⟨rfl, hb⟩
 rw [HRT.out]
 replace HC := hidp (HC.out.keep hb)
 replace HB := hidp (Bgo HB.out hb)
 clear hb
 clear x0 x1 x2
 obtain ⟨x0, x1, x2⟩ := HC.out.three
 go_wp2_with fail
 refine (few14_c t p s _).mono ?_
 rintro e w3 ⟨rfl, hb⟩
 rw [t2]
 replace HC := hidp (HC.out.keep hb)
 replace HB := hidp (Bgo HB.out hb)
 clear hb
 go_wp2_with fail
 refine (live25_c _).mono ?_
 rintro e w4 ⟨rfl, hb⟩
 replace HC := hidp (HC.out.keep hb)
 replace HB := hidp (Bgo HB.out hb)
 clear hb
 go_wp2
 go_ret
 exact ⟨rfl, HB.out⟩
set_option maxHeartbeats 6400000 in
theorem FreshHolds_main (t p s n m : Nat) (hr : rightB t p s = true) (hn : n = 30 + 4 * t + 6 * p) (hm : m = fwN t p) (hq : p <= 64) (W : World) : Calls Tryz.prog 3 #[.agg #[.int .i64 (t : Int), .int .i64 (p : Int), .int .i64 (s : Int)]] W (Keeps W) := by
 have hri := (rightB_iff t p s).1 hr
 have t2 : decide ((p : Int) <= (64 : Int)) = true := decide_eq_true (by omega)
 have HVA := hidp (fun w => frVals_yes t p s n hr hn w)
 have HWO := hidp (fun w => frWords_yes t p s m hr hm w)
 have HRT := hidp hr
 have hp1 : 1 <= p := by omega
 have hp2 : p <= 1024 := by omega
 have HST : Hid (∀ (w : World) (g c : Nat), RowF w g 37 n c (valF (frV t p)) -> Calls Tryz.prog 9 #[.agg #[.int .i64 (t : Int), .int .i64 (p : Int), .int .i64 (s : Int)], .slice (some ⟨g, 0, none⟩) n c] w fun e w' => ∃ u, e = .returned (.tuple #[.agg #[u, .int .i64 0, .int .i64 0, .int .i64 0, .int .i64 0, .int .i64 0, .int .i64 0, .int .i64 0, .int .i64 0], .bool true]) /\ w'.ownsRow w.heap.size 55 2 u 0 (bkVs []) /\ Below w.heap.size w w') := hidp (fun w g c h => by
  have HV := fr_heap (c := c) hr hn h.le h.max
  have h1 := xState_yes HV ⟨g, 0, none⟩ 0 w (fr_isVals h) (xCheckIs_yes HV ⟨g, 0, none⟩ w (fr_isVals h) (.inl ⟨rfl, rfl, fr_rules hp1 hp2⟩))
  rw [fr_blocks hp1 hp2] at h1
  have e0 : ∀ i, i < 8 -> (frH t p s).V (22 + i) = 0 := fun i hi => fr_root hp1 hp2 hi
  rw [e0 0 (by omega), e0 1 (by omega), e0 2 (by omega), e0 3 (by omega), e0 4 (by omega), e0 5 (by omega), e0 6 (by omega), e0 7 (by omega)] at h1
  exact h1)
 have HFT : Hid (∀ (w : World) (g c : Nat), RowF w g 37 n c (valF (frV t p)) -> ∀ (A2 : Option Addr) (c2 : Nat) (U : Nat -> Nat -> Sl), t <= c2 -> c2 <= maxLen -> PksAt w A2 t U (fun _ _ => []) -> Calls Tryz.prog 11 #[.agg #[.int .i64 (t : Int), .int .i64 (p : Int), .int .i64 (s : Int)], .slice (some ⟨g, 0, none⟩) n c, .slice A2 t c2] w fun e w' => e = .returned (.bool true) /\ Below w.heap.size w w') := hidp (fun w g c h A2 c2 U hTc hc2 hP => by
  have HV := fr_heap (c := c) hr hn h.le h.max
  obtain ⟨L, hok⟩ := AuH.okL_of (by have := HV.nums; omega) (fr_rules (t := t) (s := s) hp1 hp2)
  have F := fits_empty (H := frH t p s) (fun q i x => (fr_hand hp1 hp2 q x.1).1 x.2.1) (fun k => ((sizeN ((frH t p s).s : Int) (k : Int) : Nat) : Int)) (frH t p s).t
  exact rFits_heap HV ⟨g, 0, none⟩ 0 A2 c2 U (fun _ _ => []) hTc hc2 (fun k => ((sizeN ((frH t p s).s : Int) (k : Int) : Nat) : Int)) (fun _ _ => rfl) (fun k hk => pkA_once HV hok _) true ⟨fun _ => F, fun _ => rfl⟩ w (fr_isVals h) (xCheckIs_yes HV ⟨g, 0, none⟩ w (fr_isVals h) (.inl ⟨rfl, rfl, fr_rules hp1 hp2⟩)) hP)
 have hmk := make_pks t (by omega)
 have h0n : 0 < n := by omega
 have hnu : n <= 6238 := by omega
 have hmu : m <= 100000 := by rw [hm]; unfold fwN; omega
 have hm8 : (m : Int).tmod 8 = 0 := by rw [hm, Int.tmod_eq_emod_of_nonneg (by omega)]; unfold fwN; omega
 have htb : t <= 16 := by omega
 have cpp : IntKind.i64.wrap (p : Int) = (p : Int) := i64_same (by omega) (by omega)
 clear hr hn hm hri
 have HC := hidp (Held.new W 23 #[.int .i64 (t : Int), .int .i64 (p : Int), .int .i64 (s : Int)])
 have HB := hidp (Bnew (B0 W) (.cells #[.int .i64 (t : Int), .int .i64 (p : Int), .int .i64 (s : Int)] 23))
 obtain ⟨x0, x1, x2⟩ := HC.out.three
 go_enter Tryz.func3, Tryz.ntmps3
 go_wp2_with fail
 refine (HVA.out _).mono ?_
 rintro e w1 ⟨g1, c1, rfl, hv, _, hb⟩
 have HV := hidp hv
 have hc1 := hv.le
 have hcm1 : c1 <= 9223372036854775807 := hv.max
 clear hv
 replace HC := hidp (HC.out.keep hb)
 replace HB := hidp (Bgo HB.out hb)
 clear hb
 clear x0 x1 x2
 obtain ⟨x0, x1, x2⟩ := HC.out.three
 go_wp2_with fail
 refine (r4Right_c _ _ _ _).mono ?_
 rintro e w2 ⟨rfl, hb⟩
 rw [HRT.out]
 replace HC := hidp (HC.out.keep hb)
 replace HB := hidp (Bgo HB.out hb)
 replace HV := hidp (HV.out.keep hb)
 clear hb
 clear x0 x1 x2
 obtain ⟨x0, x1, x2⟩ := HC.out.three
 go_wp2_with fail
 refine (few14_c t p s _).mono ?_
 rintro e w3 ⟨rfl, hb⟩
 rw [t2]
 replace HC := hidp (HC.out.keep hb)
 replace HB := hidp (Bgo HB.out hb)
 replace HV := hidp (HV.out.keep hb)
 clear hb
 clear x0 x1 x2
 obtain ⟨x0, x1, x2⟩ := HC.out.three
 go_wp2_with fail
 refine (HST.out _ _ _ HV.out).mono ?_
 rintro e w4 ⟨u, rfl, ho, hb⟩
 obtain ⟨A1, k1, hu⟩ := own_slice ho
 subst hu
 replace HC := hidp (HC.out.keep hb)
 replace HB := hidp (Bgo HB.out hb)
 replace HV := hidp (HV.out.keep hb)
 have HS := hidp (Held.new w4 33 #[.slice A1 0 k1, .int .i64 0, .int .i64 0, .int .i64 0, .int .i64 0, .int .i64 0, .int .i64 0, .int .i64 0, .int .i64 0])
 have HO : Hid ((w4.alloc (.cells #[.slice A1 0 k1, .int .i64 0, .int .i64 0, .int .i64 0, .int .i64 0, .int .i64 0, .int .i64 0, .int .i64 0, .int .i64 0] 33)).ownsRow 0 55 2 (.slice A1 0 k1) 0 (bkVs [])) := hidp (own_below (own_lower ho (Nat.zero_le _)) (Bnew (B0 _) _))
 replace HC := hidp (HC.out.alloc (.cells #[.slice A1 0 k1, .int .i64 0, .int .i64 0, .int .i64 0, .int .i64 0, .int .i64 0, .int .i64 0, .int .i64 0, .int .i64 0] 33))
 replace HB := hidp (Bnew HB.out (.cells #[.slice A1 0 k1, .int .i64 0, .int .i64 0, .int .i64 0, .int .i64 0, .int .i64 0, .int .i64 0, .int .i64 0, .int .i64 0] 33))
 replace HV := hidp (HV.out.keep (Bnew (B0 _) (.cells #[.slice A1 0 k1, .int .i64 0, .int .i64 0, .int .i64 0, .int .i64 0, .int .i64 0, .int .i64 0, .int .i64 0, .int .i64 0] 33)))
 clear hb ho x0 x1 x2
 obtain ⟨x0, x1, x2⟩ := HC.out.three
 go_wp2_with fail
 generalize hN4 : w4.heap.size = N4 at *
 generalize hw5 : w4.alloc (.cells #[.slice A1 0 k1, .int .i64 0, .int .i64 0, .int .i64 0, .int .i64 0, .int .i64 0, .int .i64 0, .int .i64 0, .int .i64 0] 33) = w5 at *
 clear hN4 hw5
 replace HC := hidp HC.out.drw
 replace HS := hidp HS.out.drw
 replace HV : Hid (RowF w5.drew g1 37 n c1 (valF (frV t p))) := hidp (HV.out.keep (Bdrew (B0 _)))
 replace HO := hidp (own_below HO.out (Bdrew (B0 _)))
 replace HB := hidp (Bdrew HB.out)
 refine wp_region_held_drew (S := (fun w' => (w'.cell? ⟨N4, 0, none⟩ = some (.slice A1 0 k1) /\ w'.cell? ⟨N4, 1, none⟩ = some (.int .i64 0) /\ w'.cell? ⟨N4, 2, none⟩ = some (.int .i64 0) /\ w'.cell? ⟨N4, 3, none⟩ = some (.int .i64 0) /\ w'.cell? ⟨N4, 4, none⟩ = some (.int .i64 0) /\ w'.cell? ⟨N4, 5, none⟩ = some (.int .i64 0) /\ w'.cell? ⟨N4, 6, none⟩ = some (.int .i64 0) /\ w'.cell? ⟨N4, 7, none⟩ = some (.int .i64 0) /\ w'.cell? ⟨N4, 8, none⟩ = some (.int .i64 0)) /\ (w'.cell? ⟨W.heap.size, 0, none⟩ = some (.int .i64 (t : Int)) /\ w'.cell? ⟨W.heap.size, 1, none⟩ = some (.int .i64 (p : Int)) /\ w'.cell? ⟨W.heap.size, 2, none⟩ = some (.int .i64 (s : Int))) /\ w'.cell? ⟨g1, 0, none⟩ = some (.int .u32 (p : Int)))) (by kernel_rfl) ?_ (fun hHeld => ?_)
 ·(try dsimp only)
  first | exact ⟨HS.out.nine, HC.out.three, HV.out.cell (i := 0) h0n⟩ | exact hHeld
 refine tkz 0 ?_
 refine tkz 1 ?_
 refine tkz 2 ?_
 refine tkz 3 ?_
 refine rdz 4 fun K hK => ?_
 go_simp
 refine (xSame_c [] [] A1 none 0 0 k1 0 0 0 0 0 0 0 0 0 0 0 0 0 0 0 0 0 0 0 _ rfl rfl (Nat.zero_le _) (Nat.zero_le _) HO.out (World.ownsRow_nil _ _ _ _) true ⟨fun _ => ⟨rfl, rfl⟩, fun _ => rfl⟩).mono ?_
 rintro e w6 ⟨rfl, hb⟩
 replace HC := hidp (HC.out.keep hb)
 replace HS := hidp (HS.out.keep hb)
 replace HV := hidp (HV.out.keep hb)
 replace HB := hidp (Bgo HB.out hb)
 clear hb
 refine hK.out _ _ ?_ (fun hHeld => ?_)
 ·(try dsimp only)
  first | exact ⟨HS.out.nine, HC.out.three, HV.out.cell (i := 0) h0n⟩ | exact hHeld
 clear hK K
 (try simp only [Act.put, gA, gB, gC, sA, sB, sC])
 refine tkz 5 ?_
 refine tkz 6 ?_
 refine tkz 7 ?_
 refine tkz 8 ?_
 refine tkz 9 ?_
 refine tkz 10 ?_
 refine tkz 11 ?_
 refine tkz 12 ?_
 refine tkz 13 ?_
 refine tkz 14 ?_
 refine tkz 15 ?_
 refine tkz 16 ?_
 refine tkz 17 ?_
 refine tkz 18 ?_
 refine tkz 19 ?_
 refine rdz 20 fun K hK => ?_
 go_simp
 have hb := Bnew (B0 w6) (.cells (madeCells noPk (t * 9)) 60)
 have HPK : Hid (PksAt (w6.alloc (.cells (madeCells noPk (t * 9)) 60)) (some ⟨w6.heap.size, 0, none⟩) t (fun _ _ => ⟨none, 0, 0⟩) (fun _ _ => [])) := hidp (pks_made t w6)
 replace HC := hidp (HC.out.keep hb)
 replace HS := hidp (HS.out.keep hb)
 replace HV := hidp (HV.out.keep hb)
 replace HB := hidp (Bgo HB.out hb)
 clear hb
 generalize hNP : w6.heap.size = NP at HPK ⊢
 generalize hwp : w6.alloc (.cells (madeCells noPk (t * 9)) 60) = wp at *
 clear hNP hwp
 refine hK.out _ _ ?_ (fun hHeld => ?_)
 ·(try dsimp only)
  first | exact ⟨HS.out.nine, HC.out.three, HV.out.cell (i := 0) h0n⟩ | exact hHeld
 clear hK K
 (try simp only [Act.put, gA, gB, gC, sA, sB, sC])
 refine rdz 21 fun K hK => ?_
 go_simp
 refine (HFT.out _ _ _ HV.out _ _ _ (Nat.le_refl _) (by unfold maxLen; omega) HPK.out).mono ?_
 rintro e w7 ⟨rfl, hb⟩
 replace HC := hidp (HC.out.keep hb)
 replace HS := hidp (HS.out.keep hb)
 replace HV := hidp (HV.out.keep hb)
 replace HB := hidp (Bgo HB.out hb)
 clear hb
 clear HPK
 refine hK.out _ _ ?_ (fun hHeld => ?_)
 ·(try dsimp only)
  first | exact ⟨HS.out.nine, HC.out.three, HV.out.cell (i := 0) h0n⟩ | exact hHeld
 clear hK K
 (try simp only [Act.put, gA, gB, gC, sA, sB, sC])
 refine tkz 22 ?_
 refine tkz 23 ?_
 refine tkz 24 ?_
 refine rdz 25 fun K hK => ?_
 go_simp
 refine (HWO.out _).mono ?_
 rintro e w8 ⟨g2, c2, rfl, hv2, _, hb⟩
 have hc2 := hv2.le
 have hcm2 : c2 <= 9223372036854775807 := hv2.max
 clear hv2
 replace HC := hidp (HC.out.keep hb)
 replace HS := hidp (HS.out.keep hb)
 replace HV := hidp (HV.out.keep hb)
 replace HB := hidp (Bgo HB.out hb)
 clear hb
 refine hK.out _ _ ?_ (fun hHeld => ?_)
 ·(try dsimp only)
  first | exact ⟨HS.out.nine, HC.out.three, HV.out.cell (i := 0) h0n⟩ | exact hHeld
 clear hK K
 (try simp only [Act.put, gA, gB, gC, sA, sB, sC])
 refine tkz 26 ?_
 refine tkz 27 ?_
 refine tkz 28 ?_
 refine tkz 29 ?_
 refine tkz 30 ?_
 refine rdz 31 fun K hK => ?_
 go_simp
 refine (live25_c _).mono ?_
 rintro e w9 ⟨rfl, hb⟩
 replace HC := hidp (HC.out.keep hb)
 replace HS := hidp (HS.out.keep hb)
 replace HV := hidp (HV.out.keep hb)
 replace HB := hidp (Bgo HB.out hb)
 clear hb
 refine hK.out _ _ ?_ (fun hHeld => ?_)
 ·(try dsimp only)
  first | exact ⟨HS.out.nine, HC.out.three, HV.out.cell (i := 0) h0n⟩ | exact hHeld
 clear hK K
 (try simp only [Act.put, gA, gB, gC, sA, sB, sC])
 refine tkz 32 ?_
 refine tkz 33 ?_
 refine dnz ?_
 go_wp2
 go_ret
 exact ⟨rfl, HB.out⟩
theorem FreshHolds_calls (t p s : Int) (W : World) : Calls Tryz.prog 3 #[.agg #[.int .i64 t, .int .i64 p, .int .i64 s]] W (Keeps W) := by
 cases hr : rightB t p s
 ·exact FreshHolds_no t p s hr W
 ·have hri := (rightB_iff t p s).1 hr
  have e1 : ((t.toNat : Nat) : Int) = t := by omega
  have e2 : ((p.toNat : Nat) : Int) = p := by omega
  have e3 : ((s.toNat : Nat) : Int) = s := by omega
  have h : rightB (t.toNat : Int) (p.toNat : Int) (s.toNat : Int) = true := by rw [e1, e2, e3]; exact hr
  rcases Nat.lt_or_ge 64 p.toNat with hq | hq
  ·have := FreshHolds_big t.toNat p.toNat s.toNat _ h rfl hq W
   rw [e1, e2, e3] at this
   exact this
  ·have := FreshHolds_main t.toNat p.toNat s.toNat _ _ h rfl rfl hq W
   rw [e1, e2, e3] at this
   exact this
end
end Go.Proofs.YtlpcdfcghgapkaaGreat

namespace Go.Proofs.YtlpcdfcghgapkaaGreat
open Go.ChangeShapes Go.WideShapes Go.ChangeAt Go.RowKit
set_option linter.unusedVariables false
set_option linter.unusedSimpArgs false
section
set_option maxRecDepth 100000 in
theorem open_conf {H : Type} {enc : TypeId × Value -> H} {W : World} {b base : Nat} {sp : Nat -> Bool} {held : Bool} {v : Value} {d : DataW H} {p : List MemPlace}
  (hv : Value.okWide Tryz.prog W .any b 23 v) (h : DataW.Trod enc Tryz.prog W base sp held 23 v d p) :
  ∃ (t q s : Int), v = .agg #[.int .i64 t, .int .i64 q, .int .i64 s] := by
 obtain ⟨v0, v1, v2, y0, y1, y2, m, rfl, rfl, rfl, h0, h1, h2⟩ := Joins.open_agg3 Tryz.underlying23 (by kernel_rfl) (by kernel_rfl) hv h
 obtain ⟨a, e0, _, w0⟩ := DataW.trod_int Tryz.underlying3 h0
 obtain ⟨c, e1, _, w1⟩ := DataW.trod_int Tryz.underlying3 h1
 obtain ⟨k, e2, _, w2⟩ := DataW.trod_int Tryz.underlying3 h2
 simp at e0 e1 e2
 subst e0 e1 e2
 exact ⟨a, c, k, rfl⟩
end
end Go.Proofs.YtlpcdfcghgapkaaGreat
