/-
  The comparisons Vals (nacreref01) and Pairs (nacreref11) of two lists that are the same. Written by view/gen_same.py.
-/
import Derived.Test.YthiobfghanlelaaYRow
import Derived.Test.YthiobfghanlelaaYPut
import Derived.Test.YthiobfghanlelaaYRef
import Derived.Deep.RegionHeld3
namespace Go.Proofs.Ythiobfghanlelaa
open Go.ChangeShapes Go.WideShapes Go.ChangeAt Go.RowKit
set_option linter.unusedVariables false
set_option maxRecDepth 100000
set_option linter.unusedSimpArgs false

theorem valVs_len (l : List Nat) : (valVs l).length = l.length := by unfold valVs; simp
theorem valVs_at (l : List Nat) (k : Nat) (h : k < l.length) : (valVs l)[k]? = some (.int .u32 ((l.getD k 0 : Nat) : Int)) := by
  unfold valVs
  simp [List.getD, List.getElem?_eq_getElem h]
/-- a slice value whose elements are these pairs -/
def RowP (w : World) (v : Value) (l : List (Nat × Nat)) : Prop :=
  l.length ≤ maxLen ∧ ((v = .slice none 0 0 ∧ l = []) ∨ ∃ g c, v = .slice (some ⟨g, 0, none⟩) l.length c ∧ g < w.heap.size ∧ ∀ i u, (prVs l)[i]? = some u → w.cell? ⟨g, i, none⟩ = some u)
theorem RowP.below {w w' : World} {v : Value} {l : List (Nat × Nat)} (h : RowP w v l) (hb : Below w.heap.size w w') : RowP w' v l := by
  refine ⟨h.1, ?_⟩
  rcases h.2 with h | ⟨g, c, hv, hg, hc⟩
  · exact .inl h
  · exact .inr ⟨g, c, hv, Nat.lt_of_lt_of_le hg hb.size, fun i u hu => (hb.cell (p := ⟨g, i, none⟩) hg).trans (hc i u hu)⟩
theorem RowP.of_own {w : World} {base : Nat} {e : TypeId} {v : Value} {l : List (Nat × Nat)} (h : w.ownsRow base e 2 v l.length (prVs l)) : RowP w v l := by
  rcases h.2 with ⟨rfl, hn⟩ | ⟨g, cap, cur, rfl, hb, hg, hnc, hcm, hcs, htake⟩
  · exact ⟨by omega, .inl ⟨rfl, List.eq_nil_of_length_eq_zero hn⟩⟩
  · have hl := h.lt g rfl
    refine ⟨by omega, .inr ⟨g, cap, rfl, hl.2, fun i u hu => ?_⟩⟩
    have hi : i < (prVs l).length := by
      rcases Nat.lt_or_ge i (prVs l).length with h3 | h3
      · exact h3
      · rw [List.getElem?_eq_none h3] at hu; cases hu
    rw [prVs_len] at hi
    rw [h.cellAt i hi, hu]

theorem Pairs_same (l : List (Nat × Nat)) (v u : Value) (w : World) (h1 : RowP w v l) (h2 : RowP w u l) :
    Calls Try.prog 41 #[v, u] w fun e w' => e = .returned (.bool true) ∧ ∃ n, w' = w.drewN n := by
  have hm := h1.1
  unfold maxLen at hm
  by_cases hx : l = []
  · subst hx
    have hv : ∃ A c, v = .slice A 0 c := by
      rcases h1.2 with ⟨rfl, _⟩ | ⟨g, c, rfl, _⟩
      · exact ⟨_, _, rfl⟩
      · exact ⟨_, _, rfl⟩
    have hu : ∃ A c, u = .slice A 0 c := by
      rcases h2.2 with ⟨rfl, _⟩ | ⟨g, c, rfl, _⟩
      · exact ⟨_, _, rfl⟩
      · exact ⟨_, _, rfl⟩
    obtain ⟨A, c, rfl⟩ := hv
    obtain ⟨B, d, rfl⟩ := hu
    clear h1 h2
    go_enter Try.func41, Try.ntmps41
    go_wp2
    refine wp_loop_rounds 1 ?_
    rw [rounds_succ]
    go_wp2
    go_ret
    exact ⟨rfl, 0, rfl⟩
  · rcases h1.2 with ⟨_, h⟩ | ⟨g, c, rfl, _, hc⟩
    · exact absurd h hx
    rcases h2.2 with ⟨_, h⟩ | ⟨g2, c2, rfl, _, hc2⟩
    · exact absurd h hx
    have HC : Hid (∀ k, k < l.length → w.cell? ⟨g, k * 2, none⟩ = some (.int .i64 (cellW l k : Int)) ∧ w.cell? ⟨g, k * 2 + 1, none⟩ = some (.int .u32 (atW l k : Int))) := hidp (fun k hk => ⟨hc _ _ (prVs_at l k hk).1, hc _ _ (prVs_at l k hk).2⟩)
    have HC2 : Hid (∀ k, k < l.length → w.cell? ⟨g2, k * 2, none⟩ = some (.int .i64 (cellW l k : Int)) ∧ w.cell? ⟨g2, k * 2 + 1, none⟩ = some (.int .u32 (atW l k : Int))) := hidp (fun k hk => ⟨hc2 _ _ (prVs_at l k hk).1, hc2 _ _ (prVs_at l k hk).2⟩)
    clear hc hc2 h1 h2 hx
    generalize hn : l.length = n at *
    clear hn
    go_enter Try.func41, Try.ntmps41
    go_wp2
    go_loopw [5] (fun i wr => ∃ k m : Nat, k ≤ n ∧ i = .int .i64 k ∧ wr = w.drewN m) (fun i _ => n - (intOf i).toNat)
    case atStart => exact ⟨0, 0, by omega, rfl, rfl⟩
    case round =>
      obtain ⟨k, m, hk, rfl, rfl⟩ := hrel
      by_cases hlt : k < n
      · obtain ⟨c1, d1⟩ := HC.out k hlt
        obtain ⟨c2, d2⟩ := HC2.out k hlt
        generalize cellW l k = x at *
        generalize atW l k = y at *
        go_wp2
        go_quiet (fail)
        go_wp2
        go_roundw
        case rel => exact ⟨k + 1, _, by omega, by go_num, rfl⟩
        case measure => simp [intOf]; omega
      · go_wp2
        go_ret
        exact ⟨rfl, m, rfl⟩
end Go.Proofs.Ythiobfghanlelaa

/-
  A slice of values of 32 bits that came in, opened. (Made of XKit's open_words.)
-/
namespace Go.Proofs.Ythiobfghanlelaa
open Go.ChangeShapes Go.WideShapes Go.ChangeAt Go.RowKit
set_option linter.unusedVariables false
set_option maxRecDepth 100000

section
variable {H : Type} {enc : TypeId × Value → H} {P : Program} {w : World} {base : Nat} {sp : Nat → Bool} {held : Bool}
/-- a slice of values that came in: nil or not, it reads as a list of values -/
theorem open_vals {t e : TypeId} {v : Value} {d : DataW H} {p : List MemPlace} (ht : P.underlying t = some (.slice e)) (he : P.underlying e = some (.int .u32)) (hc : P.cellsOf e = 1)
    {r : Reach} {b0 : Nat} (hval : Value.okWide P w r b0 t v) (h : DataW.Trod enc P w base sp held t v d p) (hlt : ∀ x ∈ p, x.block < w.heap.size) :
    ∃ (A : Option Addr) (c : Nat) (ws : List Nat), v = .slice A ws.length c ∧ ws.length ≤ c ∧ c ≤ maxLen ∧ (∀ x ∈ ws, x < 2 ^ 32) ∧ Reads w w.heap.size 1 A ws.length (valVs ws) := by
  obtain ⟨fuel, hf⟩ := h
  have hv : v.cells = #[v] := by
    obtain ⟨A, n, c, rfl⟩ := okWide_slice ht hval
    rfl
  rw [hv] at hf
  rcases open_ints ht he hc hf with ⟨hcs, _⟩ | ⟨a, len, cap, zs, hcs, hb, hl, hm, hz, hx, hcell, hwf⟩
  · injection hcs with hcs
    subst hcs
    exact ⟨none, 0, [], rfl, Nat.le_refl _, Nat.zero_le _, by simp, Reads.none_⟩
  · injection hcs with hcs
    subst hcs
    have hlz : len ≤ zs.length := by rw [hz]; split <;> omega
    have hlen : ((zs.take len).map Int.toNat).length = len := by simp; omega
    refine ⟨some a, cap, (zs.take len).map Int.toNat, by rw [hlen], by rw [hlen]; exact hl, hm, ?_, ?_⟩
    · intro x hx
      obtain ⟨z, hz1, rfl⟩ := List.mem_map.1 hx
      obtain ⟨n, rfl, hn⟩ := u32_nat (hwf z (List.mem_of_mem_take hz1))
      simpa using hn
    · refine ⟨by rw [valVs_len]; omega, fun hn => ?_⟩
      rw [hlen] at hn
      refine ⟨a, rfl, ?_, fun j u hu => ?_⟩
      · have hp : (p : List MemPlace) = MemPlace.row a zs.length := by
          have := congrArg Prod.snd hx
          simpa using this
        have h0 : MemPlace.cell a.block a.off ∈ p ∨ (∃ x ∈ p, x.block = a.block) := by
          right
          rw [hp]
          refine ⟨(MemPlace.row a zs.length)[0]'(by simp [MemPlace.row]; omega), List.getElem_mem _, ?_⟩
          simp [MemPlace.row, MemPlace.block]
        rcases h0 with h0 | ⟨x, hx1, hx2⟩
        · exact hlt _ h0
        · rw [← hx2]; exact hlt x hx1
      · unfold valVs at hu
        rw [List.map_map] at hu
        have hj : j < len := by
          rcases Nat.lt_or_ge j len with h1 | h1
          · exact h1
          · rw [List.getElem?_eq_none (by simp; omega)] at hu; cases hu
        rw [List.getElem?_map, List.getElem?_take_of_lt hj, List.getElem?_eq_getElem (by omega)] at hu
        simp only [Option.map_some, Option.some.injEq, Function.comp_apply] at hu
        subst hu
        rw [hcell j (by omega)]
        have hw := hwf zs[j] (List.getElem_mem _)
        obtain ⟨n, hn1, _⟩ := u32_nat hw
        have : (zs.getD j 0) = zs[j] := by simp [List.getD, List.getElem?_eq_getElem (show j < zs.length by omega)]
        rw [this, hn1]
        simp
end
end Go.Proofs.Ythiobfghanlelaa

/-
  The document's answer for Views: has, Get.
-/
namespace Go.Proofs.Ythiobfghanlelaa
open Go.ChangeShapes Go.WideShapes Go.ChangeAt Go.RowKit Go.Maps
set_option linter.unusedVariables false
set_option maxRecDepth 100000
set_option linter.unusedSimpArgs false

theorem has11_c (A : Option Addr) (c q : Nat) (l : List Nat) (hl : l.length = q) (hqc : q ≤ c) (hc : c ≤ maxLen) (i : Nat) (w : World) (hR : Reads w w.heap.size 1 A q (ntVs l)) :
    Calls Try.prog 52 #[.slice A q c, .int .i64 (i : Int)] w fun e w' => e = .returned (.bool (decide (i ∈ l))) ∧ w' = w := by
  have HR := hidp hR
  have HL := hidp hl
  have hc2 : c ≤ 9223372036854775807 := hc
  clear hR hl
  go_enter Try.func52, Try.ntmps52
  go_wp2_with fail
  go_loopw [5] (fun j wr => ∃ k : Nat, k ≤ q ∧ j = .int .i64 k ∧ Hid (i ∉ l.take k) ∧ wr = w) (fun j _ => q - (intOf j).toNat)
  case atStart => exact ⟨0, by omega, rfl, hidp (by simp), rfl⟩
  case round =>
    obtain ⟨k, hk, rfl, HN, rfl⟩ := hrel
    by_cases hlt : k < q
    · obtain ⟨x, hx⟩ : ∃ x, l[k]? = some x := ⟨_, List.getElem?_eq_getElem (by rw [HL.out]; exact hlt)⟩
      obtain ⟨ad, rfl, _, hcl⟩ := HR.out.2 (by omega)
      have x0 : wr.cell? (ad.add k) = some (.int .i64 (x : Int)) := hcl k _ (by unfold ntVs; rw [List.getElem?_map, hx]; rfl)
      have HT : Hid (l.take (k + 1) = l.take k ++ [x]) := hidp (by rw [List.take_add_one, hx]; rfl)
      clear hcl
      by_cases he : x = i
      · subst he
        have HV : Hid (decide (x ∈ l) = true) := hidp (decide_eq_true (List.mem_of_getElem? hx))
        clear hx
        go_wp2
        go_ret
        exact ⟨by rw [HV.out]; rfl, rfl⟩
      · have t0 : ((x : Int) == i) = false := by simp; omega
        have t1 : (x == i) = false := by simpa using he
        have HN2 : Hid (i ∉ l.take (k + 1)) := hidp (by
          rw [HT.out, List.mem_append]
          rintro (h | h)
          · exact HN.out h
          · simp at h; exact he h.symm)
        clear hx he
        go_wp2
        go_roundw
        case rel => exact ⟨k + 1, by omega, by go_num, HN2, by trivial⟩
        case measure => simp [intOf]; omega
    · obtain rfl : k = q := by omega
      have HV : Hid (decide (i ∈ l) = false) := hidp (decide_eq_false (by
        have := HN.out
        rwa [List.take_of_length_le (by have := HL.out; omega)] at this))
      go_wp2
      go_ret
      exact ⟨by rw [HV.out]; rfl, rfl⟩

theorem RGet_no {base b n : Nat} {all : Bool} {v : Nat → Value} {K : Nat → Option Nat} {s : Vst} (a : Int) (ho : opn n s a = false) (w : World) (h : IsRefV w base b n all v K s) :
    Calls Try.prog 36 #[.pointer (some ⟨b, 0, none⟩), .int .i64 a] w fun e w' => e = .returned (.int .u32 0) ∧ w' = w := by
  obtain ⟨c0, _, _, _, _, _, _, c7, _⟩ := h.cells
  clear h
  rcases Int.lt_or_le a 0 with h1 | h1
  · have t0 : decide (a < 0) = true := decide_eq_true h1
    go_enter Try.func36, Try.ntmps36
    go_wp2
    go_ret
    exact ⟨rfl, rfl⟩
  · have t0 : decide (a < 0) = false := decide_eq_false (by omega)
    rcases Int.lt_or_le a n with h2 | h2
    · have t1 : decide ((n : Int) ≤ a) = false := decide_eq_false (by omega)
      have hl : s.lost = true := by
        unfold opn at ho
        cases hh : s.lost with
        | true => rfl
        | false =>
          rw [hh, decide_eq_true (p := 0 ≤ a ∧ a < n) ⟨h1, h2⟩] at ho
          cases ho
      have hm : missI s = (s.miss : Int) := by unfold missI; rw [hl]; rfl
      rw [hm] at c7
      have t2 : decide ((0 : Int) ≤ (s.miss : Int)) = true := decide_eq_true (by omega)
      clear hm hl ho
      go_enter Try.func36, Try.ntmps36
      go_wp2
      go_ret
      exact ⟨rfl, rfl⟩
    · have t1 : decide ((n : Int) ≤ a) = true := decide_eq_true (by omega)
      go_enter Try.func36, Try.ntmps36
      go_wp2
      go_ret
      exact ⟨rfl, rfl⟩

theorem missI_no {s : Vst} (h : s.lost = false) : missI s = -1 := by unfold missI; rw [h]; rfl

theorem RGet_put {base b n : Nat} {all : Bool} {v : Nat → Value} {K : Nat → Option Nat} {s : Vst} (i k : Nat) (hl : s.lost = false) (hk : pos s.wr i = some k) (hi : i < n) (w : World) (h : IsRefV w base b n all v K s) :
    Calls Try.prog 36 #[.pointer (some ⟨b, 0, none⟩), .int .i64 (i : Int)] w fun e w' => e = .returned (.int .u32 ((atW s.wr k : Nat) : Int)) ∧ w' = w := by
  have hn := h.nmax
  obtain ⟨c0, _, _, c3, c4, _, _, c7, _⟩ := h.cells
  obtain ⟨g2, p2, hv2, hp2, hm2, hg2, hl2, hr2⟩ := h.row (i := 2) (by omega) (by omega)
  obtain ⟨g3, p3, hv3, hp3, hm3, hg3, hl3, hr3⟩ := h.row (i := 3) (by omega) (by omega)
  have d2 := (hr2 i hi).1.trans (rX_2 n K s hi)
  have d3 := (hr3 i hi).1.trans (rX_3 n K s hi)
  have hto : toV s.wr i = atW s.wr k := by unfold toV; rw [hk]
  rw [hk] at d2
  rw [hto] at d3
  rw [hv2] at c3
  rw [hv3] at c4
  rw [missI_no hl] at c7
  have t0 : decide ((i : Int) < 0) = false := decide_eq_false (by omega)
  have t1 : decide ((n : Int) ≤ i) = false := decide_eq_false (by omega)
  have t2 : decide (n ≤ i) = false := decide_eq_false (by omega)
  clear h hr2 hr3 hv2 hv3 hto hk hl
  go_enter Try.func36, Try.ntmps36
  go_wp2
  go_ret
  exact ⟨rfl, rfl⟩

theorem rN_rd (n : Nat) (s : Vst) (i : Nat) : ∀ j, j < 6 → updF (rN n s) 4 (s.rd.length + 1) j = rN n { s with rd := s.rd ++ [i] } j := six rfl rfl rfl rfl (by simp [updF, rN]) rfl
theorem rX_rd (n : Nat) (K : Nat → Option Nat) (s : Vst) (i : Nat) : ∀ j, j < 6 → updF (rX n K s) 4 (ntVs s.rd ++ [.int .i64 (i : Int)]) j = rX n K { s with rd := s.rd ++ [i] } j := six rfl rfl rfl rfl (by simp [updF, rX, ntVs]) rfl
theorem OwnAll.rowAt {w : World} {base b k : Nat} {e : Nat → TypeId} {sz : Nat → Nat} {v : Nat → Value} {n : Nat → Nat} {xs : Nat → List Value} (h : OwnAll w base b k e sz v n xs) {i : Nat} (hi : i < k) {T : TypeId} {z m : Nat} {ys : List Value} (h1 : e i = T) (h2 : sz i = z) (h3 : n i = m) (h4 : xs i = ys) : w.ownsRow base T z (v i) m ys := by
  subst h1 h2 h3 h4
  exact h.own i hi

theorem RGet_known {base b n : Nat} {all : Bool} {v : Nat → Value} {K : Nat → Option Nat} {s : Vst} (i x : Nat) (hl : s.lost = false) (hk : pos s.wr i = none) (hi : i < n) (hx : K i = some x) (hlim : s.rd.length < 2 ^ 40) (w : World) (h : IsRefV w base b n all v K s) :
    Calls Try.prog 36 #[.pointer (some ⟨b, 0, none⟩), .int .i64 (i : Int)] w fun e w' => e = .returned (.int .u32 (x : Int)) ∧ LeftR w base b n all v K (noteS s i) w' := by
  have hn := h.nmax
  obtain ⟨c0, c1, c2, c3, _, c5, _, c7, _⟩ := h.cells
  obtain ⟨g0, p0, hv0, hp0, hm0, hg0, hl0, hr0⟩ := h.row (i := 0) (by omega) (by omega)
  obtain ⟨g1, p1, hv1, hp1, hm1, hg1, hl1, hr1⟩ := h.row (i := 1) (by omega) (by omega)
  obtain ⟨g2, p2, hv2, hp2, hm2, hg2, hl2, hr2⟩ := h.row (i := 2) (by omega) (by omega)
  have d0 := (hr0 i hi).1.trans (rX_0 n K s hi)
  have d1 := (hr1 i hi).1.trans (rX_1 n K s hi)
  have d2 := (hr2 i hi).1.trans (rX_2 n K s hi)
  rw [hx] at d0 d1
  rw [hk] at d2
  rw [hv0] at c1
  rw [hv1] at c2
  rw [hv2] at c3
  rw [missI_no hl] at c7
  have HO : Hid (w.ownsRow base 3 1 (v 4) s.rd.length (ntVs s.rd)) := hidp (h.parts.own.rowAt (by omega) rfl rfl rfl rfl)
  obtain ⟨A, cr, hv4⟩ := own_slice HO.out
  rw [hv4] at c5
  obtain ⟨hqc, hcr⟩ := vown_caps (by have := HO.out; rwa [hv4] at this)
  have HRD : Hid (Reads w w.heap.size 1 A s.rd.length (ntVs s.rd)) := hidp (Reads.of_own (by have := HO.out; rwa [hv4] at this))
  obtain ⟨q, hq⟩ : ∃ q, s.rd.length = q := ⟨_, rfl⟩
  have HQ := hidp hq
  have HV4 := hidp hv4
  have HH := hidp h
  have HV1 := hidp hv1
  have hbl := h.parts.head.lt
  have t0 : decide ((i : Int) < 0) = false := decide_eq_false (by omega)
  have t1 : decide ((n : Int) ≤ i) = false := decide_eq_false (by omega)
  have t2 : decide (n ≤ i) = false := decide_eq_false (by omega)
  rw [hq] at c5 hqc HRD hlim
  have H01 : Hid (∀ w' : World, (∀ g, g = g1 ∨ g = b → w'.heap[g]? = w.heap[g]?) → w'.cell? ⟨g1, i, none⟩ = some (.int .u32 (x : Int)) ∧ w'.cell? ⟨b, 2, none⟩ = some (.slice (some ⟨g1, 0, none⟩) n p1)) := hidp (fun w' hw => ⟨(World.cell?_of_block (a := ⟨g1, i, none⟩) (hw g1 (.inl rfl))).trans d1, (World.cell?_of_block (a := ⟨b, 2, none⟩) (hw b (.inr rfl))).trans c2⟩)
  by_cases hm : i ∈ s.rd
  · have HM : Hid (decide (i ∈ s.rd) = true) := hidp (decide_eq_true hm)
    have HN := hidp (noteS_in hm)
    clear h hr0 hr1 hr2 hv0 hv1 hv2 hv4 hk hl hx hq hm
    go_enter Try.func36, Try.ntmps36
    go_wp2_with fail
    refine (has11_c A cr q s.rd HQ.out hqc hcr i _ HRD.out).mono ?_
    rintro e w1 ⟨rfl, rfl⟩
    rw [HM.out]
    go_wp2
    go_ret
    exact ⟨rfl, by rw [HN.out]; exact LeftR.same HH.out⟩
  · have HM : Hid (decide (i ∈ s.rd) = false) := hidp (decide_eq_false hm)
    have HN := hidp (noteS_new hm)
    have HOK := hidp (h.ok.note (i := i) hi)
    have H14 : Hid (∀ g, (v 4).ownBlock = some g → g ≠ g1) := hidp (fun g hg e => by
      have := h.parts.own.apart 1 4 g1 (by omega) (by omega) (by rw [hv1]; rfl) (by rw [hg, e])
      omega)
    obtain ⟨i0, hin, hz0, hz1, hz2⟩ := info_parts intInfo
    clear h hr0 hr1 hr2 hv0 hv1 hv2 hv4 hk hl hx hq hm
    go_enter Try.func36, Try.ntmps36
    go_wp2_with fail
    refine (has11_c A cr q s.rd HQ.out hqc hcr i _ HRD.out).mono ?_
    rintro e w1 ⟨rfl, rfl⟩
    rw [HM.out]
    go_wp2_with (first
      | (at_builtin
         refine wpList_append_lies _ rfl _ _ 37 rfl base 3 i0 (.int .i64 0) 1 8 Try.underlying37 hin hz0 hz1 hz2 rfl (by decide) (.slice A q cr) q (ntVs s.rd) rfl ?c0 ⟨_, 0, none⟩ 1 1 [.int .i64 (i : Int)] rfl rfl ?c1 ?c2 (by omega) ?c3 ?c4 ?c5 _ rfl ?_
         case c0 =>
           have h9 := HO.out.alloc (.cells #[.int .i64 (i : Int)] 3)
           rw [HV4.out, HQ.out] at h9
           rw [← HQ.out] at h9 ⊢
           exact h9
         case c1 => intro j y hy; rcases j with _ | j; (· simp at hy; subst hy; simp [Addr.add]); (· simp at hy)
         case c2 => simp [Value.oneCell']
         case c3 => unfold maxLen; omega
         case c4 => omega
         case c5 => have := HH.out.parts.bb; have := HH.out.parts.head.lt; simp; omega
         intro g cap w4 hown4 hgrow4 hat4 hlt4
         obtain ⟨hp4, hA4, hT4⟩ := (HH.out.parts.keep (Bnew (B0 w1) (.cells #[.int .i64 (i : Int)] 3))).grow (i := 4) (by omega) hown4 (by rw [HV4.out, HQ.out]; exact hgrow4) (fun q' hq' => by
           have hq' : g = q' := by simpa [Value.ownBlock] using hq'
           subst hq'
           rcases hat4 with h1 | h1
           · left; rw [HV4.out, HQ.out]; exact h1
           · right; rw [h1]; exact Nat.le_refl _)
         have c5' : w4.cell? ⟨b, 5, none⟩ = some (.slice A q cr) := (hp4.head.cell 5).trans (by rw [← HQ.out, ← HV4.out]; rfl)
         have f5 := hp4.head.thawed 5
         have y9 := H01.out w4 (fun z hz => by
           have hz1 : z < w1.heap.size := by rcases hz with rfl | rfl; exact hl1; exact hbl
           refine (hgrow4.block z (by simp; omega) (fun e => ?_)).trans ((Bnew (B0 w1) (.cells #[.int .i64 (i : Int)] 3)).block z hz1)
           have e : (v 4).ownBlock = some z := by rw [HV4.out, HQ.out]; exact e.symm
           rcases hz with rfl | rfl
           · exact H14.out _ e rfl
           · exact HH.out.parts.own.notb 4 (by omega) e)
         obtain ⟨y1, y2⟩ := y9
         have HP4 := hidp hp4
         have HA4 := hidp hA4
         have HT4 := hidp (((T0 (OwnF b 6 v) w1).alloc (.cells #[.int .i64 (i : Int)] 3)).trans hT4)
         clear hp4 hA4 hT4 hown4 hgrow4 hat4)
      | go_in)
    go_ret
    obtain ⟨hp5, _⟩ := HP4.out.setHead 5 (.slice (some ⟨g, 0, none⟩) (q + 1) cap)
    refine ⟨rfl, updF v 4 (.slice (some ⟨g, 0, none⟩) (q + 1) cap), ?_, fun z hz => ?_, HT4.out.put (p := ⟨b, 5, none⟩) (.inl rfl) _⟩
    · rw [HN.out] at HOK ⊢
      refine { parts := hp5.congr rfl ?_ (rX_rd n K s i), ok := HOK.out, nmax := hn, k32 := HH.out.k32 }
      rw [← HQ.out]
      exact rN_rd n s i
    · rcases HA4.out z hz with h1 | h1
      · exact .inl h1
      · simp at h1
        exact .inr (by omega)

theorem RGet_lost {base b n : Nat} {all : Bool} {v : Nat → Value} {K : Nat → Option Nat} {s : Vst} (i : Nat) (hl : s.lost = false) (hk : pos s.wr i = none) (hi : i < n) (hx : K i = none) (w : World) (h : IsRefV w base b n all v K s) :
    Calls Try.prog 36 #[.pointer (some ⟨b, 0, none⟩), .int .i64 (i : Int)] w fun e w' => e = .returned (.int .u32 0) ∧ LeftR w base b n all v K { s with lost := true, miss := i } w' := by
  have hn := h.nmax
  obtain ⟨c0, c1, _, c3, _, _, _, c7, _⟩ := h.cells
  obtain ⟨g0, p0, hv0, hp0, hm0, hg0, hl0, hr0⟩ := h.row (i := 0) (by omega) (by omega)
  obtain ⟨g2, p2, hv2, hp2, hm2, hg2, hl2, hr2⟩ := h.row (i := 2) (by omega) (by omega)
  have d0 := (hr0 i hi).1.trans (rX_0 n K s hi)
  have d2 := (hr2 i hi).1.trans (rX_2 n K s hi)
  rw [hx] at d0
  rw [hk] at d2
  rw [hv0] at c1
  rw [hv2] at c3
  rw [missI_no hl] at c7
  have f7 := h.parts.head.thawed 7
  have HH := hidp h
  have t0 : decide ((i : Int) < 0) = false := decide_eq_false (by omega)
  have t1 : decide ((n : Int) ≤ i) = false := decide_eq_false (by omega)
  have t2 : decide (n ≤ i) = false := decide_eq_false (by omega)
  clear h hr0 hr2 hv0 hv2 hk hl hx
  go_enter Try.func36, Try.ntmps36
  go_wp2
  go_ret
  obtain ⟨hp, ht⟩ := HH.out.parts.setHead 7 (.int .i64 (i : Int))
  exact ⟨rfl, v, { parts := hp.congr rfl (fun _ _ => rfl) (fun _ _ => rfl), ok := { HH.out.ok with mLt := fun _ => hi }, nmax := hn, k32 := HH.out.k32 }, fun g hg => .inl hg, ht⟩

theorem VRGet_c {base b n : Nat} {all : Bool} {v : Nat → Value} {K : Nat → Option Nat} {s : Vst} (a : Int) (h1 : s.rd.length < 2 ^ 40) (w : World) (h : IsRefV w base b n all v K s) :
    Calls Try.prog 36 #[.pointer (some ⟨b, 0, none⟩), .int .i64 a] w fun e w' => e = .returned (.int .u32 ((getV n K s a : Nat) : Int)) ∧ LeftR w base b n all v K (getS n K s a) w' := by
  by_cases ho : opn n s a = true
  · obtain ⟨i, rfl, hi, hl⟩ := opn_at ho
    cases hp : pos s.wr i with
    | some k =>
      rw [getV_put ho hp, getS_put ho hp]
      refine (RGet_put i k hl hp hi w h).mono ?_
      rintro e w1 ⟨rfl, rfl⟩
      exact ⟨rfl, LeftR.same h⟩
    | none =>
      cases hk : K i with
      | some x =>
        rw [getV_known ho hp hk, getS_known ho hp hk]
        exact RGet_known i x hl hp hi hk h1 w h
      | none =>
        rw [getV_lost ho hp hk, getS_lost ho hp hk]
        exact RGet_lost i hl hp hi hk w h
  · have ho : opn n s a = false := by simpa using ho
    rw [getV_no ho, getS_no ho]
    refine (RGet_no a ho w h).mono ?_
    rintro e w1 ⟨rfl, rfl⟩
    exact ⟨rfl, LeftR.same h⟩
end Go.Proofs.Ythiobfghanlelaa

/-
  The document's answer for Views: Put, Writes, Vals, Same. Written by view/gen_ref5.py.
-/
namespace Go.Proofs.Ythiobfghanlelaa
open Go.ChangeShapes Go.WideShapes Go.ChangeAt Go.RowKit Go.Maps
set_option linter.unusedVariables false
set_option maxRecDepth 100000
set_option linter.unusedSimpArgs false

theorem RPut_no {base b n : Nat} {all : Bool} {v : Nat → Value} {K : Nat → Option Nat} {s : Vst} (a x : Int) (ho : opn n s a = false) (w : World) (h : IsRefV w base b n all v K s) :
    Calls Try.prog 38 #[.pointer (some ⟨b, 0, none⟩), .int .i64 a, .int .u32 x] w fun e w' => e = .returned (.tuple #[]) ∧ w' = w := by
  obtain ⟨c0, _, _, _, _, _, _, c7, _⟩ := h.cells
  clear h
  rcases Int.lt_or_le a 0 with h1 | h1
  · have t0 : decide (a < 0) = true := decide_eq_true h1
    go_enter Try.func38, Try.ntmps38
    go_wp2
    (try simp only [Exit.inBlock, Exit.then])
    refine bodyPost_ret (results_none rfl _ _ _) rfl ?_
    exact ⟨rfl, rfl⟩
  · have t0 : decide (a < 0) = false := decide_eq_false (by omega)
    rcases Int.lt_or_le a n with h2 | h2
    · have t1 : decide ((n : Int) ≤ a) = false := decide_eq_false (by omega)
      have hl : s.lost = true := by
        unfold opn at ho
        cases hh : s.lost with
        | true => rfl
        | false =>
          rw [hh, decide_eq_true (p := 0 ≤ a ∧ a < n) ⟨h1, h2⟩] at ho
          cases ho
      have hm : missI s = (s.miss : Int) := by unfold missI; rw [hl]; rfl
      rw [hm] at c7
      have t2 : decide ((0 : Int) ≤ (s.miss : Int)) = true := decide_eq_true (by omega)
      clear hm hl ho
      go_enter Try.func38, Try.ntmps38
      go_wp2
      (try simp only [Exit.inBlock, Exit.then])
      refine bodyPost_ret (results_none rfl _ _ _) rfl ?_
      exact ⟨rfl, rfl⟩
    · have t1 : decide ((n : Int) ≤ a) = true := decide_eq_true (by omega)
      go_enter Try.func38, Try.ntmps38
      go_wp2
      (try simp only [Exit.inBlock, Exit.then])
      refine bodyPost_ret (results_none rfl _ _ _) rfl ?_
      exact ⟨rfl, rfl⟩

theorem atW_set {l : List (Nat × Nat)} {k i v : Nat} (h : k < l.length) : atW (l.set k (i, v)) k = v := by unfold atW; simp [List.getD, h]
theorem atW_set_ne {l : List (Nat × Nat)} {k m : Nat} {p : Nat × Nat} (h : m ≠ k) : atW (l.set k p) m = atW l m := by unfold atW; simp [List.getD, List.getElem?_set_ne (Ne.symm h)]
theorem toV_putW (l : List (Nat × Nat)) (i v j : Nat) : toV (putW l i v) j = updF (toV l) i v j := by
  unfold toV updF
  rw [pos_putW]
  cases hp : pos l i with
  | some k =>
    rw [putW_some hp]
    simp only
    have hkl := (pos_some hp).1
    by_cases e : j = i
    · subst e
      rw [if_pos rfl, hp]
      exact atW_set hkl
    · rw [if_neg e]
      cases hj : pos l j with
      | none => rfl
      | some m =>
        have hne : m ≠ k := by
          rintro rfl
          exact e ((pos_some hj).2.symm.trans (pos_some hp).2)
        exact atW_set_ne hne
  | none =>
    rw [putW_none hp]
    simp only
    by_cases e : j = i
    · subst e
      rw [if_pos rfl, if_pos rfl]
      simp [atW, List.getD]
    · rw [if_neg e, if_neg e]
      cases hj : pos l j with
      | none => rfl
      | some m =>
        have := (pos_some hj).1
        simp [atW, List.getD, List.getElem?_append_left this]
theorem isPut_putW (l : List (Nat × Nat)) (i v j : Nat) : (pos (putW l i v) j).isSome = updF (fun j => (pos l j).isSome) i true j := by
  rw [pos_putW]
  unfold updF
  cases hp : pos l i with
  | some k =>
    simp only
    by_cases e : j = i
    · subst e; simp [hp]
    · simp [e]
  | none =>
    simp only
    by_cases e : j = i <;> simp [e]
theorem rX_put2 (n : Nat) (K : Nat → Option Nat) (s : Vst) (i v : Nat) : (rX n K s 2).set i (.bool true) = rX n K { s with wr := putW s.wr i v } 2 := by
  show (rowL n (bitF fun j => (pos s.wr j).isSome)).set i (.bool true) = rowL n (bitF fun j => (pos (putW s.wr i v) j).isSome)
  rw [rowL_set]
  refine rowL_congr (fun j _ => ?_)
  show updF (fun i => Value.bool (pos s.wr i).isSome) i (.bool true) j = Value.bool (pos (putW s.wr i v) j).isSome
  rw [isPut_putW]
  unfold updF
  by_cases e : j = i <;> simp [e]
theorem rX_put3 (n : Nat) (K : Nat → Option Nat) (s : Vst) (i v : Nat) : (rX n K s 3).set i (.int .u32 (v : Int)) = rX n K { s with wr := putW s.wr i v } 3 := by
  show (rowL n (valF (toV s.wr))).set i (.int .u32 (v : Int)) = rowL n (valF (toV (putW s.wr i v)))
  rw [rowL_set]
  refine rowL_congr (fun j _ => ?_)
  show updF (fun i => Value.int .u32 ((toV s.wr i : Nat) : Int)) i (.int .u32 (v : Int)) j = Value.int .u32 ((toV (putW s.wr i v) j : Nat) : Int)
  rw [toV_putW]
  unfold updF
  by_cases e : j = i <;> simp [e]
theorem put_cells {l : List (Nat × Nat)} {i v k : Nat} (h : pos l i = some k) : (putW l i v).map (·.1) = l.map (·.1) ∧ (putW l i v).length = l.length := by
  rw [putW_some h]
  refine ⟨?_, by simp⟩
  rw [List.map_set]
  have hk := pos_some h
  apply List.ext_getElem?
  intro j
  rw [List.getElem?_set]
  split
  · rename_i e
    subst e
    have h2 := hk.2
    unfold cellW at h2
    rw [if_pos (by simpa using hk.1), List.getElem?_map, List.getElem?_eq_getElem hk.1]
    rw [List.getD, List.getElem?_eq_getElem hk.1] at h2
    exact congrArg some h2.symm
  · rfl

theorem RPut_old {base b n : Nat} {all : Bool} {v : Nat → Value} {K : Nat → Option Nat} {s : Vst} (i k x : Nat) (hl : s.lost = false) (hk : pos s.wr i = some k) (hi : i < n) (hx : x < 2 ^ 32) (w : World) (h : IsRefV w base b n all v K s) :
    Calls Try.prog 38 #[.pointer (some ⟨b, 0, none⟩), .int .i64 (i : Int), .int .u32 (x : Int)] w fun e w' => e = .returned (.tuple #[]) ∧ LeftR w base b n all v K { s with wr := putW s.wr i x } w' := by
  have hn := h.nmax
  obtain ⟨c0, _, _, c3, c4, _, _, c7, _⟩ := h.cells
  obtain ⟨g2, p2, hv2, hp2, hm2, hg2, hl2, hr2⟩ := h.row (i := 2) (by omega) (by omega)
  obtain ⟨g3, p3, hv3, hp3, hm3, hg3, hl3, hr3⟩ := h.row (i := 3) (by omega) (by omega)
  have hg23 : g3 ≠ g2 := fun e => by
    have := h.parts.own.apart 2 3 g2 (by omega) (by omega) (by rw [hv2]; rfl) (by rw [hv3, e]; rfl)
    omega
  have d2 := (hr2 i hi).1.trans (rX_2 n K s hi)
  have d3 := (hr3 i hi).1.trans (rX_3 n K s hi)
  have f2 := (hr2 i hi).2
  have f3 := (hr3 i hi).2
  rw [hk] at d2
  rw [hv2] at c3
  rw [hv3] at c4
  rw [missI_no hl] at c7
  have HH := hidp h
  have HOK : Hid (VOk n { s with wr := putW s.wr i x }) := hidp (by
    have := h.ok.put (a := (i : Int)) hx
    rwa [putS_yes (opn_yes hi hl)] at this)
  have HV2 := hidp hv2
  have HV3 := hidp hv3
  have HPC := hidp (put_cells (v := x) hk)
  have t0 : decide ((i : Int) < 0) = false := decide_eq_false (by omega)
  have t1 : decide ((n : Int) ≤ i) = false := decide_eq_false (by omega)
  have t2 : decide (n ≤ i) = false := decide_eq_false (by omega)
  clear h hr2 hr3 hv2 hv3 hk hl
  generalize toV s.wr i = old at *
  go_enter Try.func38, Try.ntmps38
  go_wp2
  go_end0
  obtain ⟨hp5, ht5⟩ := HH.out.parts.store (i := 2) (g := g2) (cap := p2) (by omega) HV2.out i (.bool true)
  obtain ⟨hp6, ht6⟩ := hp5.store (i := 3) (g := g3) (cap := p3) (by omega) HV3.out i (.int .u32 (x : Int))
  refine ⟨rfl, v, { parts := hp6.congr rfl (six rfl rfl rfl rfl rfl HPC.out.2.symm) (six rfl rfl (rX_put2 n K s i x) (rX_put3 n K s i x) rfl ?_), ok := HOK.out, nmax := hn, k32 := HH.out.k32 }, fun g hg => .inl hg, ht5.trans ht6⟩
  show ntVs (s.wr.map (·.1)) = ntVs ((putW s.wr i x).map (·.1))
  rw [HPC.out.1]

theorem RPut_new {base b n : Nat} {all : Bool} {v : Nat → Value} {K : Nat → Option Nat} {s : Vst} (i x : Nat) (hl : s.lost = false) (hk : pos s.wr i = none) (hi : i < n) (hx : x < 2 ^ 32) (hlim : s.wr.length < 2 ^ 40) (w : World) (h : IsRefV w base b n all v K s) :
    Calls Try.prog 38 #[.pointer (some ⟨b, 0, none⟩), .int .i64 (i : Int), .int .u32 (x : Int)] w fun e w' => e = .returned (.tuple #[]) ∧ LeftR w base b n all v K { s with wr := putW s.wr i x } w' := by
  have hn := h.nmax
  obtain ⟨c0, _, _, c3, c4, _, c6, c7, _⟩ := h.cells
  obtain ⟨g2, p2, hv2, hp2, hm2, hg2, hl2, hr2⟩ := h.row (i := 2) (by omega) (by omega)
  obtain ⟨g3, p3, hv3, hp3, hm3, hg3, hl3, hr3⟩ := h.row (i := 3) (by omega) (by omega)
  have hg23 : g3 ≠ g2 := fun e => by
    have := h.parts.own.apart 2 3 g2 (by omega) (by omega) (by rw [hv2]; rfl) (by rw [hv3, e]; rfl)
    omega
  have d2 := (hr2 i hi).1.trans (rX_2 n K s hi)
  rw [hk] at d2
  rw [hv2] at c3
  rw [hv3] at c4
  rw [missI_no hl] at c7
  have HO : Hid (w.ownsRow base 3 1 (v 5) s.wr.length (ntVs (s.wr.map (·.1)))) := hidp (h.parts.own.rowAt (by omega) rfl rfl rfl rfl)
  obtain ⟨A, cr, hv5⟩ := own_slice HO.out
  rw [hv5] at c6
  obtain ⟨q, hq⟩ : ∃ q, s.wr.length = q := ⟨_, rfl⟩
  have HQ := hidp hq
  have HV5 := hidp hv5
  have HH := hidp h
  have HV2 := hidp hv2
  have HV3 := hidp hv3
  have hbl := h.parts.head.lt
  have HOK : Hid (VOk n { s with wr := putW s.wr i x }) := hidp (by
    have := h.ok.put (a := (i : Int)) hx
    rwa [putS_yes (opn_yes hi hl)] at this)
  have HPW := hidp (putW_none (v := x) hk)
  have t0 : decide ((i : Int) < 0) = false := decide_eq_false (by omega)
  have t1 : decide ((n : Int) ≤ i) = false := decide_eq_false (by omega)
  have t2 : decide (n ≤ i) = false := decide_eq_false (by omega)
  obtain ⟨i0, hin, hz0, hz1, hz2⟩ := info_parts intInfo
  rw [hq] at c6 hlim
  clear h hr2 hr3 hv2 hv3 hk hl hv5 hq
  go_enter Try.func38, Try.ntmps38
  go_wp2_with (first
    | (at_builtin
       refine wpList_append_lies _ rfl _ _ 37 rfl base 3 i0 (.int .i64 0) 1 8 Try.underlying37 hin hz0 hz1 hz2 rfl (by decide) (.slice A q cr) q (ntVs (s.wr.map (·.1))) rfl ?c0 ⟨_, 0, none⟩ 1 1 [.int .i64 (i : Int)] rfl rfl ?c1 ?c2 (by omega) ?c3 ?c4 ?c5 _ rfl ?_
       case c0 =>
         have h9 := HO.out.alloc (.cells #[.int .i64 (i : Int)] 3)
         rw [HV5.out, HQ.out] at h9
         rw [← HQ.out] at h9 ⊢
         exact h9
       case c1 => intro j y hy; rcases j with _ | j; (· simp at hy; subst hy; simp [Addr.add]); (· simp at hy)
       case c2 => simp [Value.oneCell']
       case c3 => unfold maxLen; omega
       case c4 => omega
       case c5 => have := HH.out.parts.bb; have := HH.out.parts.head.lt; simp; omega
       intro g cap w4 hown4 hgrow4 hat4 hlt4
       obtain ⟨hp4, hA4, hT4⟩ := (HH.out.parts.keep (Bnew (B0 w) (.cells #[.int .i64 (i : Int)] 3))).grow (i := 5) (by omega) hown4 (by rw [HV5.out, HQ.out]; exact hgrow4) (fun q' hq' => by
         have hq' : g = q' := by simpa [Value.ownBlock] using hq'
         subst hq'
         rcases hat4 with h1 | h1
         · left; rw [HV5.out, HQ.out]; exact h1
         · right; rw [h1]; exact Nat.le_refl _)
       have e3 : w4.cell? ⟨b, 3, none⟩ = some (.slice (some ⟨g2, 0, none⟩) n p2) := (hp4.head.cell 3).trans (by rw [← HV2.out]; rfl)
       have e4 : w4.cell? ⟨b, 4, none⟩ = some (.slice (some ⟨g3, 0, none⟩) n p3) := (hp4.head.cell 4).trans (by rw [← HV3.out]; rfl)
       have e6 : w4.cell? ⟨b, 6, none⟩ = some (.slice A q cr) := (hp4.head.cell 6).trans (by rw [← HQ.out, ← HV5.out]; rfl)
       have f6 := hp4.head.thawed 6
       obtain ⟨d5, f5⟩ := hp4.at_ (i := 2) (g := g2) (cap := p2) (by omega) HV2.out (show i < n from hi)
       obtain ⟨d7, f7⟩ := hp4.at_ (i := 3) (g := g3) (cap := p3) (by omega) HV3.out (show i < n from hi)
       have d5' : w4.cell? ⟨g2, i, none⟩ = some (.bool (pos s.wr i).isSome) := d5.trans (rX_2 n K s hi)
       have d7' : w4.cell? ⟨g3, i, none⟩ = some (.int .u32 ((toV s.wr i : Nat) : Int)) := d7.trans (rX_3 n K s hi)
       have HP4 := hidp hp4
       have HA4 := hidp hA4
       have HT4 := hidp (((T0 (OwnF b 6 v) w).alloc (.cells #[.int .i64 (i : Int)] 3)).trans hT4)
       clear hp4 hA4 hT4 hown4 hgrow4 hat4 d5 d7)
    | go_in)
  go_end0
  obtain ⟨hp5, _⟩ := HP4.out.setHead 6 (.slice (some ⟨g, 0, none⟩) (q + 1) cap)
  obtain ⟨hp6, _⟩ := hp5.store (i := 2) (g := g2) (cap := p2) (by omega) HV2.out i (.bool true)
  obtain ⟨hp7, _⟩ := hp6.store (i := 3) (g := g3) (cap := p3) (by omega) HV3.out i (.int .u32 (x : Int))
  refine ⟨rfl, updF v 5 (.slice (some ⟨g, 0, none⟩) (q + 1) cap), { parts := hp7.congr rfl (six rfl rfl rfl rfl rfl ?_) (six rfl rfl (rX_put2 n K s i x) (rX_put3 n K s i x) rfl ?_), ok := HOK.out, nmax := hn, k32 := HH.out.k32 }, fun z hz => ?_,
    ((HT4.out.put (p := ⟨b, 6, none⟩) (.inl rfl) _).put (p := ⟨g2, i, none⟩) (.inr ⟨2, by omega, by rw [HV2.out]; rfl⟩) _).put (p := ⟨g3, i, none⟩) (.inr ⟨3, by omega, by rw [HV3.out]; rfl⟩) _⟩
  · show q + 1 = (putW s.wr i x).length
    rw [HPW.out, ← HQ.out]
    simp
  · show ntVs (s.wr.map (·.1)) ++ [.int .i64 (i : Int)] = ntVs ((putW s.wr i x).map (·.1))
    rw [HPW.out]
    simp [ntVs]
  · rcases HA4.out z hz with h1 | h1
    · exact .inl h1
    · simp at h1
      exact .inr (by omega)

theorem VRPut_c {base b n : Nat} {all : Bool} {v : Nat → Value} {K : Nat → Option Nat} {s : Vst} (a : Int) (x : Nat) (hx : x < 2 ^ 32) (h1 : s.wr.length < 2 ^ 40) (w : World) (h : IsRefV w base b n all v K s) :
    Calls Try.prog 38 #[.pointer (some ⟨b, 0, none⟩), .int .i64 a, .int .u32 (x : Int)] w fun e w' => e = .returned (.tuple #[]) ∧ LeftR w base b n all v K (putS n s a x) w' := by
  by_cases ho : opn n s a = true
  · obtain ⟨i, rfl, hi, hl⟩ := opn_at ho
    rw [putS_yes ho]
    cases hp : pos s.wr i with
    | some k => exact RPut_old i k x hl hp hi hx w h
    | none => exact RPut_new i x hl hp hi hx h1 w h
  · have ho : opn n s a = false := by simpa using ho
    rw [putS_no ho]
    refine (RPut_no a _ ho w h).mono ?_
    rintro e w1 ⟨rfl, rfl⟩
    exact ⟨rfl, LeftR.same h⟩
end Go.Proofs.Ythiobfghanlelaa

/-
  The document's answer for Views: Writes, Vals, Same. Written by view/gen_ref6.py.
-/
namespace Go.Proofs.Ythiobfghanlelaa
open Go.ChangeShapes Go.WideShapes Go.ChangeAt Go.RowKit Go.Maps
set_option linter.unusedVariables false
set_option maxRecDepth 100000
set_option linter.unusedSimpArgs false

theorem rowV_nat6 {w : World} {base : Nat} {e : TypeId} {v : Value} {l : List Nat} (h : w.ownsRow base e 1 v l.length (ntVs l)) : RowV w v ((l.map fun (i : Nat) => (i : Int)).map (Value.int .i64)) := by
  have e0 : ntVs l = (l.map fun (n : Nat) => (n : Int)).map (Value.int .i64) := by unfold ntVs; rw [List.map_map]; rfl
  rw [e0] at h
  refine RowV.of_own (base := base) (e := e) ?_
  simpa using h
theorem RWrites_c {base b n : Nat} {all : Bool} {v : Nat → Value} {Kn : Nat → Option Nat} {s : Vst} (hlim : s.wr.length < 2 ^ 40) (w : World) (h : IsRefV w base b n all v Kn s) :
    Calls Try.prog 42 #[.pointer (some ⟨b, 0, none⟩)] w fun e w' => ∃ u, e = .returned u ∧ w'.ownsRow w.heap.size 82 2 u s.wr.length (prVs s.wr) ∧ Below w.heap.size w w' := by
  have hn := h.nmax
  have HH := hidp h
  have HO : Hid (w.ownsRow base 3 1 (v 5) s.wr.length (ntVs (s.wr.map (·.1)))) := hidp (h.parts.own.rowAt (by omega) rfl rfl rfl rfl)
  obtain ⟨A, cr, hv5⟩ := own_slice HO.out
  have HO5 : Hid (w.ownsRow base 3 1 (.slice A s.wr.length cr) s.wr.length (ntVs (s.wr.map (·.1)))) := hidp (by have := HO.out; rwa [hv5] at this)
  obtain ⟨hqc, hcr⟩ := vown_caps HO5.out
  have hcr2 : cr ≤ 9223372036854775807 := hcr
  have HC6 : Hid (∀ w', Below w.heap.size w w' → w'.cell? ⟨b, 6, none⟩ = some (.slice A s.wr.length cr)) := hidp (fun w' hb => by
    have := (h.keep hb).cells.2.2.2.2.2.2.1
    rwa [hv5] at this)
  obtain ⟨q, hq⟩ : ∃ q, s.wr.length = q := ⟨_, rfl⟩
  have HQ := hidp hq
  have HP0 : Hid ((w.alloc (.cells #[] 82)).ownsRow w.heap.size 82 2 (.slice (some ⟨w.heap.size, 0, none⟩) 0 0) 0 (prVs (s.wr.take 0))) := hidp (World.ownsRow_made w #[] 0 (Nat.le_refl _) (Nat.zero_le _) (by simp))
  have HB0 := hidp (Bnew (B0 w) (.cells #[] 82))
  obtain ⟨j0, hjn, hjz0, hjz1, hjz2⟩ := info_parts pairInfo
  rw [hq] at HO5 HC6 hqc hlim ⊢
  clear h HO hv5 hq hcr
  go_enter Try.func42, Try.ntmps42
  go_wp2_with fail
  go_loopw [3, 4] (fun u i wr => ∃ k : Nat, k ≤ q ∧ i = .int .i64 k ∧ Hid (wr.ownsRow w.heap.size 82 2 u k (prVs (s.wr.take k))) ∧ Hid (Below w.heap.size w wr)) (fun _ i _ => q - (intOf i).toNat)
  case atStart => exact ⟨0, by omega, rfl, HP0, HB0⟩
  case round =>
    clear HP0 HB0
    obtain ⟨k, hk, rfl, HP, HB⟩ := hrel
    have c6 := HC6.out _ HB.out
    by_cases hlt : k < q
    · have hkl : k < s.wr.length := by have := HQ.out; omega
      have hcn : cellW s.wr k < n := by
        have := (HH.out.ok.wrLt s.wr[k] (List.getElem_mem _)).1
        simpa [cellW, List.getD, List.getElem?_eq_getElem hkl] using this
      obtain ⟨g3, p3, hv3, hp3, hm3, hg3, hl3, hr3⟩ := HH.out.row (i := 3) (by omega) (by omega)
      have hto : toV s.wr (cellW s.wr k) = atW s.wr k := by unfold toV; rw [HH.out.ok.wrNd k hkl]
      have d3 := (hr3 _ hcn).1.trans (rX_3 n Kn s hcn)
      rw [hto] at d3
      obtain ⟨gw, cw, hvw, _, hgw⟩ := HO5.out.form (by omega)
      injection hvw with hvw _ hcc
      subst hvw
      subst hcc
      have d5 : w.cell? ⟨gw, k, none⟩ = some (.int .i64 ((cellW s.wr k : Nat) : Int)) := by
        rw [HO5.out.cellAt k (by omega)]
        unfold ntVs
        rw [List.getElem?_map, List.getElem?_map, List.getElem?_eq_getElem hkl]
        simp [cellW, List.getD, List.getElem?_eq_getElem hkl]
      have HPS : Hid (prVs (s.wr.take (k + 1)) = prVs (s.wr.take k) ++ [.int .i64 ((cellW s.wr k : Nat) : Int), .int .u32 ((atW s.wr k : Nat) : Int)]) := hidp (by
        have e : s.wr.take (k + 1) = s.wr.take k ++ [(cellW s.wr k, atW s.wr k)] := by
          have e0 : (cellW s.wr k, atW s.wr k) = s.wr[k] := by simp [cellW, atW, List.getD, List.getElem?_eq_getElem hkl]
          rw [List.take_add_one, List.getElem?_eq_getElem hkl, e0]
          rfl
        rw [e, prVs_snoc])
      have HS : Hid (∀ w', Below w.heap.size w w' → w'.cell? ⟨b, 6, none⟩ = some (.slice (some ⟨gw, 0, none⟩) q cr) ∧ w'.cell? ⟨gw, k, none⟩ = some (.int .i64 ((cellW s.wr k : Nat) : Int)) ∧ w'.cell? ⟨b, 4, none⟩ = some (.slice (some ⟨g3, 0, none⟩) n p3) ∧ w'.cell? ⟨g3, cellW s.wr k, none⟩ = some (.int .u32 ((atW s.wr k : Nat) : Int))) := hidp (fun w' hb => by
        refine ⟨HC6.out _ hb, (hb.cell (p := ⟨gw, k, none⟩) hgw).trans d5, ?_, (hb.cell (p := ⟨g3, cellW s.wr k, none⟩) hl3).trans d3⟩
        have := (HH.out.keep hb).cells.2.2.2.2.1
        rwa [hv3] at this)
      obtain ⟨y0, y1, y2, y3⟩ := HS.out _ HB.out
      clear hto d3 d5 hr3 hv3 hkl
      generalize cellW s.wr k = cx at *
      generalize atW s.wr k = ax at *
      go_wp2_with fail
      refine wp_region_held_drew (S := (fun w' => w'.cell? ⟨b, 6, none⟩ = some (.slice (some ⟨gw, 0, none⟩) q cr) ∧ w'.cell? ⟨gw, k, none⟩ = some (.int .i64 (cx : Int)) ∧ w'.cell? ⟨b, 4, none⟩ = some (.slice (some ⟨g3, 0, none⟩) n p3) ∧ w'.cell? ⟨g3, cx, none⟩ = some (.int .u32 (ax : Int)))) (by kernel_rfl) ?_ (fun hHeld => ?_)
      · (try dsimp only)
        first | exact ⟨y0, y1, y2, y3⟩ | exact HS.out _ (Bnew (Bdrew HB.out) _) | exact HS.out _ HBq.out | exact hHeld
      refine wpAnyH_take (i := 0) (oi := _) (v := ?_) rfl (by kernel_rfl) (by kernel_rfl) (by kernel_rfl) (fun _ _ _ h => h) (Or.inl ⟨by rfl, ?_⟩) (by assumption) ?_
      rotate_left
      · intro w hSw; (try dsimp only at hSw); go_simp; (try with_reducible rfl)
      (try simp only [Act.put, List.getElem_toArray, List.getElem_cons_zero, List.getElem_cons_succ, List.setIfInBounds_toArray, List.set_cons_zero, List.set_cons_succ])
      refine wpAnyH_take (i := 1) (oi := _) (v := ?_) rfl (by kernel_rfl) (by kernel_rfl) (by kernel_rfl) (fun _ _ _ h => h) (Or.inl ⟨by rfl, ?_⟩) (by assumption) ?_
      rotate_left
      · intro w hSw; (try dsimp only at hSw); go_simp; (try with_reducible rfl)
      (try simp only [Act.put, List.getElem_toArray, List.getElem_cons_zero, List.getElem_cons_succ, List.setIfInBounds_toArray, List.set_cons_zero, List.set_cons_succ])
      refine wpAnyH_take (i := 2) (oi := _) (v := ?_) rfl (by kernel_rfl) (by kernel_rfl) (by kernel_rfl) (fun _ _ _ h => h) (Or.inl ⟨by rfl, ?_⟩) (by assumption) ?_
      rotate_left
      · intro w hSw; (try dsimp only at hSw); go_simp; (try with_reducible rfl)
      (try simp only [Act.put, List.getElem_toArray, List.getElem_cons_zero, List.getElem_cons_succ, List.setIfInBounds_toArray, List.set_cons_zero, List.set_cons_succ])
      refine wpAnyH_take (i := 3) (oi := _) (v := ?_) rfl (by kernel_rfl) (by kernel_rfl) (by kernel_rfl) (fun _ _ _ h => h) (Or.inl ⟨by rfl, ?_⟩) (by assumption) ?_
      rotate_left
      · intro w hSw; (try dsimp only at hSw); go_simp; (try with_reducible rfl)
      (try simp only [Act.put, List.getElem_toArray, List.getElem_cons_zero, List.getElem_cons_succ, List.setIfInBounds_toArray, List.set_cons_zero, List.set_cons_succ])
      refine wpAnyH_take (i := 4) (oi := _) (v := ?_) rfl (by kernel_rfl) (by kernel_rfl) (by kernel_rfl) (fun _ _ _ h => h) (Or.inl ⟨by rfl, ?_⟩) (by assumption) ?_
      rotate_left
      · intro w hSw; (try dsimp only at hSw); go_simp; (try with_reducible rfl)
      (try simp only [Act.put, List.getElem_toArray, List.getElem_cons_zero, List.getElem_cons_succ, List.setIfInBounds_toArray, List.set_cons_zero, List.set_cons_succ])
      refine wpAnyH_take (i := 5) (oi := _) (v := ?_) rfl (by kernel_rfl) (by kernel_rfl) (by kernel_rfl) (fun _ _ _ h => h) (Or.inl ⟨by rfl, ?_⟩) (by assumption) ?_
      rotate_left
      · intro w hSw; (try dsimp only at hSw); go_simp; (try with_reducible rfl)
      (try simp only [Act.put, List.getElem_toArray, List.getElem_cons_zero, List.getElem_cons_succ, List.setIfInBounds_toArray, List.set_cons_zero, List.set_cons_succ])
      refine wpAnyH_take (i := 6) (oi := _) (v := ?_) rfl (by kernel_rfl) (by kernel_rfl) (by kernel_rfl) (fun _ _ _ h => h) (Or.inl ⟨by rfl, ?_⟩) (by assumption) ?_
      rotate_left
      · intro w hSw; (try dsimp only at hSw); go_simp; (try with_reducible rfl)
      (try simp only [Act.put, List.getElem_toArray, List.getElem_cons_zero, List.getElem_cons_succ, List.setIfInBounds_toArray, List.set_cons_zero, List.set_cons_succ])
      refine wpAnyH_take (i := 7) (oi := _) (v := ?_) rfl (by kernel_rfl) (by kernel_rfl) (by kernel_rfl) (fun _ _ _ h => h) (Or.inl ⟨by rfl, ?_⟩) (by assumption) ?_
      rotate_left
      · intro w hSw; (try dsimp only at hSw); go_simp; (try with_reducible rfl)
      (try simp only [Act.put, List.getElem_toArray, List.getElem_cons_zero, List.getElem_cons_succ, List.setIfInBounds_toArray, List.set_cons_zero, List.set_cons_succ])
      refine wpAnyH_take (i := 8) (oi := _) (v := ?_) rfl (by kernel_rfl) (by kernel_rfl) (by kernel_rfl) (fun _ _ _ h => h) (Or.inl ⟨by rfl, ?_⟩) (by assumption) ?_
      rotate_left
      · intro w hSw; (try dsimp only at hSw); go_simp; (try with_reducible rfl)
      (try simp only [Act.put, List.getElem_toArray, List.getElem_cons_zero, List.getElem_cons_succ, List.setIfInBounds_toArray, List.set_cons_zero, List.set_cons_succ])
      refine wpAnyH_take (i := 9) (oi := _) (v := ?_) rfl (by kernel_rfl) (by kernel_rfl) (by kernel_rfl) (fun _ _ _ h => h) (Or.inl ⟨by rfl, ?_⟩) (by assumption) ?_
      rotate_left
      · intro w hSw; (try dsimp only at hSw); go_simp; (try with_reducible rfl)
      (try simp only [Act.put, List.getElem_toArray, List.getElem_cons_zero, List.getElem_cons_succ, List.setIfInBounds_toArray, List.set_cons_zero, List.set_cons_succ])
      refine wpAnyH_take (i := 10) (oi := _) (v := ?_) rfl (by kernel_rfl) (by kernel_rfl) (by kernel_rfl) (fun _ _ _ h => h) (Or.inl ⟨by rfl, ?_⟩) (by assumption) ?_
      rotate_left
      · intro w hSw; (try dsimp only at hSw); go_simp; (try with_reducible rfl)
      (try simp only [Act.put, List.getElem_toArray, List.getElem_cons_zero, List.getElem_cons_succ, List.setIfInBounds_toArray, List.set_cons_zero, List.set_cons_succ])
      refine wpAnyH_take (i := 11) (oi := _) (v := ?_) rfl (by kernel_rfl) (by kernel_rfl) (by kernel_rfl) (fun _ _ _ h => h) (Or.inl ⟨by rfl, ?_⟩) (by assumption) ?_
      rotate_left
      · intro w hSw; (try dsimp only at hSw); go_simp; (try with_reducible rfl)
      (try simp only [Act.put, List.getElem_toArray, List.getElem_cons_zero, List.getElem_cons_succ, List.setIfInBounds_toArray, List.set_cons_zero, List.set_cons_succ])
      refine wpAnyH_take (i := 12) (oi := _) (v := ?_) rfl (by kernel_rfl) (by kernel_rfl) (by kernel_rfl) (fun _ _ _ h => h) (Or.inl ⟨by rfl, ?_⟩) (by assumption) ?_
      rotate_left
      · intro w hSw; (try dsimp only at hSw); go_simp; (try with_reducible rfl)
      (try simp only [Act.put, List.getElem_toArray, List.getElem_cons_zero, List.getElem_cons_succ, List.setIfInBounds_toArray, List.set_cons_zero, List.set_cons_succ])
      refine wpAnyH_take (i := 13) (oi := _) (v := ?_) rfl (by kernel_rfl) (by kernel_rfl) (by kernel_rfl) (fun _ _ _ h => h) (Or.inl ⟨by rfl, ?_⟩) (by assumption) ?_
      rotate_left
      · intro w hSw; (try dsimp only at hSw); go_simp; (try with_reducible rfl)
      (try simp only [Act.put, List.getElem_toArray, List.getElem_cons_zero, List.getElem_cons_succ, List.setIfInBounds_toArray, List.set_cons_zero, List.set_cons_succ])
      refine wpAnyH_take (i := 14) (oi := _) (v := ?_) rfl (by kernel_rfl) (by kernel_rfl) (by kernel_rfl) (fun _ _ _ h => h) (Or.inl ⟨by rfl, ?_⟩) (by assumption) ?_
      rotate_left
      · intro w hSw; (try dsimp only at hSw); go_simp; (try with_reducible rfl)
      (try simp only [Act.put, List.getElem_toArray, List.getElem_cons_zero, List.getElem_cons_succ, List.setIfInBounds_toArray, List.set_cons_zero, List.set_cons_succ])
      refine wpAnyH_take (i := 15) (oi := _) (v := ?_) rfl (by kernel_rfl) (by kernel_rfl) (by kernel_rfl) (fun _ _ _ h => h) (Or.inl ⟨by rfl, ?_⟩) (by assumption) ?_
      rotate_left
      · intro w hSw; (try dsimp only at hSw); go_simp; (try with_reducible rfl)
      (try simp only [Act.put, List.getElem_toArray, List.getElem_cons_zero, List.getElem_cons_succ, List.setIfInBounds_toArray, List.set_cons_zero, List.set_cons_succ])
      refine wpAnyH_take (i := 16) (oi := _) (v := ?_) rfl (by kernel_rfl) (by kernel_rfl) (by kernel_rfl) (fun _ _ _ h => h) (Or.inl ⟨by rfl, ?_⟩) (by assumption) ?_
      rotate_left
      · intro w hSw; (try dsimp only at hSw); go_simp; (try with_reducible rfl)
      (try simp only [Act.put, List.getElem_toArray, List.getElem_cons_zero, List.getElem_cons_succ, List.setIfInBounds_toArray, List.set_cons_zero, List.set_cons_succ])
      refine wpAnyH_take (i := 17) (oi := _) (v := ?_) rfl (by kernel_rfl) (by kernel_rfl) (by kernel_rfl) (fun _ _ _ h => h) (Or.inl ⟨by rfl, ?_⟩) (by assumption) ?_
      rotate_left
      · intro w hSw; (try dsimp only at hSw); go_simp; (try with_reducible rfl)
      (try simp only [Act.put, List.getElem_toArray, List.getElem_cons_zero, List.getElem_cons_succ, List.setIfInBounds_toArray, List.set_cons_zero, List.set_cons_succ])
      refine wpAnyH_take (i := 18) (oi := _) (v := ?_) rfl (by kernel_rfl) (by kernel_rfl) (by kernel_rfl) (fun _ _ _ h => h) (Or.inl ⟨by rfl, ?_⟩) (by assumption) ?_
      rotate_left
      · intro w hSw; (try dsimp only at hSw); go_simp; (try with_reducible rfl)
      (try simp only [Act.put, List.getElem_toArray, List.getElem_cons_zero, List.getElem_cons_succ, List.setIfInBounds_toArray, List.set_cons_zero, List.set_cons_succ])
      refine wpAnyH_take (i := 19) (oi := _) (v := ?_) rfl (by kernel_rfl) (by kernel_rfl) (by kernel_rfl) (fun _ _ _ h => h) (Or.inl ⟨by rfl, ?_⟩) (by assumption) ?_
      rotate_left
      · intro w hSw; (try dsimp only at hSw); go_simp; (try with_reducible rfl)
      (try simp only [Act.put, List.getElem_toArray, List.getElem_cons_zero, List.getElem_cons_succ, List.setIfInBounds_toArray, List.set_cons_zero, List.set_cons_succ])
      refine wpAnyH_take (i := 20) (oi := _) (v := ?_) rfl (by kernel_rfl) (by kernel_rfl) (by kernel_rfl) (fun _ _ _ h => h) (Or.inl ⟨by rfl, ?_⟩) (by assumption) ?_
      rotate_left
      · intro w hSw; (try dsimp only at hSw); go_simp; (try with_reducible rfl)
      (try simp only [Act.put, List.getElem_toArray, List.getElem_cons_zero, List.getElem_cons_succ, List.setIfInBounds_toArray, List.set_cons_zero, List.set_cons_succ])
      refine wpAnyH_take (i := 21) (oi := _) (v := ?_) rfl (by kernel_rfl) (by kernel_rfl) (by kernel_rfl) (fun _ _ _ h => h) (Or.inl ⟨by rfl, ?_⟩) (by assumption) ?_
      rotate_left
      · intro w hSw; (try dsimp only at hSw); go_simp; (try with_reducible rfl)
      (try simp only [Act.put, List.getElem_toArray, List.getElem_cons_zero, List.getElem_cons_succ, List.setIfInBounds_toArray, List.set_cons_zero, List.set_cons_succ])
      refine wpAnyH_ready (rs := [22]) (by kernel_rfl) (by simp) ?_
      refine AllReadyH.cons (o := _) rfl (fun K hK => ?_) AllReadyH.nil
      go_simp
      skip
      refine hK.out _ _ ?_ (fun hHeld => ?_)
      · (try dsimp only)
        first | exact ⟨y0, y1, y2, y3⟩ | exact HS.out _ (Bnew (Bdrew HB.out) _) | exact HS.out _ HBq.out | exact hHeld
      clear hK K
      (try simp only [Act.put, List.getElem_toArray, List.getElem_cons_zero, List.getElem_cons_succ, List.setIfInBounds_toArray, List.set_cons_zero, List.set_cons_succ])
      refine wpAnyH_ready (rs := [23]) (by kernel_rfl) (by simp) ?_
      refine AllReadyH.cons (o := _) rfl (fun K hK => ?_) AllReadyH.nil
      (refine step_append_lies _ (by rfl) _ _ 42 (by rfl) w.heap.size 82 j0 (.agg #[.int .i64 0, .int .u32 0]) 2 16 Try.underlying42 hjn hjz0 hjz1 hjz2 rfl (by decide) u3 k (prVs (s.wr.take k)) (by rfl) ((own_below HP.out (Bdrew (B0 _))).alloc _) ⟨_, 0, none⟩ 1 1 [.int .i64 (cx : Int), .int .u32 (ax : Int)] (by rfl) rfl (fun j y hy => World.news_of_block (w := wr.alloc (.cells #[.int .i64 (cx : Int), .int .u32 (ax : Int)] 82)) (heap_alloc_new wr _) j y (by simpa using hy)) (by simp [Value.oneCell']) (by omega) (by unfold maxLen; omega) (by omega) (by have := HB.out.size; simp; omega) _ rfl ?_; intro g cap w6 hown6 hgrow6 hat6 hlt6; have HBq := hidp ((Bnew HB.out (.cells #[.int .i64 (cx : Int), .int .u32 (ax : Int)] 82)).grown (w' := w6) ⟨hgrow6.os, hgrow6.tape, hgrow6.output, hgrow6.size, hgrow6.block⟩ (by have := HB.out.size; simp; omega) (fun q' hq' => (HP.out.lt q' hq').1)); have HO6 := hidp hown6; clear hown6 hgrow6 hat6 hlt6)
      refine hK.out _ _ ?_ (fun hHeld => ?_)
      · (try dsimp only)
        first | exact ⟨y0, y1, y2, y3⟩ | exact HS.out _ (Bnew (Bdrew HB.out) _) | exact HS.out _ HBq.out | exact hHeld
      clear hK K
      (try simp only [Act.put, List.getElem_toArray, List.getElem_cons_zero, List.getElem_cons_succ, List.setIfInBounds_toArray, List.set_cons_zero, List.set_cons_succ])
      refine wpAnyH_take (i := 24) (oi := _) (v := ?_) rfl (by kernel_rfl) (by kernel_rfl) (by kernel_rfl) (fun _ _ _ h => h) (Or.inl ⟨by rfl, ?_⟩) (by assumption) ?_
      rotate_left
      · intro w hSw; (try dsimp only at hSw); go_simp; (try with_reducible rfl)
      (try simp only [Act.put, List.getElem_toArray, List.getElem_cons_zero, List.getElem_cons_succ, List.setIfInBounds_toArray, List.set_cons_zero, List.set_cons_succ])
      refine wpAnyH_done (by kernel_rfl) ?_ _
      go_wp2
      go_roundw
      case rel => exact ⟨k + 1, by omega, by go_num, hidp (by rw [HPS.out]; exact HO6.out), HBq⟩
      case measure => simp [intOf]; omega
    · obtain rfl : k = q := by omega
      have HPF : Hid (wr.ownsRow w.heap.size 82 2 u3 k (prVs s.wr)) := hidp (by
        have := HP.out
        rwa [List.take_of_length_le (by have := HQ.out; omega)] at this)
      go_wp2
      go_ret
      exact ⟨u3, rfl, HPF.out, HB.out⟩

/-- the values of the first cells, behind what was put -/
def nowL (K : Nat → Option Nat) (wr : List (Nat × Nat)) (k : Nat) : List Nat := (List.range k).map (nowV K wr)
theorem nowL_step (K : Nat → Option Nat) (wr : List (Nat × Nat)) (k : Nat) : valVs (nowL K wr (k + 1)) = valVs (nowL K wr k) ++ [.int .u32 ((nowV K wr k : Nat) : Int)] := by
  unfold nowL valVs
  rw [List.range_succ, List.map_append, List.map_append]
  rfl
theorem nowL_F (K : Nat → Option Nat) (wr : List (Nat × Nat)) (k : Nat) : valVs (nowL K wr k) = (List.range k).map (valF (nowV K wr)) := by
  unfold nowL valVs
  rw [List.map_map]
  rfl

theorem Same_c {base b n : Nat} {all : Bool} {v : Nat → Value} {Kn : Nat → Option Nat} {s : Vst} (h1 : s.rd.length < 2 ^ 40) (h2 : s.wr.length < 2 ^ 40) (u1 u2 : Value) (w : World) (h : IsRefV w base b n all v Kn s)
    (HR : RowV w u1 ((s.rd.map fun (i : Nat) => (i : Int)).map (Value.int .i64))) (HW : RowP w u2 s.wr) :
    Calls Try.prog 17 #[.pointer (some ⟨b, 0, none⟩), u1, u2, .int .i64 (missI s)] w fun e w' => e = .returned (.bool true) ∧ Below w.heap.size w w' := by
  have HH := hidp h
  have c5 := h.cells.2.2.2.2.2.1
  have HV : Hid (RowV w (v 4) ((s.rd.map fun (i : Nat) => (i : Int)).map (Value.int .i64))) := hidp (rowV_nat6 (h.parts.own.rowAt (by omega) rfl rfl rfl rfl))
  have HR := hidp HR
  have HW := hidp HW
  obtain ⟨mi, hmi⟩ : ∃ mi, missI s = mi := ⟨_, rfl⟩
  have HMI := hidp hmi
  rw [hmi]
  clear h hmi
  go_enter Try.func17, Try.ntmps17
  go_wp2_with fail
  refine (Ints_same _ _ _ _ HR.out HV.out).mono ?_
  rintro e w1 ⟨rfl, j1, rfl⟩
  obtain ⟨w2, hw2⟩ : ∃ w2, w.drewN j1 = w2 := ⟨_, rfl⟩
  have hb := Bdraw (B0 w) j1
  rw [hw2] at hb ⊢
  have HH2 := hidp (HH.out.keep hb)
  have HW2 := hidp (HW.out.below hb)
  have HB2 := hidp hb
  clear hb HH HW HR HV c5 hw2
  go_wp2_with fail
  refine (RWrites_c h2 _ HH2.out).mono ?_
  rintro e w3 ⟨u3, rfl, ho, hb⟩
  have HP3 := hidp (RowP.of_own ho)
  have HW3 := hidp (HW2.out.below hb)
  have HH3 := hidp (HH2.out.keep hb)
  have HB3 := hidp (Bgo HB2.out hb)
  clear ho hb HH2 HW2 HB2
  go_wp2_with fail
  refine (Pairs_same s.wr _ _ _ HW3.out HP3.out).mono ?_
  rintro e w4 ⟨rfl, j4, rfl⟩
  have c7 : (w3.drewN j4).cell? ⟨b, 7, none⟩ = some (.int .i64 mi) := by
    have := (HH3.out.keep (Bdraw (B0 w3) j4)).cells.2.2.2.2.2.2.2.1
    rwa [HMI.out] at this
  have HB4 := hidp (Bdraw HB3.out j4)
  obtain ⟨w5, hw5⟩ : ∃ w5, w3.drewN j4 = w5 := ⟨_, rfl⟩
  rw [hw5] at c7 HB4 ⊢
  clear hw5
  go_wp2
  go_ret
  exact ⟨rfl, HB4.out⟩
end Go.Proofs.Ythiobfghanlelaa
