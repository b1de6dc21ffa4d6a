/-
  The page's example (nacrelaw13.live).
-/
import Derived.Test.YthiobfghanlelaaLinkWalk
import Derived.Test.YthiobfghanlelaaYRWalk
import Derived.Test.YthiobfghanlelaaYOb
import Derived.Test.YthiobfghanlelaaYHeap
import Derived.Maps.AppendAt
import Derived.Lib.SmallJoins
namespace Go.Proofs.Ythiobfghanlelaa
open Go.ChangeShapes Go.WideShapes Go.ChangeAt Go.RowKit Go.Maps
set_option linter.unusedVariables false
set_option linter.unusedSimpArgs false
set_option maxRecDepth 100000

theorem few_c (t q s : Int) (w : World) : Calls Try.prog 6 #[.agg #[.int .i64 t, .int .i64 q, .int .i64 s]] w fun e w' => e = .returned (.bool (decide (q ≤ 64))) ∧ Below w.heap.size w w' := by
  go_enter Try.func6, Try.ntmps6
  go_wp2
  go_ret
  exact ⟨rfl, Bnew (B0 _) _⟩
theorem make58 (w : World) : (Instr.makeSlice 24 (.int .i64 58) (.int .i64 58)).run Try.prog w = .ok (.slice (some ⟨w.heap.size, 0, none⟩) 58 58) (w.alloc (.cells (Array.replicate 58 (.int .u32 0)) 54)) := by kernel_rfl
def exK : Nat → Option Nat := fun i => (List.replicate 58 0)[i]?
def exS : Vst := ⟨[2], [(48, 0), (49, 0), (2, 3)], false, 0⟩
theorem ex_push : pushI 58 exK 1 4 10 2 2 freshS = exS := by rfl
theorem ex_get2 : getV 58 exK exS 2 = 3 ∧ getS 58 exK exS 2 = exS := ⟨by decide, by rfl⟩
theorem ex_next : pageI 1 4 10 2 2 = 48 := by decide
theorem ex_get48 : getV 58 exK exS 48 = 0 ∧ getS 58 exK exS 48 = exS := ⟨by decide, by rfl⟩
theorem ex_walk : walkL 58 exK 1 4 10 2 exS = [2] := by rfl

set_option maxHeartbeats 1600000 in
theorem live_c (w : World) : Calls Try.prog 7 #[] w fun e w' => e = .returned (.bool true) ∧ Below w.heap.size w w' := by
  have hmk := make58
  have HC0 := hidp ((Held.new w 23 #[.int .i64 1, .int .i64 4, .int .i64 10]).alloc (.cells (Array.replicate 58 (.int .u32 0)) 54))
  have HH := hidp (Held.new2 w (.cells #[.int .i64 1, .int .i64 4, .int .i64 10] 23) 54 (Array.replicate 58 (.int .u32 0)))
  have HB0 := hidp (Bnew (Bnew (B0 w) (.cells #[.int .i64 1, .int .i64 4, .int .i64 10] 23)) (.cells (Array.replicate 58 (.int .u32 0)) 54))
  have HSZ : Hid (((w.alloc (.cells #[.int .i64 1, .int .i64 4, .int .i64 10] 23)).alloc (.cells (Array.replicate 58 (.int .u32 0)) 54)).heap.size = w.heap.size + 2) := hidp (by simp)
  obtain ⟨x0, x1, x2⟩ := HC0.out.three
  go_enter Try.func7, Try.ntmps7
  go_wp2_with fail
  generalize hw0 : (w.alloc (.cells #[.int .i64 1, .int .i64 4, .int .i64 10] 23)).alloc (.cells (Array.replicate 58 (.int .u32 0)) 54) = W0 at *
  refine (Whole_c (some ⟨w.heap.size + 1, 0, none⟩) 58 (List.replicate 58 0) 58 (by simp) (by omega) (by simp) W0 (fun _ => ⟨_, rfl, fun j u hu => ?_⟩)).mono ?_
  · have hj : j < 58 := by
      rcases Nat.lt_or_ge j 58 with h1 | h1
      · exact h1
      · rw [List.getElem?_eq_none (by simp [valVs]; omega)] at hu; cases hu
    have e : (⟨w.heap.size + 1, 0, none⟩ : Addr).add j = ⟨w.heap.size + 1, j, none⟩ := by
      unfold Addr.add
      by_cases hz : j = 0
      · rw [if_pos hz, hz]
      · rw [if_neg hz]; simp
    rw [e, HH.out.cell j]
    simp only [valVs, List.map_replicate, List.getElem?_replicate, hj, if_true] at hu
    rw [Array.getElem?_replicate, if_pos hj]
    exact hu
  rintro e w1 ⟨b, o, rfl, hI, hB⟩
  have HD1 := hidp (duo_made (W := w) (G := fun g => g = w.heap.size) hI (by have := HSZ.out; omega) (Bgo HB0.out hB) (fun g hg => by
    subst hg
    exact ⟨by have := hB.size; have := HSZ.out; omega, fun x => by have := hI.ge _ x; have := HSZ.out; omega⟩))
  have HC1 := hidp (HC0.out.keep hB)
  obtain ⟨x0, x1, x2⟩ := HC1.out.three
  clear hI hB HC0 HH HB0
  go_wp2_with fail
  refine (lkPush_c (by omega) (by omega) (2 : Int) HD1.out.at1).mono ?_
  rintro e w2 ⟨rfl, h1, _⟩
  obtain ⟨A2, h2, h3⟩ := HD1.out.left1 h1.left
  rw [show (fun i => (List.replicate 58 0)[i]?) = exK from rfl, ex_push] at h2
  have HD2 := hidp h2
  have HC2 := hidp (h3.held rfl HC1.out)
  obtain ⟨x0, x1, x2⟩ := HC2.out.three
  clear h1 h2 h3 HD1 HC1
  go_wp2_with fail
  refine (vGetA (by omega) (2 : Int) HD2.out.at1).mono ?_
  rintro e w3 ⟨rfl, h1, _⟩
  obtain ⟨A3, h2, h3⟩ := HD2.out.left1 h1.left
  rw [ex_get2.2] at h2
  rw [ex_get2.1]
  have HD3 := hidp h2
  have HC3 := hidp (h3.held rfl HC2.out)
  obtain ⟨x0, x1, x2⟩ := HC3.out.three
  clear h1 h2 h3 HD2 HC2
  go_wp2_with fail
  refine (r7Next_c 1 4 10 2 _).mono ?_
  rintro e w4 ⟨rfl, hb⟩
  rw [ex_next]
  have HD4 := hidp (HD3.out.keep hb)
  have HC4 := hidp (HC3.out.keep hb)
  obtain ⟨x0, x1, x2⟩ := HC4.out.three
  clear hb HD3 HC3
  go_wp2_with fail
  refine (vGetA (by omega) (48 : Int) HD4.out.at1).mono ?_
  rintro e w5 ⟨rfl, h1, _⟩
  obtain ⟨A5, h2, h3⟩ := HD4.out.left1 h1.left
  rw [ex_get48.2] at h2
  rw [ex_get48.1]
  have HD5 := hidp h2
  have HC5 := hidp (h3.held rfl HC4.out)
  obtain ⟨x0, x1, x2⟩ := HC5.out.three
  clear h1 h2 h3 HD4 HC4
  go_wp2_with fail
  refine (lkWalk_c (by omega) (by omega) HD5.out.at1).mono ?_
  intro e w6 hw
  obtain ⟨u, A6, rfl, ho, hd, _⟩ := HD5.out.walk1 hw
  rw [ex_walk] at ho
  have HR6 := hidp ((rowV_nat6 ho).alloc (.cells #[.int .i64 2] 3))
  have HB6 := hidp hd.bel
  have HL6 := hidp (RowV.lit w6 #[.int .i64 2] 3 1 rfl (by unfold maxLen; omega))
  clear hw ho hd HD5 HC5 x0 x1 x2
  go_wp2_with fail
  refine (Ints_same [2] _ _ _ HR6.out HL6.out).mono ?_
  rintro e w7 ⟨rfl, j, rfl⟩
  go_wp2
  go_ret
  exact ⟨rfl, Bdraw (Bnew HB6.out _) j⟩
end Go.Proofs.Ythiobfghanlelaa

/-
  The place of a page in a list (nacrelaw13.in); two numbers that came in; a slice that is cut; an append of any number of elements.
-/
namespace Go.Proofs.Ythiobfghanlelaa
open Go.ChangeShapes Go.WideShapes Go.ChangeAt Go.RowKit Go.Maps
set_option linter.unusedVariables false
set_option linter.unusedSimpArgs false
set_option maxRecDepth 100000

theorem open_two {H : Type} {enc : TypeId × Value → H} {W : World} {b base : Nat} {sp : Nat → Bool} {held : Bool} {v : Value} {d : DataW H} {p : List MemPlace}
    (hv : Value.okWide Try.prog W .any b 46 v) (h : DataW.Trod enc Try.prog W base sp held 46 v d p) :
    ∃ (x y : Int), v = .agg #[.int .i64 x, .int .i64 y] := by
  have hC : Try.prog.cellsOf 46 = 2 := by kernel_rfl
  have hI : Try.prog.cellsOf 3 = 1 := by kernel_rfl
  have hcs : ∃ cs : Array Value, v = .agg cs ∧ cs.size = 2 := by
    simp only [Value.okWide, Try.underlying46] at hv
    obtain ⟨cs, h1, h2, _⟩ := hv
    exact ⟨cs, h1, by rw [h2, hC]⟩
  obtain ⟨⟨cs⟩, rfl, hsz⟩ := hcs
  obtain ⟨fuel, hf⟩ := h
  match cs, hsz with
  | [v0, v1], _ =>
    obtain ⟨xs, m, _, _, _, hxl, hi⟩ := DataW.trod_array Try.underlying46 hf
    rw [hI] at hi
    match xs, hxl with
    | [y0, y1], _ =>
      have g0 := hi 0 (by omega)
      have g1 := hi 1 (by omega)
      simp [Value.cells] at g0 g1
      obtain ⟨a, e0, _, w0⟩ := DataW.trod_int Try.underlying3 g0
      obtain ⟨c, e1, _, w1⟩ := DataW.trod_int Try.underlying3 g1
      simp at e0 e1
      subst e0 e1
      exact ⟨a, c, rfl⟩

/-- where a number stands in a list of pages: -1, or the number of pages ahead of it -/
def Found (l : List Nat) (y : Int) (r : Int) : Prop := (r = -1 ∧ ∀ p ∈ l, (p : Int) ≠ y) ∨ ∃ (l1 : List Nat) (p : Nat) (l2 : List Nat), l = l1 ++ p :: l2 ∧ (p : Int) = y ∧ r = (l1.length : Int)

theorem in_zero (A : Option Addr) (c : Nat) (y : Int) (w : World) : Calls Try.prog 22 #[.slice A 0 c, .int .i64 y] w fun e w' => e = .returned (.int .i64 (-1)) ∧ w' = w := by
  go_enter Try.func22, Try.ntmps22
  go_wp2
  refine wp_loop_rounds 1 ?_
  rw [rounds_succ]
  go_wp2
  go_ret
  exact ⟨rfl, rfl⟩
theorem ntVs_at {l : List Nat} {j p : Nat} (h : l[j]? = some p) : (ntVs l)[j]? = some (.int .i64 (p : Int)) := by unfold ntVs; simp [h]
theorem in_some (g L c : Nat) (l : List Nat) (hl : Hid (l.length = L)) (hL : L ≤ c) (hc : c ≤ 9223372036854775807) (y : Int) (w : World) (hR : Hid (∀ j u, (ntVs l)[j]? = some u → w.cell? ⟨g, j, none⟩ = some u)) :
    Calls Try.prog 22 #[.slice (some ⟨g, 0, none⟩) L c, .int .i64 y] w fun e w' => (∃ r, e = .returned (.int .i64 r) ∧ Found l y r) ∧ w' = w := by
  go_enter Try.func22, Try.ntmps22
  go_wp2
  go_loopw [5] (fun i wr => ∃ k : Nat, k ≤ L ∧ i = .int .i64 (k : Int) ∧ Hid (∀ j, j < k → ∀ p, l[j]? = some p → (p : Int) ≠ y) ∧ wr = w) (fun i _ => L - (intOf i).toNat)
  case atStart => exact ⟨0, by omega, rfl, hidp (fun j hj => by omega), rfl⟩
  case round =>
    obtain ⟨k, hk, rfl, HN, rfl⟩ := hrel
    by_cases hlt : k < L
    · obtain ⟨p, hp⟩ : ∃ p, l[k]? = some p := ⟨_, List.getElem?_eq_getElem (by rw [hl.out]; exact hlt)⟩
      have x0 := hR.out k _ (ntVs_at hp)
      have HP := hidp hp
      clear hp
      by_cases he : (p : Int) = y
      · have t0 : ((p : Int) == y) = true := by simpa using he
        have HF : Hid (Found l y (k : Int)) := hidp (.inr ⟨l.take k, p, l.drop (k + 1), by
          have h1 := HP.out
          have h2 : l = l.take k ++ l.drop k := (List.take_append_drop k l).symm
          have hkl : k < l.length := by rw [hl.out]; exact hlt
          rw [List.drop_eq_getElem_cons hkl] at h2
          rw [List.getElem?_eq_getElem hkl] at h1
          injection h1 with h1
          rw [h1] at h2
          exact h2, he, by rw [List.length_take, hl.out]; omega⟩)
        have HE := hidp he
        clear he
        go_wp2
        go_ret
        exact ⟨⟨_, rfl, HF.out⟩, rfl⟩
      · have t0 : ((p : Int) == y) = false := by simpa using he
        have HE := hidp he
        clear he
        go_wp2
        go_roundw
        case rel => exact ⟨k + 1, by omega, by go_num, hidp (fun j hj p' hp' => by
          rcases Nat.lt_or_ge j k with h1 | h1
          · exact HN.out j h1 p' hp'
          · have : j = k := by omega
            subst this
            rw [HP.out] at hp'
            injection hp' with hp'
            subst hp'
            exact HE.out), by trivial⟩
        case measure => simp [intOf]; omega
    · obtain rfl : k = L := by omega
      go_wp2
      go_ret
      exact ⟨⟨_, rfl, .inl ⟨rfl, fun p hp => by
        obtain ⟨j, hj⟩ := List.mem_iff_getElem?.1 hp
        have : j < l.length := by
          rcases Nat.lt_or_ge j l.length with h1 | h1
          · exact h1
          · rw [List.getElem?_eq_none h1] at hj; cases hj
        exact HN.out j (by rw [← hl.out]; exact this) p hj⟩⟩, rfl⟩
theorem in_c {base : Nat} {u : Value} {l : List Nat} {w : World} (ho : w.ownsRow base 3 1 u l.length (ntVs l)) (y : Int) :
    Calls Try.prog 22 #[u, .int .i64 y] w fun e w' => (∃ r, e = .returned (.int .i64 r) ∧ Found l y r) ∧ w' = w := by
  rcases Nat.eq_zero_or_pos l.length with h0 | h0
  · obtain ⟨A, c, rfl⟩ := own_slice ho
    rw [h0]
    have : l = [] := List.eq_nil_of_length_eq_zero h0
    subst this
    refine (in_zero A c y w).mono ?_
    rintro e w1 ⟨rfl, rfl⟩
    exact ⟨⟨_, rfl, .inl ⟨rfl, by simp⟩⟩, rfl⟩
  · obtain ⟨g, cap, rfl, _, _⟩ := ho.form h0
    have hc := own_caps9 ho
    exact in_some g l.length cap l (hidp rfl) hc.1 hc.2 y w (hidp (fun j u hu => by
      have hj : j < l.length * 1 := by
        rcases Nat.lt_or_ge j (l.length * 1) with h1 | h1
        · exact h1
        · rw [List.getElem?_eq_none (by rw [ntVs_len]; omega)] at hu; cases hu
      rw [ho.cellAt j hj, hu]))

/-! a slice, cut -/
theorem cut_front (g L c i : Nat) (h : i ≤ L) (hL : L ≤ c) (w : World) : (Instr.slice 37 (.slice (some ⟨g, 0, none⟩) L c) none (some (.int .i64 (i : Int))) none).run Try.prog w = .ok (.slice (some ⟨g, 0, none⟩) i c) w := by
  have hu : Try.prog.underlying 37 = some (.slice (Try.prog.elem 37)) := by kernel_rfl
  have hs : ∀ w, (sizeOf (Try.prog.elem 37)).run Try.prog w = .ok 1 w := fun w => by kernel_rfl
  rw [run_slice_h (P := Try.prog) (w := w) 37 (some ⟨g, 0, none⟩) L c hu .i64 (i : Int) (by omega) (by omega), hs]
  simp only [Result.andThen, sliced, Int.toNat_natCast, Nat.zero_mul, Nat.sub_zero]
  congr 2
  split
  · rfl
  · simp [Addr.add]
def backAd (g c i : Nat) : Addr := if c = i + 1 then ⟨g, 0, none⟩ else ⟨g, i + 1, none⟩
theorem backAd_add {g L c i j : Nat} (hL : L ≤ c) (h : i < L) (hj : j < L - (i + 1)) : (backAd g c i).add j = ⟨g, i + 1 + j, none⟩ := by
  unfold backAd
  rw [if_neg (by omega)]
  unfold Addr.add
  by_cases hz : j = 0
  · rw [if_pos hz, hz]
  · rw [if_neg hz]
theorem cut_back (g L c i : Nat) (h : i < L) (hL : L ≤ c) (w : World) : (Instr.slice 37 (.slice (some ⟨g, 0, none⟩) L c) (some (.int .i64 ((i : Int) + 1))) none none).run Try.prog w = .ok (.slice (some (backAd g c i)) (L - (i + 1)) (c - (i + 1))) w := by
  have hu : Try.prog.underlying 37 = some (.slice (Try.prog.elem 37)) := by kernel_rfl
  have hs : ∀ w, (sizeOf (Try.prog.elem 37)).run Try.prog w = .ok 1 w := fun w => by kernel_rfl
  rw [run_slice_l (P := Try.prog) (w := w) 37 (some ⟨g, 0, none⟩) L c hu .i64 ((i : Int) + 1) (by omega) (by omega), hs]
  have e : ((i : Int) + 1).toNat = i + 1 := by omega
  simp only [Result.andThen, sliced, e, Nat.mul_one]
  congr 2
  unfold backAd
  split
  · rfl
  · simp [Addr.add]

/-- a row of pages at the block g, as a walk that cuts it asks for it -/
def CutAt (w : World) (g L : Nat) (l1 : List Nat) (p : Nat) (l2 : List Nat) : Prop := g < w.heap.size ∧ ∀ j, j < L → w.cell? ⟨g, j, none⟩ = (ntVs (l1 ++ p :: l2))[j]?
theorem CutAt.below {w w' : World} {g L B : Nat} {l1 l2 : List Nat} {p : Nat} (h : CutAt w g L l1 p l2) (hb : Below B w w') (hg : g < B) : CutAt w' g L l1 p l2 :=
  ⟨Nat.lt_of_lt_of_le h.1 hb.size, fun j hj => (hb.cell (p := ⟨g, j, none⟩) hg).trans (h.2 j hj)⟩
theorem add_zero0 (g j : Nat) : (⟨g, 0, none⟩ : Addr).add j = ⟨g, j, none⟩ := by
  unfold Addr.add
  by_cases hz : j = 0
  · rw [if_pos hz, hz]
  · rw [if_neg hz]; simp
theorem getE_lt {α : Type} {l : List α} {j : Nat} {u : α} (h : l[j]? = some u) : j < l.length := by
  rcases Nat.lt_or_ge j l.length with h1 | h1
  · exact h1
  · rw [List.getElem?_eq_none h1] at h; cases h
theorem CutAt.front {w : World} {g L : Nat} {l1 l2 : List Nat} {p : Nat} (h : CutAt w g L l1 p l2) (hL : l1.length < L) : ∀ j u, (ntVs l1)[j]? = some u → w.cell? ((⟨g, 0, none⟩ : Addr).add j) = some u := by
  intro j u hu
  have hj := getE_lt hu
  rw [ntVs_len] at hj
  rw [add_zero0, h.2 j (by omega), ← hu]
  unfold ntVs
  rw [List.getElem?_map, List.getElem?_map, List.getElem?_append_left hj]
theorem CutAt.back {w : World} {g L c i : Nat} {l1 l2 : List Nat} {p : Nat} (h : CutAt w g L l1 p l2) (h1 : l1.length = i) (hL : L ≤ c) (hi : i < L) (h2 : l2.length = L - (i + 1)) : ∀ j u, (ntVs l2)[j]? = some u → w.cell? ((backAd g c i).add j) = some u := by
  intro j u hu
  have hj := getE_lt hu
  rw [ntVs_len] at hj
  rw [backAd_add hL hi (by omega), h.2 (i + 1 + j) (by omega), ← hu]
  unfold ntVs
  rw [List.getElem?_map, List.getElem?_map, List.getElem?_append_right (by omega), show i + 1 + j - l1.length = j + 1 by omega]
  rfl
theorem ntVs_one (l : List Nat) : ∀ u ∈ ntVs l, u.oneCell' = true := fun u hu => by
  obtain ⟨x, _, rfl⟩ := List.mem_map.1 hu
  rfl
theorem ntVs_append (l1 l2 : List Nat) : ntVs (l1 ++ l2) = ntVs l1 ++ ntVs l2 := by unfold ntVs; simp

/-- at a step of a region that draws: an append of any number of elements, also of none, out of a slice that is not nil -/
theorem step_append_any {P : Program} {w : World} {ops : Array Oper} {o : Oper} {a : Act} {K : Act → World → Prop} {Q : Exit → Act → World → Prop} {E : Prop} (hgd : o.guard = none) (s x : Operand) (t : TypeId)
    (ho : o.op = .call { callee := .builtin .append, args := #[s, x], argTypes := #[t, t] })
    (base : Nat) (e : TypeId) (i : TypeInfo) (z : Value) (size bytes : Nat) (ht : P.underlying t = some (.slice e)) (hi : P.info? e = some i) (hz : i.zero = some z)
    (hsize : i.size = size) (hby : i.bytes = bytes) (hzs : z.cells.size = size) (hsz : 0 < size)
    (v : Value) (n : Nat) (xs : List Value) (hs : a.eval s = v) (hown : w.ownsRow base e size v n xs)
    (ad : Addr) (m c : Nat) (news : List Value) (hx : a.eval x = .slice (some ad) m c) (hl : news.length = m * size) (hnews : ∀ j u, news[j]? = some u → w.cell? (ad.add j) = some u) (h1 : ∀ u ∈ news, u.oneCell' = true)
    (h63 : n + m ≤ maxLen) (hbytes : (n + m) * bytes ≤ 140737488355328) (hbase : base ≤ w.heap.size) (H : Nat) (hH : w.heap.size = H)
    (h : ∀ v' w', w'.ownsRow base e size v' (n + m) (xs ++ news) → w.grownBy w' v.ownBlock → (v'.ownBlock = v.ownBlock ∨ v'.ownBlock = some H) → (v ≠ .slice none 0 0 → v' ≠ .slice none 0 0) → K (a.put o.dst v') w') :
    if Region.wanted o (yielded ops a.tmps) = true then Oper.wp P o a w K Q else E := by
  have hw : Region.wanted o (yielded ops a.tmps) = true := by simp [Region.wanted, hgd]
  rw [if_pos hw]
  obtain ⟨v', w', hr, h2, h3, h4, h5⟩ := run_append_own_at (P := P) w base t o.type e i z size bytes ht hi hz hsize hby hzs hsz v n xs hown ad m c news hl hnews h1 h63 hbytes hbase
  rw [hH] at h5
  unfold Oper.wp execOp
  simp only [ho, resolve, invoke, builtin, Sem.run_bind, Sem.run_pure, Result.andThen_ok, List.map_toArray, List.map_cons, List.map_nil, hs, hx, hr]
  exact h v' w' h2 h3 h5 (fun hv e => hv (h4.1 e).1)
theorem own_some {w : World} {base n : Nat} {e : TypeId} {v : Value} {xs : List Value} (h : w.ownsRow base e 1 v n xs) (hv : v ≠ .slice none 0 0) : ∃ g c, v = .slice (some ⟨g, 0, none⟩) n c ∧ g < w.heap.size := by
  rcases h.2 with ⟨h1, _⟩ | ⟨g, cap, cur, rfl, hb, hg, _⟩
  · exact absurd h1 hv
  · exact ⟨g, cap, rfl, (h.lt g rfl).2⟩
end Go.Proofs.Ythiobfghanlelaa
