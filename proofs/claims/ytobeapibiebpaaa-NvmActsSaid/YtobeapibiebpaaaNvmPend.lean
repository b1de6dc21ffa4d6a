/-
  Memories (nvm.Mem): Pending, Fence.
-/
import Derived.Test.YtobeapibiebpaaaNvmCrash
import Derived.Test.YtobeapibiebpaaaSort
import Derived.Test.YtobeapibiebpaaaRow
import Derived.Sort.OwnSortedInts
namespace Go.Proofs.Ytobeapibiebpaaa
open Go.ChangeShapes Go.WideShapes Go.ChangeAt Go.RowKit Go.Maps
set_option linter.unusedVariables false
set_option linter.unusedSimpArgs false

theorem own_mono {w : World} {base base' : Nat} {e : TypeId} {size : Nat} {v : Value} {n : Nat} {xs : List Value} (h : w.ownsRow base e size v n xs) (hb : base' ≤ base) : w.ownsRow base' e size v n xs := by
  refine ⟨h.1, ?_⟩
  rcases h.2 with h2 | ⟨g, cap, cur, rfl, hbg, hr⟩
  · exact .inl h2
  · exact .inr ⟨g, cap, cur, rfl, Nat.le_trans hb hbg, hr⟩
/-! a list of ints, sorted -/
def sortL (ss : List Int) : List Int := ss.mergeSort fun x y => decide (x ≤ y)
theorem sortL_eq {ss ts : List Int} (h : ss.Perm ts) (hs : ts.Pairwise (· ≤ ·)) : sortL ss = ts := by
  have tr : ∀ a b c : Int, decide (a ≤ b) = true → decide (b ≤ c) = true → decide (a ≤ c) = true := fun a b c h1 h2 => by simp only [decide_eq_true_eq] at *; omega
  have to : ∀ a b : Int, (decide (a ≤ b) || decide (b ≤ a)) = true := fun a b => by simp only [Bool.or_eq_true, decide_eq_true_eq]; omega
  refine List.Perm.eq_of_pairwise (le := fun a b => decide (a ≤ b) = true) (fun a b _ _ h1 h2 => ?_) (List.pairwise_mergeSort tr to ss) (hs.imp (fun h => decide_eq_true h)) ((List.mergeSort_perm ss _).trans h)
  simp only [decide_eq_true_eq] at h1 h2
  omega
theorem sortL_len (ss : List Int) : (sortL ss).length = ss.length := List.length_mergeSort _

theorem Sort_own {base : Nat} {v : Value} {ss : List Int} {w : World} (hm : ss.length < 4611686018427387904) (h : w.ownsRow base 3 1 v ss.length (ss.map (Value.int .i64))) :
    Calls Try.prog 37 #[v] w fun e w' => e = .returned (.tuple #[]) ∧ w'.ownsRow base 3 1 v ss.length ((sortL ss).map (Value.int .i64)) ∧ w.grownBy w' v.ownBlock := by
  rcases h.2 with ⟨rfl, hz⟩ | ⟨g, cap, cur, rfl, hbase, hb, h1, h2, h3, h4⟩
  · obtain rfl : ss = [] := List.eq_nil_of_length_eq_zero hz
    refine (Go.Proofs.Try.slices_Sort_int_none none 0 w).mono ?_
    rintro e w' ⟨he, rfl⟩
    exact ⟨he, by simpa [sortL] using h, World.grownBy.refl _ _⟩
  · refine (Go.Proofs.Try.slices_Sort_int g 0 cap ss w (holds_of_blockI hb (by simpa using h4)) (Array.getElem?_eq_some_iff.1 hb).1 hm).mono ?_
    rintro e w' ⟨he, n, os, rfl⟩
    exact ⟨he, ownsRow_sortedI (sortL_len ss) hbase hb h1 h2 h3, grownBy_sortedI _⟩

/-- the lines that are pending of whom -/
def pendL (n : Nat) (p : Int → Nat → Bool) (who : Int) : List Nat := (List.range n).filter fun l => p who l
theorem pendL_mem {n : Nat} {p : Int → Nat → Bool} {who : Int} {l : Nat} (h : p who l = true → l < n) : l ∈ pendL n p who ↔ p who l = true := by
  unfold pendL
  rw [List.mem_filter, List.mem_range]
  exact ⟨fun h => h.2, fun hp => ⟨h hp, hp⟩⟩
theorem pendL_le (n : Nat) (p : Int → Nat → Bool) (who : Int) : (pendL n p who).length ≤ n := by
  unfold pendL
  exact Nat.le_trans (List.length_filter_le _ _) (by simp)
def castL (l : List Nat) : List Int := l.map fun (n : Nat) => (n : Int)

/-- what was collected of whom, of the entries that have come -/
def Coll (D : DataW Unit) (left : Lit → Bool) (who : Int) (ss : List Int) : Prop :=
  ss.Nodup ∧ (∀ x ∈ ss, (Lit.int .i64 x).wf = true) ∧ ∀ x : Int, (Lit.int .i64 x).wf = true → (x ∈ ss ↔ (Maps.has D (flL who x) = true ∧ left (flL who x) = false))
theorem Coll.start (D : DataW Unit) (who : Int) : Coll D (Maps.has D) who [] :=
  ⟨List.nodup_nil, by simp, fun x _ => by cases Maps.has D (flL who x) <;> simp⟩
theorem Coll.same {D : DataW Unit} {left : Lit → Bool} {who a b : Int} {ss : List Int} (h : Coll D left who ss) (hw : (Lit.int .i64 who).wf = true) (ha : (Lit.int .i64 a).wf = true) (hb : (Lit.int .i64 b).wf = true) (hne : a ≠ who) :
    Coll D (fun z => left z && !z.sameKey (flL a b)) who ss := by
  refine ⟨h.1, h.2.1, fun x hx => ?_⟩
  rw [h.2.2 x hx]
  have e : (flL who x).sameKey (flL a b) = false := Maps.sameKey_ne (fun e => hne (fl_inj hw hx ha hb e).1.symm)
  simp [e]
theorem Coll.step {D : DataW Unit} {left : Lit → Bool} {who b : Int} {ss : List Int} (h : Coll D left who ss) (hw : (Lit.int .i64 who).wf = true) (hb : (Lit.int .i64 b).wf = true) (hl : left (flL who b) = true) (hh : Maps.has D (flL who b) = true) :
    Coll D (fun z => left z && !z.sameKey (flL who b)) who (ss ++ [b]) := by
  have hnb : b ∉ ss := fun hm => by rw [((h.2.2 b hb).1 hm).2] at hl; cases hl
  refine ⟨?_, ?_, fun x hx => ?_⟩
  · rw [List.nodup_append]
    exact ⟨h.1, by simp, fun x hx y hy e => by simp at hy; subst hy; subst e; exact hnb hx⟩
  · intro x hx
    rcases List.mem_append.1 hx with h1 | h1
    · exact h.2.1 x h1
    · simp at h1; subst h1; exact hb
  · by_cases e : x = b
    · subst e
      have : (flL who x).sameKey (flL who x) = true := WideAt.sameKey_self (fl_isKey _ _)
      simp [this, hh]
    · have h1 : (flL who x).sameKey (flL who b) = false := Maps.sameKey_ne (fun h2 => e (fl_inj hw hx hw hb h2).2)
      rw [List.mem_append, h.2.2 x hx]
      simp [h1, e]
theorem Coll.done {D : DataW Unit} {left : Lit → Bool} {who : Int} {ss : List Int} {n : Nat} {p : Int → Nat → Bool} (h : Coll D left who ss) (hw : (Lit.int .i64 who).wf = true) (hl : ∀ kl, left kl = false) (hp : PendIs D n p) (hn : n < 2 ^ 62) :
    sortL ss = castL (pendL n p who) ∧ ss.length = (pendL n p who).length := by
  have hmem : ∀ x : Int, x ∈ ss ↔ x ∈ castL (pendL n p who) := by
    intro x
    unfold castL
    rw [List.mem_map]
    constructor
    · intro hx
      have hxw := h.2.1 x hx
      obtain ⟨l, rfl, hl⟩ := (hp.has who x hw hxw).1 ((h.2.2 x hxw).1 hx).1
      exact ⟨l, (pendL_mem (fun h => (hp.low who l h).2.2)).2 hl, rfl⟩
    · rintro ⟨l, hl2, rfl⟩
      have h1 := (pendL_mem (n := n) (fun h => (hp.low who l h).2.2)).1 hl2
      have h2 := (hp.low who l h1).2.2
      have hxw : (Lit.int .i64 (l : Int)).wf = true := wf_small (by omega) (by omega)
      exact (h.2.2 _ hxw).2 ⟨(hp.has who _ hw hxw).2 ⟨l, rfl, h1⟩, hl _⟩
  have hs : (castL (pendL n p who)).Pairwise (· < ·) := by
    unfold castL pendL
    rw [List.pairwise_map]
    exact (List.Pairwise.filter _ List.pairwise_lt_range).imp (fun h => by omega)
  have hnd : (castL (pendL n p who)).Nodup := hs.imp (fun h => by omega)
  have hperm := (List.perm_ext_iff_of_nodup h.1 hnd).2 hmem
  exact ⟨sortL_eq hperm (hs.imp (fun h => by omega)), by rw [hperm.length_eq]; unfold castL; simp⟩

set_option maxHeartbeats 1600000 in
theorem Pending_m (o : Geo) (lim : Nat) (s : Mst) (who : Int) (hw : (Lit.int .i64 who).wf = true) (hlim : lim < 2 ^ 40) (w : World) (h : IsMem w o lim s) :
    Calls Try.prog 17 #[.pointer (some ⟨o.b, 0, none⟩), .int .i64 who] w fun e w' =>
      ∃ v, e = .returned v ∧ w'.ownsRow w.heap.size 3 1 v (pendL (o.n / 8) s.P who).length ((castL (pendL (o.n / 8) s.P who)).map (Value.int .i64)) ∧ Below w.heap.size w w' := by
  have c2 := h.cells.2.2
  have hn := h.nmax
  have hmlt := h.mlt
  obtain ⟨k, D, hk, hown, hp⟩ := h.pend
  have HP := hidp hp
  have hsz := hown.size_le
  obtain ⟨i0, hi, hz0, hz1, hz2⟩ := info_parts intInfo
  have HW := hidp hw
  clear h hp hw
  go_enter Try.func17, Try.ntmps17
  go_wp2_with (first
    | (at_range; refine wpList_range_own _ rfl _ 52 rfl 58 61 flKey Try.underlying52 unitElem o.m k D rfl hown ?_; intro w0 hrg0 hg0 hs0)
    | go_in)
  go_frame
  have HC0 : Hid (Coll D (Maps.has D) who []) := hidp (Coll.start D who)
  have HB0 : Hid (Below w.heap.size w w0) := hidp ⟨hg0.os, hg0.tape, hg0.output, hg0.size, fun i hi => hg0.block i hi (by simp)⟩
  have invK : ∀ key kl, keyOf Try.prog 58 key = some kl → ∃ x : Int × Int, key = .agg #[.int .i64 x.1, .int .i64 x.2] := fun key kl h => by
    obtain ⟨x, h1, _⟩ := fl_inv h
    exact ⟨x, h1⟩
  have invV : ∀ (v : Value) (y : DataW Unit × List MemPlace), unitElem v = some y → ∃ c : Unit, v = .agg #[] := fun v y h => ⟨(), (unitElem_inv h).1⟩
  clear hown
  go_loopw [5] (fun v wr => ∃ (left : Lit → Bool) (cnt : Nat) (ss : List Int), wr.ranges Try.prog 58 unitElem o.m w.heap.size k D left cnt ∧ wr.ownsRow (w.heap.size + 1) 3 1 v ss.length (ss.map (Value.int .i64)) ∧ Hid (Coll D left who ss) ∧ ss.length + cnt ≤ Maps.size D ∧ Hid (Below w.heap.size w wr) ∧ w.heap.size + 1 ≤ wr.heap.size)
    (fun _ wr => wr.rangeLeft o.m w.heap.size)
  case atStart => exact ⟨_, _, [], hrg0, World.ownsRow_nil _ _ _ _, HC0, by simp, HB0, by omega⟩
  case round =>
    obtain ⟨left, cnt, ss, hrg, hrow, HC, hcnt, HB, hws⟩ := hrel
    clear hrg0 hg0 hs0 HC0 HB0
    go_wp2_with (first
      | (at_next; refine wpList_next_ranges _ rfl _ rfl 58 flKey unitElem (fun x : Int × Int => .agg #[.int .i64 x.1, .int .i64 x.2]) (fun _ : Unit => .agg #[]) invK invV o.m w.heap.size k _ _ _ rfl hrg ?_ ?_)
      | go_in)
    · intro hc0 hl0
      have hd := HC.out.done HW.out hl0 HP.out (by omega)
      have HD1 := hidp hd.1
      have HD2 := hidp hd.2
      have HR := hidp hrow
      clear hd hrow hrg
      go_wp2_with fail
      refine (Sort_own (by omega) HR.out).mono ?_
      rintro e w3 ⟨rfl, hown3, hgrow3⟩
      go_wp2
      go_ret
      rw [HD1.out, HD2.out] at hown3
      refine ⟨_, rfl, ?_, HB.out.grown hgrow3 (by omega) (fun j hj => by have := HR.out.lt j hj; omega)⟩
      exact own_mono hown3 (by omega)
    · intro x1 x2 kl yd yp w2 cnt2 hkey hlk hv hat hrg2 hlt2 hg2 hs2 hen
      obtain ⟨⟨y1, y2⟩, he, hw1, hw2, hkl⟩ := fl_inv hkey
      simp only [flV, Value.agg.injEq] at he hw1 hw2 hkl
      obtain ⟨rfl, rfl⟩ : x1 = y1 ∧ x2 = y2 := by simpa using he
      subst hkl
      have hhas := has_true_of_atKey hat
      have hrow2 := hrow.kept hg2 (Or.inr (row_ne_low hrow (Nat.lt_succ_self _)).symm)
      have HB2 : Hid (Below w.heap.size w w2) := hidp (HB.out.grown hg2 HB.out.size (fun j hj => by cases hj; exact Nat.le_refl _))
      have hws2 : w.heap.size + 1 ≤ w2.heap.size := by omega
      have HRG := hidp hrg
      have HRG2 := hidp hrg2
      have HM : Hid (cnt2 < cnt) := hidp hlt2
      clear hrow hg2 hs2 hrg hrg2 he hat hv hkey
      by_cases hwho : x1 = who
      · subst hwho
        have HCC := hidp (HC.out.step HW.out hw2 hlk hhas)
        have HRW := hidp hrow2
        clear hlk hhas hrow2
        go_wp2_with (first
          | (at_builtin
             refine wpList_append_own _ rfl _ _ 43 rfl (w.heap.size + 1) 3 i0 (.int .i64 0) 1 8 Try.underlying43 hi hz0 hz1 hz2 rfl (by decide) _ _ _ rfl ((HRW.out.alloc _).alloc _) ⟨_, 0, none⟩ 1 1 [.int .i64 x2] rfl rfl ?c1 ?c2 ?c3 ?c4 ?c5 ?_
             case c1 => intro j y hy; rcases j with _ | j; (· simp at hy; subst hy; simp [Addr.add]); (· simp at hy)
             case c2 => simp [Value.oneCell']
             case c3 => unfold maxLen; omega
             case c4 => omega
             case c5 => simp; omega
             intro v' w4 hown4 hgrow4 _)
          | go_in)
        go_roundw
        case rel =>
          have hr4 := ((HRG2.out.alloc (.cells #[.int .i64 x1, .int .i64 x2] 58)).alloc (.cells #[.int .i64 x2] 3)).kept hgrow4 (row_ne_low HRW.out (by omega)) (row_ne_low HRW.out (by omega))
          exact ⟨_, cnt2, ss ++ [x2], hr4, by simpa using hown4, HCC, by have := HM.out; simp; omega, hidp (((Bnew (Bnew HB2.out _) _)).grown hgrow4 (by simp; omega) (fun j hj => by have := HRW.out.lt j hj; omega)), by have := hgrow4.size; simp at this; omega⟩
        case measure =>
          have hr4 := ((HRG2.out.alloc (.cells #[.int .i64 x1, .int .i64 x2] 58)).alloc (.cells #[.int .i64 x2] 3)).kept hgrow4 (row_ne_low HRW.out (by omega)) (row_ne_low HRW.out (by omega))
          rw [hr4.left_eq, HRG.out.left_eq]
          exact HM.out
      · have t0 : (x1 == who) = false := by simp [hwho]
        have HCC := hidp (HC.out.same HW.out hw1 hw2 hwho)
        have HRW := hidp hrow2
        clear hlk hhas hrow2 hwho
        go_wp2
        go_roundw
        case rel =>
          exact ⟨_, cnt2, ss, HRG2.out.alloc (.cells #[.int .i64 x1, .int .i64 x2] 58), HRW.out.alloc _, HCC, by have := HM.out; omega, hidp (Bnew HB2.out _), by simp; omega⟩
        case measure =>
          rw [(HRG2.out.alloc (.cells #[.int .i64 x1, .int .i64 x2] 58)).left_eq, HRG.out.left_eq]
          exact HM.out

/-- what is kept behind whole lines were kept -/
def keepAll (W K : Nat → Nat) (L : List Nat) : Nat → Nat := fun x => if L.contains (x / 8) then W x else K x
def delAll (p : Int → Nat → Bool) (who : Int) (L : List Nat) : Int → Nat → Bool := fun a l => !(a == who && L.contains l) && p a l
def fenceS (n : Nat) (s : Mst) (who : Int) : Mst := ⟨s.W, keepAll s.W s.K (pendL (n / 8) s.P who), delAll s.P who (pendL (n / 8) s.P who)⟩
theorem keepAll_step (W K : Nat → Nat) (L : List Nat) (l : Nat) : keepK W (keepAll W K L) l 255 8 = keepAll W K (L ++ [l]) := by
  funext x
  have ht : ∀ i : Nat, i < 8 → Nat.testBit 255 i = true := by decide
  unfold keepK keepAll
  by_cases h : x / 8 = l
  · rw [if_pos ⟨by omega, by omega, ht _ (by omega)⟩, if_pos (by simp [h])]
  · rw [if_neg (by omega)]
    have : (L ++ [l]).contains (x / 8) = L.contains (x / 8) := by simp [h]
    rw [this]
theorem delAll_step (p : Int → Nat → Bool) (who : Int) (L : List Nat) (l : Nat) : delP (delAll p who L) who l = delAll p who (L ++ [l]) := by
  funext a x
  unfold delP delAll
  have e : (L ++ [l]).contains x = (L.contains x || x == l) := by
    rw [List.contains_append]
    simp [List.contains_cons, List.contains_nil]
    rw [Bool.eq_iff_iff]
    simp
  rw [e]
  cases (a == who) <;> cases (x == l) <;> cases (L.contains x) <;> rfl
theorem keepAll_nil (W K : Nat → Nat) : keepAll W K [] = K := by funext x; simp [keepAll]
theorem delAll_nil (p : Int → Nat → Bool) (who : Int) : delAll p who [] = p := by funext a x; simp [delAll]
theorem own_turns {F : Nat → Prop} {w w' : World} {base : Nat} {e : TypeId} {size : Nat} {v : Value} {n : Nat} {xs : List Value} (h : w.ownsRow base e size v n xs) (hb : Turns F w w') (hf : ∀ g, base ≤ g → ¬ F g) : w'.ownsRow base e size v n xs := by
  have hl := h.lt
  refine ⟨h.1, ?_⟩
  rcases h.2 with h2 | ⟨g, cap, cur, rfl, hbg, hg, hr⟩
  · exact .inl h2
  · exact .inr ⟨g, cap, cur, rfl, hbg, (hb.block g (hl g rfl).2 (hf g hbg)).trans hg, hr⟩
theorem castL_at (L : List Nat) {j : Nat} (h : j < L.length) : ((castL L).map (Value.int .i64))[j]? = some (.int .i64 ((L.getD j 0 : Nat) : Int)) := by
  unfold castL
  simp [List.getD, List.getElem?_eq_getElem h]
theorem take_snoc (L : List Nat) {j : Nat} (h : j < L.length) : L.take (j + 1) = L.take j ++ [L.getD j 0] := by
  rw [List.take_add_one, List.getElem?_eq_getElem h]
  simp [List.getD, List.getElem?_eq_getElem h]

set_option maxHeartbeats 1600000 in
theorem Fence_m (o : Geo) (lim : Nat) (s : Mst) (who : Int) (hw : (Lit.int .i64 who).wf = true) (hlim : lim < 2 ^ 40) (w : World) (h : IsMem w o lim s) :
    Calls Try.prog 23 #[.pointer (some ⟨o.b, 0, none⟩), .int .i64 who] w fun e w' =>
      e = .returned (.int .i64 (((pendL (o.n / 8) s.P who).length : Nat) : Int)) ∧ IsMem w' o lim (fenceS o.n s who) ∧ Turns o.F w w' := by
  have HH := hidp h
  have hn := h.nmax
  have hFlt : Hid (∀ g, w.heap.size ≤ g → ¬ o.F g) := hidp (fun g hg hf => by
    have h1 := h.words.lt
    have h2 := h.kept.lt
    have h3 := h.mlt
    rcases hf with rfl | rfl | rfl <;> omega)
  have HW := hidp hw
  have HLOW : Hid (∀ l ∈ pendL (o.n / 8) s.P who, l < o.n / 8) := hidp (fun l hl => by
    unfold pendL at hl
    exact List.mem_range.1 (List.mem_filter.1 hl).1)
  have HLEN : Hid ((pendL (o.n / 8) s.P who).length ≤ o.n / 8) := hidp (by
    unfold pendL
    exact Nat.le_trans (List.length_filter_le _ _) (by simp))
  clear h hw
  unfold fenceS
  obtain ⟨L, hL⟩ : ∃ L, pendL (o.n / 8) s.P who = L := ⟨_, rfl⟩
  have HL := hidp hL
  rw [hL] at HLOW HLEN ⊢
  clear hL
  go_enter Try.func23, Try.ntmps23
  go_wp2_with fail
  refine (Pending_m o lim s who HW.out hlim _ HH.out).mono ?_
  rintro e w1 ⟨v, rfl, hown1, hb1⟩
  rw [HL.out] at hown1
  obtain ⟨A, c, rfl⟩ := own_slice hown1
  have HO := hidp hown1
  have HB := hidp hb1
  have HI0 : Hid (IsMem w1 o lim ⟨s.W, keepAll s.W s.K (L.take 0), delAll s.P who (L.take 0)⟩) := hidp (by
    rw [List.take_zero, keepAll_nil, delAll_nil]
    exact HH.out.keep hb1)
  have hlen : L.length ≤ 8192 := by have := HLEN.out; omega
  clear hown1 hb1
  go_wp2_with fail
  go_loopw [7, 13] (fun _ i wr => ∃ j : Nat, j ≤ L.length ∧ i = .int .i64 j ∧ Hid (IsMem wr o lim ⟨s.W, keepAll s.W s.K (L.take j), delAll s.P who (L.take j)⟩) ∧ Hid (Turns o.F w wr) ∧ Hid (wr.ownsRow w.heap.size 3 1 (.slice A L.length c) L.length ((castL L).map (Value.int .i64))))
    (fun _ i _ => L.length - (intOf i).toNat)
  case atStart => exact ⟨0, by omega, rfl, HI0, hidp (Turns.of_below HB.out _), HO⟩
  case round =>
    obtain ⟨j, hj, rfl, HI, HT, HR⟩ := hrel
    by_cases hlt : j < L.length
    · obtain ⟨g, cap, hv, hg1, hg2⟩ := HR.out.form (by omega)
      injection hv with hA _ hcap
      subst hA
      subst hcap
      have hcell := HR.out.cellAt j (by omega)
      rw [castL_at L hlt] at hcell
      have HT1 := hidp (take_snoc L hlt)
      have hl := HLOW.out (L.getD j 0) (by simp [List.getD, List.getElem?_eq_getElem hlt])
      generalize L.getD j 0 = l at *
      go_wp2_with fail
      refine (keep_c o lim _ l 255 hl (by omega) _ HI.out).mono ?_
      rintro e w2 ⟨rfl, hI2, hT2⟩
      have c2 := hI2.cells.2.2
      obtain ⟨kk, D, hkk, hown, hp⟩ := hI2.pend
      have HO2 := hidp hown
      have HI2 := hidp hI2
      have HT2 := hidp hT2
      have hkey : keyOf Try.prog 58 (.agg #[.int .i64 who, .int .i64 (l : Int)]) = some (flL who (l : Int)) := fl_key HW.out (wf_small (by omega) (by omega))
      have HP2 := hidp (hp.del (a := who) (l := l) HW.out (by omega))
      have HR2 := hidp (own_turns HR.out hT2 hFlt.out)
      clear hI2 hown hp hT2
      go_wp2_with (first
        | (at_delete; refine wpList_delete_own _ rfl _ _ 52 58 rfl 61 flKey Try.underlying52 _ o.m kk D rfl HO2.out _ _ rfl hkey ?_; intro w3 hown3 hturn3)
        | go_in)
      go_roundw
      case rel =>
        have ht3 : Turns (fun i => i = o.m) w2 w3 := Turns.of_grown hturn3.grown rfl
        refine ⟨j + 1, by omega, by go_num, hidp ?_, hidp ((HT.out.trans HT2.out).trans (ht3.more (fun i hi => .inr (.inr hi)))), hidp (own_turns HR2.out (ht3.more (fun i hi => .inr (.inr hi))) hFlt.out)⟩
        rw [HT1.out, ← keepAll_step, ← delAll_step]
        exact { HI2.out with
          head := ht3.held HI2.out.head HI2.out.bm
          words := HI2.out.words.turns ht3 HI2.out.gm
          kept := HI2.out.kept.turns ht3 HI2.out.hm
          pend := ⟨kk, _, hkk, hown3, HP2.out⟩ }
      case measure => simp [intOf]; omega
    · obtain rfl : j = L.length := by omega
      go_wp2
      go_ret
      have := HI.out
      rw [List.take_length] at this
      exact ⟨rfl, this, HT.out⟩
end Go.Proofs.Ytobeapibiebpaaa
