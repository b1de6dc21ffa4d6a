/-
  Memories (nvm.Mem): what one is, and contracts of its methods that neither clone nor range.
-/
import Derived.Test.YtobeapibiebpaaaFlushed
namespace Go.Proofs.Ytobeapibiebpaaa
open Go.ChangeShapes Go.WideShapes Go.ChangeAt Go.RowKit Go.Maps
set_option linter.unusedVariables false
set_option linter.unusedSimpArgs false

/-- the words as they are, as they are kept, and what is pending of whom -/
structure Mst where
  W : Nat → Nat
  K : Nat → Nat
  P : Int → Nat → Bool
/-- where a memory's things stand -/
structure Geo where
  b : Nat
  g : Nat
  h : Nat
  m : Nat
  n : Nat
  cg : Nat
  ch : Nat
def Geo.F (o : Geo) : Nat → Prop := fun i => i = o.g ∨ i = o.h ∨ i = o.m
def wordF (f : Nat → Nat) : Nat → Value := fun i => .int .u64 ((f i : Nat) : Int)

theorem wordF_upd (f : Nat → Nat) (i v j : Nat) : updF (wordF f) i (.int .u64 (v : Int)) j = wordF (updF f i v) j := by
  by_cases e : j = i
  · subst e; simp [wordF, updF_same]
  · simp [wordF, updF_other _ _ e]

structure IsMem (w : World) (o : Geo) (lim : Nat) (s : Mst) : Prop where
  head : Held w o.b 54 #[.slice (some ⟨o.g, 0, none⟩) o.n o.cg, .slice (some ⟨o.h, 0, none⟩) o.n o.ch, .map (some o.m)]
  words : RowF w o.g 30 o.n o.cg (wordF s.W)
  kept : RowF w o.h 30 o.n o.ch (wordF s.K)
  pend : ∃ k D, k ≤ lim ∧ w.ownsMap Try.prog 58 unitElem o.m k D ∧ PendIs D (o.n / 8) s.P
  n8 : 8 ≤ o.n
  nmax : o.n ≤ 65536
  nmod : o.n % 8 = 0
  bg : o.b ≠ o.g
  bh : o.b ≠ o.h
  gh : o.g ≠ o.h
  w64 : ∀ i, s.W i < 2 ^ 64
  k64 : ∀ i, s.K i < 2 ^ 64

theorem held_ne_map {H : Type} {w : World} {g b n : Nat} {t k : TypeId} {cs : Array Value} {P : Program} {R : Value → Option (DataW H × List MemPlace)} {D : DataW H} (h : Held w g t cs) (hm : w.ownsMap P k R b n D) : g ≠ b := by
  rintro rfl
  obtain ⟨es, clock, hb, _⟩ := hm
  unfold Held at h
  rw [h] at hb
  cases hb
theorem row_ne_map {H : Type} {w : World} {g b n m c : Nat} {t k : TypeId} {f : Nat → Value} {P : Program} {R : Value → Option (DataW H × List MemPlace)} {D : DataW H} (h : RowF w g t m c f) (hm : w.ownsMap P k R b n D) : g ≠ b := by
  obtain ⟨cs, h1, _⟩ := h
  exact held_ne_map h1 hm

section
variable {w w' : World} {o : Geo} {lim : Nat} {s : Mst}
theorem IsMem.mlt (h : IsMem w o lim s) : o.m < w.heap.size := by obtain ⟨k, D, _, h1, _⟩ := h.pend; exact h1.lt
theorem IsMem.Flt (h : IsMem w o lim s) : ∀ i, o.F i → i < w.heap.size := fun i hi => by
  have h1 := h.words.lt
  have h2 := h.kept.lt
  have h3 := h.mlt
  rcases hi with rfl | rfl | rfl <;> assumption
theorem IsMem.bm (h : IsMem w o lim s) : o.b ≠ o.m := by obtain ⟨k, D, _, h1, _⟩ := h.pend; exact held_ne_map h.head h1
theorem IsMem.gm (h : IsMem w o lim s) : o.g ≠ o.m := by obtain ⟨k, D, _, h1, _⟩ := h.pend; exact row_ne_map h.words h1
theorem IsMem.hm (h : IsMem w o lim s) : o.h ≠ o.m := by obtain ⟨k, D, _, h1, _⟩ := h.pend; exact row_ne_map h.kept h1
theorem IsMem.turns {F : Nat → Prop} (h : IsMem w o lim s) (hb : Turns F w w') (h1 : ¬ F o.b) (h2 : ¬ F o.g) (h3 : ¬ F o.h) (h4 : ¬ F o.m) : IsMem w' o lim s :=
  { h with
    head := hb.held h.head h1
    words := h.words.turns hb h2
    kept := h.kept.turns hb h3
    pend := by
      obtain ⟨k, D, hk, hm, hp⟩ := h.pend
      exact ⟨k, D, hk, owns_turns hm hb h4, hp⟩ }
theorem IsMem.keep (h : IsMem w o lim s) (hb : Below w.heap.size w w') : IsMem w' o lim s :=
  h.turns (F := fun _ => False) (Turns.of_below hb _) (fun x => x) (fun x => x) (fun x => x) (fun x => x)
theorem IsMem.draw (h : IsMem w o lim s) (n : Nat) : IsMem (w.drewN n) o lim s := h.keep (Bdraw (B0 _) n)
theorem IsMem.more (h : IsMem w o lim s) {lim' : Nat} (hl : lim ≤ lim') : IsMem w o lim' s :=
  { h with
    pend := by
      obtain ⟨k, D, hk, hm, hp⟩ := h.pend
      exact ⟨k, D, by omega, hm, hp⟩ }
theorem IsMem.setW (h : IsMem w o lim s) {i v : Nat} (hi : i < o.n) (hv : v < 2 ^ 64) : IsMem (w.setCell ⟨o.g, i, none⟩ (.int .u64 (v : Int))) o lim { s with W := updF s.W i v } :=
  { h with
    head := h.head.far (p := ⟨o.g, i, none⟩) h.bg _
    words := (h.words.put hi _).congr (fun j _ => wordF_upd _ _ _ j)
    kept := h.kept.far (p := ⟨o.g, i, none⟩) h.gh.symm _
    pend := by
      obtain ⟨k, D, hk, hm, hp⟩ := h.pend
      exact ⟨k, D, hk, hm.setCell (a := ⟨o.g, i, none⟩) h.gm.symm _, hp⟩
    w64 := fun j => by
      show updF s.W i v j < 2 ^ 64
      unfold updF
      split
      · exact hv
      · exact h.w64 j }
theorem IsMem.setK (h : IsMem w o lim s) {i v : Nat} (hi : i < o.n) (hv : v < 2 ^ 64) : IsMem (w.setCell ⟨o.h, i, none⟩ (.int .u64 (v : Int))) o lim { s with K := updF s.K i v } :=
  { h with
    head := h.head.far (p := ⟨o.h, i, none⟩) h.bh _
    words := h.words.far (p := ⟨o.h, i, none⟩) h.gh _
    kept := (h.kept.put hi _).congr (fun j _ => wordF_upd _ _ _ j)
    pend := by
      obtain ⟨k, D, hk, hm, hp⟩ := h.pend
      exact ⟨k, D, hk, hm.setCell (a := ⟨o.h, i, none⟩) h.hm.symm _, hp⟩
    k64 := fun j => by
      show updF s.K i v j < 2 ^ 64
      unfold updF
      split
      · exact hv
      · exact h.k64 j }
theorem IsMem.cells (h : IsMem w o lim s) : w.cell? ⟨o.b, 0, none⟩ = some (.slice (some ⟨o.g, 0, none⟩) o.n o.cg) ∧ w.cell? ⟨o.b, 1, none⟩ = some (.slice (some ⟨o.h, 0, none⟩) o.n o.ch) ∧ w.cell? ⟨o.b, 2, none⟩ = some (.map (some o.m)) := h.head.three
end
def memP (b : Nat) : Value := .pointer (some ⟨b, 0, none⟩)
/-- whether there is a word at -/
def hasW (n : Nat) (a : Int) : Bool := decide (0 ≤ a ∧ a < n)

theorem has_c (o : Geo) (lim : Nat) (s : Mst) (a : Int) (w : World) (h : IsMem w o lim s) :
    Calls Try.prog 38 #[.pointer (some ⟨o.b, 0, none⟩), .int .i64 a] w fun e w' => e = .returned (.bool (hasW o.n a)) ∧ w' = w := by
  have HC := hidp h.cells
  have hmx := h.words.max
  have hle := h.words.le
  unfold maxLen at hmx
  obtain ⟨b, g, hh, m, n, cg, ch⟩ := o
  simp only at *
  clear h
  have c0 := HC.out.1
  clear HC
  rcases Int.lt_or_le a 0 with h1 | h1
  · have HV : Hid (hasW n a = false) := hidp (decide_eq_false (by omega))
    go_enter Try.func38, Try.ntmps38
    go_wp2
    go_ret
    exact ⟨by rw [HV.out]; rfl, rfl⟩
  · have t0 : decide (a < 0) = false := decide_eq_false (by omega)
    rcases Int.lt_or_le a n with h2 | h2
    · have HV : Hid (hasW n a = true) := hidp (decide_eq_true ⟨h1, h2⟩)
      have t1 : decide (a < (n : Int)) = true := decide_eq_true h2
      go_enter Try.func38, Try.ntmps38
      go_wp2
      go_ret
      exact ⟨by rw [HV.out]; rfl, rfl⟩
    · have HV : Hid (hasW n a = false) := hidp (decide_eq_false (by omega))
      have t1 : decide (a < (n : Int)) = false := decide_eq_false (by omega)
      go_enter Try.func38, Try.ntmps38
      go_wp2
      go_ret
      exact ⟨by rw [HV.out]; rfl, rfl⟩

def loadV (n : Nat) (s : Mst) (a : Int) : Nat := if hasW n a then s.W a.toNat else 0
def storeS (n : Nat) (s : Mst) (a : Int) (v : Nat) : Mst := if hasW n a then { s with W := updF s.W a.toNat v } else s
theorem loadV_yes {n : Nat} {s : Mst} {k : Nat} (h : k < n) : loadV n s (k : Int) = s.W k := by
  unfold loadV
  rw [if_pos (by unfold hasW; simp; omega)]
  rfl
theorem loadV_no {n : Nat} {s : Mst} {a : Int} (h : hasW n a = false) : loadV n s a = 0 := by unfold loadV; rw [h]; rfl
theorem storeS_yes {n : Nat} {s : Mst} {k v : Nat} (h : k < n) : storeS n s (k : Int) v = { s with W := updF s.W k v } := by
  unfold storeS
  rw [if_pos (by unfold hasW; simp; omega)]
  rfl
theorem storeS_no {n : Nat} {s : Mst} {a : Int} {v : Nat} (h : hasW n a = false) : storeS n s a v = s := by unfold storeS; rw [h]; rfl
theorem hasW_yes {n k : Nat} (h : k < n) : hasW n (k : Int) = true := decide_eq_true ⟨by omega, by omega⟩

theorem Load_c (o : Geo) (lim : Nat) (s : Mst) (a : Int) (w : World) (h : IsMem w o lim s) :
    Calls Try.prog 22 #[.pointer (some ⟨o.b, 0, none⟩), .int .i64 a] w fun e w' => e = .returned (.tuple #[.int .u64 ((loadV o.n s a : Nat) : Int), .bool (hasW o.n a)]) ∧ w' = w := by
  have HH := hidp h
  by_cases hh : hasW o.n a = true
  · have h0 : 0 ≤ a := (of_decide_eq_true hh).1
    obtain ⟨k, rfl⟩ := Int.eq_ofNat_of_zero_le h0
    have hk : k < o.n := by have := (of_decide_eq_true hh).2; omega
    have c0 := h.cells.1
    have c1 := h.words.cell hk
    have hmx := h.words.max
    have hle := h.words.le
    unfold maxLen at hmx
    unfold wordF at c1
    rw [loadV_yes hk, hh]
    clear h hh h0
    go_enter Try.func22, Try.ntmps22
    go_wp2_with fail
    refine (has_c o lim s _ _ HH.out).mono ?_
    rintro e w1 ⟨rfl, rfl⟩
    rw [hasW_yes hk]
    go_wp2
    go_ret2
    exact ⟨rfl, rfl⟩
  · have hh : hasW o.n a = false := by simpa using hh
    rw [loadV_no hh, hh]
    clear h
    go_enter Try.func22, Try.ntmps22
    go_wp2_with fail
    refine (has_c o lim s _ _ HH.out).mono ?_
    rintro e w1 ⟨rfl, rfl⟩
    rw [hh]
    go_wp2
    go_ret2
    exact ⟨rfl, rfl⟩

theorem Store_c (o : Geo) (lim : Nat) (s : Mst) (a : Int) (v : Nat) (hv : v < 2 ^ 64) (w : World) (h : IsMem w o lim s) :
    Calls Try.prog 20 #[.pointer (some ⟨o.b, 0, none⟩), .int .i64 a, .int .u64 (v : Int)] w fun e w' => e = .returned (.bool (hasW o.n a)) ∧ IsMem w' o lim (storeS o.n s a v) ∧ Turns o.F w w' := by
  have HH := hidp h
  by_cases hh : hasW o.n a = true
  · have h0 : 0 ≤ a := (of_decide_eq_true hh).1
    obtain ⟨k, rfl⟩ := Int.eq_ofNat_of_zero_le h0
    have hk : k < o.n := by have := (of_decide_eq_true hh).2; omega
    have c0 := h.cells.1
    have c1 := h.words.cell hk
    have f1 := h.words.thawed k
    have hmx := h.words.max
    have hle := h.words.le
    unfold maxLen at hmx
    unfold wordF at c1
    rw [storeS_yes hk, hh]
    clear h hh h0
    have HV := hidp hv
    clear hv
    go_enter Try.func20, Try.ntmps20
    go_wp2_with fail
    refine (has_c o lim s _ _ HH.out).mono ?_
    rintro e w1 ⟨rfl, rfl⟩
    rw [hasW_yes hk]
    go_wp2
    go_ret
    exact ⟨rfl, HH.out.setW hk HV.out, (T0 _ _).put (p := ⟨o.g, k, none⟩) (.inl rfl) _⟩
  · have hh : hasW o.n a = false := by simpa using hh
    rw [storeS_no hh, hh]
    clear h
    go_enter Try.func20, Try.ntmps20
    go_wp2_with fail
    refine (has_c o lim s _ _ HH.out).mono ?_
    rintro e w1 ⟨rfl, rfl⟩
    rw [hh]
    go_wp2
    go_ret
    exact ⟨rfl, HH.out, T0 _ _⟩

/-- whether a Swap is done -/
def swapB (n : Nat) (s : Mst) (a : Int) (old : Nat) : Bool := hasW n a && decide (s.W a.toNat = old)
def swapS (n : Nat) (s : Mst) (a : Int) (old v : Nat) : Mst := if swapB n s a old then storeS n s a v else s

theorem Swap_c (o : Geo) (lim : Nat) (s : Mst) (a : Int) (old v : Nat) (hv : v < 2 ^ 64) (w : World) (h : IsMem w o lim s) :
    Calls Try.prog 29 #[.pointer (some ⟨o.b, 0, none⟩), .int .i64 a, .int .u64 (old : Int), .int .u64 (v : Int)] w fun e w' => e = .returned (.bool (swapB o.n s a old)) ∧ IsMem w' o lim (swapS o.n s a old v) ∧ Turns o.F w w' := by
  have HH := hidp h
  have HV := hidp hv
  clear hv
  by_cases hh : hasW o.n a = true
  · have hh' := hh
    have h0 : 0 ≤ a := (of_decide_eq_true hh).1
    obtain ⟨k, rfl⟩ := Int.eq_ofNat_of_zero_le h0
    have hk : k < o.n := by have := (of_decide_eq_true hh).2; omega
    have HL := hidp (loadV_yes (s := s) hk)
    clear h hh h0
    by_cases he : s.W k = old
    · have HB : Hid (swapB o.n s (k : Int) old = true) := hidp (by unfold swapB; rw [hh']; simp [he])
      rw [swapS, HB.out, if_pos rfl]
      clear hh'
      go_enter Try.func29, Try.ntmps29
      go_wp2_with fail
      refine (Load_c o lim s _ _ HH.out).mono ?_
      rintro e w1 ⟨rfl, rfl⟩
      rw [hasW_yes hk, HL.out, he]
      go_wp2_with fail
      refine (Store_c o lim s _ v HV.out _ HH.out).mono ?_
      rintro e w2 ⟨rfl, h2, ht⟩
      rw [hasW_yes hk]
      go_wp2
      go_ret
      exact ⟨rfl, h2, ht⟩
    · have HB : Hid (swapB o.n s (k : Int) old = false) := hidp (by unfold swapB; rw [hh']; simp [he])
      rw [swapS, HB.out, if_neg (by simp)]
      have t0 : (((s.W k : Nat) : Int) != old) = true := by simp; omega
      have t1 : (((s.W k : Nat) : Int) == old) = false := by simp; omega
      have t2 : (s.W k == old) = false := by simp; omega
      clear hh' he
      go_enter Try.func29, Try.ntmps29
      go_wp2_with fail
      refine (Load_c o lim s _ _ HH.out).mono ?_
      rintro e w1 ⟨rfl, rfl⟩
      rw [hasW_yes hk, HL.out]
      go_wp2
      go_ret
      exact ⟨rfl, HH.out, T0 _ _⟩
  · have hh : hasW o.n a = false := by simpa using hh
    have HB : Hid (swapB o.n s a old = false) := hidp (by unfold swapB; rw [hh]; rfl)
    rw [swapS, HB.out, if_neg (by simp)]
    clear h
    go_enter Try.func29, Try.ntmps29
    go_wp2_with fail
    refine (Load_c o lim s _ _ HH.out).mono ?_
    rintro e w1 ⟨rfl, rfl⟩
    rw [hh]
    go_wp2
    go_ret
    exact ⟨rfl, HH.out, T0 _ _⟩

/-- whether there is a line of this number -/
def hasL (n : Nat) (l : Int) : Bool := decide (0 ≤ l ∧ l < (n / 8 : Nat))
theorem hasL_yes {n k : Nat} (h : k < n / 8) : hasL n (k : Int) = true := decide_eq_true ⟨by omega, by omega⟩
theorem hasLine_c (o : Geo) (lim : Nat) (s : Mst) (a : Int) (w : World) (h : IsMem w o lim s) :
    Calls Try.prog 41 #[.pointer (some ⟨o.b, 0, none⟩), .int .i64 a] w fun e w' => e = .returned (.bool (hasL o.n a)) ∧ w' = w := by
  have HC := hidp h.cells
  have hmx := h.nmax
  obtain ⟨b, g, hh, m, n, cg, ch⟩ := o
  simp only at *
  clear h
  have c0 := HC.out.1
  clear HC
  rcases Int.lt_or_le a 0 with h1 | h1
  · have HV : Hid (hasL n a = false) := hidp (decide_eq_false (by omega))
    go_enter Try.func41, Try.ntmps41
    go_wp2
    go_ret
    exact ⟨by rw [HV.out]; rfl, rfl⟩
  · have t0 : decide (a < 0) = false := decide_eq_false (by omega)
    rcases Int.lt_or_le a (n / 8 : Nat) with h2 | h2
    · have HV : Hid (hasL n a = true) := hidp (decide_eq_true ⟨h1, h2⟩)
      have t1 : decide (a < ((n / 8 : Nat) : Int)) = true := decide_eq_true h2
      have t2 : decide (a < (n : Int) / 8) = true := decide_eq_true (by omega)
      clear h2
      go_enter Try.func41, Try.ntmps41
      go_wp2
      go_ret
      exact ⟨by rw [HV.out]; rfl, rfl⟩
    · have HV : Hid (hasL n a = false) := hidp (decide_eq_false (by omega))
      have t1 : decide (a < ((n / 8 : Nat) : Int)) = false := decide_eq_false (by omega)
      have t2 : decide (a < (n : Int) / 8) = false := decide_eq_false (by omega)
      clear h2
      go_enter Try.func41, Try.ntmps41
      go_wp2
      go_ret
      exact ⟨by rw [HV.out]; rfl, rfl⟩
end Go.Proofs.Ytobeapibiebpaaa
