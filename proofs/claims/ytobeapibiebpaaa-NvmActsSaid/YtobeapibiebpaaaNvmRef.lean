/-
  The document's answer for memories (nacreref10.M): what one is; quiet, New, Load, Store, Swap.
-/
import Derived.Test.YtobeapibiebpaaaNvmPend
import Derived.Deep.OwnRows
namespace Go.Proofs.Ytobeapibiebpaaa
open Go.ChangeShapes Go.WideShapes Go.ChangeAt Go.RowKit Go.Maps
set_option linter.unusedVariables false
set_option linter.unusedSimpArgs false

structure RGeo where
  b : Nat
  g : Nat
  h : Nat
  p : Nat → Nat
  n : Nat
  k : Nat
  cg : Nat
  ch : Nat
def RGeo.F (o : RGeo) : Nat → Prop := fun i => i = o.b ∨ i = o.g ∨ i = o.h ∨ ∃ j, j < 17 ∧ i = o.p j
/-- the cells of the struct -/
def headF (o : RGeo) : Nat → Value := fun i =>
  if i = 0 then .slice (some ⟨o.g, 0, none⟩) o.n o.cg else if i = 1 then .slice (some ⟨o.h, 0, none⟩) o.n o.ch else .slice (some ⟨o.p (i - 2), 0, none⟩) o.k o.k
def boolF (f : Nat → Bool) : Nat → Value := fun i => .bool (f i)

structure IsRef (w : World) (o : RGeo) (s : Mst) : Prop where
  head : RowF w o.b 41 19 19 (headF o)
  words : RowF w o.g 30 o.n o.cg (wordF s.W)
  kept : RowF w o.h 30 o.n o.ch (wordF s.K)
  rows : ∀ i : Nat, i < 17 → RowF w (o.p i) 4 o.k o.k (boolF (s.P (i : Int)))
  n8 : 8 ≤ o.n
  nmax : o.n ≤ 65536
  nk : o.n = 8 * o.k
  bg : o.b ≠ o.g
  bh : o.b ≠ o.h
  gh : o.g ≠ o.h
  bp : ∀ i, i < 17 → o.b ≠ o.p i
  gp : ∀ i, i < 17 → o.g ≠ o.p i
  hp : ∀ i, i < 17 → o.h ≠ o.p i
  pp : ∀ i j, i < 17 → j < 17 → i ≠ j → o.p i ≠ o.p j
  w64 : ∀ i, s.W i < 2 ^ 64
  k64 : ∀ i, s.K i < 2 ^ 64
  low : ∀ a l, s.P a l = true → 0 ≤ a ∧ a ≤ 16 ∧ l < o.k

section
variable {w w' : World} {o : RGeo} {s : Mst}
theorem IsRef.Flt (h : IsRef w o s) : ∀ i, o.F i → i < w.heap.size := fun i hi => by
  have h1 := h.head.lt
  have h2 := h.words.lt
  have h3 := h.kept.lt
  rcases hi with rfl | rfl | rfl | ⟨j, hj, rfl⟩
  · exact h1
  · exact h2
  · exact h3
  · exact (h.rows j hj).lt
theorem IsRef.turns {F : Nat → Prop} (h : IsRef w o s) (hb : Turns F w w') (hf : ∀ i, o.F i → ¬ F i) : IsRef w' o s :=
  { h with
    head := h.head.turns hb (hf _ (.inl rfl))
    words := h.words.turns hb (hf _ (.inr (.inl rfl)))
    kept := h.kept.turns hb (hf _ (.inr (.inr (.inl rfl))))
    rows := fun i hi => (h.rows i hi).turns hb (hf _ (.inr (.inr (.inr ⟨i, hi, rfl⟩)))) }
theorem IsRef.keep (h : IsRef w o s) (hb : Below w.heap.size w w') : IsRef w' o s := h.turns (F := fun _ => False) (Turns.of_below hb _) (fun _ _ x => x)
theorem IsRef.c0 (h : IsRef w o s) : w.cell? ⟨o.b, 0, none⟩ = some (.slice (some ⟨o.g, 0, none⟩) o.n o.cg) := h.head.cell (i := 0) (by omega)
theorem IsRef.c1 (h : IsRef w o s) : w.cell? ⟨o.b, 1, none⟩ = some (.slice (some ⟨o.h, 0, none⟩) o.n o.ch) := h.head.cell (i := 1) (by omega)
theorem IsRef.cp (h : IsRef w o s) {i : Nat} (hi : i < 17) : w.cell? ⟨o.b, 2 + i, none⟩ = some (.slice (some ⟨o.p i, 0, none⟩) o.k o.k) := by
  have h1 := h.head.cell (i := 2 + i) (by omega)
  rw [h1]
  unfold headF
  rw [if_neg (by omega), if_neg (by omega), show 2 + i - 2 = i by omega]
theorem IsRef.setW (h : IsRef w o s) {i v : Nat} (hi : i < o.n) (hv : v < 2 ^ 64) : IsRef (w.setCell ⟨o.g, i, none⟩ (.int .u64 (v : Int))) o { s with W := updF s.W i v } :=
  { h with
    head := h.head.far (p := ⟨o.g, i, none⟩) h.bg _
    words := (h.words.put hi _).congr (fun j _ => wordF_upd _ _ _ j)
    kept := h.kept.far (p := ⟨o.g, i, none⟩) h.gh.symm _
    rows := fun j hj => (h.rows j hj).far (p := ⟨o.g, i, none⟩) (h.gp j hj).symm _
    w64 := fun j => by
      show updF s.W i v j < 2 ^ 64
      unfold updF
      split
      · exact hv
      · exact h.w64 j }
theorem IsRef.setK (h : IsRef w o s) {i v : Nat} (hi : i < o.n) (hv : v < 2 ^ 64) : IsRef (w.setCell ⟨o.h, i, none⟩ (.int .u64 (v : Int))) o { s with K := updF s.K i v } :=
  { h with
    head := h.head.far (p := ⟨o.h, i, none⟩) h.bh _
    words := h.words.far (p := ⟨o.h, i, none⟩) h.gh _
    kept := (h.kept.put hi _).congr (fun j _ => wordF_upd _ _ _ j)
    rows := fun j hj => (h.rows j hj).far (p := ⟨o.h, i, none⟩) (h.hp j hj).symm _
    k64 := fun j => by
      show updF s.K i v j < 2 ^ 64
      unfold updF
      split
      · exact hv
      · exact h.k64 j }
/-- a line of whom is told to be pending, or not -/
def setP (p : Int → Nat → Bool) (a : Int) (l : Nat) (v : Bool) : Int → Nat → Bool := fun x y => if x = a ∧ y = l then v else p x y
theorem setP_put (p : Int → Nat → Bool) (a : Int) (l : Nat) : setP p a l true = putP p a l := by
  funext x y
  unfold setP putP
  by_cases h1 : x = a <;> by_cases h2 : y = l <;> simp [h1, h2]
theorem setP_del (p : Int → Nat → Bool) (a : Int) (l : Nat) : setP p a l false = delP p a l := by
  funext x y
  unfold setP delP
  by_cases h1 : x = a <;> by_cases h2 : y = l <;> simp [h1, h2]
theorem IsRef.setPend (h : IsRef w o s) {a l : Nat} (ha : a < 17) (hl : l < o.k) (v : Bool) : IsRef (w.setCell ⟨o.p a, l, none⟩ (.bool v)) o { s with P := setP s.P (a : Int) l v } :=
  { h with
    head := h.head.far (p := ⟨o.p a, l, none⟩) (h.bp a ha) _
    words := h.words.far (p := ⟨o.p a, l, none⟩) (h.gp a ha) _
    kept := h.kept.far (p := ⟨o.p a, l, none⟩) (h.hp a ha) _
    rows := fun j hj => by
      by_cases e : j = a
      · subst e
        refine ((h.rows j hj).put hl (.bool v)).congr (fun y _ => ?_)
        show updF (boolF (s.P (j : Int))) l (.bool v) y = boolF (fun y => setP s.P (j : Int) l v (j : Int) y) y
        unfold boolF updF setP
        by_cases e2 : y = l <;> simp [e2]
      · refine ((h.rows j hj).far (p := ⟨o.p a, l, none⟩) (h.pp j a hj ha e) _).congr (fun y _ => ?_)
        show Value.bool (s.P (j : Int) y) = Value.bool (setP s.P (a : Int) l v (j : Int) y)
        unfold setP
        rw [if_neg (by omega)]
    low := fun x y hxy => by
      have hxy' : setP s.P (a : Int) l v x y = true := hxy
      unfold setP at hxy'
      split at hxy'
      · rename_i h1
        exact ⟨by omega, by omega, by omega⟩
      · exact h.low x y hxy' }
end
theorem rowF_made (w : World) (z : Value) (n : Nat) (t : TypeId) (hn : n ≤ maxLen) : RowF (w.alloc (.cells (madeCells #[z] n) t)) w.heap.size t n n (fun _ => z) := by
  obtain ⟨c, h1, h2, h3⟩ := World.rowIs_made w z n t
  exact ⟨c, h1, h2, Nat.le_refl _, hn, h3⟩

theorem boolInfo : (Try.prog.info? 4).map (fun i => (i.zero, i.size, i.bytes)) = some (some (.bool false), 1, 1) := by kernel_rfl
/-- the struct behind k rows were made anew -/
def quietF (f : Nat → Value) (p : Nat → Nat) (k m : Nat) : Nat → Value := fun i => if 2 ≤ i ∧ i < 2 + m then .slice (some ⟨p (i - 2), 0, none⟩) k k else f i
theorem quietF_step (f : Nat → Value) (p : Nat → Nat) (k m : Nat) : quietF f p k (m + 1) = updF (quietF f p k m) (2 + m) (.slice (some ⟨p m, 0, none⟩) k k) := by
  funext i
  unfold quietF updF
  by_cases h : i = 2 + m
  · subst h
    rw [if_pos ⟨by omega, by omega⟩, if_pos rfl, show 2 + m - 2 = m by omega]
  · rw [if_neg h]
    have : (i < 2 + (m + 1)) ↔ (i < 2 + m) := by omega
    simp only [this]

theorem quiet_c (b g n cg k : Nat) (f : Nat → Value) (hk : n = 8 * k) (hn : n ≤ 65536) (hf : f 0 = .slice (some ⟨g, 0, none⟩) n cg) (w : World) (h : RowF w b 41 19 19 f) :
    Calls Try.prog 28 #[.pointer (some ⟨b, 0, none⟩)] w fun e w' =>
      e = .returned (.tuple #[]) ∧ RowF w' b 41 19 19 (quietF f (fun i => w.heap.size + i) k 17) ∧ (∀ i, i < 17 → RowF w' (w.heap.size + i) 4 k k (boolF fun _ => false)) ∧ Turns (fun i => i = b) w w' ∧ w'.heap.size = w.heap.size + 17 := by
  have tq : (n : Int) / 8 = (k : Int) := by omega
  have hmk : ∀ w, (Instr.makeSlice 38 (.int .i64 (k : Int)) (.int .i64 (k : Int))).run Try.prog w = .ok (.slice (some ⟨w.heap.size, 0, none⟩) k k) (w.alloc (.cells (madeCells #[.bool false] k) 4)) :=
    fun w => run_make_row' _ _ _ _ Try.underlying38 boolInfo rfl _ _ k (by omega) (by omega) w
  have hblt := h.lt
  have HH := hidp h
  have HF := hidp hf
  have hkm : k ≤ 8192 := by omega
  clear h hf
  go_enter Try.func28, Try.ntmps28
  go_wp2_with fail
  go_loopw [2] (fun i wr => ∃ m : Nat, m ≤ 17 ∧ i = .int .i64 m ∧ Hid (RowF wr b 41 19 19 (quietF f (fun i => w.heap.size + i) k m)) ∧ Hid (∀ i, i < m → RowF wr (w.heap.size + i) 4 k k (boolF fun _ => false)) ∧ Hid (Turns (fun i => i = b) w wr) ∧ wr.heap.size = w.heap.size + m) (fun i _ => 17 - (intOf i).toNat)
  case atStart => exact ⟨0, by omega, rfl, hidp (HH.out.congr (fun i _ => by unfold quietF; rw [if_neg (by omega)])), hidp (fun i hi => by omega), hidp (T0 _ _), by omega⟩
  case round =>
    obtain ⟨m, hm, rfl, HR, HP, HT, hsz⟩ := hrel
    by_cases hlt : m < 17
    · have c0 : wr.cell? ⟨b, 0, none⟩ = some (.slice (some ⟨g, 0, none⟩) n cg) := by
        rw [HR.out.cell (i := 0) (by omega)]
        unfold quietF
        rw [if_neg (by omega), HF.out]
      have c1 := HR.out.cell (i := 2 + m) (by omega)
      generalize quietF f (fun i => w.heap.size + i) k m (2 + m) = old at *
      have f1 := HR.out.thawed (2 + m)
      have c2 : ∀ o, (wr.alloc o).cell? ⟨b, 2 + m, none⟩ = some old := fun o => (World.cell?_alloc_lt wr o ⟨b, 2 + m, none⟩ (by simp; omega)).trans c1
      have f2 : ∀ o, (wr.alloc o).frozen? ⟨b, 2 + m, none⟩ = false := fun o => ((bcell (Bnew (B0 wr) o)).2 b (2 + m) (by omega)).trans f1
      have HQ := hidp (quietF_step f (fun i => w.heap.size + i) k m)
      go_wp2
      go_region
      have hal := Bnew (B0 wr) (.cells (madeCells #[.bool false] k) 4)
      have HR2 := hidp (((HR.out.keep hal).put (i := 2 + m) (by omega) (.slice (some ⟨w.heap.size + m, 0, none⟩) k k)))
      have HP2 : Hid (∀ i, i < m + 1 → RowF ((wr.alloc (.cells (madeCells #[.bool false] k) 4)).setCell ⟨b, 2 + m, none⟩ (.slice (some ⟨w.heap.size + m, 0, none⟩) k k)) (w.heap.size + i) 4 k k (boolF fun _ => false)) := hidp (fun i hi => by
        refine RowF.far (p := ⟨b, 2 + m, none⟩) ?_ (by show w.heap.size + i ≠ b; omega) _
        rcases Nat.lt_or_ge i m with h1 | h1
        · exact (HP.out i h1).keep hal
        · obtain rfl : i = m := by omega
          rw [← hsz]
          exact rowF_made wr (.bool false) k _ (by unfold maxLen; omega))
      have HT2 := hidp (((HT.out.alloc (.cells (madeCells #[.bool false] k) 4)).put (p := ⟨b, 2 + m, none⟩) rfl (.slice (some ⟨w.heap.size + m, 0, none⟩) k k)).drew)
      go_wp2
      go_roundw
      case rel =>
        refine ⟨m + 1, by omega, by go_num, hidp ?_, hidp (fun i hi => (HP2.out i hi).keep (Bdrew (B0 _))), HT2, by simp; omega⟩
        rw [HQ.out]
        exact HR2.out.keep (Bdrew (B0 _))
      case measure => simp [intOf]; omega
    · obtain rfl : m = 17 := by omega
      go_wp2
      go_end0
      exact ⟨rfl, HR.out, HP.out, HT.out, hsz⟩
end Go.Proofs.Ytobeapibiebpaaa
