/-
  Views: contract of Vals.
-/
import Derived.Test.YtpndfhdedmdoeaaF02
import Derived.Deep.RegionHeld3
namespace Go.Proofs.Ytpndfhdedmdoeaa
open Go.ChangeShapes Go.WideShapes Go.ChangeAt Go.RowKit Go.Maps
set_option linter.unusedVariables false
set_option maxRecDepth 100000
set_option linter.unusedSimpArgs false

def toPV (l : List (Nat × Nat)) : List PairV := l.map fun p => ⟨(p.1 : Int), p.2⟩
theorem toPV_at {l : List (Nat × Nat)} {k : Nat} (h : k < l.length) : (toPV l)[k]? = some ⟨(cellW l k : Int), atW l k⟩ := by
  unfold toPV
  rw [List.getElem?_map, List.getElem?_eq_getElem h]
  simp [cellW, atW, List.getD, List.getElem?_eq_getElem h]
theorem pairs_of_own {w : World} {base m cap : Nat} {B : Option Addr} {l : List (Nat × Nat)} (h : w.ownsRow base 86 2 (.slice B m cap) m (prVs l)) (hl : l.length = m) : PairVs w B (toPV l) := fun i a ha => by
  have hi : i < l.length := by
    rcases Nat.lt_or_ge i l.length with h1 | h1
    · exact h1
    · rw [List.getElem?_eq_none (by simpa [toPV] using h1)] at ha; cases ha
  rw [toPV_at hi] at ha
  injection ha with ha
  subst ha
  obtain ⟨ad, e1, e2, e3⟩ := (Reads.of_own h).2 (by omega)
  obtain ⟨p1, p2⟩ := prVs_at l i hi
  refine ⟨ad, e1, e2, fun j u hu => ?_⟩
  unfold PairV.cells at hu
  rcases j with _ | _ | j
  · simp at hu; subst hu; exact e3 _ _ p1
  · simp at hu; subst hu; exact e3 _ _ p2
  · simp at hu

theorem valF_upd (f : Nat → Nat) (i v j : Nat) : updF (valF f) i (.int .u32 (v : Int)) j = valF (updF f i v) j := by
  by_cases e : j = i
  · subst e; simp [valF, updF_same]
  · simp [valF, updF_other _ _ e]
theorem vown_caps {w : World} {base size n c m : Nat} {e : TypeId} {A : Option Addr} {xs : List Value} (h : w.ownsRow base e size (.slice A n c) m xs) : m ≤ c ∧ c ≤ maxLen := by
  rcases h.2 with ⟨h1, h2⟩ | ⟨g', cap', cur, h1, _, _, h2, h3, _⟩
  · injection h1 with _ _ h1; subst h1; omega
  · injection h1 with _ _ h1; subst h1; exact ⟨h2, h3⟩

theorem behind_list (A : Option Addr) (n c : Nat) (w : World) : (method 269 60 (.slice A n c) "nacre/view.behind").run Try.prog w = .ok (147, .slice A n c) w := by kernel_rfl
end Go.Proofs.Ytpndfhdedmdoeaa

/-
  The document's answer for Views (nacreref11.V): what one is, and how its parts turn.
-/
namespace Go.Proofs.Ytpndfhdedmdoeaa
open Go.ChangeShapes Go.WideShapes Go.ChangeAt Go.RowKit Go.Maps
set_option linter.unusedVariables false
set_option maxRecDepth 100000
set_option linter.unusedSimpArgs false

def rE (i : Nat) : TypeId := if i = 0 then 4 else if i = 1 then 62 else if i = 2 then 4 else if i = 3 then 62 else 3
def rSz (_ : Nat) : Nat := 1
def rowL (n : Nat) (f : Nat → Value) : List Value := (List.range n).map f
def bitF (f : Nat → Bool) : Nat → Value := fun i => .bool (f i)
def toV (wr : List (Nat × Nat)) (i : Nat) : Nat := match pos wr i with | some k => atW wr k | none => 0
def rN (n : Nat) (s : Vst) (i : Nat) : Nat := if i < 4 then n else if i = 4 then s.rd.length else s.wr.length
def rX (n : Nat) (K : Nat → Option Nat) (s : Vst) (i : Nat) : List Value :=
  if i = 0 then rowL n (bitF fun j => (K j).isSome) else if i = 1 then rowL n (valF fun j => (K j).getD 0) else if i = 2 then rowL n (bitF fun j => (pos s.wr j).isSome)
  else if i = 3 then rowL n (valF (toV s.wr)) else if i = 4 then ntVs s.rd else ntVs (s.wr.map (·.1))
def rHead (n : Nat) (v : Nat → Value) (s : Vst) (all : Bool) : Array Value := #[.int .i64 (n : Int), v 0, v 1, v 2, v 3, v 4, v 5, .int .i64 (missI s), .bool all]

theorem rowL_len (n : Nat) (f : Nat → Value) : (rowL n f).length = n := by unfold rowL; simp
theorem rowL_at {n : Nat} (f : Nat → Value) {j : Nat} (h : j < n) : (rowL n f)[j]? = some (f j) := by
  unfold rowL
  rw [List.getElem?_map, List.getElem?_range h]
  rfl
theorem rowL_set {n : Nat} (f : Nat → Value) (j : Nat) (u : Value) : (rowL n f).set j u = rowL n (updF f j u) := by
  apply List.ext_getElem?
  intro i
  rw [List.getElem?_set]
  unfold rowL
  rw [List.getElem?_map, List.getElem?_map]
  rcases Nat.lt_or_ge i n with h | h
  · rw [List.getElem?_range h]
    by_cases e : j = i
    · subst e
      simp [h, updF_same]
    · simp [e, updF_other _ _ (fun x => e x.symm)]
  · rw [List.getElem?_eq_none (by simpa using h)]
    by_cases e : j = i
    · subst e
      simp; omega
    · simp [e]
theorem rowL_snoc (n : Nat) (f : Nat → Value) : rowL (n + 1) f = rowL n f ++ [f n] := by
  unfold rowL
  rw [List.range_succ, List.map_append]
  rfl
theorem rowL_congr {n : Nat} {f g : Nat → Value} (h : ∀ i, i < n → f i = g i) : rowL n f = rowL n g := by
  unfold rowL
  exact List.map_congr_left (fun i hi => h i (List.mem_range.1 hi))

structure RParts (w : World) (base b : Nat) (v : Nat → Value) (hd : Array Value) (nn : Nat → Nat) (xs : Nat → List Value) : Prop where
  head : Held w b 66 hd
  own : OwnAll w base b 6 rE rSz v nn xs
  bb : base ≤ b
section
variable {w w' : World} {base b : Nat} {v : Nat → Value} {hd : Array Value} {nn : Nat → Nat} {xs : Nat → List Value}
theorem RParts.ge (h : RParts w base b v hd nn xs) : ∀ i, OwnF b 6 v i → base ≤ i := h.own.F_new h.bb
theorem RParts.lt (h : RParts w base b v hd nn xs) : ∀ i, OwnF b 6 v i → i < w.heap.size := h.own.F_lt h.head.lt
theorem RParts.turns {G : Nat → Prop} (h : RParts w base b v hd nn xs) (ht : Turns G w w') (hf : ∀ i, OwnF b 6 v i → ¬ G i) : RParts w' base b v hd nn xs :=
  ⟨ht.held h.head (hf _ (.inl rfl)), h.own.turns ht (fun i g hi hg => hf _ (.inr ⟨i, hi, hg⟩)), h.bb⟩
theorem RParts.keep (h : RParts w base b v hd nn xs) (hb : Below w.heap.size w w') : RParts w' base b v hd nn xs := h.turns (G := fun _ => False) (Turns.of_below hb _) (fun _ _ x => x)
theorem RParts.setHead (h : RParts w base b v hd nn xs) (j : Nat) (u : Value) : RParts (w.setCell ⟨b, j, none⟩ u) base b v (hd.setIfInBounds j u) nn xs ∧ Turns (OwnF b 6 v) w (w.setCell ⟨b, j, none⟩ u) :=
  ⟨⟨h.head.put j u, h.own.setB j u, h.bb⟩, (T0 (OwnF b 6 v) w).put (p := ⟨b, j, none⟩) (.inl rfl) u⟩
theorem RParts.store (h : RParts w base b v hd nn xs) {i g cap : Nat} (hi : i < 6) (hv : v i = .slice (some ⟨g, 0, none⟩) (nn i) cap) (j : Nat) (u : Value) :
    RParts (w.setCell ⟨g, j, none⟩ u) base b v hd nn (updF xs i ((xs i).set j u)) ∧ Turns (OwnF b 6 v) w (w.setCell ⟨g, j, none⟩ u) := by
  obtain ⟨h1, ht⟩ := h.own.put hi hv j u
  refine ⟨⟨ht.held h.head (fun e => h.own.notb i hi (by rw [hv, e]; rfl)), h1, h.bb⟩, ht.more (fun x e => by subst e; exact .inr ⟨i, hi, by rw [hv]; rfl⟩)⟩
theorem RParts.grow (h : RParts w base b v hd nn xs) {i : Nat} (hi : i < 6) {v' : Value} {n' : Nat} {xs' : List Value} (hown : w'.ownsRow base (rE i) (rSz i) v' n' xs') (hg : w.grownBy w' (v i).ownBlock)
    (hloc : ∀ g, v'.ownBlock = some g → (v i).ownBlock = some g ∨ w.heap.size ≤ g) :
    RParts w' base b (updF v i v') hd (updF nn i n') (updF xs i xs') ∧ (∀ g, OwnF b 6 (updF v i v') g → OwnF b 6 v g ∨ w.heap.size ≤ g) ∧ Turns (OwnF b 6 v) w w' := by
  have hF := OwnF_grown (b := b) (w := w) hi hloc
  have hbq : w'.heap[b]? = w.heap[b]? := hg.block b h.head.lt (fun e => h.own.notb i hi e.symm)
  exact ⟨⟨hbq.trans h.head, h.own.grown h.head.lt hi hown hg hloc, h.bb⟩, hF, ⟨hg.os, hg.tape, hg.output, hg.size, fun q hq hf => hg.block q hq (fun e => hf (.inr ⟨i, hi, e.symm⟩))⟩⟩
theorem RParts.congr {hd' : Array Value} {nn' : Nat → Nat} {xs' : Nat → List Value} (h : RParts w base b v hd nn xs) (e : hd = hd') (h1 : ∀ i, i < 6 → nn i = nn' i) (h2 : ∀ i, i < 6 → xs i = xs' i) : RParts w base b v hd' nn' xs' := by
  subst e
  exact ⟨h.head, h.own.congr h1 h2, h.bb⟩
/-- a row that is there, opened -/
theorem RParts.form (h : RParts w base b v hd nn xs) {i : Nat} (hi : i < 6) (hn : 0 < nn i) : ∃ g cap, v i = .slice (some ⟨g, 0, none⟩) (nn i) cap ∧ nn i ≤ cap ∧ cap ≤ 9223372036854775807 ∧ g ≠ b ∧ g < w.heap.size := by
  obtain ⟨g, cap, hv, _, hg⟩ := h.own.form hi hn
  refine ⟨g, cap, hv, ?_, ?_, fun e => h.own.notb i hi (by rw [hv, e]; rfl), hg⟩
  · have h1 := h.own.own i hi
    rw [hv] at h1
    rcases h1.2 with ⟨h2, _⟩ | ⟨g', cap', cur, h2, _, _, h3, h4, _⟩
    · cases h2
    · injection h2 with _ _ h2; subst h2; exact h3
  · have h1 := h.own.own i hi
    rw [hv] at h1
    rcases h1.2 with ⟨h2, _⟩ | ⟨g', cap', cur, h2, _, _, h3, h4, _⟩
    · cases h2
    · injection h2 with _ _ h2; subst h2; exact h4
theorem RParts.at_ (h : RParts w base b v hd nn xs) {i g cap : Nat} (hi : i < 6) (hv : v i = .slice (some ⟨g, 0, none⟩) (nn i) cap) {j : Nat} (hj : j < nn i) : w.cell? ⟨g, j, none⟩ = (xs i)[j]? ∧ w.frozen? ⟨g, j, none⟩ = false :=
  h.own.cell hi hv (by show j < nn i * 1; omega)
end

structure IsRefV (w : World) (base b n : Nat) (all : Bool) (v : Nat → Value) (K : Nat → Option Nat) (s : Vst) : Prop where
  parts : RParts w base b v (rHead n v s all) (rN n s) (rX n K s)
  ok : VOk n s
  nmax : n ≤ 2 ^ 40
  k32 : ∀ i x, K i = some x → x < 2 ^ 32
section
variable {w w' : World} {base b n : Nat} {all : Bool} {v : Nat → Value} {K : Nat → Option Nat} {s : Vst}
theorem IsRefV.turns {G : Nat → Prop} (h : IsRefV w base b n all v K s) (ht : Turns G w w') (hf : ∀ i, OwnF b 6 v i → ¬ G i) : IsRefV w' base b n all v K s := { h with parts := h.parts.turns ht hf }
theorem IsRefV.keep (h : IsRefV w base b n all v K s) (hb : Below w.heap.size w w') : IsRefV w' base b n all v K s := { h with parts := h.parts.keep hb }
theorem IsRefV.cells (h : IsRefV w base b n all v K s) : w.cell? ⟨b, 0, none⟩ = some (.int .i64 (n : Int)) ∧ w.cell? ⟨b, 1, none⟩ = some (v 0) ∧ w.cell? ⟨b, 2, none⟩ = some (v 1) ∧ w.cell? ⟨b, 3, none⟩ = some (v 2) ∧
    w.cell? ⟨b, 4, none⟩ = some (v 3) ∧ w.cell? ⟨b, 5, none⟩ = some (v 4) ∧ w.cell? ⟨b, 6, none⟩ = some (v 5) ∧ w.cell? ⟨b, 7, none⟩ = some (.int .i64 (missI s)) ∧ w.cell? ⟨b, 8, none⟩ = some (.bool all) :=
  ⟨h.parts.head.cell 0, h.parts.head.cell 1, h.parts.head.cell 2, h.parts.head.cell 3, h.parts.head.cell 4, h.parts.head.cell 5, h.parts.head.cell 6, h.parts.head.cell 7, h.parts.head.cell 8⟩
theorem IsRefV.row (h : IsRefV w base b n all v K s) {i : Nat} (hi : i < 4) (hn : 0 < n) : ∃ g cap, v i = .slice (some ⟨g, 0, none⟩) n cap ∧ n ≤ cap ∧ cap ≤ 9223372036854775807 ∧ g ≠ b ∧ g < w.heap.size ∧ ∀ j, j < n → w.cell? ⟨g, j, none⟩ = (rX n K s i)[j]? ∧ w.frozen? ⟨g, j, none⟩ = false := by
  have hnn : rN n s i = n := if_pos hi
  obtain ⟨g, cap, hv, h1, h2, h3, h4⟩ := h.parts.form (i := i) (by omega) (by rw [hnn]; exact hn)
  refine ⟨g, cap, by rw [hv, hnn], by omega, h2, h3, h4, fun j hj => h.parts.at_ (by omega) hv (by rw [hnn]; exact hj)⟩
theorem rX_0 (n : Nat) (K : Nat → Option Nat) (s : Vst) {j : Nat} (h : j < n) : (rX n K s 0)[j]? = some (.bool (K j).isSome) := rowL_at _ h
theorem rX_1 (n : Nat) (K : Nat → Option Nat) (s : Vst) {j : Nat} (h : j < n) : (rX n K s 1)[j]? = some (.int .u32 (((K j).getD 0 : Nat) : Int)) := rowL_at _ h
theorem rX_2 (n : Nat) (K : Nat → Option Nat) (s : Vst) {j : Nat} (h : j < n) : (rX n K s 2)[j]? = some (.bool (pos s.wr j).isSome) := rowL_at _ h
theorem rX_3 (n : Nat) (K : Nat → Option Nat) (s : Vst) {j : Nat} (h : j < n) : (rX n K s 3)[j]? = some (.int .u32 ((toV s.wr j : Nat) : Int)) := rowL_at _ h
end
/-- what a call on one leaves -/
def LeftR (w : World) (base b n : Nat) (all : Bool) (v : Nat → Value) (K : Nat → Option Nat) (s : Vst) (w' : World) : Prop :=
  ∃ v', IsRefV w' base b n all v' K s ∧ (∀ g, OwnF b 6 v' g → OwnF b 6 v g ∨ w.heap.size ≤ g) ∧ Turns (OwnF b 6 v) w w'
theorem LeftR.same {w : World} {base b n : Nat} {all : Bool} {v : Nat → Value} {K : Nat → Option Nat} {s : Vst} (h : IsRefV w base b n all v K s) : LeftR w base b n all v K s w := ⟨v, h, fun g hg => .inl hg, T0 _ _⟩
/-- 'i < 6', by cases -/
theorem six {p : Nat → Prop} (h0 : p 0) (h1 : p 1) (h2 : p 2) (h3 : p 3) (h4 : p 4) (h5 : p 5) : ∀ i, i < 6 → p i := fun i hi => by
  rcases (by omega : i = 0 ∨ i = 1 ∨ i = 2 ∨ i = 3 ∨ i = 4 ∨ i = 5) with rfl | rfl | rfl | rfl | rfl | rfl <;> assumption
end Go.Proofs.Ytpndfhdedmdoeaa

/-
  The document's answer for Views: blank, Whole, Known. Written by view/gen_ref2.py.
-/
namespace Go.Proofs.Ytpndfhdedmdoeaa
open Go.ChangeShapes Go.WideShapes Go.ChangeAt Go.RowKit Go.Maps
set_option linter.unusedVariables false
set_option maxRecDepth 100000
set_option linter.unusedSimpArgs false

/-- so many cells of each row, of which nothing is known or put -/
def bN (k i : Nat) : Nat := if i < 4 then k else 0
def bX (k i : Nat) : List Value := if i = 0 then rowL k (bitF fun _ => false) else if i = 1 then rowL k (valF fun _ => 0) else if i = 2 then rowL k (bitF fun _ => false) else if i = 3 then rowL k (valF fun _ => 0) else []
theorem bN_rN (n : Nat) : ∀ i, i < 6 → bN n i = rN n freshS i := six rfl rfl rfl rfl rfl rfl
theorem bX_rX (n : Nat) : ∀ i, i < 6 → bX n i = rX n (fun _ => none) freshS i := six rfl rfl rfl rfl rfl rfl
def bN1 (k i : Nat) : Nat := updF (updF (updF (updF (bN k) 0 (k + 1)) 1 (k + 1)) 2 (k + 1)) 3 (k + 1) i
def bX1 (k i : Nat) : List Value := updF (updF (updF (updF (bX k) 0 (bX k 0 ++ [.bool false])) 1 (bX k 1 ++ [.int .u32 0])) 2 (bX k 2 ++ [.bool false])) 3 (bX k 3 ++ [.int .u32 0]) i
theorem bN_step (k : Nat) : ∀ i, i < 6 → bN1 k i = bN (k + 1) i := six rfl rfl rfl rfl rfl rfl
theorem bX_step (k : Nat) : ∀ i, i < 6 → bX1 k i = bX (k + 1) i := six (rowL_snoc _ _).symm (rowL_snoc _ _).symm (rowL_snoc _ _).symm (rowL_snoc _ _).symm rfl rfl
theorem boolInfo11 : (Try.prog.info? 4).map (fun i => (i.zero, i.size, i.bytes)) = some (some (.bool false), 1, 1) := by kernel_rfl

set_option maxHeartbeats 1600000 in
theorem blank_c (n : Nat) (hn : n ≤ 2 ^ 40) (w : World) :
    Calls Try.prog 28 #[.int .i64 (n : Int)] w fun e w' => ∃ (b : Nat) (v : Nat → Value), e = .returned (.pointer (some ⟨b, 0, none⟩)) ∧ IsRefV w' w.heap.size b n false v (fun _ => none) freshS ∧ Below w.heap.size w w' := by
  obtain ⟨i0, hi0, hi1, hi2, hi3⟩ := info_parts boolInfo11
  obtain ⟨j0, hj0, hj1, hj2, hj3⟩ := info_parts valInfo
  have HP0 : Hid (RParts (w.alloc (.cells #[.int .i64 (n : Int), .slice none 0 0, .slice none 0 0, .slice none 0 0, .slice none 0 0, .slice none 0 0, .slice none 0 0, .int .i64 (-1), .bool false] 66)) w.heap.size w.heap.size (fun _ => .slice none 0 0) (rHead n (fun _ => .slice none 0 0) freshS false) (bN 0) (bX 0)) :=
    hidp ⟨Held.new _ _ _, (OwnAll.nil _ _ _ _ _ _).congr (six rfl rfl rfl rfl rfl rfl) (six rfl rfl rfl rfl rfl rfl), Nat.le_refl _⟩
  have HB0 : Hid (Below w.heap.size w (w.alloc (.cells #[.int .i64 (n : Int), .slice none 0 0, .slice none 0 0, .slice none 0 0, .slice none 0 0, .slice none 0 0, .slice none 0 0, .int .i64 (-1), .bool false] 66))) := hidp (Bnew (B0 _) _)
  go_enter Try.func28, Try.ntmps28
  go_wp2_with fail
  go_loopw [4] (fun i wr => ∃ (k : Nat) (v : Nat → Value), k ≤ n ∧ i = .int .i64 k ∧ Hid (RParts wr w.heap.size w.heap.size v (rHead n v freshS false) (bN k) (bX k)) ∧ Hid (Below w.heap.size w wr)) (fun i _ => n - (intOf i).toNat)
  case atStart => exact ⟨0, _, by omega, rfl, HP0, HB0⟩
  case round =>
    clear HP0 HB0
    obtain ⟨k, v, hk, rfl, HP, HB⟩ := hrel
    by_cases hlt : k < n
    · have hbl := HP.out.head.lt
      have c1 : wr.cell? ⟨w.heap.size, 1, none⟩ = some (v 0) := HP.out.head.cell 1
      have O0 : Hid (wr.ownsRow w.heap.size 4 1 (v 0) k (bX k 0)) := hidp (HP.out.own.own 0 (by omega))
      go_wp2_with (first
        | (at_builtin
           refine wpList_append_lies _ rfl _ _ 64 rfl w.heap.size 4 i0 (.bool false) 1 1 Try.underlying64 hi0 hi1 hi2 hi3 rfl (by decide) (v 0) k (bX k 0) rfl (O0.out.alloc _) ⟨_, 0, none⟩ 1 1 [.bool false] rfl rfl ?c1 ?c2 (by omega) ?c3 ?c4 ?c5 _ rfl ?_
           case c1 => intro j y hy; have h9 := World.news_of_block (heap_alloc_new wr (.cells #[.bool false] 4)) j y (by simpa using hy); simpa using h9
           case c2 => simp [Value.oneCell']
           case c3 => unfold maxLen; omega
           case c4 => omega
           case c5 => have := HB.out.size; simp at this ⊢; omega
           intro g1 cap1 w1 hown hgrow hat hlt'
           obtain ⟨hp, _, hT⟩ := (HP.out.keep (Bnew (B0 _) (.cells #[.bool false] 4))).grow (i := 0) (by omega) hown hgrow (fun q hq => by
             have hq : g1 = q := by simpa [Value.ownBlock] using hq
             subst hq
             rcases hat with h1 | h1
             · exact .inl h1
             · right; rw [h1]; exact Nat.le_refl _)
           have d0 : w1.cell? ⟨w.heap.size, 1, none⟩ = some (v 0) := hp.head.cell 1
           have e0 : w1.cell? ⟨w.heap.size, 2, none⟩ = some (v 1) := hp.head.cell 2
           have f0 := hp.head.thawed 1
           have hl0 := hp.head.lt
           have P1 := hidp (hp.setHead 1 (.slice (some ⟨g1, 0, none⟩) (k + 1) cap1)).1
           have B1 := hidp (Bput (hT.below (Bgo HB.out (Bnew (B0 _) (.cells #[.bool false] 4))) (fun q hq => HP.out.ge q hq)) (p := ⟨w.heap.size, 1, none⟩) (Nat.le_refl _) (.slice (some ⟨g1, 0, none⟩) (k + 1) cap1))
           have O1 : Hid ((w1.setCell ⟨w.heap.size, 1, none⟩ (.slice (some ⟨g1, 0, none⟩) (k + 1) cap1)).ownsRow w.heap.size 62 1 (v 1) k (bX k 1)) := hidp (P1.out.own.own 1 (by omega))
           clear hp hT hown hgrow hat hlt')
        | (at_builtin
           refine wpList_append_lies _ rfl _ _ 24 rfl w.heap.size 62 j0 (.int .u32 0) 1 4 Try.underlying24 hj0 hj1 hj2 hj3 rfl (by decide) (v 1) k (bX k 1) rfl (O1.out.alloc _) ⟨_, 0, none⟩ 1 1 [.int .u32 0] rfl rfl ?c1 ?c2 (by omega) ?c3 ?c4 ?c5 _ rfl ?_
           case c1 => intro j y hy; have h9 := World.news_of_block (heap_alloc_new (w1.setCell ⟨w.heap.size, 1, none⟩ (.slice (some ⟨g1, 0, none⟩) (k + 1) cap1)) (.cells #[.int .u32 0] 62)) j y (by simpa using hy); simpa using h9
           case c2 => simp [Value.oneCell']
           case c3 => unfold maxLen; omega
           case c4 => omega
           case c5 => have := B1.out.size; simp at this ⊢; omega
           intro g2 cap2 w2 hown hgrow hat hlt'
           obtain ⟨hp, _, hT⟩ := (P1.out.keep (Bnew (B0 _) (.cells #[.int .u32 0] 62))).grow (i := 1) (by omega) hown hgrow (fun q hq => by
             have hq : g2 = q := by simpa [Value.ownBlock] using hq
             subst hq
             rcases hat with h1 | h1
             · exact .inl h1
             · right; rw [h1]; exact Nat.le_refl _)
           have d1 : w2.cell? ⟨w.heap.size, 2, none⟩ = some (v 1) := hp.head.cell 2
           have e1 : w2.cell? ⟨w.heap.size, 3, none⟩ = some (v 2) := hp.head.cell 3
           have f1 := hp.head.thawed 2
           have hl1 := hp.head.lt
           have P2 := hidp (hp.setHead 2 (.slice (some ⟨g2, 0, none⟩) (k + 1) cap2)).1
           have B2 := hidp (Bput (hT.below (Bgo B1.out (Bnew (B0 _) (.cells #[.int .u32 0] 62))) (fun q hq => P1.out.ge q hq)) (p := ⟨w.heap.size, 2, none⟩) (Nat.le_refl _) (.slice (some ⟨g2, 0, none⟩) (k + 1) cap2))
           have O2 : Hid ((w2.setCell ⟨w.heap.size, 2, none⟩ (.slice (some ⟨g2, 0, none⟩) (k + 1) cap2)).ownsRow w.heap.size 4 1 (v 2) k (bX k 2)) := hidp (P2.out.own.own 2 (by omega))
           clear hp hT hown hgrow hat hlt')
        | (at_builtin
           refine wpList_append_lies _ rfl _ _ 64 rfl w.heap.size 4 i0 (.bool false) 1 1 Try.underlying64 hi0 hi1 hi2 hi3 rfl (by decide) (v 2) k (bX k 2) rfl (O2.out.alloc _) ⟨_, 0, none⟩ 1 1 [.bool false] rfl rfl ?c1 ?c2 (by omega) ?c3 ?c4 ?c5 _ rfl ?_
           case c1 => intro j y hy; have h9 := World.news_of_block (heap_alloc_new (w2.setCell ⟨w.heap.size, 2, none⟩ (.slice (some ⟨g2, 0, none⟩) (k + 1) cap2)) (.cells #[.bool false] 4)) j y (by simpa using hy); simpa using h9
           case c2 => simp [Value.oneCell']
           case c3 => unfold maxLen; omega
           case c4 => omega
           case c5 => have := B2.out.size; simp at this ⊢; omega
           intro g3 cap3 w3 hown hgrow hat hlt'
           obtain ⟨hp, _, hT⟩ := (P2.out.keep (Bnew (B0 _) (.cells #[.bool false] 4))).grow (i := 2) (by omega) hown hgrow (fun q hq => by
             have hq : g3 = q := by simpa [Value.ownBlock] using hq
             subst hq
             rcases hat with h1 | h1
             · exact .inl h1
             · right; rw [h1]; exact Nat.le_refl _)
           have d2 : w3.cell? ⟨w.heap.size, 3, none⟩ = some (v 2) := hp.head.cell 3
           have e2 : w3.cell? ⟨w.heap.size, 4, none⟩ = some (v 3) := hp.head.cell 4
           have f2 := hp.head.thawed 3
           have hl2 := hp.head.lt
           have P3 := hidp (hp.setHead 3 (.slice (some ⟨g3, 0, none⟩) (k + 1) cap3)).1
           have B3 := hidp (Bput (hT.below (Bgo B2.out (Bnew (B0 _) (.cells #[.bool false] 4))) (fun q hq => P2.out.ge q hq)) (p := ⟨w.heap.size, 3, none⟩) (Nat.le_refl _) (.slice (some ⟨g3, 0, none⟩) (k + 1) cap3))
           have O3 : Hid ((w3.setCell ⟨w.heap.size, 3, none⟩ (.slice (some ⟨g3, 0, none⟩) (k + 1) cap3)).ownsRow w.heap.size 62 1 (v 3) k (bX k 3)) := hidp (P3.out.own.own 3 (by omega))
           clear hp hT hown hgrow hat hlt')
        | (at_builtin
           refine wpList_append_lies _ rfl _ _ 24 rfl w.heap.size 62 j0 (.int .u32 0) 1 4 Try.underlying24 hj0 hj1 hj2 hj3 rfl (by decide) (v 3) k (bX k 3) rfl (O3.out.alloc _) ⟨_, 0, none⟩ 1 1 [.int .u32 0] rfl rfl ?c1 ?c2 (by omega) ?c3 ?c4 ?c5 _ rfl ?_
           case c1 => intro j y hy; have h9 := World.news_of_block (heap_alloc_new (w3.setCell ⟨w.heap.size, 3, none⟩ (.slice (some ⟨g3, 0, none⟩) (k + 1) cap3)) (.cells #[.int .u32 0] 62)) j y (by simpa using hy); simpa using h9
           case c2 => simp [Value.oneCell']
           case c3 => unfold maxLen; omega
           case c4 => omega
           case c5 => have := B3.out.size; simp at this ⊢; omega
           intro g4 cap4 w4 hown hgrow hat hlt'
           obtain ⟨hp, _, hT⟩ := (P3.out.keep (Bnew (B0 _) (.cells #[.int .u32 0] 62))).grow (i := 3) (by omega) hown hgrow (fun q hq => by
             have hq : g4 = q := by simpa [Value.ownBlock] using hq
             subst hq
             rcases hat with h1 | h1
             · exact .inl h1
             · right; rw [h1]; exact Nat.le_refl _)
           have d3 : w4.cell? ⟨w.heap.size, 4, none⟩ = some (v 3) := hp.head.cell 4
           have e3 : w4.cell? ⟨w.heap.size, 5, none⟩ = some (v 4) := hp.head.cell 5
           have f3 := hp.head.thawed 4
           have hl3 := hp.head.lt
           have P4 := hidp (hp.setHead 4 (.slice (some ⟨g4, 0, none⟩) (k + 1) cap4)).1
           have B4 := hidp (Bput (hT.below (Bgo B3.out (Bnew (B0 _) (.cells #[.int .u32 0] 62))) (fun q hq => P3.out.ge q hq)) (p := ⟨w.heap.size, 4, none⟩) (Nat.le_refl _) (.slice (some ⟨g4, 0, none⟩) (k + 1) cap4))
           have O4 : Hid ((w4.setCell ⟨w.heap.size, 4, none⟩ (.slice (some ⟨g4, 0, none⟩) (k + 1) cap4)).ownsRow w.heap.size 3 1 (v 4) 0 []) := hidp (P4.out.own.own 4 (by omega))
           clear hp hT hown hgrow hat hlt')
        | fail)
      go_roundw
      case rel => exact ⟨k + 1, _, by omega, by go_num, hidp (P4.out.congr rfl (bN_step k) (bX_step k)), B4⟩
      case measure => simp [intOf]; omega
    · obtain rfl : k = n := by omega
      go_wp2
      go_ret
      exact ⟨w.heap.size, v, rfl, { parts := HP.out.congr rfl (bN_rN k) (bX_rX k), ok := VOk.fresh k, nmax := hn, k32 := fun i x h => by cases h }, HB.out⟩


def firstK (vals : List Nat) (k : Nat) : Nat → Option Nat := fun i => if i < k then vals[i]? else none
theorem firstK_step {vals : List Nat} {k : Nat} (h : k < vals.length) : firstK vals (k + 1) = updF (firstK vals k) k (some (vals.getD k 0)) := by
  funext i
  unfold firstK updF
  by_cases e : i = k
  · subst e
    simp [List.getD, List.getElem?_eq_getElem h]
  · have : (i < k + 1) ↔ (i < k) := by omega
    simp only [this, if_neg e]
theorem firstK_all (vals : List Nat) : firstK vals vals.length = fun i => vals[i]? := by
  funext i
  unfold firstK
  split
  · rfl
  · rename_i h
    rw [List.getElem?_eq_none (by omega)]
/-- a cell is known from now on -/
theorem rX_know (n : Nat) (K : Nat → Option Nat) (s : Vst) (j x : Nat) : ∀ i, i < 6 → updF (updF (rX n K s) 0 ((rX n K s 0).set j (.bool true))) 1 ((updF (rX n K s) 0 ((rX n K s 0).set j (.bool true)) 1).set j (.int .u32 (x : Int))) i = rX n (updF K j (some x)) s i := by
  refine six ?_ ?_ rfl rfl rfl rfl
  · show (rowL n (bitF fun j => (K j).isSome)).set j (.bool true) = rowL n (bitF fun i => (updF K j (some x) i).isSome)
    rw [rowL_set]
    refine rowL_congr (fun i _ => ?_)
    unfold bitF updF
    by_cases e : i = j <;> simp [e]
  · show (rowL n (valF fun j => (K j).getD 0)).set j (.int .u32 (x : Int)) = rowL n (valF fun i => (updF K j (some x) i).getD 0)
    rw [rowL_set]
    refine rowL_congr (fun i _ => ?_)
    unfold valF updF
    by_cases e : i = j <;> simp [e]

set_option maxHeartbeats 1600000 in
theorem RWhole_c (A : Option Addr) (c : Nat) (vals : List Nat) (n : Nat) (hl : vals.length = n) (hmx : n ≤ 2 ^ 40) (hnc : n ≤ c) (hc : c ≤ maxLen) (h32 : ∀ x ∈ vals, x < 2 ^ 32) (w : World)
    (HR : Reads w w.heap.size 1 A n (valVs vals)) :
    Calls Try.prog 9 #[.slice A n c] w fun e w' => ∃ (b : Nat) (v : Nat → Value), e = .returned (.pointer (some ⟨b, 0, none⟩)) ∧ IsRefV w' w.heap.size b n true v (fun i => vals[i]?) freshS ∧ Below w.heap.size w w' := by
  have HL := hidp hl
  have HRR := hidp HR
  have H32 : Hid (∀ i x, vals[i]? = some x → x < 2 ^ 32) := hidp (fun i x h => h32 x (List.mem_of_getElem? h))
  have hc2 : c ≤ 9223372036854775807 := hc
  clear hl HR h32
  go_enter Try.func9, Try.ntmps9
  go_wp2_with fail
  refine (blank_c n hmx _).mono ?_
  rintro e w1 ⟨b, v, rfl, hI, hB⟩
  have HP1 : Hid (RParts w1 w.heap.size b v (rHead n v freshS false) (rN n freshS) (rX n (firstK vals 0) freshS)) := hidp (hI.parts.congr rfl (fun _ _ => rfl) (fun i hi => by
    have : firstK vals 0 = fun _ => none := by funext i; simp [firstK]
    rw [this]))
  have HB1 := hidp hB
  clear hI hB
  go_wp2_with fail
  go_loopw [4] (fun i wr => ∃ k : Nat, k ≤ n ∧ i = .int .i64 k ∧ Hid (RParts wr w.heap.size b v (rHead n v freshS false) (rN n freshS) (rX n (firstK vals k) freshS)) ∧ Hid (Below w.heap.size w wr)) (fun i _ => n - (intOf i).toNat)
  case atStart => exact ⟨0, by omega, rfl, HP1, HB1⟩
  case round =>
    clear HP1 HB1
    obtain ⟨k, hk, rfl, HP, HB⟩ := hrel
    by_cases hlt : k < n
    · obtain ⟨ad, rfl, hadb, hcl⟩ := HRR.out.2 (by omega)
      obtain ⟨x, hx⟩ : ∃ x, vals.getD k 0 = x := ⟨_, rfl⟩
      have hvx : (valVs vals)[k]? = some (.int .u32 (x : Int)) := by
        unfold valVs
        rw [List.getElem?_map, List.getElem?_eq_getElem (by have := HL.out; omega), ← hx]
        simp [List.getD, List.getElem?_eq_getElem (show k < vals.length by have := HL.out; omega)]
      have x0 := (HB.out.cell (p := ad.add k) (by rw [block_of_add]; exact hadb)).trans (hcl k _ hvx)
      have c1 : wr.cell? ⟨b, 1, none⟩ = some (v 0) := HP.out.head.cell 1
      have c2 : wr.cell? ⟨b, 2, none⟩ = some (v 1) := HP.out.head.cell 2
      obtain ⟨g0, p0, hv0, hp0, hm0, hg0, hl0⟩ := HP.out.form (i := 0) (by omega) (show 0 < n by omega)
      obtain ⟨g1, p1, hv1, hp1, hm1, hg1, hl1⟩ := HP.out.form (i := 1) (by omega) (show 0 < n by omega)
      have hg01 : g1 ≠ g0 := fun e => by
        have := HP.out.own.apart 0 1 g0 (by omega) (by omega) (by rw [hv0]; rfl) (by rw [hv1, e]; rfl)
        omega
      have hn0 : rN n freshS 0 = n := rfl
      have hn1 : rN n freshS 1 = n := rfl
      rw [hv0, hn0] at c1
      rw [hv1, hn1] at c2
      rw [hn0] at hp0
      rw [hn1] at hp1
      obtain ⟨d0, f0⟩ := HP.out.at_ (i := 0) (by omega) hv0 (show k < n from hlt)
      rw [rX_0 n _ _ hlt] at d0
      obtain ⟨d1, f1⟩ := HP.out.at_ (i := 1) (by omega) hv1 (show k < n from hlt)
      rw [rX_1 n _ _ hlt] at d1
      have hag : w.heap.size ≤ g0 := HP.out.ge g0 (.inr ⟨0, by omega, by rw [hv0]; rfl⟩)
      have hag1 : w.heap.size ≤ g1 := HP.out.ge g1 (.inr ⟨1, by omega, by rw [hv1]; rfl⟩)
      have HST := hidp (firstK_step (vals := vals) (k := k) (by have := HL.out; omega))
      rw [hx] at HST
      have HP5 := hidp (HP.out.store (i := 0) (by omega) hv0 k (.bool true)).1
      have HT5 := hidp (HP.out.store (i := 0) (by omega) hv0 k (.bool true)).2
      have HB5 := hidp (Bput HB.out (p := ⟨g0, k, none⟩) hag (.bool true))
      have y0 : (wr.setCell ⟨g0, k, none⟩ (.bool true)).cell? ⟨b, 2, none⟩ = some (.slice (some ⟨g1, 0, none⟩) n p1) := by
        have h1 : (wr.setCell ⟨g0, k, none⟩ (.bool true)).cell? ⟨b, 2, none⟩ = some (v 1) := HP5.out.head.cell 2
        rw [h1, hv1, hn1]
      have y1 : (wr.setCell ⟨g0, k, none⟩ (.bool true)).cell? (ad.add k) = some (.int .u32 (x : Int)) := (HB5.out.cell (p := ad.add k) (by rw [block_of_add]; exact hadb)).trans (hcl k _ hvx)
      obtain ⟨z1, z2⟩ := HP5.out.at_ (i := 1) (by omega) hv1 (show k < n from hlt)
      have z3 : (wr.setCell ⟨g0, k, none⟩ (.bool true)).cell? ⟨g1, k, none⟩ = some (.int .u32 (((firstK vals k k).getD 0 : Nat) : Int)) := z1.trans (rX_1 n (firstK vals k) freshS hlt)
      have HP6 := hidp (HP5.out.store (i := 1) (by omega) hv1 k (.int .u32 (x : Int))).1
      have HB6 := hidp (Bput HB5.out (p := ⟨g1, k, none⟩) hag1 (.int .u32 (x : Int)))
      have y2 : ((wr.setCell ⟨g0, k, none⟩ (.bool true)).setCell ⟨g1, k, none⟩ (.int .u32 (x : Int))).cell? ⟨b, 2, none⟩ = some (.slice (some ⟨g1, 0, none⟩) n p1) := by
        have h1 : ((wr.setCell ⟨g0, k, none⟩ (.bool true)).setCell ⟨g1, k, none⟩ (.int .u32 (x : Int))).cell? ⟨b, 2, none⟩ = some (v 1) := HP6.out.head.cell 2
        rw [h1, hv1, hn1]
      have y3 : ((wr.setCell ⟨g0, k, none⟩ (.bool true)).setCell ⟨g1, k, none⟩ (.int .u32 (x : Int))).cell? (ad.add k) = some (.int .u32 (x : Int)) := (HB6.out.cell (p := ad.add k) (by rw [block_of_add]; exact hadb)).trans (hcl k _ hvx)
      clear hcl hvx z1 hx
      generalize (firstK vals k k).getD 0 = old at *
      generalize (firstK vals k k).isSome = old0 at *
      go_wp2_with fail
      refine wp_region_held_drew (S := (fun w' => w'.cell? ⟨b, 2, none⟩ = some (.slice (some ⟨g1, 0, none⟩) n p1) ∧ w'.cell? (ad.add k) = some (.int .u32 (x : Int)))) (by kernel_rfl) ?_ (fun hHeld => ?_)
      · (try dsimp only)
        first | exact ⟨y0, y1⟩ | exact ⟨y2, y3⟩ | exact hHeld
      refine wpAnyH_take (i := 0) (oi := _) (v := ?_) rfl (by kernel_rfl) (by kernel_rfl) (by kernel_rfl) (fun _ _ _ h => h) (Or.inl ⟨by rfl, ?_⟩) (by assumption) ?_
      rotate_left
      · intro w hSw; (try dsimp only at hSw); go_simp; (try with_reducible rfl)
      (try simp only [Act.put, List.getElem_toArray, List.getElem_cons_zero, List.getElem_cons_succ, List.setIfInBounds_toArray, List.set_cons_zero, List.set_cons_succ])
      refine wpAnyH_take (i := 1) (oi := _) (v := ?_) rfl (by kernel_rfl) (by kernel_rfl) (by kernel_rfl) (fun _ _ _ h => h) (Or.inl ⟨by rfl, ?_⟩) (by assumption) ?_
      rotate_left
      · intro w hSw; (try dsimp only at hSw); go_simp; (try with_reducible rfl)
      (try simp only [Act.put, List.getElem_toArray, List.getElem_cons_zero, List.getElem_cons_succ, List.setIfInBounds_toArray, List.set_cons_zero, List.set_cons_succ])
      refine wpAnyH_take (i := 2) (oi := _) (v := ?_) rfl (by kernel_rfl) (by kernel_rfl) (by kernel_rfl) (fun _ _ _ h => h) (Or.inl ⟨by rfl, ?_⟩) (by assumption) ?_
      rotate_left
      · intro w hSw; (try dsimp only at hSw); go_simp; (try with_reducible rfl)
      (try simp only [Act.put, List.getElem_toArray, List.getElem_cons_zero, List.getElem_cons_succ, List.setIfInBounds_toArray, List.set_cons_zero, List.set_cons_succ])
      refine wpAnyH_take (i := 3) (oi := _) (v := ?_) rfl (by kernel_rfl) (by kernel_rfl) (by kernel_rfl) (fun _ _ _ h => h) (Or.inl ⟨by rfl, ?_⟩) (by assumption) ?_
      rotate_left
      · intro w hSw; (try dsimp only at hSw); go_simp; (try with_reducible rfl)
      (try simp only [Act.put, List.getElem_toArray, List.getElem_cons_zero, List.getElem_cons_succ, List.setIfInBounds_toArray, List.set_cons_zero, List.set_cons_succ])
      refine wpAnyH_take (i := 4) (oi := _) (v := ?_) rfl (by kernel_rfl) (by kernel_rfl) (by kernel_rfl) (fun _ _ _ h => h) (Or.inl ⟨by rfl, ?_⟩) (by assumption) ?_
      rotate_left
      · intro w hSw; (try dsimp only at hSw); go_simp; (try with_reducible rfl)
      (try simp only [Act.put, List.getElem_toArray, List.getElem_cons_zero, List.getElem_cons_succ, List.setIfInBounds_toArray, List.set_cons_zero, List.set_cons_succ])
      refine wpAnyH_take (i := 5) (oi := _) (v := ?_) rfl (by kernel_rfl) (by kernel_rfl) (by kernel_rfl) (fun _ _ _ h => h) (Or.inl ⟨by rfl, ?_⟩) (by assumption) ?_
      rotate_left
      · intro w hSw; (try dsimp only at hSw); go_simp; (try with_reducible rfl)
      (try simp only [Act.put, List.getElem_toArray, List.getElem_cons_zero, List.getElem_cons_succ, List.setIfInBounds_toArray, List.set_cons_zero, List.set_cons_succ])
      refine wpAnyH_take (i := 6) (oi := _) (v := ?_) rfl (by kernel_rfl) (by kernel_rfl) (by kernel_rfl) (fun _ _ _ h => h) (Or.inl ⟨by rfl, ?_⟩) (by assumption) ?_
      rotate_left
      · intro w hSw; (try dsimp only at hSw); go_simp; (try with_reducible rfl)
      (try simp only [Act.put, List.getElem_toArray, List.getElem_cons_zero, List.getElem_cons_succ, List.setIfInBounds_toArray, List.set_cons_zero, List.set_cons_succ])
      refine wpAnyH_take (i := 7) (oi := _) (v := ?_) rfl (by kernel_rfl) (by kernel_rfl) (by kernel_rfl) (fun _ _ _ h => h) (Or.inl ⟨by rfl, ?_⟩) (by assumption) ?_
      rotate_left
      · intro w hSw; (try dsimp only at hSw); go_simp; (try with_reducible rfl)
      (try simp only [Act.put, List.getElem_toArray, List.getElem_cons_zero, List.getElem_cons_succ, List.setIfInBounds_toArray, List.set_cons_zero, List.set_cons_succ])
      refine wpAnyH_take (i := 8) (oi := _) (v := ?_) rfl (by kernel_rfl) (by kernel_rfl) (by kernel_rfl) (fun _ _ _ h => h) (Or.inl ⟨by rfl, ?_⟩) (by assumption) ?_
      rotate_left
      · intro w hSw; (try dsimp only at hSw); go_simp; (try with_reducible rfl)
      (try simp only [Act.put, List.getElem_toArray, List.getElem_cons_zero, List.getElem_cons_succ, List.setIfInBounds_toArray, List.set_cons_zero, List.set_cons_succ])
      refine wpAnyH_take (i := 9) (oi := _) (v := ?_) rfl (by kernel_rfl) (by kernel_rfl) (by kernel_rfl) (fun _ _ _ h => h) (Or.inl ⟨by rfl, ?_⟩) (by assumption) ?_
      rotate_left
      · intro w hSw; (try dsimp only at hSw); go_simp; (try with_reducible rfl)
      (try simp only [Act.put, List.getElem_toArray, List.getElem_cons_zero, List.getElem_cons_succ, List.setIfInBounds_toArray, List.set_cons_zero, List.set_cons_succ])
      refine wpAnyH_ready (rs := [10]) (by kernel_rfl) (by simp) ?_
      refine AllReadyH.cons (o := _) rfl (fun K hK => ?_) AllReadyH.nil
      go_simp
      skip
      refine hK.out _ _ ?_ (fun hHeld => ?_)
      · (try dsimp only)
        first | exact ⟨y0, y1⟩ | exact ⟨y2, y3⟩ | exact hHeld
      clear hK K
      (try simp only [Act.put, List.getElem_toArray, List.getElem_cons_zero, List.getElem_cons_succ, List.setIfInBounds_toArray, List.set_cons_zero, List.set_cons_succ])
      refine wpAnyH_done (by kernel_rfl) ?_ _
      go_wp2
      go_roundw
      case rel => exact ⟨k + 1, by omega, by go_num, hidp ((HP6.out.keep (Bdrew (B0 _))).congr rfl (fun _ _ => rfl) (by rw [HST.out]; exact rX_know n (firstK vals k) freshS k x)), hidp (Bdrew HB6.out)⟩
      case measure => simp [intOf]; omega
    · obtain rfl : k = n := by omega
      have f8 := HP.out.head.thawed 8
      have c8 : wr.cell? ⟨b, 8, none⟩ = some (.bool false) := HP.out.head.cell 8
      have hbg : w.heap.size ≤ b := HP.out.bb
      have HKA : Hid (firstK vals k = fun i => vals[i]?) := hidp (by rw [← HL.out]; exact firstK_all vals)
      go_wp2
      go_ret
      refine ⟨b, v, rfl, { parts := ?_, ok := VOk.fresh k, nmax := hmx, k32 := H32.out }, Bput HB.out (p := ⟨b, 8, none⟩) hbg _⟩
      have := (HP.out.setHead 8 (.bool true)).1
      rw [HKA.out] at this
      exact this
end Go.Proofs.Ytpndfhdedmdoeaa

/-
  The document's answer for Views: Known. Written by view/gen_ref3.py.
-/
namespace Go.Proofs.Ytpndfhdedmdoeaa
open Go.ChangeShapes Go.WideShapes Go.ChangeAt Go.RowKit Go.Maps
set_option linter.unusedVariables false
set_option maxRecDepth 100000
set_option linter.unusedSimpArgs false

end Go.Proofs.Ytpndfhdedmdoeaa
