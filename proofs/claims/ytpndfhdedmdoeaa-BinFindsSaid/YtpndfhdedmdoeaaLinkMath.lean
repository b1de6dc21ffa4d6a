/-
  What pushing, pulling and walking do to what a View has read and written, as functions; the walk's own block beside a View. No program is named here but for the document's and the program's View.
-/
import Derived.Test.YtpndfhdedmdoeaaOb
import Derived.Test.YtpndfhdedmdoeaaPlaceMath
namespace Go.Proofs.Ytpndfhdedmdoeaa
open Go.ChangeShapes Go.WideShapes Go.ChangeAt Go.RowKit Go.Maps
set_option linter.unusedVariables false
set_option maxRecDepth 100000

def pgB (P p : Int) : Bool := decide (0 ≤ p) && decide (p < P)
theorem pgB_iff (P p : Int) : pgB P p = true ↔ 0 ≤ p ∧ p < P := by unfold pgB; simp
theorem pgB_no {P p : Int} (h : pgB P p = false) : ¬ (0 ≤ p ∧ p < P) := by
  intro x
  rw [(pgB_iff P p).2 x] at h
  cases h

section
variable (n : Nat) (K : Nat → Option Nat) (t q s hd : Int)
/-- behind 'h <- Get(head); Put(Next(k), h); Put(Prev(k), 0)' -/
def push1 (k : Nat) (st : Vst) : Vst := putS n (putS n (getS n K st hd) (pageI t q s (k : Int) 2) (getV n K st hd)) (pageI t q s (k : Int) 3) 0
/-- .. and 'if h is not 0: Put(Prev(h - 1), k + 1)' -/
def push2 (k : Nat) (st : Vst) : Vst := if getV n K st hd = 0 then push1 n K t q s hd k st else putS n (push1 n K t q s hd k st) (pageI t q s ((getV n K st hd : Nat) - 1 : Int) 3) (k + 1)
def pushS (k : Nat) (st : Vst) : Vst := putS n (push2 n K t q s hd k st) hd (k + 1)
def pushI (p : Int) (st : Vst) : Vst := if pgB q p then pushS n K t q s hd p.toNat st else st

def pullN (k : Nat) (st : Vst) : Nat := getV n K st (pageI t q s (k : Int) 2)
def pullB (k : Nat) (st : Vst) : Nat := getV n K (getS n K st (pageI t q s (k : Int) 2)) (pageI t q s (k : Int) 3)
def pull0 (k : Nat) (st : Vst) : Vst := getS n K (getS n K st (pageI t q s (k : Int) 2)) (pageI t q s (k : Int) 3)
def pull1 (k : Nat) (st : Vst) : Vst := if pullB n K t q s k st = 0 then putS n (pull0 n K t q s k st) hd (pullN n K t q s k st) else putS n (pull0 n K t q s k st) (pageI t q s ((pullB n K t q s k st : Nat) - 1 : Int) 2) (pullN n K t q s k st)
def pull2 (k : Nat) (st : Vst) : Vst := if pullN n K t q s k st = 0 then pull1 n K t q s hd k st else putS n (pull1 n K t q s hd k st) (pageI t q s ((pullN n K t q s k st : Nat) - 1 : Int) 3) (pullB n K t q s k st)
def pullS (k : Nat) (st : Vst) : Vst := putS n (putS n (pull2 n K t q s hd k st) (pageI t q s (k : Int) 2) 0) (pageI t q s (k : Int) 3) 0
def pullI (p : Int) (st : Vst) : Vst := if pgB q p then pullS n K t q s hd p.toNat st else st

/-- what is walked from the link l on, at most m pages -/
def walkF : Nat → Nat → Vst → List Nat × Vst
  | 0, _, st => ([], st)
  | m + 1, l, st => if 1 ≤ l ∧ (l : Int) ≤ q then
      let r := walkF m (getV n K st (pageI t q s ((l : Int) - 1) 2)) (getS n K st (pageI t q s ((l : Int) - 1) 2))
      ((l - 1) :: r.1, r.2)
    else ([], st)
def walkL (st : Vst) : List Nat := (walkF n K t q s q.toNat (getV n K st hd) (getS n K st hd)).1
def walkS (st : Vst) : Vst := (walkF n K t q s q.toNat (getV n K st hd) (getS n K st hd)).2
theorem walkF_step {m l : Nat} {st : Vst} (h : 1 ≤ l ∧ (l : Int) ≤ q) : walkF n K t q s (m + 1) l st = ((l - 1) :: (walkF n K t q s m (getV n K st (pageI t q s ((l : Int) - 1) 2)) (getS n K st (pageI t q s ((l : Int) - 1) 2))).1, (walkF n K t q s m (getV n K st (pageI t q s ((l : Int) - 1) 2)) (getS n K st (pageI t q s ((l : Int) - 1) 2))).2) := by
  rw [walkF, if_pos h]
theorem walkF_end {m l : Nat} {st : Vst} (h : ¬ (1 ≤ l ∧ (l : Int) ≤ q)) : walkF n K t q s m l st = ([], st) := by
  cases m with
  | zero => rfl
  | succ m => rw [walkF, if_neg h]
theorem walkF_zero {l : Nat} {st : Vst} : walkF n K t q s 0 l st = ([], st) := rfl
/-- behind the pages 'out' the walk stands at the link l, in the state st -/
structure Walked (m : Nat) (l0 : Nat) (st0 : Vst) (out : List Nat) (l : Nat) (st : Vst) : Prop where
  len : out.length ≤ m
  pages : (walkF n K t q s m l0 st0).1 = out ++ (walkF n K t q s (m - out.length) l st).1
  state : (walkF n K t q s m l0 st0).2 = (walkF n K t q s (m - out.length) l st).2
end
section
variable {n : Nat} {K : Nat → Option Nat} {t q s hd : Int} {m l0 l : Nat} {st0 st : Vst} {out : List Nat}
theorem Walked.start : Walked n K t q s m l0 st0 [] l0 st0 := ⟨by simp, by simp, by simp⟩
theorem Walked.step (h : Walked n K t q s m l0 st0 out l st) (hl : 1 ≤ l ∧ (l : Int) ≤ q) (hm : out.length < m) :
    Walked n K t q s m l0 st0 (out ++ [l - 1]) (getV n K st (pageI t q s ((l : Int) - 1) 2)) (getS n K st (pageI t q s ((l : Int) - 1) 2)) := by
  obtain ⟨j, hj⟩ : ∃ j, m - out.length = j + 1 := ⟨m - out.length - 1, by omega⟩
  have hj2 : m - (out ++ [l - 1]).length = j := by simp; omega
  obtain ⟨h1, h2, h3⟩ := h
  rw [hj, walkF_step n K t q s hl] at h2 h3
  refine ⟨by simp; omega, ?_, ?_⟩
  · rw [hj2, h2]; simp
  · rw [hj2, h3]
theorem Walked.fin (h : Walked n K t q s m l0 st0 out l st) (hl : ¬ (1 ≤ l ∧ (l : Int) ≤ q) ∨ ¬ out.length < m) : walkF n K t q s m l0 st0 = (out, st) := by
  obtain ⟨h1, h2, h3⟩ := h
  have e : walkF n K t q s (m - out.length) l st = ([], st) := by
    rcases hl with hl | hl
    · exact walkF_end n K t q s hl
    · have : m - out.length = 0 := by omega
      rw [this]; rfl
  rw [e] at h2 h3
  exact Prod.ext (by simpa using h2) h3
theorem pgB_nat {k : Nat} {st : Vst} (h : pgB q (k : Int) = true) : pushI n K t q s hd (k : Int) st = pushS n K t q s hd k st ∧ pullI n K t q s hd (k : Int) st = pullS n K t q s hd k st := by
  unfold pushI pullI
  rw [if_pos h, if_pos h]
  exact ⟨rfl, rfl⟩
theorem pgB_none {p : Int} {st : Vst} (h : pgB q p = false) : pushI n K t q s hd p st = st ∧ pullI n K t q s hd p st = st := by
  unfold pushI pullI
  rw [if_neg (by simp [h]), if_neg (by simp [h])]
  exact ⟨rfl, rfl⟩
/-- what is got goes into 32 bits -/
theorem getV_lt {a : Int} (hk : VOk n st) (h32 : ∀ i x, K i = some x → x < 2 ^ 32) : getV n K st a < 2 ^ 32 := by
  by_cases ho : opn n st a = true
  · obtain ⟨i, rfl, hi, hl⟩ := opn_at ho
    cases hp : pos st.wr i with
    | some k =>
      rw [getV_put ho hp]
      have h1 := (pos_some hp).1
      have h2 : (st.wr[k]'h1) ∈ st.wr := List.getElem_mem h1
      have h3 := (hk.wrLt _ h2).2
      unfold atW
      simp only [List.getD, List.getElem?_eq_getElem h1, Option.getD_some]
      exact h3
    | none =>
      cases hK : K i with
      | some v => rw [getV_known ho hp hK]; exact h32 i v hK
      | none => rw [getV_lost ho hp hK]; omega
  · rw [getV_no (by simpa using ho)]; omega
end

section
variable {base b n : Nat} {wh all : Bool} {K : Nat → Option Nat} {st s' : Vst} {w ws w0 w' : World} {A G : Nat → Prop} {N : Nat} {T : TypeId} {cs : Array Value} {O : Ob}
theorem vAt_lt (h : (vOb base b n wh K).At w0 A G st w) (a : Int) : getV n K st a < 2 ^ 32 := by
  obtain ⟨B, ⟨o, h1, _⟩, _⟩ := h
  exact getV_lt h1.ok h1.k32
theorem rAt_lt (h : (rOb base b n all K).At w0 A G st w) (a : Int) : getV n K st a < 2 ^ 32 := by
  obtain ⟨B, ⟨o, h1, _⟩, _⟩ := h
  exact getV_lt h1.ok h1.k32
/-- a walk that began at ws has one block of its own, N -/
structure WK (O : Ob) (w0 : World) (A G : Nat → Prop) (ws : World) (N : Nat) (T : TypeId) (cs : Array Value) (st : Vst) (w : World) : Prop where
  at_ : O.At w0 A (And1 G N) st w
  held : Held w N T cs
  stay : Stay G ws w
theorem WK.one (h : O.At w0 A G st ws) (T : TypeId) (cs : Array Value) : WK O w0 A G ws ws.heap.size T cs st (ws.alloc (.cells cs T)) := ⟨h.box _, Held.new _ _ _, Stay.of_below (Bnew (B0 _) _) G⟩
theorem WK.two (h : O.At w0 A G st ws) (o : Obj) (T : TypeId) (cs : Array Value) : WK O w0 A G ws (ws.heap.size + 1) T cs st ((ws.alloc o).alloc (.cells cs T)) :=
  ⟨by have := (h.alloc o).box (.cells cs T); simpa using this, Held.new2 _ _ _ _, Stay.of_below (Bnew (Bnew (B0 _) _) _) G⟩
theorem WK.keep (h : WK O w0 A G ws N T cs st w) (hb : Below w.heap.size w w') : WK O w0 A G ws N T cs st w' := ⟨h.at_.keep hb, h.held.keep hb, h.stay.trans (Stay.of_below hb G)⟩
theorem WK.drew (h : WK O w0 A G ws N T cs st w) : WK O w0 A G ws N T cs st w.drew := h.keep (Bdrew (B0 w))
theorem WK.call (h : WK O w0 A G ws N T cs st w) (h1 : O.At w0 A (And1 G N) s' w') (h2 : Stay (And1 G N) w w') : WK O w0 A G ws N T cs s' w' :=
  ⟨h1, h2.held (.inr rfl) h.held, h.stay.trans (h2.less fun g x => .inl x)⟩
theorem WK.fin (h : WK O w0 A G ws N T cs st w) : O.At w0 A G st w ∧ Stay G ws w := ⟨h.at_.less fun g x => .inl x, h.stay⟩
end
end Go.Proofs.Ytpndfhdedmdoeaa
