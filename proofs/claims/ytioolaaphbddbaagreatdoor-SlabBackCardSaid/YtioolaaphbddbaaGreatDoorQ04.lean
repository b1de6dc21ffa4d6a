/-
  Taking, releasing, shrinking and growing spans, as functions: what is read and written. No program is named here but for the Views'.
-/
import Derived.Test.YtioolaaphbddbaaGreatDoorQ03
import Derived.Deep.RegionHeld3
namespace Go.Proofs.YtioolaaphbddbaaGreatDoor
open Go.ChangeShapes Go.WideShapes Go.ChangeAt Go.RowKit Go.Maps
set_option linter.unusedVariables false
set_option linter.unusedSimpArgs false
section
def add32 (a : Nat) (m : Int) : Nat := (((a : Int) + m) % 4294967296).toNat
def sub32 (a : Nat) (m : Int) : Nat := (((a : Int) - m) % 4294967296).toNat
theorem add32_lt (a : Nat) (m : Int) : add32 a m < 2 ^ 32 := by unfold add32; have := Int.emod_lt_of_pos ((a : Int) + m) (show (0 : Int) < 4294967296 by omega); have := Int.emod_nonneg ((a : Int) + m) (show (4294967296 : Int) ≠ 0 by omega); omega
theorem add32_small {a m : Nat} (h : a + m < 4294967296) : add32 a m = a + m := by unfold add32; rw [Int.emod_eq_of_lt (by omega) (by omega)]; omega
theorem sub32_small {a m : Nat} (h : m ≤ a) (h2 : a < 4294967296) : sub32 a m = a - m := by unfold sub32; rw [Int.emod_eq_of_lt (by omega) (by omega)]; omega
section
variable (n : Nat) (K : Nat → Option Nat) (t q s : Int)
def usedS (p m : Nat) (st : Vst) : Vst := putS n (putS n st (pageI t q s p 0) (infoV 2 (m : Int) 0)) (pageI t q s ((p : Int) + (m : Int) - 1) 1) (p + 1)
def restS (p m : Nat) (l : Int) (st : Vst) : Vst := if (m : Int) < l then addS n K t q s ((p : Int) + (m : Int)) (l - (m : Int)) st else st
def lessS (m : Nat) (st : Vst) : Vst := putS n (getS n K st 0) 0 (sub32 (getV n K st 0) (m : Int))
def moreS (m : Nat) (st : Vst) : Vst := putS n (getS n K st 0) 0 (add32 (getV n K st 0) (m : Int))
def takeS (p m : Nat) (st : Vst) : Vst := lessS n K m (restS n K t q s p m (dropV n K t q s p st) (usedS n t q s p m (dropS n K t q s p st)))
def takeI (m : Int) (st : Vst) : Option Nat × Vst := match (findI n K t q s m st).1 with
  | some p => (some p, takeS n K t q s p m.toNat (findI n K t q s m st).2)
  | none => (none, (findI n K t q s m st).2)
def relL (p : Nat) (st : Vst) : Vst × Int × Int := if p = 0 then (st, (p : Int), 0) else
  (let f : Int := ((getV n K st (pageI t q s ((p : Int) - 1) 1) : Nat) : Int)
   let st1 := getS n K st (pageI t q s ((p : Int) - 1) 1)
   let st2 := getS n K st1 (pageI t q s (f - 1) 0)
   if (infoOf n K t q s (f - 1) st1).1 = 1 then (putS n (putS n (dropS n K t q s (f - 1) st2) (pageI t q s p 0) 0) (pageI t q s ((p : Int) - 1) 1) 0, f - 1, dropV n K t q s (f - 1) st2)
   else (st2, (p : Int), 0))
def relR (r : Nat) (st : Vst) : Vst × Int := if (r : Int) < q then
  (let st1 := getS n K st (pageI t q s r 0)
   if (infoOf n K t q s r st).1 = 1 then (putS n (putS n (dropS n K t q s r st1) (pageI t q s r 0) 0) (pageI t q s ((r : Int) - 1) 1) 0, dropV n K t q s r st1)
   else (st1, 0))
  else (st, 0)
def releaseS (p m : Nat) (st : Vst) : Vst :=
  moreS n K m (addS n K t q s (relL n K t q s p st).2.1 ((m : Int) + (relL n K t q s p st).2.2 + (relR n K t q s (p + m) (relL n K t q s p st).1).2) (relR n K t q s (p + m) (relL n K t q s p st).1).1)
end
end
end Go.Proofs.YtioolaaphbddbaaGreatDoor

namespace Go.Proofs.YtioolaaphbddbaaGreatDoor
open Go.ChangeShapes Go.WideShapes Go.ChangeAt Go.RowKit Go.Maps
set_option linter.unusedVariables false
set_option linter.unusedSimpArgs false
set_option maxRecDepth 100000
section
structure Blk where
  n : Nat
  t : TypeId
  cs : Array Value
def GB (G : Nat → Prop) (L : List Blk) : Nat → Prop := fun g => G g ∨ ∃ x, x ∈ L ∧ x.n = g

structure WL (O : Ob) (w0 : World) (A G : Nat → Prop) (ws : World) (L : List Blk) (st : Vst) (w : World) : Prop where
  at_ : O.At w0 A (GB G L) st w
  held : ∀ x ∈ L, Held w x.n x.t x.cs
  stay : Stay G ws w
  lo : ∀ x ∈ L, ws.heap.size ≤ x.n
  nd : (L.map (·.n)).Nodup

section
variable {O : Ob} {w0 ws w w' : World} {A G : Nat → Prop} {L : List Blk} {x y z : Blk} {st s' : Vst}
theorem WL.start (h : O.At w0 A G st ws) : WL O w0 A G ws [] st ws :=
  ⟨h.less (fun g hg => by
    rcases hg with hg | ⟨x, hx, _⟩
    · exact hg
    · exact absurd hx (List.not_mem_nil)), fun x hx => absurd hx (List.not_mem_nil), Stay.of_below (B0 _) G, fun x hx => absurd hx (List.not_mem_nil), List.nodup_nil⟩
theorem WL.keep (h : WL O w0 A G ws L st w) (hb : Below w.heap.size w w') : WL O w0 A G ws L st w' :=
  ⟨h.at_.keep hb, fun x hx => (h.held x hx).keep hb, h.stay.trans (Stay.of_below hb G), h.lo, h.nd⟩
theorem WL.drew (h : WL O w0 A G ws L st w) : WL O w0 A G ws L st w.drew := h.keep (Bdrew (B0 w))
theorem WL.drewN (h : WL O w0 A G ws L st w) (k : Nat) : WL O w0 A G ws L st (w.drewN k) := h.keep (Bdraw (B0 w) k)
theorem WL.alloc (h : WL O w0 A G ws L st w) (o : Obj) : WL O w0 A G ws L st (w.alloc o) := h.keep (Bnew (B0 w) o)
theorem WL.call (h : WL O w0 A G ws L st w) (h1 : O.At w0 A (GB G L) s' w') (h2 : Stay (GB G L) w w') : WL O w0 A G ws L s' w' :=
  ⟨h1, fun x hx => h2.held (.inr ⟨x, hx, rfl⟩) (h.held x hx), h.stay.trans (h2.less fun g x => .inl x), h.lo, h.nd⟩
theorem WL.fin (h : WL O w0 A G ws L st w) : O.At w0 A G st w ∧ Stay G ws w := ⟨h.at_.less fun g x => .inl x, h.stay⟩
theorem WL.new (h : WL O w0 A G ws L st w) (t : TypeId) (cs : Array Value) : WL O w0 A G ws (⟨w.heap.size, t, cs⟩ :: L) st (w.alloc (.cells cs t)) := by
  have hk := h.alloc (.cells cs t)
  refine ⟨(h.at_.box (.cells cs t)).less (fun g hg => ?_), fun x hx => ?_, hk.stay, fun x hx => ?_, ?_⟩
  · rcases hg with hg | ⟨x, hx, rfl⟩
    · exact .inl (.inl hg)
    · rcases List.mem_cons.1 hx with rfl | hx
      · exact .inr rfl
      · exact .inl (.inr ⟨x, hx, rfl⟩)
  · rcases List.mem_cons.1 hx with rfl | hx
    · exact Held.new w t cs
    · exact hk.held x hx
  · rcases List.mem_cons.1 hx with rfl | hx
    · exact h.stay.1
    · exact h.lo x hx
  · rw [List.map_cons]
    refine List.nodup_cons.2 ⟨fun hm => ?_, h.nd⟩
    obtain ⟨x, hx, e⟩ := List.mem_map.1 hm
    have h1 := (h.held x hx).lt
    have e : x.n = w.heap.size := e
    omega
theorem WL.drop (h : WL O w0 A G ws (x :: L) st w) : WL O w0 A G ws L st w :=
  ⟨h.at_.less (fun g hg => by
    rcases hg with hg | ⟨y, hy, rfl⟩
    · exact .inl hg
    · exact .inr ⟨y, List.mem_cons_of_mem _ hy, rfl⟩), fun y hy => h.held y (List.mem_cons_of_mem _ hy), h.stay, fun y hy => h.lo y (List.mem_cons_of_mem _ hy), (List.nodup_cons.1 h.nd).2⟩
theorem WL.put (h : WL O w0 A G ws (x :: L) st w) (i : Nat) (v : Value) : WL O w0 A G ws (⟨x.n, x.t, x.cs.setIfInBounds i v⟩ :: L) st (w.setCell ⟨x.n, i, none⟩ v) := by
  have hnd := List.nodup_cons.1 h.nd
  have hlo := h.lo x (List.mem_cons_self ..)
  refine ⟨(h.at_.put (p := ⟨x.n, i, none⟩) (.inr ⟨x, List.mem_cons_self .., rfl⟩) v).less (fun g hg => ?_), fun y hy => ?_, ⟨by simp; exact h.stay.1, fun g hg hl => (Below.heap_setCell w ⟨x.n, i, none⟩ v g (fun e => by have e : g = x.n := e; omega)).trans (h.stay.2 g hg hl)⟩, fun y hy => ?_, h.nd⟩
  · rcases hg with hg | ⟨y, hy, rfl⟩
    · exact .inl hg
    · rcases List.mem_cons.1 hy with rfl | hy
      · exact .inr ⟨x, List.mem_cons_self .., rfl⟩
      · exact .inr ⟨y, List.mem_cons_of_mem _ hy, rfl⟩
  · rcases List.mem_cons.1 hy with rfl | hy
    · exact (h.held x (List.mem_cons_self ..)).put i v
    · refine (h.held y (List.mem_cons_of_mem _ hy)).far (p := ⟨x.n, i, none⟩) (fun e => hnd.1 ?_) v
      have e : y.n = x.n := e
      exact List.mem_map.2 ⟨y, hy, e⟩
  · rcases List.mem_cons.1 hy with rfl | hy
    · exact hlo
    · exact h.lo y (List.mem_cons_of_mem _ hy)
theorem WL.swap (h : WL O w0 A G ws (x :: y :: L) st w) : WL O w0 A G ws (y :: x :: L) st w := by
  refine ⟨h.at_.less (fun g hg => ?_), fun z hz => h.held z (by simp at hz ⊢; rcases hz with e | e | e <;> simp [e]), h.stay, fun z hz => h.lo z (by simp at hz ⊢; rcases hz with e | e | e <;> simp [e]), ?_⟩
  · rcases hg with hg | ⟨z, hz, e⟩
    · exact .inl hg
    · exact .inr ⟨z, by simp at hz ⊢; rcases hz with e | e | e <;> simp [e], e⟩
  · have := h.nd
    simp only [List.map_cons, List.nodup_cons, List.mem_cons, not_or] at this ⊢
    exact ⟨⟨fun e => this.1.1 e.symm, this.2.1⟩, this.1.2, this.2.2⟩
theorem WL.h0 (h : WL O w0 A G ws (x :: L) st w) : Held w x.n x.t x.cs := h.held x (List.mem_cons_self ..)
theorem WL.h1 (h : WL O w0 A G ws (x :: y :: L) st w) : Held w y.n y.t y.cs := h.held y (List.mem_cons_of_mem _ (List.mem_cons_self ..))
theorem WL.h2 (h : WL O w0 A G ws (x :: y :: z :: L) st w) : Held w z.n z.t z.cs := h.held z (List.mem_cons_of_mem _ (List.mem_cons_of_mem _ (List.mem_cons_self ..)))
theorem vWL_lt {base b n : Nat} {wh : Bool} {K : Nat → Option Nat} (h : WL (vOb base b n wh K) w0 A G ws L st w) (a : Int) : getV n K st a < 2 ^ 32 := vAt_lt h.at_ a
end
end
end Go.Proofs.YtioolaaphbddbaaGreatDoor

namespace Go.Proofs.YtioolaaphbddbaaGreatDoor
open Go.ChangeShapes Go.WideShapes Go.ChangeAt Go.RowKit
set_option linter.unusedVariables false
set_option linter.unusedSimpArgs false
section
theorem Held.seven {w : World} {g : Nat} {t : TypeId} {c0 c1 c2 c3 c4 c5 c6 : Value} (h : Held w g t #[c0, c1, c2, c3, c4, c5, c6]) : w.cell? ⟨g, 0, none⟩ = some c0 ∧ w.cell? ⟨g, 1, none⟩ = some c1 ∧ w.cell? ⟨g, 2, none⟩ = some c2 ∧ w.cell? ⟨g, 3, none⟩ = some c3 ∧ w.cell? ⟨g, 4, none⟩ = some c4 ∧ w.cell? ⟨g, 5, none⟩ = some c5 ∧ w.cell? ⟨g, 6, none⟩ = some c6 :=
  ⟨h.cell 0, h.cell 1, h.cell 2, h.cell 3, h.cell 4, h.cell 5, h.cell 6⟩
theorem Held.thawed7 {w : World} {g : Nat} {t : TypeId} {cs : Array Value} (h : Held w g t cs) : w.frozen? ⟨g, 0, none⟩ = false ∧ w.frozen? ⟨g, 1, none⟩ = false ∧ w.frozen? ⟨g, 2, none⟩ = false ∧ w.frozen? ⟨g, 3, none⟩ = false ∧ w.frozen? ⟨g, 4, none⟩ = false ∧ w.frozen? ⟨g, 5, none⟩ = false ∧ w.frozen? ⟨g, 6, none⟩ = false :=
  ⟨h.thawed 0, h.thawed 1, h.thawed 2, h.thawed 3, h.thawed 4, h.thawed 5, h.thawed 6⟩

theorem plNth_c (f n e i : Int) (f0 : -1 ≤ f) (f1 : f ≤ 20000) (n0 : 0 ≤ n) (n1 : n ≤ 10000) (e0 : 0 ≤ e) (e1 : e ≤ 120) (w : World) :
    Calls Tryz.prog 114 #[.int .i64 f, .int .i64 n, .int .i64 e, .int .i64 i] w fun z w' => z = .returned (.int .i64 (nthI f n e i)) ∧ w = w' := by
  by_cases c0 : f = -1
  · subst c0
    have HN := hidp (nth_off (f := -1) (n := n) (e := e) (i := i) (.inl rfl))
    go_enter Tryz.func114, Tryz.ntmps114
    go_wp2
    go_ret
    exact ⟨by rw [HN.out]; rfl, rfl⟩
  · have q0 : (f == -1) = false := by simpa using c0
    by_cases c1 : i < 0
    · have HN := hidp (nth_off (f := f) (n := n) (e := e) (i := i) (.inr (.inl c1)))
      go_enter Tryz.func114, Tryz.ntmps114
      go_wp2
      go_ret
      exact ⟨by rw [HN.out]; rfl, rfl⟩
    · by_cases c2 : n ≤ i
      · have HN := hidp (nth_off (f := f) (n := n) (e := e) (i := i) (.inr (.inr c2)))
        go_enter Tryz.func114, Tryz.ntmps114
        go_wp2
        go_ret
        exact ⟨by rw [HN.out]; rfl, rfl⟩
      · have HN := hidp (nth_on (f := f) (n := n) (e := e) (i := i) c0 (by omega) (by omega))
        have p0 : 0 ≤ i * e := Int.mul_nonneg (by omega) e0
        have p1 : i * e ≤ 10000 * 120 := Int.mul_le_mul (by omega) e1 e0 (by omega)
        obtain ⟨y, hy⟩ : ∃ y, i * e = y := ⟨_, rfl⟩
        have HY := hidp hy
        rw [hy] at p0 p1
        go_enter Tryz.func114, Tryz.ntmps114
        go_wp2
        go_ret
        exact ⟨by rw [HN.out, HY.out]; rfl, rfl⟩

theorem plLine_c (i : Nat) (h : i ≤ 10000) (w : World) :
    Calls Tryz.prog 157 #[.int .i64 (i : Int)] w fun z w' => z = .returned (.int .i64 (((i + 7) / 8 * 8 : Nat) : Int)) ∧ w = w' := by
  go_enter Tryz.func157, Tryz.ntmps157
  go_wp2
  go_ret
  refine ⟨ret_int ?_, rfl⟩
  simp
  omega
theorem plLineI_c (i y : Int) (h0 : 0 ≤ i) (h : i ≤ 10000) (hy : (i + 7) / 8 * 8 = y) (w : World) :
    Calls Tryz.prog 157 #[.int .i64 i] w fun z w' => z = .returned (.int .i64 y) ∧ w = w' := by
  obtain ⟨n, rfl⟩ : ∃ n : Nat, i = n := ⟨i.toNat, by omega⟩
  have e : y = (((n + 7) / 8 * 8 : Nat) : Int) := by omega
  rw [e]
  exact plLine_c n (by omega) w

set_option maxHeartbeats 1600000 in
theorem plLayout_no (t p s : Int) (hr : rightB t p s = false) (w : World) :
    Calls Tryz.prog 132 #[.agg #[.int .i64 t, .int .i64 p, .int .i64 s]] w fun z w' => z = .returned (.agg #[.int .i64 0, .int .i64 0, .int .i64 0, .int .i64 0, .int .i64 0, .int .i64 0, .int .i64 0]) ∧ Below w.heap.size w w' := by
  have HK := hidp (check_no hr)
  have hl := Held.new2 w (.cells #[.int .i64 t, .int .i64 p, .int .i64 s] 23) 153 #[.int .i64 0, .int .i64 0, .int .i64 0, .int .i64 0, .int .i64 0, .int .i64 0, .int .i64 0]
  clear hr
  go_enter Tryz.func132, Tryz.ntmps132
  go_wp2_with fail
  refine (cfCheck_c t p s _).mono ?_
  rintro e w1 ⟨rfl, hb1⟩
  rw [HK.out]
  have hz := hb1.size
  have hl1 := hl.keep hb1
  obtain ⟨z0, z1, z2, z3, z4, z5, z6⟩ := hl1.seven
  obtain ⟨f0, f1, f2, f3, f4, f5, f6⟩ := hl1.thawed7
  go_wp2
  refine bodyPost_ret (v := .agg #[.int .i64 0, .int .i64 0, .int .i64 0, .int .i64 0, .int .i64 0, .int .i64 0, .int .i64 0]) (by simp [results, Tryz.results132, go_sem, z0, z1, z2, z3, z4, z5, z6]) rfl ⟨rfl, ?_⟩
  exact Bput (Bput (Bput (Bput (Bput (Bput (Bput (Bgo (Bnew (Bnew (B0 _) _) _) hb1) (Nat.le_succ _) _) (Nat.le_succ _) _) (Nat.le_succ _) _) (Nat.le_succ _) _) (Nat.le_succ _) _) (Nat.le_succ _) _) (Nat.le_succ _) _

set_option maxHeartbeats 1600000 in
theorem plLayout_yes (a b : Nat) (s : Int) (hr : rightB a b s = true) (w : World) :
    Calls Tryz.prog 132 #[.agg #[.int .i64 (a : Int), .int .i64 (b : Int), .int .i64 s]] w fun z w' => z = .returned (.agg #[.int .i64 (a : Int), .int .i64 (b : Int), .int .i64 s, .int .i64 (30 + 4 * a : Int), .int .i64 (30 + 4 * a + 6 * b : Int), .int .i64 ((16 + (30 + 4 * a + 6 * b) + 7) / 8 * 8 : Int), .int .i64 (a + 1 : Int)]) ∧ Below w.heap.size w w' := by
  have HK := hidp (check_yes hr)
  have hn := (rightB_iff a b s).1 hr
  have a1 : a ≤ 16 := by omega
  have b1 : b ≤ 1024 := by omega
  obtain ⟨y, hy⟩ : ∃ y : Int, ((16 + (30 + 4 * (a : Int) + 6 * (b : Int)) + 7) / 8 * 8 : Int) = y := ⟨_, rfl⟩
  have HY := hidp hy
  rw [hy]
  have hd := (Held.new w 23 #[.int .i64 a, .int .i64 b, .int .i64 s]).alloc (.cells #[.int .i64 0, .int .i64 0, .int .i64 0, .int .i64 0, .int .i64 0, .int .i64 0, .int .i64 0] 153)
  have hl := Held.new2 w (.cells #[.int .i64 a, .int .i64 b, .int .i64 s] 23) 153 #[.int .i64 0, .int .i64 0, .int .i64 0, .int .i64 0, .int .i64 0, .int .i64 0, .int .i64 0]
  clear hr hn hy
  go_enter Tryz.func132, Tryz.ntmps132
  go_wp2_with fail
  refine (cfCheck_c a b s _).mono ?_
  rintro e w1 ⟨rfl, hb1⟩
  rw [HK.out]
  have hz := hb1.size
  have hd1 := hd.keep hb1
  have hl1 := hl.keep hb1
  obtain ⟨x0, x1, x2⟩ := hd1.three
  obtain ⟨z0, z1, z2, z3, z4, z5, z6⟩ := hl1.seven
  obtain ⟨f0, f1, f2, f3, f4, f5, f6⟩ := hl1.thawed7
  have hlt := hl1.lt
  clear hd hl
  go_wp2_with fail
  refine (plLineI_c _ y (by omega) (by omega) HY.out _).mono ?_
  rintro e w2 ⟨rfl, rfl⟩
  go_wp2
  have hfin := (((((((hl1.put 0 (.int .i64 (a : Int))).put 1 (.int .i64 (b : Int))).put 2 (.int .i64 s)).put 3 (.int .i64 (30 + 4 * a : Int))).put 4 (.int .i64 (30 + 4 * a + 6 * b : Int))).put 5 (.int .i64 y)).put 6 (.int .i64 (a + 1 : Int))).alloc
    (.cells #[.int .i64 (a : Int), .int .i64 (b : Int), .int .i64 s, .int .i64 (30 + 4 * a : Int), .int .i64 (30 + 4 * a + 6 * b : Int), .int .i64 y, .int .i64 (a + 1 : Int)] 153)
  obtain ⟨r0, r1, r2, r3, r4, r5, r6⟩ := hfin.seven
  refine bodyPost_ret (v := .agg #[.int .i64 (a : Int), .int .i64 (b : Int), .int .i64 s, .int .i64 (30 + 4 * a : Int), .int .i64 (30 + 4 * a + 6 * b : Int), .int .i64 y, .int .i64 (a + 1 : Int)]) (by simp [results, Tryz.results132, go_sem, r0, r1, r2, r3, r4, r5, r6]) rfl ⟨rfl, ?_⟩
  exact Bnew (Bput (Bput (Bput (Bput (Bput (Bput (Bput (Bgo (Bnew (Bnew (B0 _) _) _) hb1) (Nat.le_succ _) _) (Nat.le_succ _) _) (Nat.le_succ _) _) (Nat.le_succ _) _) (Nat.le_succ _) _) (Nat.le_succ _) _) (Nat.le_succ _) _) _

theorem plLayout_c (t p s T P S A C M K : Int) (h : Laid7 t p s T P S A C M K) (w : World) :
    Calls Tryz.prog 132 #[.agg #[.int .i64 t, .int .i64 p, .int .i64 s]] w fun z w' => z = .returned (.agg #[.int .i64 T, .int .i64 P, .int .i64 S, .int .i64 A, .int .i64 C, .int .i64 M, .int .i64 K]) ∧ Below w.heap.size w w' := by
  obtain ⟨rfl, rfl, rfl, rfl, rfl, rfl, rfl⟩ := h
  cases hr : rightB t p s
  · obtain ⟨e1, e2, e3, e4, e5, e6, e7⟩ := lay_no hr
    rw [e1, e2, e3, e4, e5, e6, e7]
    exact plLayout_no t p s hr w
  · obtain ⟨e1, e2, e3, e4, e5, e6, e7⟩ := lay_yes hr
    rw [e1, e2, e3, e4, e5, e6, e7]
    have hn := (rightB_iff t p s).1 hr
    obtain ⟨a, rfl⟩ : ∃ a : Nat, t = a := ⟨t.toNat, by omega⟩
    obtain ⟨b, rfl⟩ : ∃ b : Nat, p = b := ⟨p.toNat, by omega⟩
    exact plLayout_yes a b s hr w
theorem lay_is (t p s : Int) : ∃ T P S A C M K : Int, Laid7 t p s T P S A C M K ∧ (0 ≤ T ∧ T ≤ 16) ∧ (0 ≤ P ∧ P ≤ 1024) ∧ (0 ≤ A ∧ A ≤ 94) ∧ (0 ≤ C ∧ C ≤ 6238) ∧ (0 ≤ M ∧ M ≤ 6256) ∧ (0 ≤ K ∧ K ≤ 17) ∧ M % 8 = 0 :=
  ⟨_, _, _, _, _, _, _, ⟨rfl, rfl, rfl, rfl, rfl, rfl, rfl⟩, lay_bounds t p s⟩

theorem plBin_c (k : Int) (w : World) :
    Calls Tryz.prog 139 #[.int .i64 k] w fun z w' => z = .returned (.int .i64 (nthI 2 11 1 k)) ∧ w = w' := by
  go_enter Tryz.func139, Tryz.ntmps139
  go_wp2_with fail
  refine (plNth_c 2 11 1 k (by omega) (by omega) (by omega) (by omega) (by omega) (by omega) _).mono ?_
  rintro e w1 ⟨rfl, rfl⟩
  go_wp2
  go_ret
  exact ⟨by first | rfl | trivial, by first | rfl | trivial⟩

theorem plRack_c (k : Int) (w : World) :
    Calls Tryz.prog 78 #[.int .i64 k] w fun z w' => z = .returned (.int .i64 (nthI 13 9 1 k)) ∧ w = w' := by
  go_enter Tryz.func78, Tryz.ntmps78
  go_wp2_with fail
  refine (plNth_c 13 9 1 k (by omega) (by omega) (by omega) (by omega) (by omega) (by omega) _).mono ?_
  rintro e w1 ⟨rfl, rfl⟩
  go_wp2
  go_ret
  exact ⟨by first | rfl | trivial, by first | rfl | trivial⟩

theorem plPage_c (t p s q b : Int) (w : World) :
    Calls Tryz.prog 102 #[.agg #[.int .i64 t, .int .i64 p, .int .i64 s], .int .i64 q, .int .i64 b] w fun z w' => z = .returned (.int .i64 (pageI t p s q b)) ∧ Below w.heap.size w w' := by
  obtain ⟨T, P, S, A, C, M, K, HL, ⟨t0, t1⟩, ⟨p0, p1⟩, ⟨a0, a1⟩, ⟨c0, c1⟩, ⟨m0, m1⟩, ⟨k0, k1⟩, -⟩ := lay_is t p s
  have HR := hidp (show pageI t p s q b = nthI (nthI A P 6 q) 6 1 b by unfold pageI; rw [HL.hA, HL.hP])
  have hB := nth_bounds (f := A) (n := P) (e := 6) (i := q) (B := 6256) (by omega) (by omega) (by omega) (by omega)
  obtain ⟨y, hy⟩ : ∃ y, nthI A P 6 q = y := ⟨_, rfl⟩
  rw [hy] at hB HR
  have HY := hidp hy
  clear hy
  have hfd : ∀ w : World, (Instr.field 153 (.agg #[.int .i64 T, .int .i64 P, .int .i64 S, .int .i64 A, .int .i64 C, .int .i64 M, .int .i64 K]) 0).run Tryz.prog w = .ok (.agg #[.int .i64 T, .int .i64 P, .int .i64 S]) w := fun _ => by kernel_rfl
  have hfd2 : ∀ w : World, (Instr.field 23 (.agg #[.int .i64 T, .int .i64 P, .int .i64 S]) 0).run Tryz.prog w = .ok (.int .i64 T) w := fun _ => by kernel_rfl
  go_enter Tryz.func102, Tryz.ntmps102
  go_wp2_with fail
  refine (plLayout_c t p s T P S A C M K HL _).mono ?_
  rintro e w1 ⟨rfl, hb1⟩
  go_wp2_with fail
  refine (plNth_c A P 6 q (by omega) (by omega) (by omega) (by omega) (by omega) (by omega) _).mono ?_
  rintro e w2 ⟨rfl, rfl⟩
  rw [HY.out]
  go_wp2_with fail
  refine (plNth_c y 6 1 b (by omega) (by omega) (by omega) (by omega) (by omega) (by omega) _).mono ?_
  rintro e w3 ⟨rfl, rfl⟩
  go_wp2
  go_ret
  refine ⟨by rw [HR.out]; rfl, ?_⟩
  repeat (first | exact B0 _ | (with_reducible refine Bgo ?_ (by assumption)) | (with_reducible refine Bdrew ?_) | (with_reducible refine Bdraw ?_ _) | (with_reducible refine Bnew ?_ _) | (with_reducible refine Bput ?_ (by first | (simp; done) | (simp; omega)) _))

theorem plInfo_c (t p s q : Int) (w : World) :
    Calls Tryz.prog 57 #[.agg #[.int .i64 t, .int .i64 p, .int .i64 s], .int .i64 q] w fun z w' => z = .returned (.int .i64 (pageI t p s q 0)) ∧ Below w.heap.size w w' := by
  go_enter Tryz.func57, Tryz.ntmps57
  go_wp2_with fail
  refine (plPage_c t p s q 0 _).mono ?_
  rintro e w1 ⟨rfl, hb1⟩
  go_wp2
  go_ret
  exact ⟨by first | rfl | trivial, Bgo (Bnew (B0 _) _) hb1⟩

theorem plFoot_c (t p s q : Int) (w : World) :
    Calls Tryz.prog 144 #[.agg #[.int .i64 t, .int .i64 p, .int .i64 s], .int .i64 q] w fun z w' => z = .returned (.int .i64 (pageI t p s q 1)) ∧ Below w.heap.size w w' := by
  go_enter Tryz.func144, Tryz.ntmps144
  go_wp2_with fail
  refine (plPage_c t p s q 1 _).mono ?_
  rintro e w1 ⟨rfl, hb1⟩
  go_wp2
  go_ret
  exact ⟨by first | rfl | trivial, Bgo (Bnew (B0 _) _) hb1⟩

theorem plNext_c (t p s q : Int) (w : World) :
    Calls Tryz.prog 143 #[.agg #[.int .i64 t, .int .i64 p, .int .i64 s], .int .i64 q] w fun z w' => z = .returned (.int .i64 (pageI t p s q 2)) ∧ Below w.heap.size w w' := by
  go_enter Tryz.func143, Tryz.ntmps143
  go_wp2_with fail
  refine (plPage_c t p s q 2 _).mono ?_
  rintro e w1 ⟨rfl, hb1⟩
  go_wp2
  go_ret
  exact ⟨by first | rfl | trivial, Bgo (Bnew (B0 _) _) hb1⟩

theorem plPrev_c (t p s q : Int) (w : World) :
    Calls Tryz.prog 163 #[.agg #[.int .i64 t, .int .i64 p, .int .i64 s], .int .i64 q] w fun z w' => z = .returned (.int .i64 (pageI t p s q 3)) ∧ Below w.heap.size w w' := by
  go_enter Tryz.func163, Tryz.ntmps163
  go_wp2_with fail
  refine (plPage_c t p s q 3 _).mono ?_
  rintro e w1 ⟨rfl, hb1⟩
  go_wp2
  go_ret
  exact ⟨by first | rfl | trivial, Bgo (Bnew (B0 _) _) hb1⟩

theorem plTaken_c (t p s q : Int) (w : World) :
    Calls Tryz.prog 125 #[.agg #[.int .i64 t, .int .i64 p, .int .i64 s], .int .i64 q] w fun z w' => z = .returned (.int .i64 (pageI t p s q 5)) ∧ Below w.heap.size w w' := by
  go_enter Tryz.func125, Tryz.ntmps125
  go_wp2_with fail
  refine (plPage_c t p s q 5 _).mono ?_
  rintro e w1 ⟨rfl, hb1⟩
  go_wp2
  go_ret
  exact ⟨by first | rfl | trivial, Bgo (Bnew (B0 _) _) hb1⟩
end
end Go.Proofs.YtioolaaphbddbaaGreatDoor

namespace Go.Proofs.YtioolaaphbddbaaGreatDoor
set_option linter.unusedVariables false
section
def slotN (k : Nat) : Nat := ([32, 21, 16, 10, 8, 5, 4, 3, 2] : List Nat).getD k 0
def slotI (k : Int) : Nat := if 0 ≤ k then slotN k.toNat else 0
theorem slotI_nat (k : Nat) : slotI (k : Int) = slotN k := by unfold slotI; simp
theorem slotN_out {k : Nat} (h : 9 ≤ k) : slotN k = 0 := by unfold slotN; simp [List.getD, List.getElem?_eq_none (show ([32, 21, 16, 10, 8, 5, 4, 3, 2] : List Nat).length ≤ k by simpa using h)]
theorem slotI_out {k : Int} (h : k < 0 ∨ 9 ≤ k) : slotI k = 0 := by
  unfold slotI
  split
  · exact slotN_out (by omega)
  · rfl
theorem slotN_in {k : Nat} (h : k < 9) : 2 ≤ slotN k ∧ slotN k ≤ 32 := by
  have : ∀ j, j < 9 → 2 ≤ slotN j ∧ slotN j ≤ 32 := by decide
  exact this k h
theorem slotI_le (k : Int) : slotI k ≤ 32 := by
  by_cases h : 0 ≤ k ∧ k < 9
  · have := slotN_in (k := k.toNat) (by omega)
    unfold slotI; rw [if_pos h.1]; omega
  · rw [slotI_out (by omega)]; omega
theorem slotI_zero {k : Int} : slotI k = 0 ↔ k < 0 ∨ 9 ≤ k := by
  constructor
  · intro h
    by_cases hk : 0 ≤ k ∧ k < 9
    · have := slotN_in (k := k.toNat) (by omega)
      unfold slotI at h; rw [if_pos hk.1] at h; omega
    · omega
  · exact slotI_out

def pageS (s : Int) : Nat := pageN 1 4 s
theorem pageS_no {s : Int} (h : s < 10 ∨ 20 < s) : pageS s = 0 := page_no (rightB_not (by omega))
theorem pageS_yes {s : Int} (h : 10 ≤ s ∧ s ≤ 20) : pageS s = 2 ^ s.toNat := page_yes (rightB_mk (by omega))
theorem pageS_le (s : Int) : pageS s ≤ 1048576 := by
  by_cases h : 10 ≤ s ∧ s ≤ 20
  · rw [pageS_yes h]
    exact (pow_bounds _ (by omega)).2
  · rw [pageS_no (by omega)]; omega
def sizeN (s k : Int) : Nat := pageS s / slotI k - pageS s / slotI k % 16
theorem sizeN_le (s k : Int) : sizeN s k ≤ 1048576 := by
  have h1 := pageS_le s
  have h2 := Nat.div_le_self (pageS s) (slotI k)
  unfold sizeN
  generalize pageS s / slotI k = q at *
  omega
theorem sizes_all : ∀ s : Nat, s < 11 → ∀ k : Nat, k < 9 →
    let z := 2 ^ (s + 10) / slotN k - 2 ^ (s + 10) / slotN k % 16
    z % 16 = 0 ∧ 16 ≤ z ∧ z * slotN k ≤ 2 ^ (s + 10) ∧ z ≤ 2 ^ (s + 10) / 2 ∧ (k = 8 → z = 2 ^ (s + 10) / 2) ∧
      (0 < k → 2 ^ (s + 10) / slotN (k - 1) - 2 ^ (s + 10) / slotN (k - 1) % 16 < z) := by decide +kernel

theorem size_at {s : Int} (h : 10 ≤ s ∧ s ≤ 20) (k : Nat) : sizeN s (k : Int) = 2 ^ (s.toNat - 10 + 10) / slotN k - 2 ^ (s.toNat - 10 + 10) / slotN k % 16 := by
  unfold sizeN
  rw [pageS_yes h, slotI_nat, show s.toNat - 10 + 10 = s.toNat by omega]
theorem size_facts {s : Int} (h : 10 ≤ s ∧ s ≤ 20) {k : Nat} (hk : k < 9) :
    sizeN s (k : Int) % 16 = 0 ∧ 16 ≤ sizeN s (k : Int) ∧ sizeN s (k : Int) * slotN k ≤ pageS s ∧ sizeN s (k : Int) ≤ pageS s / 2 ∧ (k = 8 → sizeN s (k : Int) = pageS s / 2) ∧
      (0 < k → sizeN s ((k - 1 : Nat) : Int) < sizeN s (k : Int)) := by
  have := sizes_all (s.toNat - 10) (by omega) k hk
  simp only [] at this
  rw [size_at h k, size_at h (k - 1), pageS_yes h, show s.toNat = s.toNat - 10 + 10 by omega]
  simpa using this
theorem size_pos {s : Int} (h : 10 ≤ s ∧ s ≤ 20) {k : Nat} (hk : k < 9) : 0 < sizeN s (k : Int) := by
  have := (size_facts h hk).2.1
  omega
end
section
def addrB (t p s i o : Int) : Bool := rightB t p s && decide ((0 ≤ i ∧ i < p) ∧ 0 ≤ o ∧ o < (pageN t p s : Int))
def addrI (t p s i o : Int) : Int := if addrB t p s i o then (i + 1) * (pageN t p s : Int) + o else 0
def spotB (t p s a : Int) : Bool := decide ((pageN t p s : Int) ≤ a ∧ a - pageN t p s < (bytesN t p s : Int))
def spotP (t p s a : Int) : Int := if spotB t p s a then a / (pageN t p s : Int) - 1 else 0
def spotO (t p s a : Int) : Int := if spotB t p s a then a % (pageN t p s : Int) else 0
def addrW (i o : Int) (g : Nat) : Int := IntKind.i64.wrap (IntKind.i64.wrap (IntKind.i64.wrap (i + 1) * (g : Int)) + o)

theorem i64_same {x : Int} (h : -9223372036854775808 ≤ x) (h' : x ≤ 9223372036854775807) : IntKind.i64.wrap x = x := by
  simp only [IntKind.wrap, IntKind.bits, IntKind.signed]; simp; omega

theorem right_nums {t p s : Int} (h : rightB t p s = true) : ∃ g q : Nat, pageN t p s = g ∧ p = q ∧ bytesN t p s = q * g ∧ 4 ≤ q ∧ q ≤ 1024 ∧ 1024 ≤ g ∧ g ≤ 1048576 ∧ g = 2 ^ s.toNat ∧ 10 ≤ s ∧ s ≤ 20 ∧ q * g ≤ 1073741824 := by
  obtain ⟨_, ⟨hp, hp'⟩, hs, hs'⟩ := (rightB_iff t p s).1 h
  refine ⟨2 ^ s.toNat, p.toNat, page_yes h, by omega, bytes_yes h, by omega, by omega, ?_, ?_, rfl, hs, hs', ?_⟩
  · have := Nat.pow_le_pow_right (show 0 < 2 by omega) (show 10 ≤ s.toNat by omega)
    omega
  · exact (pow_bounds _ (by omega)).2
  · have h1 := (pow_bounds s.toNat (by omega)).2
    have h2 : p.toNat * 2 ^ s.toNat ≤ 1024 * 1048576 := Nat.mul_le_mul (by omega) h1
    omega
theorem wrong_nums {t p s : Int} (h : rightB t p s = false) : pageN t p s = 0 ∧ bytesN t p s = 0 := ⟨page_no h, bytes_no h⟩

theorem spot_right {t p s a : Int} (h : spotB t p s a = true) : rightB t p s = true := by
  cases hr : rightB t p s
  · obtain ⟨h1, h2⟩ := wrong_nums hr
    unfold spotB at h
    rw [h1, h2] at h
    simp at h
    omega
  · rfl
theorem split_at {g i o : Int} (hg : 0 < g) (ho : 0 ≤ o) (ho' : o < g) : ((i + 1) * g + o) / g = i + 1 ∧ ((i + 1) * g + o) % g = o := by
  constructor
  · rw [Int.add_comm, Int.add_mul_ediv_right _ _ (by omega), Int.ediv_eq_zero_of_lt ho ho']; omega
  · rw [Int.add_comm, Int.add_mul_emod_self_right, Int.emod_eq_of_lt ho ho']
theorem mul_bounds {i q g : Int} (h0 : 0 ≤ i) (hi : i < q) (hg : 0 < g) : g ≤ (i + 1) * g ∧ (i + 1) * g ≤ q * g := by
  have h1 : (0 : Int) ≤ i * g := Int.mul_nonneg h0 (by omega)
  have h2 : (i + 1) * g ≤ q * g := Int.mul_le_mul_of_nonneg_right (by omega) (by omega)
  have h3 : (i + 1) * g = i * g + g := by rw [Int.add_mul]; omega
  omega

theorem addr_parts {t p s i o : Int} (h : addrB t p s i o = true) : rightB t p s = true ∧ (0 ≤ i ∧ i < p) ∧ 0 ≤ o ∧ o < (pageN t p s : Int) := by
  unfold addrB at h
  simpa using h
theorem addr_yes {t p s i o : Int} (h : addrB t p s i o = true) :
    addrW i o (pageN t p s) = addrI t p s i o ∧ spotB t p s (addrI t p s i o) = true ∧ spotP t p s (addrI t p s i o) = i ∧ spotO t p s (addrI t p s i o) = o ∧ 1024 ≤ addrI t p s i o ∧ addrI t p s i o ≤ 1075838976 := by
  obtain ⟨hr, ⟨hi, hi'⟩, ho, ho'⟩ := addr_parts h
  obtain ⟨g, q, hg, rfl, hb, q1, q2, g1, g2, _, _, _, qg⟩ := right_nums hr
  rw [hg] at ho'
  have hm := mul_bounds hi hi' (show (0 : Int) < g by omega)
  have hsp := split_at (i := i) (show (0 : Int) < g by omega) ho ho'
  have hqg : ((q * g : Nat) : Int) = (q : Int) * (g : Int) := by push_cast; rfl
  have hI : addrI t q s i o = (i + 1) * (g : Int) + o := by unfold addrI; rw [if_pos h, hg]
  have hB : spotB t q s ((i + 1) * (g : Int) + o) = true := by
    unfold spotB
    rw [hg, hb, decide_eq_true_iff, hqg]
    omega
  rw [hI]
  refine ⟨?_, hB, ?_, ?_, by omega, by omega⟩
  · unfold addrW
    rw [hg, i64_same (x := i + 1) (by omega) (by omega), i64_same (x := (i + 1) * (g : Int)) (by omega) (by omega), i64_same (by omega) (by omega)]
  · unfold spotP
    rw [if_pos hB, hg, hsp.1]
    omega
  · unfold spotO
    rw [if_pos hB, hg, hsp.2]
theorem spot_parts {t p s a : Int} (h : spotB t p s a = true) :
    addrB t p s (spotP t p s a) (spotO t p s a) = true ∧ addrI t p s (spotP t p s a) (spotO t p s a) = a ∧ 1024 ≤ a ∧ a ≤ 1074790400 ∧ (0 ≤ spotP t p s a ∧ spotP t p s a < 1024) ∧ 0 ≤ spotO t p s a ∧ spotO t p s a < 1048576 := by
  have hr := spot_right h
  have h' := h
  unfold spotB at h'
  rw [decide_eq_true_iff] at h'
  obtain ⟨g, q, hg, rfl, hb, q1, q2, g1, g2, _, _, _, qg⟩ := right_nums hr
  rw [hg, hb] at h'
  have hP : spotP t q s a = a / (g : Int) - 1 := by unfold spotP; rw [if_pos h, hg]
  have hO : spotO t q s a = a % (g : Int) := by unfold spotO; rw [if_pos h, hg]
  rw [hP, hO]
  have hqg : ((q * g : Nat) : Int) = (q : Int) * (g : Int) := by push_cast; rfl
  have m0 := Int.emod_nonneg a (show (g : Int) ≠ 0 by omega)
  have m1 := Int.emod_lt_of_pos a (show (0 : Int) < g by omega)
  have d1 : 1 ≤ a / (g : Int) := (Int.le_ediv_iff_mul_le (by omega)).2 (by omega)
  have d2 : a / (g : Int) < (q : Int) + 1 := by
    refine (Int.ediv_lt_iff_lt_mul (by omega)).2 ?_
    rw [Int.add_mul]
    omega
  have hB : addrB t q s (a / (g : Int) - 1) (a % (g : Int)) = true := by
    unfold addrB
    rw [hr, hg, Bool.true_and, decide_eq_true_iff]
    exact ⟨⟨by omega, by omega⟩, m0, m1⟩
  refine ⟨hB, ?_, by omega, by omega, by omega, by omega⟩
  unfold addrI
  rw [if_pos hB, hg, Int.sub_add_cancel, Int.mul_comm]
  exact Int.mul_ediv_add_emod a g
theorem addrI_no {t p s i o : Int} (h : addrB t p s i o = false) : addrI t p s i o = 0 := by unfold addrI; rw [h]; rfl
def slotB (t p s k o : Int) : Bool := rightB t p s && decide (0 < sizeN s k ∧ 0 ≤ o ∧ o % (sizeN s k : Int) = 0 ∧ o / (sizeN s k : Int) < (slotI k : Int))
def slotR (t p s k o : Int) : Int := if slotB t p s k o then o / (sizeN s k : Int) else 0
theorem slot_at {t p s k o : Int} (hr : rightB t p s = true) (i : Nat) (hi : i < slotI k) (ho : o = (i : Int) * (sizeN s k : Int)) : slotB t p s k o = true ∧ slotR t p s k o = i := by
  have h' := (rightB_iff t p s).1 hr
  have hk : 0 ≤ k ∧ k < 9 := by
    have := mt (slotI_zero (k := k)).2 (by omega)
    omega
  obtain ⟨k, rfl⟩ : ∃ n : Nat, k = n := ⟨k.toNat, by omega⟩
  have hz := size_pos (s := s) h'.2.2 (k := k) (by omega)
  have e1 : o / (sizeN s (k : Int) : Int) = (i : Int) := by rw [ho]; exact Int.mul_ediv_cancel _ (by omega)
  have e2 : o % (sizeN s (k : Int) : Int) = 0 := by rw [ho]; exact Int.mul_emod_left _ _
  have e3 : 0 ≤ o := by rw [ho]; exact Int.mul_nonneg (by omega) (by omega)
  have hB : slotB t p s (k : Int) o = true := by
    unfold slotB
    rw [hr, Bool.true_and, decide_eq_true_iff, e1]
    exact ⟨hz, e3, e2, by omega⟩
  refine ⟨hB, ?_⟩
  unfold slotR
  rw [if_pos hB, e1]
theorem slot_parts {t p s k o : Int} (h : slotB t p s k o = true) : rightB t p s = true ∧ ∃ i : Nat, i < slotI k ∧ o = (i : Int) * (sizeN s k : Int) ∧ slotR t p s k o = i := by
  have hh := h
  unfold slotB at hh
  simp only [Bool.and_eq_true, decide_eq_true_eq] at hh
  obtain ⟨hr, h1, h2, h3, h4⟩ := hh
  refine ⟨hr, (o / (sizeN s k : Int)).toNat, ?_, ?_, ?_⟩
  · have := Int.ediv_nonneg h2 (show (0 : Int) ≤ sizeN s k by omega)
    omega
  · have h5 := Int.ediv_nonneg h2 (show (0 : Int) ≤ sizeN s k by omega)
    have h6 := Int.mul_ediv_add_emod o (sizeN s k)
    rw [Int.toNat_of_nonneg h5, Int.mul_comm]
    omega
  · have h5 := Int.ediv_nonneg h2 (show (0 : Int) ≤ sizeN s k by omega)
    unfold slotR
    rw [if_pos h, Int.toNat_of_nonneg h5]
theorem slot_in {s k : Int} (hs : 10 ≤ s ∧ s ≤ 20) {i : Nat} (hi : i < slotI k) : (i + 1) * sizeN s k ≤ pageS s ∧ 16 ≤ sizeN s k ∧ slotI k * sizeN s k ≤ pageS s := by
  have hk : 0 ≤ k ∧ k < 9 := by
    have := mt (slotI_zero (k := k)).2 (by omega)
    omega
  obtain ⟨k, rfl⟩ : ∃ n : Nat, k = n := ⟨k.toNat, by omega⟩
  obtain ⟨_, h16, hle, _⟩ := size_facts hs (k := k) (by omega)
  rw [slotI_nat] at hi ⊢
  have h1 : (i + 1) * sizeN s (k : Int) ≤ slotN k * sizeN s (k : Int) := Nat.mul_le_mul_right _ hi
  rw [Nat.mul_comm] at hle
  exact ⟨by omega, h16, hle⟩

def atB (t p s k i j : Int) : Bool := decide (0 ≤ j ∧ j < (slotI k : Int)) && addrB t p s i (j * (sizeN s k : Int))
def atI (t p s k i j : Int) : Int := if atB t p s k i j then addrI t p s i (j * (sizeN s k : Int)) else 0
theorem at_out {t p s k i j : Int} (h : ¬ (0 ≤ j ∧ j < (slotI k : Int))) : atB t p s k i j = false ∧ atI t p s k i j = 0 := by
  have : atB t p s k i j = false := by unfold atB; simp only [decide_eq_false h, Bool.false_and]
  exact ⟨this, by unfold atI; rw [this]; rfl⟩
theorem at_in {t p s k i j : Int} (h : 0 ≤ j ∧ j < (slotI k : Int)) : atB t p s k i j = addrB t p s i (j * (sizeN s k : Int)) ∧ atI t p s k i j = addrI t p s i (j * (sizeN s k : Int)) := by
  have : atB t p s k i j = addrB t p s i (j * (sizeN s k : Int)) := by unfold atB; simp only [decide_eq_true h, Bool.true_and]
  refine ⟨this, ?_⟩
  unfold atI
  rw [this]
  cases hb : addrB t p s i (j * (sizeN s k : Int))
  · rw [addrI_no hb]; rfl
  · rfl
end
end Go.Proofs.YtioolaaphbddbaaGreatDoor

namespace Go.Proofs.YtioolaaphbddbaaGreatDoor
open Go.ChangeShapes Go.WideShapes Go.ChangeAt Go.RowKit
set_option linter.unusedVariables false
section
structure AuH where
  t : Nat
  p : Nat
  s : Nat
  V : Nat → Nat

namespace AuH
variable (H : AuH)
def cel (q b : Nat) : Nat := H.V (30 + 4 * H.t + 6 * q + b)
def K (q : Nat) : Int := (infoG (H.cel q 0)).1
def L (q : Nat) : Int := (infoG (H.cel q 0)).2.1
def Cl (q : Nat) : Int := (infoG (H.cel q 0)).2.2.1
def ok (q : Nat) : Bool := (infoG (H.cel q 0)).2.2.2
def ln (q : Nat) : Nat := (H.L q).toNat
theorem info_eq (q : Nat) : infoG (H.cel q 0) = (H.K q, H.L q, H.Cl q, H.ok q) := rfl
theorem infoP_at (q : Nat) : infoP (H.K q) (H.L q) (H.Cl q) := by
  cases hb : H.ok q
  · have h := H.info_eq q
    rw [hb] at h
    exact .inl (infoG_none h)
  · have h := H.info_eq q
    rw [hb] at h
    exact infoB_iff (infoG_back h).1
theorem ok_of (q : Nat) (h : H.K q ≠ 0) : H.ok q = true := by
  cases hb : H.ok q
  · have h2 := H.info_eq q
    rw [hb] at h2
    exact absurd (infoG_none h2).1 h
  · rfl
theorem K_cases (q : Nat) : (H.K q = 0 ∧ H.ln q = 0 ∧ H.Cl q = 0) ∨ ((H.K q = 1 ∨ H.K q = 2) ∧ 1 ≤ H.ln q ∧ H.ln q ≤ 1024 ∧ H.Cl q = 0) ∨ (H.K q = 3 ∧ H.ln q = 1 ∧ 0 ≤ H.Cl q ∧ H.Cl q ≤ 8) := by
  have h := H.infoP_at q
  unfold infoP at h
  unfold ln
  omega
theorem L_ln (q : Nat) : H.L q = (H.ln q : Int) := by
  have h := H.infoP_at q
  unfold infoP at h
  unfold ln
  omega
theorem K_zero (q : Nat) (h : H.cel q 0 = 0) : H.K q = 0 ∧ H.ok q = true := by
  have e : infoG 0 = (0, 0, 0, true) := by decide
  unfold K ok
  rw [h, e]
  exact ⟨rfl, rfl⟩
theorem ln_pos (q : Nat) (h : H.K q ≠ 0) : 1 ≤ H.ln q ∧ H.ln q ≤ 1024 := by
  have := H.K_cases q
  omega

def can (q : Nat) : Bool := decide (q < H.p ∧ H.K q ≠ 0 ∧ q + H.ln q ≤ H.p)
def nx (q : Nat) : Nat := q + H.ln q
theorem can_iff (q : Nat) : H.can q = true ↔ q < H.p ∧ H.K q ≠ 0 ∧ q + H.ln q ≤ H.p := by unfold can; exact decide_eq_true_iff
theorem can_no (q : Nat) : H.can q = false ↔ ¬ (q < H.p ∧ H.K q ≠ 0 ∧ q + H.ln q ≤ H.p) := by unfold can; exact decide_eq_false_iff_not
theorem nx_gt {q : Nat} (h : H.can q = true) : q < H.nx q ∧ H.nx q ≤ H.p := by
  have h := (H.can_iff q).1 h
  have := H.ln_pos q h.2.1
  unfold nx
  omega

inductive At : Nat → Prop where
  | zero : At 0
  | step {q : Nat} : At q → H.can q = true → At (H.nx q)
variable {H}
theorem At.le {q : Nat} (h : H.At q) : q ≤ H.p := by
  cases h with
  | zero => omega
  | step h hc => exact (H.nx_gt hc).2
theorem At.chain : ∀ (n a b : Nat), a + b ≤ n → H.At a → H.At b → a < b → H.can a = true ∧ H.nx a ≤ b := by
  intro n
  induction n with
  | zero => intro a b h _ _ hl; omega
  | succ n ih =>
    intro a b h ha hb hl
    cases hb with
    | zero => omega
    | step hb0 hc =>
      rename_i b0
      have h0 := H.nx_gt hc
      rcases Nat.lt_trichotomy a b0 with h1 | h1 | h1
      · have := ih a b0 (by omega) ha hb0 h1
        exact ⟨this.1, by omega⟩
      · subst h1
        exact ⟨hc, Nat.le_refl _⟩
      · have := ih b0 a (by omega) hb0 ha h1
        omega
theorem At.next {a b : Nat} (ha : H.At a) (hb : H.At b) (h : a < b) : H.can a = true ∧ H.nx a ≤ b := At.chain _ a b (Nat.le_refl _) ha hb h
theorem At.cover {x : Nat} (h : H.At x) : ∀ q, q < x → ∃ a, H.At a ∧ H.can a = true ∧ a ≤ q ∧ q < H.nx a := by
  induction h with
  | zero => intro q hq; omega
  | step h hc ih =>
    rename_i a
    intro q hq
    rcases Nat.lt_or_ge q a with h1 | h1
    · exact ih q h1
    · exact ⟨a, h, hc, h1, hq⟩
variable (H)
def Bare (x : Nat) : Prop := ∀ a, H.At a → H.can a = true → a < x → ∀ q, a < q → q < H.nx a → H.cel q 0 = 0
def Tiled : Prop := H.At H.p ∧ H.Bare H.p
variable {H}
theorem Bare.step {a : Nat} (h : H.Bare a) (ha : H.At a) (hb : ∀ q, a < q → q < H.nx a → H.cel q 0 = 0) : H.Bare (H.nx a) := by
  intro b hb1 hb2 hb3 q h1 h2
  rcases Nat.lt_trichotomy b a with h3 | h3 | h3
  · exact h b hb1 hb2 h3 q h1 h2
  · subst h3; exact hb q h1 h2
  · have := (At.next ha hb1 h3).2; omega
theorem Tiled.start (h : H.Tiled) {q : Nat} (hq : q < H.p) (hk : H.K q ≠ 0) : H.At q ∧ H.can q = true := by
  obtain ⟨a, h1, h2, h3, h4⟩ := h.1.cover q hq
  rcases Nat.eq_or_lt_of_le h3 with h5 | h5
  · subst h5; exact ⟨h1, h2⟩
  · exact absurd (H.K_zero q (h.2 a h1 h2 (by omega) q h5 h4)).1 hk
theorem Tiled.at_can (h : H.Tiled) {q : Nat} (ha : H.At q) (hq : q < H.p) : H.can q = true := (At.next ha h.1 hq).1
theorem Tiled.at_K (h : H.Tiled) {q : Nat} (ha : H.At q) (hq : q < H.p) : H.K q ≠ 0 := ((H.can_iff q).1 (h.at_can ha hq)).2.1
theorem Tiled.inside (h : H.Tiled) {a q : Nat} (ha : H.At a) (h0 : a < H.p) (h1 : a < q) (h2 : q < H.nx a) : H.K q = 0 := (H.K_zero q (h.2 a ha (h.at_can ha h0) h0 q h1 h2)).1
theorem Tiled.cover (h : H.Tiled) {q : Nat} (hq : q < H.p) : ∃ a, H.At a ∧ a < H.p ∧ H.K a ≠ 0 ∧ a ≤ q ∧ q < H.nx a := by
  obtain ⟨a, h1, h2, h3, h4⟩ := h.1.cover q hq
  exact ⟨a, h1, by omega, h.at_K h1 (by omega), h3, h4⟩
theorem Tiled.step {R : Nat → Prop} (h : H.Tiled) {a : Nat} (ha : H.At a) (h0 : a < H.p) (h1 : ∀ q, q < a → H.K q ≠ 0 → R q) (h2 : R a) : ∀ q, q < H.nx a → H.K q ≠ 0 → R q := by
  intro q hq hk
  rcases Nat.lt_trichotomy q a with h3 | h3 | h3
  · exact h1 q h3 hk
  · subst h3; exact h2
  · exact absurd (h.inside ha h0 h3 hq) hk
def sumTo (f : Nat → Nat) : Nat → Nat
  | 0 => 0
  | n + 1 => sumTo f n + f n
theorem sumTo_skip (f : Nat → Nat) (a : Nat) : ∀ n, (∀ q, a ≤ q → q < a + n → f q = 0) → sumTo f (a + n) = sumTo f a
  | 0, _ => rfl
  | n + 1, h => by
    show sumTo f (a + n) + f (a + n) = _
    rw [sumTo_skip f a n (fun q h1 h2 => h q h1 (by omega)), h (a + n) (by omega) (by omega)]
    omega
theorem Tiled.sum {f : Nat → Nat} (h : H.Tiled) {a : Nat} (ha : H.At a) (h0 : a < H.p) (hf : ∀ q, q < H.p → H.K q = 0 → f q = 0) : sumTo f (H.nx a) = sumTo f a + f a := by
  have h1 := H.ln_pos a (h.at_K ha h0)
  have h2 := (H.nx_gt (h.at_can ha h0)).2
  have e : H.nx a = (a + 1) + (H.ln a - 1) := by unfold nx; omega
  rw [e, sumTo_skip f (a + 1) _ (fun q h3 h4 => hf q (by omega) (h.inside ha h0 (by omega) (by omega)))]
  rfl
theorem sumTo_le (f : Nat → Nat) (m : Nat) : ∀ n, (∀ q, q < n → f q ≤ m) → sumTo f n ≤ n * m
  | 0, _ => by simp [sumTo]
  | n + 1, h => by
    have h1 := sumTo_le f m n (fun q hq => h q (by omega))
    have h2 := h n (by omega)
    show sumTo f n + f n ≤ (n + 1) * m
    rw [Nat.succ_mul]
    omega
def catTo {α : Type} (f : Nat → List α) : Nat → List α
  | 0 => []
  | n + 1 => catTo f n ++ f n
end AuH

theorem gA {α : Type} {xs : List α} {i : Nat} (h : i < xs.toArray.size) : xs.toArray[i] = xs[i]'(by simpa using h) := List.getElem_toArray h
theorem gB {α : Type} (a : α) (l : List α) (h : 0 < (a :: l).length) : (a :: l)[0]'h = a := List.getElem_cons_zero a l h
theorem gC {α : Type} (a : α) (l : List α) (i : Nat) (h : i + 1 < (a :: l).length) : (a :: l)[i + 1]'h = l[i]'(Nat.lt_of_succ_lt_succ h) := List.getElem_cons_succ a l i h
theorem sA {α : Type} (l : List α) (i : Nat) (a : α) : l.toArray.setIfInBounds i a = (l.set i a).toArray := List.setIfInBounds_toArray l i a
theorem sB {α : Type} {x : α} {xs : List α} {a : α} : (x :: xs).set 0 a = a :: xs := List.set_cons_zero
theorem sC {α : Type} {x : α} {xs : List α} {i : Nat} {a : α} : (x :: xs).set (i + 1) a = x :: xs.set i a := List.set_cons_succ
section
variable {P : Program} {ops : Array Oper} {Q : Exit → Act → World → Prop} {md : Region.Mode} {S : World → Prop} {i : Nat} {oi : Oper} {v : Value} {fuel : Nat} {listed : Array Bool} {a : Act} {w : World}
theorem tkO (hi : ops[i]? = some oi) (h3 : (Region.noSelect ops && Region.free md ops listed i && (Region.ready md ops listed).contains i) = true) (hQ : ∀ c a w, Q (.panic c) (a.put oi.dst v) w → Q (.panic c) a w)
    (hw : Region.wanted oi (yielded ops a.tmps) = true) (hy : ∀ w, S w → (execOp a.eval oi).run P w = .ok (.value v) w) (hS : S w) (h : wpAnyH P md ops Q S fuel (listed.setIfInBounds i true) (a.put oi.dst v) w) : wpAnyH P md ops Q S (fuel + 1) listed a w := by
  rw [Bool.and_eq_true, Bool.and_eq_true] at h3
  exact wpAnyH_take hi h3.1.1 h3.1.2 h3.2 hQ (Or.inl ⟨hw, hy⟩) hS h
theorem skO (hi : ops[i]? = some oi) (h3 : (Region.noSelect ops && Region.free md ops listed i && (Region.ready md ops listed).contains i) = true) (hQ : ∀ c a w, Q (.panic c) (a.put oi.dst undef) w → Q (.panic c) a w)
    (hw : Region.wanted oi (yielded ops a.tmps) = false) (hS : S w) (h : wpAnyH P md ops Q S fuel (listed.setIfInBounds i true) (a.put oi.dst undef) w) : wpAnyH P md ops Q S (fuel + 1) listed a w := by
  rw [Bool.and_eq_true, Bool.and_eq_true] at h3
  exact wpAnyH_take hi h3.1.1 h3.1.2 h3.2 hQ (Or.inr ⟨hw, rfl⟩) hS h
end
section
variable {P : Program} {ops : Array Oper} {Q : Exit → Act → World → Prop} {md : Region.Mode} {S : World → Prop} {fuel : Nat} {listed listed' : Array Bool} {a a' : Act} {w : World} {oi : Oper} {v : Value}
theorem tkz (i : Nat) (h : wpAnyH P md ops Q S fuel listed' a' w) (hi : ops[i]? = some oi := by rfl) (h3 : (Region.noSelect ops && Region.free md ops listed i && (Region.ready md ops listed).contains i) = true := by kernel_rfl) (hQ : ∀ c a w, Q (.panic c) (a.put oi.dst v) w → Q (.panic c) a w := by exact fun _ _ _ h => h)
    (hw : Region.wanted oi (yielded ops a.tmps) = true := by rfl) (hy : ∀ w, S w → (execOp a.eval oi).run P w = .ok (.value v) w := by intro w hSw; (try dsimp only at hSw); go_simp; (try with_reducible rfl)) (hS : S w := by assumption) (hl : listed.setIfInBounds i true = listed' := by (try simp only [sA, sB, sC]); rfl) (ha : a.put oi.dst v = a' := by (try simp only [Act.put, gA, gB, gC, sA, sB, sC]); rfl) : wpAnyH P md ops Q S (fuel + 1) listed a w := by
  subst hl ha
  exact tkO hi h3 hQ hw hy hS h
end
end
end Go.Proofs.YtioolaaphbddbaaGreatDoor

namespace Go.Proofs.YtioolaaphbddbaaGreatDoor
open Go.ChangeShapes Go.WideShapes Go.ChangeAt Go.RowKit Go.Maps
set_option linter.unusedVariables false
set_option linter.unusedSimpArgs false
set_option maxRecDepth 100000
section
theorem Held.drw {w : World} {g : Nat} {t : TypeId} {cs : Array Value} (h : Held w g t cs) : Held w.drew g t cs := h
section
variable {w : World} {g : Nat} {t : TypeId} {c0 c1 c2 c3 c4 c5 : Value}
theorem Held.six' (h : Held w g t #[c0, c1, c2, c3, c4, c5]) : w.cell? ⟨g, 0, none⟩ = some c0 ∧ w.cell? ⟨g, 1, none⟩ = some c1 ∧ w.cell? ⟨g, 2, none⟩ = some c2 ∧ w.cell? ⟨g, 3, none⟩ = some c3 ∧ w.cell? ⟨g, 4, none⟩ = some c4 ∧ w.cell? ⟨g, 5, none⟩ = some c5 := ⟨h.cell 0, h.cell 1, h.cell 2, h.cell 3, h.cell 4, h.cell 5⟩
end

theorem lkIs_c (b : Nat) (t q s hd p : Int) (w : World) :
    Calls Tryz.prog 147 #[.agg #[.pointer (some ⟨b, 0, none⟩), .int .i64 t, .int .i64 q, .int .i64 s, .int .i64 hd, .int .i64 p]] w fun e w' => e = .returned (.bool (pgB q p)) ∧ Below w.heap.size w w' := by
  have hB := Bnew (B0 w) (.cells #[.pointer (some ⟨b, 0, none⟩), .int .i64 t, .int .i64 q, .int .i64 s, .int .i64 hd, .int .i64 p] 165)
  obtain ⟨x0, x1, x2, x3, x4, x5⟩ := (Held.new w 165 #[.pointer (some ⟨b, 0, none⟩), .int .i64 t, .int .i64 q, .int .i64 s, .int .i64 hd, .int .i64 p]).six'
  unfold pgB
  by_cases h0 : 0 ≤ p
  · have t0 : decide ((0 : Int) ≤ p) = true := decide_eq_true h0
    obtain ⟨c, t1⟩ : ∃ c, decide (p < q) = c := ⟨_, rfl⟩
    rw [t0, t1]
    cases c with
    | true =>
      go_enter Tryz.func147, Tryz.ntmps147
      go_wp2
      go_ret
      exact ⟨rfl, hB⟩
    | false =>
      go_enter Tryz.func147, Tryz.ntmps147
      go_wp2
      go_ret
      exact ⟨rfl, hB⟩
  · have t0 : decide ((0 : Int) ≤ p) = false := decide_eq_false h0
    rw [t0]
    go_enter Tryz.func147, Tryz.ntmps147
    go_wp2
    go_ret
    exact ⟨rfl, hB⟩

theorem lkLink_c (b : Nat) (t q s hd : Int) (k : Nat) (hk : k < 2 ^ 31) (w : World) :
    Calls Tryz.prog 152 #[.agg #[.pointer (some ⟨b, 0, none⟩), .int .i64 t, .int .i64 q, .int .i64 s, .int .i64 hd, .int .i64 (k : Int)]] w fun e w' => e = .returned (.int .u32 ((k + 1 : Nat) : Int)) ∧ Below w.heap.size w w' := by
  have hB := Bnew (B0 w) (.cells #[.pointer (some ⟨b, 0, none⟩), .int .i64 t, .int .i64 q, .int .i64 s, .int .i64 hd, .int .i64 (k : Int)] 165)
  go_enter Tryz.func152, Tryz.ntmps152
  go_wp2
  go_ret
  exact ⟨by simp, hB⟩

set_option maxHeartbeats 1600000 in
theorem lkTo_c (b : Nat) (t q s hd : Int) (l : Nat) (hl : l < 2 ^ 32) (w : World) :
    Calls Tryz.prog 151 #[.agg #[.pointer (some ⟨b, 0, none⟩), .int .i64 t, .int .i64 q, .int .i64 s, .int .i64 hd], .int .u32 (l : Int)] w fun e w' => e = .returned (.agg #[.pointer (some ⟨b, 0, none⟩), .int .i64 t, .int .i64 q, .int .i64 s, .int .i64 hd, .int .i64 ((l : Int) - 1)]) ∧ Below w.heap.size w w' := by
  go_enter Tryz.func151, Tryz.ntmps151
  go_wp2
  have hfin := Held.new2 w (.cells #[.pointer (some ⟨b, 0, none⟩), .int .i64 t, .int .i64 q, .int .i64 s, .int .i64 hd] 163) 165 #[.pointer (some ⟨b, 0, none⟩), .int .i64 t, .int .i64 q, .int .i64 s, .int .i64 hd, .int .i64 ((l : Int) - 1)]
  obtain ⟨r0, r1, r2, r3, r4, r5⟩ := hfin.six'
  refine bodyPost_ret (v := .agg #[.pointer (some ⟨b, 0, none⟩), .int .i64 t, .int .i64 q, .int .i64 s, .int .i64 hd, .int .i64 ((l : Int) - 1)]) (by simp [results, Tryz.results151, go_sem, r0, r1, r2, r3, r4, r5]) rfl ⟨rfl, ?_⟩
  exact Bnew (Bnew (B0 _) _) _

section
variable {base b n : Nat} {wh : Bool} {K : Nat → Option Nat} {st : Vst} {w w0 : World} {A G : Nat → Prop} {t q s hd p : Int}

theorem lkFirst_c (hn : n < 2 ^ 40) (h : (vOb base b n wh K).At w0 A G st w) :
    Calls Tryz.prog 148 #[.agg #[.pointer (some ⟨b, 0, none⟩), .int .i64 t, .int .i64 q, .int .i64 s, .int .i64 hd]] w fun e w' => e = .returned (.int .u32 ((getV n K st hd : Nat) : Int)) ∧ (vOb base b n wh K).At w0 A G (getS n K st hd) w' ∧ Stay G w w' := by
  have HA := hidp (h.alloc (.cells #[.pointer (some ⟨b, 0, none⟩), .int .i64 t, .int .i64 q, .int .i64 s, .int .i64 hd] 163))
  have hS : Stay G w (w.alloc (.cells #[.pointer (some ⟨b, 0, none⟩), .int .i64 t, .int .i64 q, .int .i64 s, .int .i64 hd] 163)) := Stay.of_below (Bnew (B0 w) _) G
  clear h
  go_enter Tryz.func148, Tryz.ntmps148
  go_wp2_with fail
  refine (vGetA hn hd HA.out).mono ?_
  rintro e w1 ⟨rfl, h1, h2⟩
  go_wp2
  go_ret
  exact ⟨rfl, h1, hS.trans h2⟩

theorem lkSetFirst_c (hn : n < 2 ^ 40) (l : Nat) (hl : l < 2 ^ 32) (h : (vOb base b n wh K).At w0 A G st w) :
    Calls Tryz.prog 153 #[.agg #[.pointer (some ⟨b, 0, none⟩), .int .i64 t, .int .i64 q, .int .i64 s, .int .i64 hd], .int .u32 (l : Int)] w fun e w' => e = .returned (.tuple #[]) ∧ (vOb base b n wh K).At w0 A G (putS n st hd l) w' ∧ Stay G w w' := by
  have HA := hidp (h.alloc (.cells #[.pointer (some ⟨b, 0, none⟩), .int .i64 t, .int .i64 q, .int .i64 s, .int .i64 hd] 163))
  have hS : Stay G w (w.alloc (.cells #[.pointer (some ⟨b, 0, none⟩), .int .i64 t, .int .i64 q, .int .i64 s, .int .i64 hd] 163)) := Stay.of_below (Bnew (B0 w) _) G
  clear h
  go_enter Tryz.func153, Tryz.ntmps153
  go_wp2_with fail
  refine (vPutA hn hd l hl HA.out).mono ?_
  rintro e w1 ⟨rfl, h1, h2⟩
  go_wp2
  go_end0
  exact ⟨rfl, h1, hS.trans h2⟩

set_option maxHeartbeats 1600000 in
theorem lkNext_c (hn : n < 2 ^ 40) (h : (vOb base b n wh K).At w0 A G st w) :
    Calls Tryz.prog 154 #[.agg #[.pointer (some ⟨b, 0, none⟩), .int .i64 t, .int .i64 q, .int .i64 s, .int .i64 hd, .int .i64 p]] w fun e w' => e = .returned (.int .u32 ((getV n K st (pageI t q s p 2) : Nat) : Int)) ∧ (vOb base b n wh K).At w0 A G (getS n K st (pageI t q s p 2)) w' ∧ Stay G w w' := by
  have HA := hidp (h.box (.cells #[.pointer (some ⟨b, 0, none⟩), .int .i64 t, .int .i64 q, .int .i64 s, .int .i64 hd, .int .i64 p] 165))
  have HC := hidp (Held.new w 165 #[.pointer (some ⟨b, 0, none⟩), .int .i64 t, .int .i64 q, .int .i64 s, .int .i64 hd, .int .i64 p])
  have HS := hidp (Stay.of_below (Bnew (B0 w) (.cells #[.pointer (some ⟨b, 0, none⟩), .int .i64 t, .int .i64 q, .int .i64 s, .int .i64 hd, .int .i64 p] 165)) G)
  clear h
  go_enter Tryz.func154, Tryz.ntmps154
  go_wp2_with fail
  refine wp_region_held_drew (S := (fun w' => w'.cell? ⟨w.heap.size, 0, none⟩ = some (.pointer (some ⟨b, 0, none⟩)) ∧ w'.cell? ⟨w.heap.size, 1, none⟩ = some (.int .i64 t) ∧ w'.cell? ⟨w.heap.size, 2, none⟩ = some (.int .i64 q) ∧ w'.cell? ⟨w.heap.size, 3, none⟩ = some (.int .i64 s) ∧ w'.cell? ⟨w.heap.size, 4, none⟩ = some (.int .i64 hd) ∧ w'.cell? ⟨w.heap.size, 5, none⟩ = some (.int .i64 p))) (by kernel_rfl) ?_ (fun hHeld => ?_)
  · (try dsimp only)
    first | exact HC.out.drw.six' | exact HC1.out.six' | exact HC2.out.six' | exact hHeld
  refine tkz 0 ?_
  refine tkz 1 ?_
  refine tkz 2 ?_
  refine tkz 3 ?_
  refine tkz 4 ?_
  refine tkz 5 ?_
  refine tkz 6 ?_
  refine tkz 7 ?_
  refine wpAnyH_ready (rs := [8]) (by kernel_rfl) (by simp) ?_
  refine AllReadyH.cons (o := _) rfl (fun K hK => ?_) AllReadyH.nil
  go_simp
  refine (plNext_c _ _ _ _ _).mono ?_; rintro e w1 ⟨rfl, hb1⟩; have HA1 := hidp (HA.out.drew.keep hb1); have HC1 := hidp (HC.out.drw.keep hb1); have HS1 := hidp ((HS.out.trans (Stay.of_below (Bdrew (B0 _)) _)).trans (Stay.of_below hb1 _)); clear HA HC HS hb1
  refine hK.out _ _ ?_ (fun hHeld => ?_)
  · (try dsimp only)
    first | exact HC.out.drw.six' | exact HC1.out.six' | exact HC2.out.six' | exact hHeld
  clear hK K
  (try simp only [Act.put, gA, gB, gC, sA, sB, sC])
  refine wpAnyH_ready (rs := [9]) (by kernel_rfl) (by simp) ?_
  refine AllReadyH.cons (o := _) rfl (fun K hK => ?_) AllReadyH.nil
  go_simp
  refine (vGetA hn _ HA1.out).mono ?_; rintro e w2 ⟨rfl, h1, h2⟩; have HA2 := hidp (h1.less fun g x => Or.inl x); have HC2 := hidp (h2.held (Or.inr rfl) HC1.out); have HS2 := hidp (HS1.out.trans (h2.less fun g x => Or.inl x)); clear HA1 HC1 HS1 h1 h2
  refine hK.out _ _ ?_ (fun hHeld => ?_)
  · (try dsimp only)
    first | exact HC.out.drw.six' | exact HC1.out.six' | exact HC2.out.six' | exact hHeld
  clear hK K
  (try simp only [Act.put, gA, gB, gC, sA, sB, sC])
  refine tkz 10 ?_
  refine wpAnyH_done (by kernel_rfl) ?_ _
  go_wp2
  go_ret
  exact ⟨rfl, HA2.out, HS2.out⟩

set_option maxHeartbeats 1600000 in
theorem lkSetNext_c (hn : n < 2 ^ 40) (l : Nat) (hl : l < 2 ^ 32) (h : (vOb base b n wh K).At w0 A G st w) :
    Calls Tryz.prog 149 #[.agg #[.pointer (some ⟨b, 0, none⟩), .int .i64 t, .int .i64 q, .int .i64 s, .int .i64 hd, .int .i64 p], .int .u32 (l : Int)] w fun e w' => e = .returned (.tuple #[]) ∧ (vOb base b n wh K).At w0 A G (putS n st (pageI t q s p 2) l) w' ∧ Stay G w w' := by
  have HA := hidp (h.box (.cells #[.pointer (some ⟨b, 0, none⟩), .int .i64 t, .int .i64 q, .int .i64 s, .int .i64 hd, .int .i64 p] 165))
  have HC := hidp (Held.new w 165 #[.pointer (some ⟨b, 0, none⟩), .int .i64 t, .int .i64 q, .int .i64 s, .int .i64 hd, .int .i64 p])
  have HS := hidp (Stay.of_below (Bnew (B0 w) (.cells #[.pointer (some ⟨b, 0, none⟩), .int .i64 t, .int .i64 q, .int .i64 s, .int .i64 hd, .int .i64 p] 165)) G)
  clear h
  go_enter Tryz.func149, Tryz.ntmps149
  go_wp2_with fail
  refine wp_region_held_drew (S := (fun w' => w'.cell? ⟨w.heap.size, 0, none⟩ = some (.pointer (some ⟨b, 0, none⟩)) ∧ w'.cell? ⟨w.heap.size, 1, none⟩ = some (.int .i64 t) ∧ w'.cell? ⟨w.heap.size, 2, none⟩ = some (.int .i64 q) ∧ w'.cell? ⟨w.heap.size, 3, none⟩ = some (.int .i64 s) ∧ w'.cell? ⟨w.heap.size, 4, none⟩ = some (.int .i64 hd) ∧ w'.cell? ⟨w.heap.size, 5, none⟩ = some (.int .i64 p))) (by kernel_rfl) ?_ (fun hHeld => ?_)
  · (try dsimp only)
    first | exact HC.out.drw.six' | exact HC1.out.six' | exact HC2.out.six' | exact hHeld
  refine tkz 0 ?_
  refine tkz 1 ?_
  refine tkz 2 ?_
  refine tkz 3 ?_
  refine tkz 4 ?_
  refine tkz 5 ?_
  refine tkz 6 ?_
  refine tkz 7 ?_
  refine tkz 9 ?_
  refine wpAnyH_ready (rs := [8]) (by kernel_rfl) (by simp) ?_
  refine AllReadyH.cons (o := _) rfl (fun K hK => ?_) AllReadyH.nil
  go_simp
  refine (plNext_c _ _ _ _ _).mono ?_; rintro e w1 ⟨rfl, hb1⟩; have HA1 := hidp (HA.out.drew.keep hb1); have HC1 := hidp (HC.out.drw.keep hb1); have HS1 := hidp ((HS.out.trans (Stay.of_below (Bdrew (B0 _)) _)).trans (Stay.of_below hb1 _)); clear HA HC HS hb1
  refine hK.out _ _ ?_ (fun hHeld => ?_)
  · (try dsimp only)
    first | exact HC.out.drw.six' | exact HC1.out.six' | exact HC2.out.six' | exact hHeld
  clear hK K
  (try simp only [Act.put, gA, gB, gC, sA, sB, sC])
  refine wpAnyH_ready (rs := [10]) (by kernel_rfl) (by simp) ?_
  refine AllReadyH.cons (o := _) rfl (fun K hK => ?_) AllReadyH.nil
  go_simp
  refine (vPutA hn _ l hl HA1.out).mono ?_; rintro e w2 ⟨rfl, h1, h2⟩; have HA2 := hidp (h1.less fun g x => Or.inl x); have HC2 := hidp (h2.held (Or.inr rfl) HC1.out); have HS2 := hidp (HS1.out.trans (h2.less fun g x => Or.inl x)); clear HA1 HC1 HS1 h1 h2
  refine hK.out _ _ ?_ (fun hHeld => ?_)
  · (try dsimp only)
    first | exact HC.out.drw.six' | exact HC1.out.six' | exact HC2.out.six' | exact hHeld
  clear hK K
  (try simp only [Act.put, gA, gB, gC, sA, sB, sC])
  refine wpAnyH_done (by kernel_rfl) ?_ _
  go_wp2
  go_end0
  exact ⟨rfl, HA2.out, HS2.out⟩

set_option maxHeartbeats 1600000 in
theorem lkPrev_c (hn : n < 2 ^ 40) (h : (vOb base b n wh K).At w0 A G st w) :
    Calls Tryz.prog 155 #[.agg #[.pointer (some ⟨b, 0, none⟩), .int .i64 t, .int .i64 q, .int .i64 s, .int .i64 hd, .int .i64 p]] w fun e w' => e = .returned (.int .u32 ((getV n K st (pageI t q s p 3) : Nat) : Int)) ∧ (vOb base b n wh K).At w0 A G (getS n K st (pageI t q s p 3)) w' ∧ Stay G w w' := by
  have HA := hidp (h.box (.cells #[.pointer (some ⟨b, 0, none⟩), .int .i64 t, .int .i64 q, .int .i64 s, .int .i64 hd, .int .i64 p] 165))
  have HC := hidp (Held.new w 165 #[.pointer (some ⟨b, 0, none⟩), .int .i64 t, .int .i64 q, .int .i64 s, .int .i64 hd, .int .i64 p])
  have HS := hidp (Stay.of_below (Bnew (B0 w) (.cells #[.pointer (some ⟨b, 0, none⟩), .int .i64 t, .int .i64 q, .int .i64 s, .int .i64 hd, .int .i64 p] 165)) G)
  clear h
  go_enter Tryz.func155, Tryz.ntmps155
  go_wp2_with fail
  refine wp_region_held_drew (S := (fun w' => w'.cell? ⟨w.heap.size, 0, none⟩ = some (.pointer (some ⟨b, 0, none⟩)) ∧ w'.cell? ⟨w.heap.size, 1, none⟩ = some (.int .i64 t) ∧ w'.cell? ⟨w.heap.size, 2, none⟩ = some (.int .i64 q) ∧ w'.cell? ⟨w.heap.size, 3, none⟩ = some (.int .i64 s) ∧ w'.cell? ⟨w.heap.size, 4, none⟩ = some (.int .i64 hd) ∧ w'.cell? ⟨w.heap.size, 5, none⟩ = some (.int .i64 p))) (by kernel_rfl) ?_ (fun hHeld => ?_)
  · (try dsimp only)
    first | exact HC.out.drw.six' | exact HC1.out.six' | exact HC2.out.six' | exact hHeld
  refine tkz 0 ?_
  refine tkz 1 ?_
  refine tkz 2 ?_
  refine tkz 3 ?_
  refine tkz 4 ?_
  refine tkz 5 ?_
  refine tkz 6 ?_
  refine tkz 7 ?_
  refine wpAnyH_ready (rs := [8]) (by kernel_rfl) (by simp) ?_
  refine AllReadyH.cons (o := _) rfl (fun K hK => ?_) AllReadyH.nil
  go_simp
  refine (plPrev_c _ _ _ _ _).mono ?_; rintro e w1 ⟨rfl, hb1⟩; have HA1 := hidp (HA.out.drew.keep hb1); have HC1 := hidp (HC.out.drw.keep hb1); have HS1 := hidp ((HS.out.trans (Stay.of_below (Bdrew (B0 _)) _)).trans (Stay.of_below hb1 _)); clear HA HC HS hb1
  refine hK.out _ _ ?_ (fun hHeld => ?_)
  · (try dsimp only)
    first | exact HC.out.drw.six' | exact HC1.out.six' | exact HC2.out.six' | exact hHeld
  clear hK K
  (try simp only [Act.put, gA, gB, gC, sA, sB, sC])
  refine wpAnyH_ready (rs := [9]) (by kernel_rfl) (by simp) ?_
  refine AllReadyH.cons (o := _) rfl (fun K hK => ?_) AllReadyH.nil
  go_simp
  refine (vGetA hn _ HA1.out).mono ?_; rintro e w2 ⟨rfl, h1, h2⟩; have HA2 := hidp (h1.less fun g x => Or.inl x); have HC2 := hidp (h2.held (Or.inr rfl) HC1.out); have HS2 := hidp (HS1.out.trans (h2.less fun g x => Or.inl x)); clear HA1 HC1 HS1 h1 h2
  refine hK.out _ _ ?_ (fun hHeld => ?_)
  · (try dsimp only)
    first | exact HC.out.drw.six' | exact HC1.out.six' | exact HC2.out.six' | exact hHeld
  clear hK K
  (try simp only [Act.put, gA, gB, gC, sA, sB, sC])
  refine tkz 10 ?_
  refine wpAnyH_done (by kernel_rfl) ?_ _
  go_wp2
  go_ret
  exact ⟨rfl, HA2.out, HS2.out⟩

set_option maxHeartbeats 1600000 in
theorem lkSetPrev_c (hn : n < 2 ^ 40) (l : Nat) (hl : l < 2 ^ 32) (h : (vOb base b n wh K).At w0 A G st w) :
    Calls Tryz.prog 150 #[.agg #[.pointer (some ⟨b, 0, none⟩), .int .i64 t, .int .i64 q, .int .i64 s, .int .i64 hd, .int .i64 p], .int .u32 (l : Int)] w fun e w' => e = .returned (.tuple #[]) ∧ (vOb base b n wh K).At w0 A G (putS n st (pageI t q s p 3) l) w' ∧ Stay G w w' := by
  have HA := hidp (h.box (.cells #[.pointer (some ⟨b, 0, none⟩), .int .i64 t, .int .i64 q, .int .i64 s, .int .i64 hd, .int .i64 p] 165))
  have HC := hidp (Held.new w 165 #[.pointer (some ⟨b, 0, none⟩), .int .i64 t, .int .i64 q, .int .i64 s, .int .i64 hd, .int .i64 p])
  have HS := hidp (Stay.of_below (Bnew (B0 w) (.cells #[.pointer (some ⟨b, 0, none⟩), .int .i64 t, .int .i64 q, .int .i64 s, .int .i64 hd, .int .i64 p] 165)) G)
  clear h
  go_enter Tryz.func150, Tryz.ntmps150
  go_wp2_with fail
  refine wp_region_held_drew (S := (fun w' => w'.cell? ⟨w.heap.size, 0, none⟩ = some (.pointer (some ⟨b, 0, none⟩)) ∧ w'.cell? ⟨w.heap.size, 1, none⟩ = some (.int .i64 t) ∧ w'.cell? ⟨w.heap.size, 2, none⟩ = some (.int .i64 q) ∧ w'.cell? ⟨w.heap.size, 3, none⟩ = some (.int .i64 s) ∧ w'.cell? ⟨w.heap.size, 4, none⟩ = some (.int .i64 hd) ∧ w'.cell? ⟨w.heap.size, 5, none⟩ = some (.int .i64 p))) (by kernel_rfl) ?_ (fun hHeld => ?_)
  · (try dsimp only)
    first | exact HC.out.drw.six' | exact HC1.out.six' | exact HC2.out.six' | exact hHeld
  refine tkz 0 ?_
  refine tkz 1 ?_
  refine tkz 2 ?_
  refine tkz 3 ?_
  refine tkz 4 ?_
  refine tkz 5 ?_
  refine tkz 6 ?_
  refine tkz 7 ?_
  refine tkz 9 ?_
  refine wpAnyH_ready (rs := [8]) (by kernel_rfl) (by simp) ?_
  refine AllReadyH.cons (o := _) rfl (fun K hK => ?_) AllReadyH.nil
  go_simp
  refine (plPrev_c _ _ _ _ _).mono ?_; rintro e w1 ⟨rfl, hb1⟩; have HA1 := hidp (HA.out.drew.keep hb1); have HC1 := hidp (HC.out.drw.keep hb1); have HS1 := hidp ((HS.out.trans (Stay.of_below (Bdrew (B0 _)) _)).trans (Stay.of_below hb1 _)); clear HA HC HS hb1
  refine hK.out _ _ ?_ (fun hHeld => ?_)
  · (try dsimp only)
    first | exact HC.out.drw.six' | exact HC1.out.six' | exact HC2.out.six' | exact hHeld
  clear hK K
  (try simp only [Act.put, gA, gB, gC, sA, sB, sC])
  refine wpAnyH_ready (rs := [10]) (by kernel_rfl) (by simp) ?_
  refine AllReadyH.cons (o := _) rfl (fun K hK => ?_) AllReadyH.nil
  go_simp
  refine (vPutA hn _ l hl HA1.out).mono ?_; rintro e w2 ⟨rfl, h1, h2⟩; have HA2 := hidp (h1.less fun g x => Or.inl x); have HC2 := hidp (h2.held (Or.inr rfl) HC1.out); have HS2 := hidp (HS1.out.trans (h2.less fun g x => Or.inl x)); clear HA1 HC1 HS1 h1 h2
  refine hK.out _ _ ?_ (fun hHeld => ?_)
  · (try dsimp only)
    first | exact HC.out.drw.six' | exact HC1.out.six' | exact HC2.out.six' | exact hHeld
  clear hK K
  (try simp only [Act.put, gA, gB, gC, sA, sB, sC])
  refine wpAnyH_done (by kernel_rfl) ?_ _
  go_wp2
  go_end0
  exact ⟨rfl, HA2.out, HS2.out⟩

end
end
end Go.Proofs.YtioolaaphbddbaaGreatDoor
