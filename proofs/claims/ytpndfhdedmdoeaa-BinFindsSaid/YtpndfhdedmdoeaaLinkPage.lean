/-
  What a spot, and a page, of link do. Written by link/gen_page.py.
-/
import Derived.Test.YtpndfhdedmdoeaaLinkMath
import Derived.Test.YtpndfhdedmdoeaaPlace
import Derived.Test.YtpndfhdedmdoeaaAuditMath
import Derived.Deep.RegionHeld3
namespace Go.Proofs.Ytpndfhdedmdoeaa
open Go.ChangeShapes Go.WideShapes Go.ChangeAt Go.RowKit Go.Maps
set_option linter.unusedVariables false
set_option linter.unusedSimpArgs false
set_option maxRecDepth 100000

theorem Held.drw {w : World} {g : Nat} {t : TypeId} {cs : Array Value} (h : Held w g t cs) : Held w.drew g t cs := h
section
variable {w : World} {g : Nat} {t : TypeId} {c0 c1 c2 c3 c4 c5 : Value}
theorem Held.five' (h : Held w g t #[c0, c1, c2, c3, c4]) : w.cell? ⟨g, 0, none⟩ = some c0 ∧ w.cell? ⟨g, 1, none⟩ = some c1 ∧ w.cell? ⟨g, 2, none⟩ = some c2 ∧ w.cell? ⟨g, 3, none⟩ = some c3 ∧ w.cell? ⟨g, 4, none⟩ = some c4 := ⟨h.cell 0, h.cell 1, h.cell 2, h.cell 3, h.cell 4⟩
theorem Held.six' (h : Held w g t #[c0, c1, c2, c3, c4, c5]) : w.cell? ⟨g, 0, none⟩ = some c0 ∧ w.cell? ⟨g, 1, none⟩ = some c1 ∧ w.cell? ⟨g, 2, none⟩ = some c2 ∧ w.cell? ⟨g, 3, none⟩ = some c3 ∧ w.cell? ⟨g, 4, none⟩ = some c4 ∧ w.cell? ⟨g, 5, none⟩ = some c5 := ⟨h.cell 0, h.cell 1, h.cell 2, h.cell 3, h.cell 4, h.cell 5⟩
end

theorem lkIs_c (b : Nat) (t q s hd p : Int) (w : World) :
    Calls Try.prog 61 #[.agg #[.pointer (some ⟨b, 0, none⟩), .int .i64 t, .int .i64 q, .int .i64 s, .int .i64 hd, .int .i64 p]] w fun e w' => e = .returned (.bool (pgB q p)) ∧ Below w.heap.size w w' := by
  have hB := Bnew (B0 w) (.cells #[.pointer (some ⟨b, 0, none⟩), .int .i64 t, .int .i64 q, .int .i64 s, .int .i64 hd, .int .i64 p] 95)
  obtain ⟨x0, x1, x2, x3, x4, x5⟩ := (Held.new w 95 #[.pointer (some ⟨b, 0, none⟩), .int .i64 t, .int .i64 q, .int .i64 s, .int .i64 hd, .int .i64 p]).six'
  unfold pgB
  by_cases h0 : 0 ≤ p
  · have t0 : decide ((0 : Int) ≤ p) = true := decide_eq_true h0
    obtain ⟨c, t1⟩ : ∃ c, decide (p < q) = c := ⟨_, rfl⟩
    rw [t0, t1]
    cases c with
    | true =>
      go_enter Try.func61, Try.ntmps61
      go_wp2
      go_ret
      exact ⟨rfl, hB⟩
    | false =>
      go_enter Try.func61, Try.ntmps61
      go_wp2
      go_ret
      exact ⟨rfl, hB⟩
  · have t0 : decide ((0 : Int) ≤ p) = false := decide_eq_false h0
    rw [t0]
    go_enter Try.func61, Try.ntmps61
    go_wp2
    go_ret
    exact ⟨rfl, hB⟩

theorem lkLink_c (b : Nat) (t q s hd : Int) (k : Nat) (hk : k < 2 ^ 31) (w : World) :
    Calls Try.prog 76 #[.agg #[.pointer (some ⟨b, 0, none⟩), .int .i64 t, .int .i64 q, .int .i64 s, .int .i64 hd, .int .i64 (k : Int)]] w fun e w' => e = .returned (.int .u32 ((k + 1 : Nat) : Int)) ∧ Below w.heap.size w w' := by
  have hB := Bnew (B0 w) (.cells #[.pointer (some ⟨b, 0, none⟩), .int .i64 t, .int .i64 q, .int .i64 s, .int .i64 hd, .int .i64 (k : Int)] 95)
  go_enter Try.func76, Try.ntmps76
  go_wp2
  go_ret
  exact ⟨by simp, hB⟩

set_option maxHeartbeats 1600000 in
theorem lkTo_c (b : Nat) (t q s hd : Int) (l : Nat) (hl : l < 2 ^ 32) (w : World) :
    Calls Try.prog 65 #[.agg #[.pointer (some ⟨b, 0, none⟩), .int .i64 t, .int .i64 q, .int .i64 s, .int .i64 hd], .int .u32 (l : Int)] w fun e w' => e = .returned (.agg #[.pointer (some ⟨b, 0, none⟩), .int .i64 t, .int .i64 q, .int .i64 s, .int .i64 hd, .int .i64 ((l : Int) - 1)]) ∧ Below w.heap.size w w' := by
  go_enter Try.func65, Try.ntmps65
  go_wp2
  have hfin := Held.new2 w (.cells #[.pointer (some ⟨b, 0, none⟩), .int .i64 t, .int .i64 q, .int .i64 s, .int .i64 hd] 93) 95 #[.pointer (some ⟨b, 0, none⟩), .int .i64 t, .int .i64 q, .int .i64 s, .int .i64 hd, .int .i64 ((l : Int) - 1)]
  obtain ⟨r0, r1, r2, r3, r4, r5⟩ := hfin.six'
  refine bodyPost_ret (v := .agg #[.pointer (some ⟨b, 0, none⟩), .int .i64 t, .int .i64 q, .int .i64 s, .int .i64 hd, .int .i64 ((l : Int) - 1)]) (by simp [results, Try.results65, go_sem, r0, r1, r2, r3, r4, r5]) rfl ⟨rfl, ?_⟩
  exact Bnew (Bnew (B0 _) _) _

section
variable {base b n : Nat} {wh : Bool} {K : Nat → Option Nat} {st : Vst} {w w0 : World} {A G : Nat → Prop} {t q s hd p : Int}

theorem lkFirst_c (hn : n < 2 ^ 40) (h : (vOb base b n wh K).At w0 A G st w) :
    Calls Try.prog 75 #[.agg #[.pointer (some ⟨b, 0, none⟩), .int .i64 t, .int .i64 q, .int .i64 s, .int .i64 hd]] w fun e w' => e = .returned (.int .u32 ((getV n K st hd : Nat) : Int)) ∧ (vOb base b n wh K).At w0 A G (getS n K st hd) w' ∧ Stay G w w' := by
  have HA := hidp (h.alloc (.cells #[.pointer (some ⟨b, 0, none⟩), .int .i64 t, .int .i64 q, .int .i64 s, .int .i64 hd] 93))
  have hS : Stay G w (w.alloc (.cells #[.pointer (some ⟨b, 0, none⟩), .int .i64 t, .int .i64 q, .int .i64 s, .int .i64 hd] 93)) := Stay.of_below (Bnew (B0 w) _) G
  clear h
  go_enter Try.func75, Try.ntmps75
  go_wp2_with fail
  refine (vGetA hn hd HA.out).mono ?_
  rintro e w1 ⟨rfl, h1, h2⟩
  go_wp2
  go_ret
  exact ⟨rfl, h1, hS.trans h2⟩

theorem lkSetFirst_c (hn : n < 2 ^ 40) (l : Nat) (hl : l < 2 ^ 32) (h : (vOb base b n wh K).At w0 A G st w) :
    Calls Try.prog 64 #[.agg #[.pointer (some ⟨b, 0, none⟩), .int .i64 t, .int .i64 q, .int .i64 s, .int .i64 hd], .int .u32 (l : Int)] w fun e w' => e = .returned (.tuple #[]) ∧ (vOb base b n wh K).At w0 A G (putS n st hd l) w' ∧ Stay G w w' := by
  have HA := hidp (h.alloc (.cells #[.pointer (some ⟨b, 0, none⟩), .int .i64 t, .int .i64 q, .int .i64 s, .int .i64 hd] 93))
  have hS : Stay G w (w.alloc (.cells #[.pointer (some ⟨b, 0, none⟩), .int .i64 t, .int .i64 q, .int .i64 s, .int .i64 hd] 93)) := Stay.of_below (Bnew (B0 w) _) G
  clear h
  go_enter Try.func64, Try.ntmps64
  go_wp2_with fail
  refine (vPutA hn hd l hl HA.out).mono ?_
  rintro e w1 ⟨rfl, h1, h2⟩
  go_wp2
  go_end0
  exact ⟨rfl, h1, hS.trans h2⟩

set_option maxHeartbeats 1600000 in
theorem lkNext_c (hn : n < 2 ^ 40) (h : (vOb base b n wh K).At w0 A G st w) :
    Calls Try.prog 62 #[.agg #[.pointer (some ⟨b, 0, none⟩), .int .i64 t, .int .i64 q, .int .i64 s, .int .i64 hd, .int .i64 p]] w fun e w' => e = .returned (.int .u32 ((getV n K st (pageI t q s p 2) : Nat) : Int)) ∧ (vOb base b n wh K).At w0 A G (getS n K st (pageI t q s p 2)) w' ∧ Stay G w w' := by
  have HA := hidp (h.box (.cells #[.pointer (some ⟨b, 0, none⟩), .int .i64 t, .int .i64 q, .int .i64 s, .int .i64 hd, .int .i64 p] 95))
  have HC := hidp (Held.new w 95 #[.pointer (some ⟨b, 0, none⟩), .int .i64 t, .int .i64 q, .int .i64 s, .int .i64 hd, .int .i64 p])
  have HS := hidp (Stay.of_below (Bnew (B0 w) (.cells #[.pointer (some ⟨b, 0, none⟩), .int .i64 t, .int .i64 q, .int .i64 s, .int .i64 hd, .int .i64 p] 95)) G)
  clear h
  go_enter Try.func62, Try.ntmps62
  go_wp2_with fail
  refine wp_region_held_drew (S := (fun w' => w'.cell? ⟨w.heap.size, 0, none⟩ = some (.pointer (some ⟨b, 0, none⟩)) ∧ w'.cell? ⟨w.heap.size, 1, none⟩ = some (.int .i64 t) ∧ w'.cell? ⟨w.heap.size, 2, none⟩ = some (.int .i64 q) ∧ w'.cell? ⟨w.heap.size, 3, none⟩ = some (.int .i64 s) ∧ w'.cell? ⟨w.heap.size, 4, none⟩ = some (.int .i64 hd) ∧ w'.cell? ⟨w.heap.size, 5, none⟩ = some (.int .i64 p))) (by kernel_rfl) ?_ (fun hHeld => ?_)
  · (try dsimp only)
    first | exact HC.out.drw.six' | exact HC1.out.six' | exact HC2.out.six' | exact hHeld
  refine tkO (i := 0) (v := ?_) rfl (by kernel_rfl) (fun _ _ _ h => h) (by rfl) ?_ (by assumption) ?_
  rotate_left
  · intro w hSw; (try dsimp only at hSw); go_simp; (try with_reducible rfl)
  (try simp only [Act.put, gA, gB, gC, sA, sB, sC])
  refine tkO (i := 1) (v := ?_) rfl (by kernel_rfl) (fun _ _ _ h => h) (by rfl) ?_ (by assumption) ?_
  rotate_left
  · intro w hSw; (try dsimp only at hSw); go_simp; (try with_reducible rfl)
  (try simp only [Act.put, gA, gB, gC, sA, sB, sC])
  refine tkO (i := 2) (v := ?_) rfl (by kernel_rfl) (fun _ _ _ h => h) (by rfl) ?_ (by assumption) ?_
  rotate_left
  · intro w hSw; (try dsimp only at hSw); go_simp; (try with_reducible rfl)
  (try simp only [Act.put, gA, gB, gC, sA, sB, sC])
  refine tkO (i := 3) (v := ?_) rfl (by kernel_rfl) (fun _ _ _ h => h) (by rfl) ?_ (by assumption) ?_
  rotate_left
  · intro w hSw; (try dsimp only at hSw); go_simp; (try with_reducible rfl)
  (try simp only [Act.put, gA, gB, gC, sA, sB, sC])
  refine tkO (i := 4) (v := ?_) rfl (by kernel_rfl) (fun _ _ _ h => h) (by rfl) ?_ (by assumption) ?_
  rotate_left
  · intro w hSw; (try dsimp only at hSw); go_simp; (try with_reducible rfl)
  (try simp only [Act.put, gA, gB, gC, sA, sB, sC])
  refine tkO (i := 5) (v := ?_) rfl (by kernel_rfl) (fun _ _ _ h => h) (by rfl) ?_ (by assumption) ?_
  rotate_left
  · intro w hSw; (try dsimp only at hSw); go_simp; (try with_reducible rfl)
  (try simp only [Act.put, gA, gB, gC, sA, sB, sC])
  refine tkO (i := 6) (v := ?_) rfl (by kernel_rfl) (fun _ _ _ h => h) (by rfl) ?_ (by assumption) ?_
  rotate_left
  · intro w hSw; (try dsimp only at hSw); go_simp; (try with_reducible rfl)
  (try simp only [Act.put, gA, gB, gC, sA, sB, sC])
  refine tkO (i := 7) (v := ?_) rfl (by kernel_rfl) (fun _ _ _ h => h) (by rfl) ?_ (by assumption) ?_
  rotate_left
  · intro w hSw; (try dsimp only at hSw); go_simp; (try with_reducible rfl)
  (try simp only [Act.put, gA, gB, gC, sA, sB, sC])
  refine wpAnyH_ready (rs := [8]) (by kernel_rfl) (by simp) ?_
  refine AllReadyH.cons (o := _) rfl (fun K hK => ?_) AllReadyH.nil
  go_simp
  refine (plNext_c _ _ _ _ _).mono ?_; rintro e w1 ⟨rfl, hb1⟩; have HA1 := hidp (HA.out.drew.keep hb1); have HC1 := hidp (HC.out.drw.keep hb1); have HS1 := hidp ((HS.out.trans (Stay.of_below (Bdrew (B0 _)) _)).trans (Stay.of_below hb1 _)); clear HA HC HS hb1
  refine hK.out _ _ ?_ (fun hHeld => ?_)
  · (try dsimp only)
    first | exact HC.out.drw.six' | exact HC1.out.six' | exact HC2.out.six' | exact hHeld
  clear hK K
  (try simp only [Act.put, gA, gB, gC, sA, sB, sC])
  refine wpAnyH_ready (rs := [9]) (by kernel_rfl) (by simp) ?_
  refine AllReadyH.cons (o := _) rfl (fun K hK => ?_) AllReadyH.nil
  go_simp
  refine (vGetA hn _ HA1.out).mono ?_; rintro e w2 ⟨rfl, h1, h2⟩; have HA2 := hidp (h1.less fun g x => Or.inl x); have HC2 := hidp (h2.held (Or.inr rfl) HC1.out); have HS2 := hidp (HS1.out.trans (h2.less fun g x => Or.inl x)); clear HA1 HC1 HS1 h1 h2
  refine hK.out _ _ ?_ (fun hHeld => ?_)
  · (try dsimp only)
    first | exact HC.out.drw.six' | exact HC1.out.six' | exact HC2.out.six' | exact hHeld
  clear hK K
  (try simp only [Act.put, gA, gB, gC, sA, sB, sC])
  refine tkO (i := 10) (v := ?_) rfl (by kernel_rfl) (fun _ _ _ h => h) (by rfl) ?_ (by assumption) ?_
  rotate_left
  · intro w hSw; (try dsimp only at hSw); go_simp; (try with_reducible rfl)
  (try simp only [Act.put, gA, gB, gC, sA, sB, sC])
  refine wpAnyH_done (by kernel_rfl) ?_ _
  go_wp2
  go_ret
  exact ⟨rfl, HA2.out, HS2.out⟩

set_option maxHeartbeats 1600000 in
theorem lkSetNext_c (hn : n < 2 ^ 40) (l : Nat) (hl : l < 2 ^ 32) (h : (vOb base b n wh K).At w0 A G st w) :
    Calls Try.prog 66 #[.agg #[.pointer (some ⟨b, 0, none⟩), .int .i64 t, .int .i64 q, .int .i64 s, .int .i64 hd, .int .i64 p], .int .u32 (l : Int)] w fun e w' => e = .returned (.tuple #[]) ∧ (vOb base b n wh K).At w0 A G (putS n st (pageI t q s p 2) l) w' ∧ Stay G w w' := by
  have HA := hidp (h.box (.cells #[.pointer (some ⟨b, 0, none⟩), .int .i64 t, .int .i64 q, .int .i64 s, .int .i64 hd, .int .i64 p] 95))
  have HC := hidp (Held.new w 95 #[.pointer (some ⟨b, 0, none⟩), .int .i64 t, .int .i64 q, .int .i64 s, .int .i64 hd, .int .i64 p])
  have HS := hidp (Stay.of_below (Bnew (B0 w) (.cells #[.pointer (some ⟨b, 0, none⟩), .int .i64 t, .int .i64 q, .int .i64 s, .int .i64 hd, .int .i64 p] 95)) G)
  clear h
  go_enter Try.func66, Try.ntmps66
  go_wp2_with fail
  refine wp_region_held_drew (S := (fun w' => w'.cell? ⟨w.heap.size, 0, none⟩ = some (.pointer (some ⟨b, 0, none⟩)) ∧ w'.cell? ⟨w.heap.size, 1, none⟩ = some (.int .i64 t) ∧ w'.cell? ⟨w.heap.size, 2, none⟩ = some (.int .i64 q) ∧ w'.cell? ⟨w.heap.size, 3, none⟩ = some (.int .i64 s) ∧ w'.cell? ⟨w.heap.size, 4, none⟩ = some (.int .i64 hd) ∧ w'.cell? ⟨w.heap.size, 5, none⟩ = some (.int .i64 p))) (by kernel_rfl) ?_ (fun hHeld => ?_)
  · (try dsimp only)
    first | exact HC.out.drw.six' | exact HC1.out.six' | exact HC2.out.six' | exact hHeld
  refine tkO (i := 0) (v := ?_) rfl (by kernel_rfl) (fun _ _ _ h => h) (by rfl) ?_ (by assumption) ?_
  rotate_left
  · intro w hSw; (try dsimp only at hSw); go_simp; (try with_reducible rfl)
  (try simp only [Act.put, gA, gB, gC, sA, sB, sC])
  refine tkO (i := 1) (v := ?_) rfl (by kernel_rfl) (fun _ _ _ h => h) (by rfl) ?_ (by assumption) ?_
  rotate_left
  · intro w hSw; (try dsimp only at hSw); go_simp; (try with_reducible rfl)
  (try simp only [Act.put, gA, gB, gC, sA, sB, sC])
  refine tkO (i := 2) (v := ?_) rfl (by kernel_rfl) (fun _ _ _ h => h) (by rfl) ?_ (by assumption) ?_
  rotate_left
  · intro w hSw; (try dsimp only at hSw); go_simp; (try with_reducible rfl)
  (try simp only [Act.put, gA, gB, gC, sA, sB, sC])
  refine tkO (i := 3) (v := ?_) rfl (by kernel_rfl) (fun _ _ _ h => h) (by rfl) ?_ (by assumption) ?_
  rotate_left
  · intro w hSw; (try dsimp only at hSw); go_simp; (try with_reducible rfl)
  (try simp only [Act.put, gA, gB, gC, sA, sB, sC])
  refine tkO (i := 4) (v := ?_) rfl (by kernel_rfl) (fun _ _ _ h => h) (by rfl) ?_ (by assumption) ?_
  rotate_left
  · intro w hSw; (try dsimp only at hSw); go_simp; (try with_reducible rfl)
  (try simp only [Act.put, gA, gB, gC, sA, sB, sC])
  refine tkO (i := 5) (v := ?_) rfl (by kernel_rfl) (fun _ _ _ h => h) (by rfl) ?_ (by assumption) ?_
  rotate_left
  · intro w hSw; (try dsimp only at hSw); go_simp; (try with_reducible rfl)
  (try simp only [Act.put, gA, gB, gC, sA, sB, sC])
  refine tkO (i := 6) (v := ?_) rfl (by kernel_rfl) (fun _ _ _ h => h) (by rfl) ?_ (by assumption) ?_
  rotate_left
  · intro w hSw; (try dsimp only at hSw); go_simp; (try with_reducible rfl)
  (try simp only [Act.put, gA, gB, gC, sA, sB, sC])
  refine tkO (i := 7) (v := ?_) rfl (by kernel_rfl) (fun _ _ _ h => h) (by rfl) ?_ (by assumption) ?_
  rotate_left
  · intro w hSw; (try dsimp only at hSw); go_simp; (try with_reducible rfl)
  (try simp only [Act.put, gA, gB, gC, sA, sB, sC])
  refine tkO (i := 9) (v := ?_) rfl (by kernel_rfl) (fun _ _ _ h => h) (by rfl) ?_ (by assumption) ?_
  rotate_left
  · intro w hSw; (try dsimp only at hSw); go_simp; (try with_reducible rfl)
  (try simp only [Act.put, gA, gB, gC, sA, sB, sC])
  refine wpAnyH_ready (rs := [8]) (by kernel_rfl) (by simp) ?_
  refine AllReadyH.cons (o := _) rfl (fun K hK => ?_) AllReadyH.nil
  go_simp
  refine (plNext_c _ _ _ _ _).mono ?_; rintro e w1 ⟨rfl, hb1⟩; have HA1 := hidp (HA.out.drew.keep hb1); have HC1 := hidp (HC.out.drw.keep hb1); have HS1 := hidp ((HS.out.trans (Stay.of_below (Bdrew (B0 _)) _)).trans (Stay.of_below hb1 _)); clear HA HC HS hb1
  refine hK.out _ _ ?_ (fun hHeld => ?_)
  · (try dsimp only)
    first | exact HC.out.drw.six' | exact HC1.out.six' | exact HC2.out.six' | exact hHeld
  clear hK K
  (try simp only [Act.put, gA, gB, gC, sA, sB, sC])
  refine wpAnyH_ready (rs := [10]) (by kernel_rfl) (by simp) ?_
  refine AllReadyH.cons (o := _) rfl (fun K hK => ?_) AllReadyH.nil
  go_simp
  refine (vPutA hn _ l hl HA1.out).mono ?_; rintro e w2 ⟨rfl, h1, h2⟩; have HA2 := hidp (h1.less fun g x => Or.inl x); have HC2 := hidp (h2.held (Or.inr rfl) HC1.out); have HS2 := hidp (HS1.out.trans (h2.less fun g x => Or.inl x)); clear HA1 HC1 HS1 h1 h2
  refine hK.out _ _ ?_ (fun hHeld => ?_)
  · (try dsimp only)
    first | exact HC.out.drw.six' | exact HC1.out.six' | exact HC2.out.six' | exact hHeld
  clear hK K
  (try simp only [Act.put, gA, gB, gC, sA, sB, sC])
  refine wpAnyH_done (by kernel_rfl) ?_ _
  go_wp2
  go_end0
  exact ⟨rfl, HA2.out, HS2.out⟩

set_option maxHeartbeats 1600000 in
theorem lkPrev_c (hn : n < 2 ^ 40) (h : (vOb base b n wh K).At w0 A G st w) :
    Calls Try.prog 63 #[.agg #[.pointer (some ⟨b, 0, none⟩), .int .i64 t, .int .i64 q, .int .i64 s, .int .i64 hd, .int .i64 p]] w fun e w' => e = .returned (.int .u32 ((getV n K st (pageI t q s p 3) : Nat) : Int)) ∧ (vOb base b n wh K).At w0 A G (getS n K st (pageI t q s p 3)) w' ∧ Stay G w w' := by
  have HA := hidp (h.box (.cells #[.pointer (some ⟨b, 0, none⟩), .int .i64 t, .int .i64 q, .int .i64 s, .int .i64 hd, .int .i64 p] 95))
  have HC := hidp (Held.new w 95 #[.pointer (some ⟨b, 0, none⟩), .int .i64 t, .int .i64 q, .int .i64 s, .int .i64 hd, .int .i64 p])
  have HS := hidp (Stay.of_below (Bnew (B0 w) (.cells #[.pointer (some ⟨b, 0, none⟩), .int .i64 t, .int .i64 q, .int .i64 s, .int .i64 hd, .int .i64 p] 95)) G)
  clear h
  go_enter Try.func63, Try.ntmps63
  go_wp2_with fail
  refine wp_region_held_drew (S := (fun w' => w'.cell? ⟨w.heap.size, 0, none⟩ = some (.pointer (some ⟨b, 0, none⟩)) ∧ w'.cell? ⟨w.heap.size, 1, none⟩ = some (.int .i64 t) ∧ w'.cell? ⟨w.heap.size, 2, none⟩ = some (.int .i64 q) ∧ w'.cell? ⟨w.heap.size, 3, none⟩ = some (.int .i64 s) ∧ w'.cell? ⟨w.heap.size, 4, none⟩ = some (.int .i64 hd) ∧ w'.cell? ⟨w.heap.size, 5, none⟩ = some (.int .i64 p))) (by kernel_rfl) ?_ (fun hHeld => ?_)
  · (try dsimp only)
    first | exact HC.out.drw.six' | exact HC1.out.six' | exact HC2.out.six' | exact hHeld
  refine tkO (i := 0) (v := ?_) rfl (by kernel_rfl) (fun _ _ _ h => h) (by rfl) ?_ (by assumption) ?_
  rotate_left
  · intro w hSw; (try dsimp only at hSw); go_simp; (try with_reducible rfl)
  (try simp only [Act.put, gA, gB, gC, sA, sB, sC])
  refine tkO (i := 1) (v := ?_) rfl (by kernel_rfl) (fun _ _ _ h => h) (by rfl) ?_ (by assumption) ?_
  rotate_left
  · intro w hSw; (try dsimp only at hSw); go_simp; (try with_reducible rfl)
  (try simp only [Act.put, gA, gB, gC, sA, sB, sC])
  refine tkO (i := 2) (v := ?_) rfl (by kernel_rfl) (fun _ _ _ h => h) (by rfl) ?_ (by assumption) ?_
  rotate_left
  · intro w hSw; (try dsimp only at hSw); go_simp; (try with_reducible rfl)
  (try simp only [Act.put, gA, gB, gC, sA, sB, sC])
  refine tkO (i := 3) (v := ?_) rfl (by kernel_rfl) (fun _ _ _ h => h) (by rfl) ?_ (by assumption) ?_
  rotate_left
  · intro w hSw; (try dsimp only at hSw); go_simp; (try with_reducible rfl)
  (try simp only [Act.put, gA, gB, gC, sA, sB, sC])
  refine tkO (i := 4) (v := ?_) rfl (by kernel_rfl) (fun _ _ _ h => h) (by rfl) ?_ (by assumption) ?_
  rotate_left
  · intro w hSw; (try dsimp only at hSw); go_simp; (try with_reducible rfl)
  (try simp only [Act.put, gA, gB, gC, sA, sB, sC])
  refine tkO (i := 5) (v := ?_) rfl (by kernel_rfl) (fun _ _ _ h => h) (by rfl) ?_ (by assumption) ?_
  rotate_left
  · intro w hSw; (try dsimp only at hSw); go_simp; (try with_reducible rfl)
  (try simp only [Act.put, gA, gB, gC, sA, sB, sC])
  refine tkO (i := 6) (v := ?_) rfl (by kernel_rfl) (fun _ _ _ h => h) (by rfl) ?_ (by assumption) ?_
  rotate_left
  · intro w hSw; (try dsimp only at hSw); go_simp; (try with_reducible rfl)
  (try simp only [Act.put, gA, gB, gC, sA, sB, sC])
  refine tkO (i := 7) (v := ?_) rfl (by kernel_rfl) (fun _ _ _ h => h) (by rfl) ?_ (by assumption) ?_
  rotate_left
  · intro w hSw; (try dsimp only at hSw); go_simp; (try with_reducible rfl)
  (try simp only [Act.put, gA, gB, gC, sA, sB, sC])
  refine wpAnyH_ready (rs := [8]) (by kernel_rfl) (by simp) ?_
  refine AllReadyH.cons (o := _) rfl (fun K hK => ?_) AllReadyH.nil
  go_simp
  refine (plPrev_c _ _ _ _ _).mono ?_; rintro e w1 ⟨rfl, hb1⟩; have HA1 := hidp (HA.out.drew.keep hb1); have HC1 := hidp (HC.out.drw.keep hb1); have HS1 := hidp ((HS.out.trans (Stay.of_below (Bdrew (B0 _)) _)).trans (Stay.of_below hb1 _)); clear HA HC HS hb1
  refine hK.out _ _ ?_ (fun hHeld => ?_)
  · (try dsimp only)
    first | exact HC.out.drw.six' | exact HC1.out.six' | exact HC2.out.six' | exact hHeld
  clear hK K
  (try simp only [Act.put, gA, gB, gC, sA, sB, sC])
  refine wpAnyH_ready (rs := [9]) (by kernel_rfl) (by simp) ?_
  refine AllReadyH.cons (o := _) rfl (fun K hK => ?_) AllReadyH.nil
  go_simp
  refine (vGetA hn _ HA1.out).mono ?_; rintro e w2 ⟨rfl, h1, h2⟩; have HA2 := hidp (h1.less fun g x => Or.inl x); have HC2 := hidp (h2.held (Or.inr rfl) HC1.out); have HS2 := hidp (HS1.out.trans (h2.less fun g x => Or.inl x)); clear HA1 HC1 HS1 h1 h2
  refine hK.out _ _ ?_ (fun hHeld => ?_)
  · (try dsimp only)
    first | exact HC.out.drw.six' | exact HC1.out.six' | exact HC2.out.six' | exact hHeld
  clear hK K
  (try simp only [Act.put, gA, gB, gC, sA, sB, sC])
  refine tkO (i := 10) (v := ?_) rfl (by kernel_rfl) (fun _ _ _ h => h) (by rfl) ?_ (by assumption) ?_
  rotate_left
  · intro w hSw; (try dsimp only at hSw); go_simp; (try with_reducible rfl)
  (try simp only [Act.put, gA, gB, gC, sA, sB, sC])
  refine wpAnyH_done (by kernel_rfl) ?_ _
  go_wp2
  go_ret
  exact ⟨rfl, HA2.out, HS2.out⟩

set_option maxHeartbeats 1600000 in
theorem lkSetPrev_c (hn : n < 2 ^ 40) (l : Nat) (hl : l < 2 ^ 32) (h : (vOb base b n wh K).At w0 A G st w) :
    Calls Try.prog 67 #[.agg #[.pointer (some ⟨b, 0, none⟩), .int .i64 t, .int .i64 q, .int .i64 s, .int .i64 hd, .int .i64 p], .int .u32 (l : Int)] w fun e w' => e = .returned (.tuple #[]) ∧ (vOb base b n wh K).At w0 A G (putS n st (pageI t q s p 3) l) w' ∧ Stay G w w' := by
  have HA := hidp (h.box (.cells #[.pointer (some ⟨b, 0, none⟩), .int .i64 t, .int .i64 q, .int .i64 s, .int .i64 hd, .int .i64 p] 95))
  have HC := hidp (Held.new w 95 #[.pointer (some ⟨b, 0, none⟩), .int .i64 t, .int .i64 q, .int .i64 s, .int .i64 hd, .int .i64 p])
  have HS := hidp (Stay.of_below (Bnew (B0 w) (.cells #[.pointer (some ⟨b, 0, none⟩), .int .i64 t, .int .i64 q, .int .i64 s, .int .i64 hd, .int .i64 p] 95)) G)
  clear h
  go_enter Try.func67, Try.ntmps67
  go_wp2_with fail
  refine wp_region_held_drew (S := (fun w' => w'.cell? ⟨w.heap.size, 0, none⟩ = some (.pointer (some ⟨b, 0, none⟩)) ∧ w'.cell? ⟨w.heap.size, 1, none⟩ = some (.int .i64 t) ∧ w'.cell? ⟨w.heap.size, 2, none⟩ = some (.int .i64 q) ∧ w'.cell? ⟨w.heap.size, 3, none⟩ = some (.int .i64 s) ∧ w'.cell? ⟨w.heap.size, 4, none⟩ = some (.int .i64 hd) ∧ w'.cell? ⟨w.heap.size, 5, none⟩ = some (.int .i64 p))) (by kernel_rfl) ?_ (fun hHeld => ?_)
  · (try dsimp only)
    first | exact HC.out.drw.six' | exact HC1.out.six' | exact HC2.out.six' | exact hHeld
  refine tkO (i := 0) (v := ?_) rfl (by kernel_rfl) (fun _ _ _ h => h) (by rfl) ?_ (by assumption) ?_
  rotate_left
  · intro w hSw; (try dsimp only at hSw); go_simp; (try with_reducible rfl)
  (try simp only [Act.put, gA, gB, gC, sA, sB, sC])
  refine tkO (i := 1) (v := ?_) rfl (by kernel_rfl) (fun _ _ _ h => h) (by rfl) ?_ (by assumption) ?_
  rotate_left
  · intro w hSw; (try dsimp only at hSw); go_simp; (try with_reducible rfl)
  (try simp only [Act.put, gA, gB, gC, sA, sB, sC])
  refine tkO (i := 2) (v := ?_) rfl (by kernel_rfl) (fun _ _ _ h => h) (by rfl) ?_ (by assumption) ?_
  rotate_left
  · intro w hSw; (try dsimp only at hSw); go_simp; (try with_reducible rfl)
  (try simp only [Act.put, gA, gB, gC, sA, sB, sC])
  refine tkO (i := 3) (v := ?_) rfl (by kernel_rfl) (fun _ _ _ h => h) (by rfl) ?_ (by assumption) ?_
  rotate_left
  · intro w hSw; (try dsimp only at hSw); go_simp; (try with_reducible rfl)
  (try simp only [Act.put, gA, gB, gC, sA, sB, sC])
  refine tkO (i := 4) (v := ?_) rfl (by kernel_rfl) (fun _ _ _ h => h) (by rfl) ?_ (by assumption) ?_
  rotate_left
  · intro w hSw; (try dsimp only at hSw); go_simp; (try with_reducible rfl)
  (try simp only [Act.put, gA, gB, gC, sA, sB, sC])
  refine tkO (i := 5) (v := ?_) rfl (by kernel_rfl) (fun _ _ _ h => h) (by rfl) ?_ (by assumption) ?_
  rotate_left
  · intro w hSw; (try dsimp only at hSw); go_simp; (try with_reducible rfl)
  (try simp only [Act.put, gA, gB, gC, sA, sB, sC])
  refine tkO (i := 6) (v := ?_) rfl (by kernel_rfl) (fun _ _ _ h => h) (by rfl) ?_ (by assumption) ?_
  rotate_left
  · intro w hSw; (try dsimp only at hSw); go_simp; (try with_reducible rfl)
  (try simp only [Act.put, gA, gB, gC, sA, sB, sC])
  refine tkO (i := 7) (v := ?_) rfl (by kernel_rfl) (fun _ _ _ h => h) (by rfl) ?_ (by assumption) ?_
  rotate_left
  · intro w hSw; (try dsimp only at hSw); go_simp; (try with_reducible rfl)
  (try simp only [Act.put, gA, gB, gC, sA, sB, sC])
  refine tkO (i := 9) (v := ?_) rfl (by kernel_rfl) (fun _ _ _ h => h) (by rfl) ?_ (by assumption) ?_
  rotate_left
  · intro w hSw; (try dsimp only at hSw); go_simp; (try with_reducible rfl)
  (try simp only [Act.put, gA, gB, gC, sA, sB, sC])
  refine wpAnyH_ready (rs := [8]) (by kernel_rfl) (by simp) ?_
  refine AllReadyH.cons (o := _) rfl (fun K hK => ?_) AllReadyH.nil
  go_simp
  refine (plPrev_c _ _ _ _ _).mono ?_; rintro e w1 ⟨rfl, hb1⟩; have HA1 := hidp (HA.out.drew.keep hb1); have HC1 := hidp (HC.out.drw.keep hb1); have HS1 := hidp ((HS.out.trans (Stay.of_below (Bdrew (B0 _)) _)).trans (Stay.of_below hb1 _)); clear HA HC HS hb1
  refine hK.out _ _ ?_ (fun hHeld => ?_)
  · (try dsimp only)
    first | exact HC.out.drw.six' | exact HC1.out.six' | exact HC2.out.six' | exact hHeld
  clear hK K
  (try simp only [Act.put, gA, gB, gC, sA, sB, sC])
  refine wpAnyH_ready (rs := [10]) (by kernel_rfl) (by simp) ?_
  refine AllReadyH.cons (o := _) rfl (fun K hK => ?_) AllReadyH.nil
  go_simp
  refine (vPutA hn _ l hl HA1.out).mono ?_; rintro e w2 ⟨rfl, h1, h2⟩; have HA2 := hidp (h1.less fun g x => Or.inl x); have HC2 := hidp (h2.held (Or.inr rfl) HC1.out); have HS2 := hidp (HS1.out.trans (h2.less fun g x => Or.inl x)); clear HA1 HC1 HS1 h1 h2
  refine hK.out _ _ ?_ (fun hHeld => ?_)
  · (try dsimp only)
    first | exact HC.out.drw.six' | exact HC1.out.six' | exact HC2.out.six' | exact hHeld
  clear hK K
  (try simp only [Act.put, gA, gB, gC, sA, sB, sC])
  refine wpAnyH_done (by kernel_rfl) ?_ _
  go_wp2
  go_end0
  exact ⟨rfl, HA2.out, HS2.out⟩

end
end Go.Proofs.Ytpndfhdedmdoeaa
