/-
  The law BinDoes: the walk. Written by bin/gen_does.py.
-/
import Derived.Test.YtpndfhdedmdoeaaBinLive2
import Derived.Test.YtpndfhdedmdoeaaOpenVals
import Derived.Test.YtpndfhdedmdoeaaBinStep
import Derived.Test.YtpndfhdedmdoeaaViewRef6
namespace Go.Proofs.Ytpndfhdedmdoeaa
open Go.ChangeShapes Go.WideShapes Go.ChangeAt Go.RowKit Go.Maps
set_option linter.unusedVariables false
set_option linter.unusedSimpArgs false
set_option maxRecDepth 100000

theorem BinDoes_few1 (t q s : Int) (A B : Option Addr) (c d n m : Nat) (hn : 500 < n) (W : World) : Calls Try.prog 3 #[.agg #[.int .i64 t, .int .i64 q, .int .i64 s], .slice A n c, .slice B m d] W (Keeps W) := by
  have t0 : decide ((500 : Int) < n) = true := decide_eq_true (by omega)
  obtain ⟨x0, x1, x2⟩ := (Held.new W 23 #[.int .i64 t, .int .i64 q, .int .i64 s]).three
  go_enter Try.func3, Try.ntmps3
  go_wp2_with fail
  refine (live14_c _).mono ?_
  rintro e w2 ⟨rfl, hb⟩
  go_wp2
  go_ret
  exact ⟨rfl, Bgo (Bnew (B0 W) _) hb⟩

theorem BinDoes_few2 (t q s : Int) (A B : Option Addr) (c d n m : Nat) (hn : n ≤ 500) (hm : 20 < m) (W : World) : Calls Try.prog 3 #[.agg #[.int .i64 t, .int .i64 q, .int .i64 s], .slice A n c, .slice B m d] W (Keeps W) := by
  have t0 : decide ((500 : Int) < n) = false := decide_eq_false (by omega)
  have t1 : decide ((20 : Int) < m) = true := decide_eq_true (by omega)
  obtain ⟨x0, x1, x2⟩ := (Held.new W 23 #[.int .i64 t, .int .i64 q, .int .i64 s]).three
  go_enter Try.func3, Try.ntmps3
  go_wp2_with fail
  refine (live14_c _).mono ?_
  rintro e w2 ⟨rfl, hb⟩
  go_wp2
  go_ret
  exact ⟨rfl, Bgo (Bnew (B0 W) _) hb⟩

theorem BinDoes_few3 (t q s : Int) (A B : Option Addr) (c d n m : Nat) (hn : n ≤ 500) (hm : m ≤ 20) (hq : 64 < q) (W : World) : Calls Try.prog 3 #[.agg #[.int .i64 t, .int .i64 q, .int .i64 s], .slice A n c, .slice B m d] W (Keeps W) := by
  have t0 : decide ((500 : Int) < n) = false := decide_eq_false (by omega)
  have t1 : decide ((20 : Int) < m) = false := decide_eq_false (by omega)
  have t2 : decide (q ≤ (64 : Int)) = false := decide_eq_false (by omega)
  obtain ⟨x0, x1, x2⟩ := (Held.new W 23 #[.int .i64 t, .int .i64 q, .int .i64 s]).three
  go_enter Try.func3, Try.ntmps3
  go_wp2_with fail
  refine (few14_c t q s _).mono ?_
  rintro e w1 ⟨rfl, hb⟩
  rw [t2]
  have HB1 := hidp (Bgo (Bnew (B0 W) _) hb)
  clear hb
  go_wp2_with fail
  refine (live14_c _).mono ?_
  rintro e w2 ⟨rfl, hb⟩
  go_wp2
  go_ret
  exact ⟨rfl, Bgo HB1.out hb⟩

def wholeK14 (vals : List Nat) : Nat → Option Nat := fun i => vals[i]?
set_option maxHeartbeats 6400000 in
theorem BinDoes_main (t q s : Int) (A B : Option Addr) (c d n m : Nat) (vals : List Nat) (l : List BinStep) (HNN : Hid (vals.length = n)) (HMM : Hid (l.length = m)) (H32 : Hid (∀ x ∈ vals, x < 2 ^ 32))
    (hn : n ≤ 500) (hm : m ≤ 20) (hq : q ≤ 64) (hnc : n ≤ c) (hcm : c ≤ maxLen) (hmd : m ≤ d) (hdm : d ≤ maxLen) (W : World) (HR : Hid (Reads W W.heap.size 1 A n (valVs vals))) (HA : Hid (BinSteps W B l)) (HOK : Hid (∀ a ∈ l, a.Ok)) :
    Calls Try.prog 3 #[.agg #[.int .i64 t, .int .i64 q, .int .i64 s], .slice A n c, .slice B m d] W (Keeps W) := by
  have t0 : decide ((500 : Int) < n) = false := decide_eq_false (by omega)
  have t1 : decide ((20 : Int) < m) = false := decide_eq_false (by omega)
  have t2 : decide (q ≤ (64 : Int)) = true := decide_eq_true (by omega)
  have hcm2 : c ≤ 9223372036854775807 := hcm
  have hdm2 : d ≤ 9223372036854775807 := hdm
  have HC0 := hidp (Held.new W 23 #[.int .i64 t, .int .i64 q, .int .i64 s])
  obtain ⟨x0, x1, x2⟩ := HC0.out.three
  go_enter Try.func3, Try.ntmps3
  go_wp2_with fail
  refine (few14_c t q s _).mono ?_
  rintro e w1 ⟨rfl, hb⟩
  rw [t2]
  have HB1 := hidp (Bgo (Bnew (B0 W) (.cells #[.int .i64 t, .int .i64 q, .int .i64 s] 23)) hb)
  have HC1 := hidp (HC0.out.keep hb)
  have HR1 : Hid (Reads w1 w1.heap.size 1 A n (valVs vals)) := hidp ((HR.out.below HB1.out).more HB1.out.size)
  clear hb HC0
  go_wp2_with fail
  refine (Whole_c A c vals n HNN.out (by omega) H32.out _ (by
    intro h0
    obtain ⟨ad, e, _, hc⟩ := HR1.out.2 h0
    exact ⟨ad, e, hc⟩)).mono ?_
  rintro e w2 ⟨b1, o1, rfl, hI, hB⟩
  have HV2 : Hid (IsView w2 w1.heap.size b1 n true o1 (wholeK14 vals) freshS) := hidp hI
  have HB2 := hidp (Bgo HB1.out hB)
  have HR2 : Hid (Reads w2 w2.heap.size 1 A n (valVs vals)) := hidp ((HR1.out.below hB).more hB.size)
  have HC2 := hidp (HC1.out.keep hB)
  have HLT : Hid (W.heap.size < w1.heap.size) := hidp HC1.out.lt
  clear hI hB HR1
  go_wp2_with fail
  refine (RWhole_c A c vals n HNN.out (by omega) hnc hcm H32.out _ HR2.out).mono ?_
  rintro e w3 ⟨b2, v2, rfl, hI, hB⟩
  have HV3 := hidp (HV2.out.keep hB)
  have HA3 : Hid (IsRefV w3 w2.heap.size b2 n true v2 (wholeK14 vals) freshS) := hidp hI
  have HB3 := hidp (Bgo HB2.out hB)
  have HC3 := hidp (HC2.out.keep hB)
  have HL2 : Hid (∀ i, o1.A b1 i → i < w2.heap.size) := hidp HV2.out.lt
  have HL1 : Hid (w1.heap.size ≤ w2.heap.size) := hidp (by have h1 := HV2.out.head.lt; have h2 := HV2.out.ge b1 (.inl (.inl (.inl rfl))); omega)
  clear hI hB HV2 HR2 HC2 HC1
  generalize hz1 : w1.heap.size = z1 at *
  generalize hz2 : w2.heap.size = z2 at *
  have HD3 : Hid (Duo W (vOb z1 b1 n true (wholeK14 vals)) (rOb z2 b2 n true (wholeK14 vals)) (o1.A b1) (OwnF b2 6 v2) (fun g => g = W.heap.size) freshS freshS w3) := hidp ⟨⟨o1, HV3.out, rfl⟩, ⟨v2, HA3.out, rfl⟩, fun i hi hj => by have := HL2.out i hi; have := HA3.out.parts.ge i hj; omega, fun g hg => by
      subst hg
      exact ⟨HC3.out.lt, fun x => by have := HV3.out.ge _ x; have := HLT.out; omega, fun x => by have := HA3.out.parts.ge _ x; have := HLT.out; have := HL1.out; omega⟩, fun i hi => by
      rcases hi with hi | hi
      · have := HV3.out.ge _ hi; have := HLT.out; omega
      · have := HA3.out.parts.ge _ hi; have := HLT.out; have := HL1.out; omega, HB3.out⟩
  clear HV3 HA3 HB3 HB2 HB1 HL2 HL1 HLT hz1 hz2 x0 x1 x2
  go_wp2_with fail
  go_loopw [9] (fun i wr => ∃ (k : Nat) (A1 B1 : Nat → Prop) (sx : Vst), k ≤ m ∧ i = .int .i64 k ∧ Hid (Duo W (vOb z1 b1 n true (wholeK14 vals)) (rOb z2 b2 n true (wholeK14 vals)) A1 B1 (fun g => g = W.heap.size) sx sx wr) ∧ Hid (Held wr W.heap.size 23 #[.int .i64 t, .int .i64 q, .int .i64 s])) (fun i _ => m - (intOf i).toNat)
  case atStart => exact ⟨0, _, _, _, by omega, rfl, HD3, HC3⟩
  case round =>
    clear HD3 HC3
    obtain ⟨k, A1, B1, sx, hk, rfl, HD, HC⟩ := hrel
    by_cases hlt : k < m
    · obtain ⟨x, hx⟩ : ∃ x, l[k]? = some x := ⟨_, List.getElem?_eq_getElem (by rw [HMM.out]; exact hlt)⟩
      obtain ⟨ad, rfl, _, _⟩ := HA.out k x hx
      have HNB := hidp (i64_bounds (HOK.out x (List.mem_of_getElem? hx)).nn)
      obtain ⟨drop, page, nn⟩ := x
      have HS8 : Hid (∀ w', Below W.heap.size W w' → Held w' W.heap.size 23 #[.int .i64 t, .int .i64 q, .int .i64 s] → (fun w' => w'.cell? ⟨W.heap.size, 0, none⟩ = some (.int .i64 t) ∧ w'.cell? ⟨W.heap.size, 1, none⟩ = some (.int .i64 q) ∧ w'.cell? ⟨W.heap.size, 2, none⟩ = some (.int .i64 s) ∧ w'.cell? (ad.add (k * 3)) = some (.bool drop) ∧ w'.cell? ⟨(ad.add (k * 3)).block, (ad.add (k * 3)).off + 1, none⟩ = some (.int .i64 page) ∧ w'.cell? ⟨(ad.add (k * 3)).block, (ad.add (k * 3)).off + 2, none⟩ = some (.int .i64 nn)) w') := hidp (fun w' hb hh => ⟨hh.three.1, hh.three.2.1, hh.three.2.2, ((HA.out.below hb).cells hx).1, ((HA.out.below hb).cells hx).2.1, ((HA.out.below hb).cells hx).2.2⟩)
      clear hx
      obtain ⟨x0, x1, x2, x3, x4, x5⟩ := HS8.out _ HD.out.bel HC.out
      cases drop with
      | true =>
        obtain ⟨dv, hdv⟩ : ∃ dv, dropV n (wholeK14 vals) t q s page sx = dv := ⟨_, rfl⟩
        have HDV := hidp hdv
        clear hdv
        have hne : (dv != dv) = false := by simp
        go_wp2_with fail
        have HD := hidp (HD.out.keep (Bdrew (B0 _)))
        have HC := hidp HC.out.drw
        refine wp_region_held_drew (S := (fun w' => w'.cell? ⟨W.heap.size, 0, none⟩ = some (.int .i64 t) ∧ w'.cell? ⟨W.heap.size, 1, none⟩ = some (.int .i64 q) ∧ w'.cell? ⟨W.heap.size, 2, none⟩ = some (.int .i64 s) ∧ w'.cell? (ad.add (k * 3)) = some (.bool true) ∧ w'.cell? ⟨(ad.add (k * 3)).block, (ad.add (k * 3)).off + 1, none⟩ = some (.int .i64 page) ∧ w'.cell? ⟨(ad.add (k * 3)).block, (ad.add (k * 3)).off + 2, none⟩ = some (.int .i64 nn))) (by kernel_rfl) ?_ (fun hHeld => ?_)
        · (try dsimp only)
          first | exact HS8.out _ HD.out.bel HC.out | exact hHeld
        refine tkO (i := 0) (v := ?_) rfl (by kernel_rfl) (fun _ _ _ h => h) (by rfl) ?_ (by assumption) ?_
        rotate_left
        · intro w hSw; (try dsimp only at hSw); go_simp; (try with_reducible rfl)
        (try simp only [Act.put, gA, gB, gC, sA, sB, sC])
        refine tkO (i := 1) (v := ?_) rfl (by kernel_rfl) (fun _ _ _ h => h) (by rfl) ?_ (by assumption) ?_
        rotate_left
        · intro w hSw; (try dsimp only at hSw); go_simp; (try with_reducible rfl)
        (try simp only [Act.put, gA, gB, gC, sA, sB, sC])
        refine tkO (i := 2) (v := ?_) rfl (by kernel_rfl) (fun _ _ _ h => h) (by rfl) ?_ (by assumption) ?_
        rotate_left
        · intro w hSw; (try dsimp only at hSw); go_simp; (try with_reducible rfl)
        (try simp only [Act.put, gA, gB, gC, sA, sB, sC])
        refine tkO (i := 3) (v := ?_) rfl (by kernel_rfl) (fun _ _ _ h => h) (by rfl) ?_ (by assumption) ?_
        rotate_left
        · intro w hSw; (try dsimp only at hSw); go_simp; (try with_reducible rfl)
        (try simp only [Act.put, gA, gB, gC, sA, sB, sC])
        refine tkO (i := 4) (v := ?_) rfl (by kernel_rfl) (fun _ _ _ h => h) (by rfl) ?_ (by assumption) ?_
        rotate_left
        · intro w hSw; (try dsimp only at hSw); go_simp; (try with_reducible rfl)
        (try simp only [Act.put, gA, gB, gC, sA, sB, sC])
        refine tkO (i := 5) (v := ?_) rfl (by kernel_rfl) (fun _ _ _ h => h) (by rfl) ?_ (by assumption) ?_
        rotate_left
        · intro w hSw; (try dsimp only at hSw); go_simp; (try with_reducible rfl)
        (try simp only [Act.put, gA, gB, gC, sA, sB, sC])
        refine tkO (i := 6) (v := ?_) rfl (by kernel_rfl) (fun _ _ _ h => h) (by rfl) ?_ (by assumption) ?_
        rotate_left
        · intro w hSw; (try dsimp only at hSw); go_simp; (try with_reducible rfl)
        (try simp only [Act.put, gA, gB, gC, sA, sB, sC])
        refine tkO (i := 8) (v := ?_) rfl (by kernel_rfl) (fun _ _ _ h => h) (by rfl) ?_ (by assumption) ?_
        rotate_left
        · intro w hSw; (try dsimp only at hSw); go_simp; (try with_reducible rfl)
        (try simp only [Act.put, gA, gB, gC, sA, sB, sC])
        refine tkO (i := 9) (v := ?_) rfl (by kernel_rfl) (fun _ _ _ h => h) (by rfl) ?_ (by assumption) ?_
        rotate_left
        · intro w hSw; (try dsimp only at hSw); go_simp; (try with_reducible rfl)
        (try simp only [Act.put, gA, gB, gC, sA, sB, sC])
        refine tkO (i := 10) (v := ?_) rfl (by kernel_rfl) (fun _ _ _ h => h) (by rfl) ?_ (by assumption) ?_
        rotate_left
        · intro w hSw; (try dsimp only at hSw); go_simp; (try with_reducible rfl)
        (try simp only [Act.put, gA, gB, gC, sA, sB, sC])
        refine tkO (i := 11) (v := ?_) rfl (by kernel_rfl) (fun _ _ _ h => h) (by rfl) ?_ (by assumption) ?_
        rotate_left
        · intro w hSw; (try dsimp only at hSw); go_simp; (try with_reducible rfl)
        (try simp only [Act.put, gA, gB, gC, sA, sB, sC])
        refine tkO (i := 12) (v := ?_) rfl (by kernel_rfl) (fun _ _ _ h => h) (by rfl) ?_ (by assumption) ?_
        rotate_left
        · intro w hSw; (try dsimp only at hSw); go_simp; (try with_reducible rfl)
        (try simp only [Act.put, gA, gB, gC, sA, sB, sC])
        refine tkO (i := 13) (v := ?_) rfl (by kernel_rfl) (fun _ _ _ h => h) (by rfl) ?_ (by assumption) ?_
        rotate_left
        · intro w hSw; (try dsimp only at hSw); go_simp; (try with_reducible rfl)
        (try simp only [Act.put, gA, gB, gC, sA, sB, sC])
        refine tkO (i := 14) (v := ?_) rfl (by kernel_rfl) (fun _ _ _ h => h) (by rfl) ?_ (by assumption) ?_
        rotate_left
        · intro w hSw; (try dsimp only at hSw); go_simp; (try with_reducible rfl)
        (try simp only [Act.put, gA, gB, gC, sA, sB, sC])
        refine wpAnyH_ready (rs := [7]) (by kernel_rfl) (by simp) ?_
        refine AllReadyH.cons (o := _) rfl (fun K hK => ?_) AllReadyH.nil
        go_simp
        refine (bnDrop_c (by omega) (by omega) page HD.out.at1).mono ?_; rintro e w6 ⟨rfl, h1, _⟩; obtain ⟨Aw6, h2, h3⟩ := HD.out.left1 h1.left; have HD := hidp h2; have HC := hidp (h3.held rfl HC.out); clear h1 h2 h3; rw [HDV.out]
        refine hK.out _ _ ?_ (fun hHeld => ?_)
        · (try dsimp only)
          first | exact HS8.out _ HD.out.bel HC.out | exact hHeld
        clear hK K
        (try simp only [Act.put, gA, gB, gC, sA, sB, sC])
        refine wpAnyH_ready (rs := [15]) (by kernel_rfl) (by simp) ?_
        refine AllReadyH.cons (o := _) rfl (fun K hK => ?_) AllReadyH.nil
        go_simp
        refine (r14Drop_c (by omega) (by omega) page HD.out.at2).mono ?_; rintro e w7 ⟨rfl, h1, _⟩; obtain ⟨Aw7, h2, h3⟩ := HD.out.left2 h1.left; have HD := hidp h2; have HC := hidp (h3.held rfl HC.out); clear h1 h2 h3; rw [HDV.out]
        refine hK.out _ _ ?_ (fun hHeld => ?_)
        · (try dsimp only)
          first | exact HS8.out _ HD.out.bel HC.out | exact hHeld
        clear hK K
        (try simp only [Act.put, gA, gB, gC, sA, sB, sC])
        refine tkO (i := 16) (v := ?_) rfl (by kernel_rfl) (fun _ _ _ h => h) (by rfl) ?_ (by assumption) ?_
        rotate_left
        · intro w hSw; (try dsimp only at hSw); go_simp; (try with_reducible rfl)
        (try simp only [Act.put, gA, gB, gC, sA, sB, sC])
        refine wpAnyH_done (by kernel_rfl) ?_ _
        have HB8 := HS8.out _ HD.out.bel HC.out
        clear x0 x1 x2 x3 x4 x5
        obtain ⟨x0, x1, x2, x3, x4, x5⟩ := HB8
        clear hne HDV
        obtain ⟨ov, hov⟩ : ∃ ov, ofI nn = ov := ⟨_, rfl⟩
        have HOV := hidp hov
        clear hov
        have hno : (ov != ov) = false := by simp
        go_wp2_with fail
        have HD := hidp (HD.out.keep (Bdrew (B0 _)))
        have HC := hidp HC.out.drw
        refine wp_region_held_drew (S := (fun w' => w'.cell? ⟨W.heap.size, 0, none⟩ = some (.int .i64 t) ∧ w'.cell? ⟨W.heap.size, 1, none⟩ = some (.int .i64 q) ∧ w'.cell? ⟨W.heap.size, 2, none⟩ = some (.int .i64 s) ∧ w'.cell? (ad.add (k * 3)) = some (.bool true) ∧ w'.cell? ⟨(ad.add (k * 3)).block, (ad.add (k * 3)).off + 1, none⟩ = some (.int .i64 page) ∧ w'.cell? ⟨(ad.add (k * 3)).block, (ad.add (k * 3)).off + 2, none⟩ = some (.int .i64 nn))) (by kernel_rfl) ?_ (fun hHeld => ?_)
        · (try dsimp only)
          first | exact HS8.out _ HD.out.bel HC.out | exact hHeld
        refine tkO (i := 0) (v := ?_) rfl (by kernel_rfl) (fun _ _ _ h => h) (by rfl) ?_ (by assumption) ?_
        rotate_left
        · intro w hSw; (try dsimp only at hSw); go_simp; (try with_reducible rfl)
        (try simp only [Act.put, gA, gB, gC, sA, sB, sC])
        refine tkO (i := 1) (v := ?_) rfl (by kernel_rfl) (fun _ _ _ h => h) (by rfl) ?_ (by assumption) ?_
        rotate_left
        · intro w hSw; (try dsimp only at hSw); go_simp; (try with_reducible rfl)
        (try simp only [Act.put, gA, gB, gC, sA, sB, sC])
        refine tkO (i := 2) (v := ?_) rfl (by kernel_rfl) (fun _ _ _ h => h) (by rfl) ?_ (by assumption) ?_
        rotate_left
        · intro w hSw; (try dsimp only at hSw); go_simp; (try with_reducible rfl)
        (try simp only [Act.put, gA, gB, gC, sA, sB, sC])
        refine tkO (i := 3) (v := ?_) rfl (by kernel_rfl) (fun _ _ _ h => h) (by rfl) ?_ (by assumption) ?_
        rotate_left
        · intro w hSw; (try dsimp only at hSw); go_simp; (try with_reducible rfl)
        (try simp only [Act.put, gA, gB, gC, sA, sB, sC])
        refine tkO (i := 4) (v := ?_) rfl (by kernel_rfl) (fun _ _ _ h => h) (by rfl) ?_ (by assumption) ?_
        rotate_left
        · intro w hSw; (try dsimp only at hSw); go_simp; (try with_reducible rfl)
        (try simp only [Act.put, gA, gB, gC, sA, sB, sC])
        refine tkO (i := 6) (v := ?_) rfl (by kernel_rfl) (fun _ _ _ h => h) (by rfl) ?_ (by assumption) ?_
        rotate_left
        · intro w hSw; (try dsimp only at hSw); go_simp; (try with_reducible rfl)
        (try simp only [Act.put, gA, gB, gC, sA, sB, sC])
        refine tkO (i := 7) (v := ?_) rfl (by kernel_rfl) (fun _ _ _ h => h) (by rfl) ?_ (by assumption) ?_
        rotate_left
        · intro w hSw; (try dsimp only at hSw); go_simp; (try with_reducible rfl)
        (try simp only [Act.put, gA, gB, gC, sA, sB, sC])
        refine tkO (i := 8) (v := ?_) rfl (by kernel_rfl) (fun _ _ _ h => h) (by rfl) ?_ (by assumption) ?_
        rotate_left
        · intro w hSw; (try dsimp only at hSw); go_simp; (try with_reducible rfl)
        (try simp only [Act.put, gA, gB, gC, sA, sB, sC])
        refine tkO (i := 9) (v := ?_) rfl (by kernel_rfl) (fun _ _ _ h => h) (by rfl) ?_ (by assumption) ?_
        rotate_left
        · intro w hSw; (try dsimp only at hSw); go_simp; (try with_reducible rfl)
        (try simp only [Act.put, gA, gB, gC, sA, sB, sC])
        refine tkO (i := 10) (v := ?_) rfl (by kernel_rfl) (fun _ _ _ h => h) (by rfl) ?_ (by assumption) ?_
        rotate_left
        · intro w hSw; (try dsimp only at hSw); go_simp; (try with_reducible rfl)
        (try simp only [Act.put, gA, gB, gC, sA, sB, sC])
        refine wpAnyH_ready (rs := [5]) (by kernel_rfl) (by simp) ?_
        refine AllReadyH.cons (o := _) rfl (fun K hK => ?_) AllReadyH.nil
        go_simp
        refine (bnOf_c nn HNB.out.1 HNB.out.2 _).mono ?_; rintro e w9 ⟨rfl, rfl⟩; rw [HOV.out]
        refine hK.out _ _ ?_ (fun hHeld => ?_)
        · (try dsimp only)
          first | exact HS8.out _ HD.out.bel HC.out | exact hHeld
        clear hK K
        (try simp only [Act.put, gA, gB, gC, sA, sB, sC])
        refine wpAnyH_ready (rs := [11]) (by kernel_rfl) (by simp) ?_
        refine AllReadyH.cons (o := _) rfl (fun K hK => ?_) AllReadyH.nil
        go_simp
        refine (r14Of_c nn HNB.out.1 HNB.out.2 _).mono ?_; rintro e w9 ⟨rfl, rfl⟩; rw [HOV.out]
        refine hK.out _ _ ?_ (fun hHeld => ?_)
        · (try dsimp only)
          first | exact HS8.out _ HD.out.bel HC.out | exact hHeld
        clear hK K
        (try simp only [Act.put, gA, gB, gC, sA, sB, sC])
        refine tkO (i := 12) (v := ?_) rfl (by kernel_rfl) (fun _ _ _ h => h) (by rfl) ?_ (by assumption) ?_
        rotate_left
        · intro w hSw; (try dsimp only at hSw); go_simp; (try with_reducible rfl)
        (try simp only [Act.put, gA, gB, gC, sA, sB, sC])
        refine wpAnyH_done (by kernel_rfl) ?_ _
        have HB8 := HS8.out _ HD.out.bel HC.out
        clear x0 x1 x2 x3 x4 x5
        obtain ⟨x0, x1, x2, x3, x4, x5⟩ := HB8
        clear x0 x1 x2 x3 x4 x5 HS8
        go_wp2
        go_roundw
        case rel => exact ⟨k + 1, _, _, _, by omega, by go_num, HD, HC⟩
        case measure => simp [intOf]; omega
      | false =>
        go_wp2_with fail
        have HD := hidp (HD.out.keep (Bdrew (B0 _)))
        have HC := hidp HC.out.drw
        refine wp_region_held_drew (S := (fun w' => w'.cell? ⟨W.heap.size, 0, none⟩ = some (.int .i64 t) ∧ w'.cell? ⟨W.heap.size, 1, none⟩ = some (.int .i64 q) ∧ w'.cell? ⟨W.heap.size, 2, none⟩ = some (.int .i64 s) ∧ w'.cell? (ad.add (k * 3)) = some (.bool false) ∧ w'.cell? ⟨(ad.add (k * 3)).block, (ad.add (k * 3)).off + 1, none⟩ = some (.int .i64 page) ∧ w'.cell? ⟨(ad.add (k * 3)).block, (ad.add (k * 3)).off + 2, none⟩ = some (.int .i64 nn))) (by kernel_rfl) ?_ (fun hHeld => ?_)
        · (try dsimp only)
          first | exact HS8.out _ HD.out.bel HC.out | exact hHeld
        refine tkO (i := 0) (v := ?_) rfl (by kernel_rfl) (fun _ _ _ h => h) (by rfl) ?_ (by assumption) ?_
        rotate_left
        · intro w hSw; (try dsimp only at hSw); go_simp; (try with_reducible rfl)
        (try simp only [Act.put, gA, gB, gC, sA, sB, sC])
        refine tkO (i := 1) (v := ?_) rfl (by kernel_rfl) (fun _ _ _ h => h) (by rfl) ?_ (by assumption) ?_
        rotate_left
        · intro w hSw; (try dsimp only at hSw); go_simp; (try with_reducible rfl)
        (try simp only [Act.put, gA, gB, gC, sA, sB, sC])
        refine tkO (i := 2) (v := ?_) rfl (by kernel_rfl) (fun _ _ _ h => h) (by rfl) ?_ (by assumption) ?_
        rotate_left
        · intro w hSw; (try dsimp only at hSw); go_simp; (try with_reducible rfl)
        (try simp only [Act.put, gA, gB, gC, sA, sB, sC])
        refine tkO (i := 3) (v := ?_) rfl (by kernel_rfl) (fun _ _ _ h => h) (by rfl) ?_ (by assumption) ?_
        rotate_left
        · intro w hSw; (try dsimp only at hSw); go_simp; (try with_reducible rfl)
        (try simp only [Act.put, gA, gB, gC, sA, sB, sC])
        refine tkO (i := 4) (v := ?_) rfl (by kernel_rfl) (fun _ _ _ h => h) (by rfl) ?_ (by assumption) ?_
        rotate_left
        · intro w hSw; (try dsimp only at hSw); go_simp; (try with_reducible rfl)
        (try simp only [Act.put, gA, gB, gC, sA, sB, sC])
        refine tkO (i := 5) (v := ?_) rfl (by kernel_rfl) (fun _ _ _ h => h) (by rfl) ?_ (by assumption) ?_
        rotate_left
        · intro w hSw; (try dsimp only at hSw); go_simp; (try with_reducible rfl)
        (try simp only [Act.put, gA, gB, gC, sA, sB, sC])
        refine tkO (i := 6) (v := ?_) rfl (by kernel_rfl) (fun _ _ _ h => h) (by rfl) ?_ (by assumption) ?_
        rotate_left
        · intro w hSw; (try dsimp only at hSw); go_simp; (try with_reducible rfl)
        (try simp only [Act.put, gA, gB, gC, sA, sB, sC])
        refine tkO (i := 7) (v := ?_) rfl (by kernel_rfl) (fun _ _ _ h => h) (by rfl) ?_ (by assumption) ?_
        rotate_left
        · intro w hSw; (try dsimp only at hSw); go_simp; (try with_reducible rfl)
        (try simp only [Act.put, gA, gB, gC, sA, sB, sC])
        refine tkO (i := 8) (v := ?_) rfl (by kernel_rfl) (fun _ _ _ h => h) (by rfl) ?_ (by assumption) ?_
        rotate_left
        · intro w hSw; (try dsimp only at hSw); go_simp; (try with_reducible rfl)
        (try simp only [Act.put, gA, gB, gC, sA, sB, sC])
        refine tkO (i := 9) (v := ?_) rfl (by kernel_rfl) (fun _ _ _ h => h) (by rfl) ?_ (by assumption) ?_
        rotate_left
        · intro w hSw; (try dsimp only at hSw); go_simp; (try with_reducible rfl)
        (try simp only [Act.put, gA, gB, gC, sA, sB, sC])
        refine tkO (i := 10) (v := ?_) rfl (by kernel_rfl) (fun _ _ _ h => h) (by rfl) ?_ (by assumption) ?_
        rotate_left
        · intro w hSw; (try dsimp only at hSw); go_simp; (try with_reducible rfl)
        (try simp only [Act.put, gA, gB, gC, sA, sB, sC])
        refine tkO (i := 11) (v := ?_) rfl (by kernel_rfl) (fun _ _ _ h => h) (by rfl) ?_ (by assumption) ?_
        rotate_left
        · intro w hSw; (try dsimp only at hSw); go_simp; (try with_reducible rfl)
        (try simp only [Act.put, gA, gB, gC, sA, sB, sC])
        refine wpAnyH_ready (rs := [12]) (by kernel_rfl) (by simp) ?_
        refine AllReadyH.cons (o := _) rfl (fun K hK => ?_) AllReadyH.nil
        go_simp
        refine (bnAdd_c (by omega) (by omega) page nn HD.out.at1).mono ?_; rintro e w8 ⟨rfl, h1, _⟩; obtain ⟨Aw8, h2, h3⟩ := HD.out.left1 h1.left; have HD := hidp h2; have HC := hidp (h3.held rfl HC.out); clear h1 h2 h3
        refine hK.out _ _ ?_ (fun hHeld => ?_)
        · (try dsimp only)
          first | exact HS8.out _ HD.out.bel HC.out | exact hHeld
        clear hK K
        (try simp only [Act.put, gA, gB, gC, sA, sB, sC])
        refine wpAnyH_done (by kernel_rfl) ?_ _
        have HB8 := HS8.out _ HD.out.bel HC.out
        clear x0 x1 x2 x3 x4 x5
        obtain ⟨x0, x1, x2, x3, x4, x5⟩ := HB8
        go_wp2_with fail
        have HD := hidp (HD.out.keep (Bdrew (B0 _)))
        have HC := hidp HC.out.drw
        refine wp_region_held_drew (S := (fun w' => w'.cell? ⟨W.heap.size, 0, none⟩ = some (.int .i64 t) ∧ w'.cell? ⟨W.heap.size, 1, none⟩ = some (.int .i64 q) ∧ w'.cell? ⟨W.heap.size, 2, none⟩ = some (.int .i64 s) ∧ w'.cell? (ad.add (k * 3)) = some (.bool false) ∧ w'.cell? ⟨(ad.add (k * 3)).block, (ad.add (k * 3)).off + 1, none⟩ = some (.int .i64 page) ∧ w'.cell? ⟨(ad.add (k * 3)).block, (ad.add (k * 3)).off + 2, none⟩ = some (.int .i64 nn))) (by kernel_rfl) ?_ (fun hHeld => ?_)
        · (try dsimp only)
          first | exact HS8.out _ HD.out.bel HC.out | exact hHeld
        refine tkO (i := 0) (v := ?_) rfl (by kernel_rfl) (fun _ _ _ h => h) (by rfl) ?_ (by assumption) ?_
        rotate_left
        · intro w hSw; (try dsimp only at hSw); go_simp; (try with_reducible rfl)
        (try simp only [Act.put, gA, gB, gC, sA, sB, sC])
        refine tkO (i := 1) (v := ?_) rfl (by kernel_rfl) (fun _ _ _ h => h) (by rfl) ?_ (by assumption) ?_
        rotate_left
        · intro w hSw; (try dsimp only at hSw); go_simp; (try with_reducible rfl)
        (try simp only [Act.put, gA, gB, gC, sA, sB, sC])
        refine tkO (i := 2) (v := ?_) rfl (by kernel_rfl) (fun _ _ _ h => h) (by rfl) ?_ (by assumption) ?_
        rotate_left
        · intro w hSw; (try dsimp only at hSw); go_simp; (try with_reducible rfl)
        (try simp only [Act.put, gA, gB, gC, sA, sB, sC])
        refine tkO (i := 3) (v := ?_) rfl (by kernel_rfl) (fun _ _ _ h => h) (by rfl) ?_ (by assumption) ?_
        rotate_left
        · intro w hSw; (try dsimp only at hSw); go_simp; (try with_reducible rfl)
        (try simp only [Act.put, gA, gB, gC, sA, sB, sC])
        refine tkO (i := 4) (v := ?_) rfl (by kernel_rfl) (fun _ _ _ h => h) (by rfl) ?_ (by assumption) ?_
        rotate_left
        · intro w hSw; (try dsimp only at hSw); go_simp; (try with_reducible rfl)
        (try simp only [Act.put, gA, gB, gC, sA, sB, sC])
        refine tkO (i := 5) (v := ?_) rfl (by kernel_rfl) (fun _ _ _ h => h) (by rfl) ?_ (by assumption) ?_
        rotate_left
        · intro w hSw; (try dsimp only at hSw); go_simp; (try with_reducible rfl)
        (try simp only [Act.put, gA, gB, gC, sA, sB, sC])
        refine tkO (i := 6) (v := ?_) rfl (by kernel_rfl) (fun _ _ _ h => h) (by rfl) ?_ (by assumption) ?_
        rotate_left
        · intro w hSw; (try dsimp only at hSw); go_simp; (try with_reducible rfl)
        (try simp only [Act.put, gA, gB, gC, sA, sB, sC])
        refine tkO (i := 7) (v := ?_) rfl (by kernel_rfl) (fun _ _ _ h => h) (by rfl) ?_ (by assumption) ?_
        rotate_left
        · intro w hSw; (try dsimp only at hSw); go_simp; (try with_reducible rfl)
        (try simp only [Act.put, gA, gB, gC, sA, sB, sC])
        refine tkO (i := 8) (v := ?_) rfl (by kernel_rfl) (fun _ _ _ h => h) (by rfl) ?_ (by assumption) ?_
        rotate_left
        · intro w hSw; (try dsimp only at hSw); go_simp; (try with_reducible rfl)
        (try simp only [Act.put, gA, gB, gC, sA, sB, sC])
        refine tkO (i := 9) (v := ?_) rfl (by kernel_rfl) (fun _ _ _ h => h) (by rfl) ?_ (by assumption) ?_
        rotate_left
        · intro w hSw; (try dsimp only at hSw); go_simp; (try with_reducible rfl)
        (try simp only [Act.put, gA, gB, gC, sA, sB, sC])
        refine tkO (i := 10) (v := ?_) rfl (by kernel_rfl) (fun _ _ _ h => h) (by rfl) ?_ (by assumption) ?_
        rotate_left
        · intro w hSw; (try dsimp only at hSw); go_simp; (try with_reducible rfl)
        (try simp only [Act.put, gA, gB, gC, sA, sB, sC])
        refine tkO (i := 11) (v := ?_) rfl (by kernel_rfl) (fun _ _ _ h => h) (by rfl) ?_ (by assumption) ?_
        rotate_left
        · intro w hSw; (try dsimp only at hSw); go_simp; (try with_reducible rfl)
        (try simp only [Act.put, gA, gB, gC, sA, sB, sC])
        refine wpAnyH_ready (rs := [12]) (by kernel_rfl) (by simp) ?_
        refine AllReadyH.cons (o := _) rfl (fun K hK => ?_) AllReadyH.nil
        go_simp
        refine (r14Add_c (by omega) (by omega) page nn HD.out.at2).mono ?_; rintro e w9 ⟨rfl, h1, _⟩; obtain ⟨Aw9, h2, h3⟩ := HD.out.left2 h1.left; have HD := hidp h2; have HC := hidp (h3.held rfl HC.out); clear h1 h2 h3
        refine hK.out _ _ ?_ (fun hHeld => ?_)
        · (try dsimp only)
          first | exact HS8.out _ HD.out.bel HC.out | exact hHeld
        clear hK K
        (try simp only [Act.put, gA, gB, gC, sA, sB, sC])
        refine wpAnyH_done (by kernel_rfl) ?_ _
        have HB8 := HS8.out _ HD.out.bel HC.out
        clear x0 x1 x2 x3 x4 x5
        obtain ⟨x0, x1, x2, x3, x4, x5⟩ := HB8
        obtain ⟨ov, hov⟩ : ∃ ov, ofI nn = ov := ⟨_, rfl⟩
        have HOV := hidp hov
        clear hov
        have hno : (ov != ov) = false := by simp
        go_wp2_with fail
        have HD := hidp (HD.out.keep (Bdrew (B0 _)))
        have HC := hidp HC.out.drw
        refine wp_region_held_drew (S := (fun w' => w'.cell? ⟨W.heap.size, 0, none⟩ = some (.int .i64 t) ∧ w'.cell? ⟨W.heap.size, 1, none⟩ = some (.int .i64 q) ∧ w'.cell? ⟨W.heap.size, 2, none⟩ = some (.int .i64 s) ∧ w'.cell? (ad.add (k * 3)) = some (.bool false) ∧ w'.cell? ⟨(ad.add (k * 3)).block, (ad.add (k * 3)).off + 1, none⟩ = some (.int .i64 page) ∧ w'.cell? ⟨(ad.add (k * 3)).block, (ad.add (k * 3)).off + 2, none⟩ = some (.int .i64 nn))) (by kernel_rfl) ?_ (fun hHeld => ?_)
        · (try dsimp only)
          first | exact HS8.out _ HD.out.bel HC.out | exact hHeld
        refine tkO (i := 0) (v := ?_) rfl (by kernel_rfl) (fun _ _ _ h => h) (by rfl) ?_ (by assumption) ?_
        rotate_left
        · intro w hSw; (try dsimp only at hSw); go_simp; (try with_reducible rfl)
        (try simp only [Act.put, gA, gB, gC, sA, sB, sC])
        refine tkO (i := 1) (v := ?_) rfl (by kernel_rfl) (fun _ _ _ h => h) (by rfl) ?_ (by assumption) ?_
        rotate_left
        · intro w hSw; (try dsimp only at hSw); go_simp; (try with_reducible rfl)
        (try simp only [Act.put, gA, gB, gC, sA, sB, sC])
        refine tkO (i := 2) (v := ?_) rfl (by kernel_rfl) (fun _ _ _ h => h) (by rfl) ?_ (by assumption) ?_
        rotate_left
        · intro w hSw; (try dsimp only at hSw); go_simp; (try with_reducible rfl)
        (try simp only [Act.put, gA, gB, gC, sA, sB, sC])
        refine tkO (i := 3) (v := ?_) rfl (by kernel_rfl) (fun _ _ _ h => h) (by rfl) ?_ (by assumption) ?_
        rotate_left
        · intro w hSw; (try dsimp only at hSw); go_simp; (try with_reducible rfl)
        (try simp only [Act.put, gA, gB, gC, sA, sB, sC])
        refine tkO (i := 4) (v := ?_) rfl (by kernel_rfl) (fun _ _ _ h => h) (by rfl) ?_ (by assumption) ?_
        rotate_left
        · intro w hSw; (try dsimp only at hSw); go_simp; (try with_reducible rfl)
        (try simp only [Act.put, gA, gB, gC, sA, sB, sC])
        refine tkO (i := 6) (v := ?_) rfl (by kernel_rfl) (fun _ _ _ h => h) (by rfl) ?_ (by assumption) ?_
        rotate_left
        · intro w hSw; (try dsimp only at hSw); go_simp; (try with_reducible rfl)
        (try simp only [Act.put, gA, gB, gC, sA, sB, sC])
        refine tkO (i := 7) (v := ?_) rfl (by kernel_rfl) (fun _ _ _ h => h) (by rfl) ?_ (by assumption) ?_
        rotate_left
        · intro w hSw; (try dsimp only at hSw); go_simp; (try with_reducible rfl)
        (try simp only [Act.put, gA, gB, gC, sA, sB, sC])
        refine tkO (i := 8) (v := ?_) rfl (by kernel_rfl) (fun _ _ _ h => h) (by rfl) ?_ (by assumption) ?_
        rotate_left
        · intro w hSw; (try dsimp only at hSw); go_simp; (try with_reducible rfl)
        (try simp only [Act.put, gA, gB, gC, sA, sB, sC])
        refine tkO (i := 9) (v := ?_) rfl (by kernel_rfl) (fun _ _ _ h => h) (by rfl) ?_ (by assumption) ?_
        rotate_left
        · intro w hSw; (try dsimp only at hSw); go_simp; (try with_reducible rfl)
        (try simp only [Act.put, gA, gB, gC, sA, sB, sC])
        refine tkO (i := 10) (v := ?_) rfl (by kernel_rfl) (fun _ _ _ h => h) (by rfl) ?_ (by assumption) ?_
        rotate_left
        · intro w hSw; (try dsimp only at hSw); go_simp; (try with_reducible rfl)
        (try simp only [Act.put, gA, gB, gC, sA, sB, sC])
        refine wpAnyH_ready (rs := [5]) (by kernel_rfl) (by simp) ?_
        refine AllReadyH.cons (o := _) rfl (fun K hK => ?_) AllReadyH.nil
        go_simp
        refine (bnOf_c nn HNB.out.1 HNB.out.2 _).mono ?_; rintro e w9 ⟨rfl, rfl⟩; rw [HOV.out]
        refine hK.out _ _ ?_ (fun hHeld => ?_)
        · (try dsimp only)
          first | exact HS8.out _ HD.out.bel HC.out | exact hHeld
        clear hK K
        (try simp only [Act.put, gA, gB, gC, sA, sB, sC])
        refine wpAnyH_ready (rs := [11]) (by kernel_rfl) (by simp) ?_
        refine AllReadyH.cons (o := _) rfl (fun K hK => ?_) AllReadyH.nil
        go_simp
        refine (r14Of_c nn HNB.out.1 HNB.out.2 _).mono ?_; rintro e w9 ⟨rfl, rfl⟩; rw [HOV.out]
        refine hK.out _ _ ?_ (fun hHeld => ?_)
        · (try dsimp only)
          first | exact HS8.out _ HD.out.bel HC.out | exact hHeld
        clear hK K
        (try simp only [Act.put, gA, gB, gC, sA, sB, sC])
        refine tkO (i := 12) (v := ?_) rfl (by kernel_rfl) (fun _ _ _ h => h) (by rfl) ?_ (by assumption) ?_
        rotate_left
        · intro w hSw; (try dsimp only at hSw); go_simp; (try with_reducible rfl)
        (try simp only [Act.put, gA, gB, gC, sA, sB, sC])
        refine wpAnyH_done (by kernel_rfl) ?_ _
        have HB8 := HS8.out _ HD.out.bel HC.out
        clear x0 x1 x2 x3 x4 x5
        obtain ⟨x0, x1, x2, x3, x4, x5⟩ := HB8
        clear x0 x1 x2 x3 x4 x5 HS8
        go_wp2
        go_roundw
        case rel => exact ⟨k + 1, _, _, _, by omega, by go_num, HD, HC⟩
        case measure => simp [intOf]; omega
    · obtain rfl : k = m := by omega
      obtain ⟨o, hI, _⟩ := HD.out.i1
      obtain ⟨v, hR, _⟩ := HD.out.i2
      have HV := hidp hI
      have HAA := hidp hR
      have HB := hidp HD.out.bel
      have HL : Hid (sx.rd.length < 2 ^ 40 ∧ sx.wr.length < 2 ^ 40) := hidp (by have := hI.ok.few; omega)
      clear hI hR HD HC
      go_wp2_with fail
      refine (vReads_c HL.out.1 _ HV.out).mono ?_
      rintro e w90 ⟨r6, rfl, ho, hb⟩
      have HV := hidp (HV.out.keep hb)
      have HAA := hidp (HAA.out.keep hb)
      have HB := hidp (Bgo HB.out hb)
      have HR6 := hidp (rowV_nat6 ho)
      clear hb ho
      go_wp2_with fail
      refine (vWrites_c HL.out.2 _ HV.out).mono ?_
      rintro e w91 ⟨r7, rfl, ho, hb⟩
      have HV := hidp (HV.out.keep hb)
      have HAA := hidp (HAA.out.keep hb)
      have HB := hidp (Bgo HB.out hb)
      have HP7 := hidp (RowP.of_own ho)
      have HR7 := hidp (HR6.out.below hb)
      clear hb ho HR6
      go_wp2_with fail
      refine (vMissing_c _ HV.out).mono ?_
      rintro e w92 ⟨rfl, hw⟩
      subst hw
      go_wp2_with fail
      refine (Same_c HL.out.1 HL.out.2 r6 r7 _ HAA.out HR7.out HP7.out).mono ?_
      rintro e w93 ⟨rfl, hb⟩
      have HB := hidp (Bgo HB.out hb)
      clear hb HV HAA HR7 HP7
      go_wp2_with fail
      refine (live14_c _).mono ?_
      rintro e w94 ⟨rfl, hb⟩
      have HB := hidp (Bgo HB.out hb)
      clear hb
      go_wp2
      go_ret
      exact ⟨rfl, HB.out⟩

theorem BinDoes_calls (t q s : Int) (A B : Option Addr) (c d : Nat) (vals : List Nat) (l : List BinStep) (hnc : vals.length ≤ c) (hcm : c ≤ maxLen) (hmd : l.length ≤ d) (hdm : d ≤ maxLen) (h32 : ∀ x ∈ vals, x < 2 ^ 32)
    (W : World) (HR : Hid (Reads W W.heap.size 1 A vals.length (valVs vals))) (HA : Hid (BinSteps W B l)) (HOK : Hid (∀ a ∈ l, a.Ok)) :
    Calls Try.prog 3 #[.agg #[.int .i64 t, .int .i64 q, .int .i64 s], .slice A vals.length c, .slice B l.length d] W (Keeps W) := by
  by_cases hn : vals.length ≤ 500
  · by_cases hm : l.length ≤ 20
    · by_cases hq : q ≤ 64
      · exact BinDoes_main t q s A B c d _ _ vals l (hidp rfl) (hidp rfl) (hidp h32) hn hm hq hnc hcm hmd hdm W HR HA HOK
      · exact BinDoes_few3 t q s A B c d _ _ hn hm (by omega) W
    · exact BinDoes_few2 t q s A B c d _ _ hn (by omega) W
  · exact BinDoes_few1 t q s A B c d _ _ (by omega) W
end Go.Proofs.Ytpndfhdedmdoeaa
