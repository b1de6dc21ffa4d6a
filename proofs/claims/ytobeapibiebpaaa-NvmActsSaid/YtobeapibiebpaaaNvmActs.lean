/-
  The law NvmActs: the walk.
-/
import Derived.Test.YtobeapibiebpaaaNvmKeeps
import Derived.Test.YtobeapibiebpaaaNvmRDo
import Derived.Deep.RegionHeld3
namespace Go.Proofs.Ytobeapibiebpaaa
open Go.ChangeShapes Go.WideShapes Go.ChangeAt Go.RowKit Go.Maps
set_option linter.unusedVariables false
set_option linter.unusedSimpArgs false

theorem own_rowV {w : World} {base : Nat} {v : Value} {L : List Nat} (h : w.ownsRow base 3 1 v L.length ((castL L).map (Value.int .i64))) : RowV w v ((castL L).map (Value.int .i64)) := by
  have e : ((castL L).map (Value.int .i64)).length = L.length := by unfold castL; simp
  rw [← e] at h
  exact RowV.of_own h
theorem RNew_ws (A : Option Addr) (c : Nat) (ws : List Nat) (h8 : 8 ≤ ws.length) (hmx : ws.length ≤ 65536) (hmod : ws.length % 8 = 0) (hw : ∀ x ∈ ws, x < 2 ^ 64) (w : World) (HR : Reads w w.heap.size 1 A ws.length (wordVs ws)) :
    Calls Try.prog 10 #[.slice A ws.length c] w fun e w' =>
      ∃ o : RGeo, o.n = ws.length ∧ e = .returned (.pointer (some ⟨o.b, 0, none⟩)) ∧ IsRef w' o (newS (wsF ws)) ∧ (∀ i, o.F i → w.heap.size ≤ i) ∧ Below w.heap.size w w' := by
  obtain ⟨ad, rfl, hb, hc⟩ := HR.2 (by omega)
  refine RNew_yes ad ws.length c (wsF ws) h8 hmx hmod (wsF_lt hw) w hb (fun j hj => hc j _ ?_)
  rw [wordVs_at ws j hj]
  rfl
/-- the blocks of the document's memory are none of the program's, and new ones -/
def Apart10 (r : RGeo) (o : Geo) (B : Nat) : Prop := ∀ i, r.F i → ¬ o.F i ∧ i ≠ o.b ∧ B ≤ i

set_option maxRecDepth 100000 in
theorem NvmActs_few (A B : Option Addr) (n c m d : Nat) (HFEW : Hid (decide (n ≤ 64 ∧ m ≤ 200) = false)) (w : World) :
    Calls Try.prog 3 #[.slice A n c, .slice B m d] w (Keeps w) := by
  go_enter Try.func3, Try.ntmps3
  go_wp2_with fail
  refine (few_c A B n c m d _).mono ?_
  rintro e w1 ⟨rfl, rfl⟩
  rw [HFEW.out]
  go_wp2_with fail
  refine (live_c _).mono ?_
  rintro e w3 ⟨rfl, hb3⟩
  go_wp2
  go_ret
  exact ⟨rfl, hb3⟩

set_option maxRecDepth 100000 in
theorem NvmActs_low (A B : Option Addr) (n c m d : Nat) (HFEW : Hid (decide (n ≤ 64 ∧ m ≤ 200) = true)) (h8 : n < 8) (w : World) :
    Calls Try.prog 3 #[.slice A n c, .slice B m d] w (Keeps w) := by
  go_enter Try.func3, Try.ntmps3
  go_wp2_with fail
  refine (few_c A B n c m d _).mono ?_
  rintro e w1 ⟨rfl, rfl⟩
  rw [HFEW.out]
  go_wp2_with fail
  refine (New_low A n c h8 _).mono ?_
  rintro e w2 ⟨rfl, rfl⟩
  go_wp2_with fail
  refine (RNew_low A n c h8 _).mono ?_
  rintro e w2 ⟨rfl, rfl⟩
  go_wp2_with fail
  refine (live_c _).mono ?_
  rintro e w3 ⟨rfl, hb3⟩
  go_wp2
  go_ret
  exact ⟨rfl, hb3⟩

set_option maxRecDepth 100000 in
theorem NvmActs_mod (A B : Option Addr) (n c m d : Nat) (HFEW : Hid (decide (n ≤ 64 ∧ m ≤ 200) = true)) (h8 : 8 ≤ n) (hmx : n ≤ 65536) (hmod : n % 8 ≠ 0) (w : World) :
    Calls Try.prog 3 #[.slice A n c, .slice B m d] w (Keeps w) := by
  go_enter Try.func3, Try.ntmps3
  go_wp2_with fail
  refine (few_c A B n c m d _).mono ?_
  rintro e w1 ⟨rfl, rfl⟩
  rw [HFEW.out]
  go_wp2_with fail
  refine (New_mod A n c h8 hmx hmod _).mono ?_
  rintro e w2 ⟨rfl, rfl⟩
  go_wp2_with fail
  refine (RNew_mod A n c h8 hmx hmod _).mono ?_
  rintro e w2 ⟨rfl, rfl⟩
  go_wp2_with fail
  refine (live_c _).mono ?_
  rintro e w3 ⟨rfl, hb3⟩
  go_wp2
  go_ret
  exact ⟨rfl, hb3⟩

set_option maxRecDepth 100000 in
set_option maxHeartbeats 6400000 in
theorem NvmActs_main (A B : Option Addr) (c d m : Nat) (ws : List Nat) (l : List ActV) (n : Nat) (hcd : m ≤ d) (hdm : d ≤ maxLen) (HNN : Hid (ws.length = n)) (HMM : Hid (l.length = m)) (HWS : Hid (∀ y ∈ ws, y < 2 ^ 64)) (HLL : Hid (∀ a ∈ l, a.Ok))
    (hfew : n ≤ 64 ∧ m ≤ 200) (h8 : 8 ≤ n) (hmod : n % 8 = 0) (W : World) (HR : Hid (Reads W W.heap.size 1 A n (wordVs ws))) (HA : Hid (ActsAt W B l)) :
    Calls Try.prog 3 #[.slice A n c, .slice B m d] W (Keeps W) := by
  have hm2 : m ≤ 200 := hfew.2
  go_enter Try.func3, Try.ntmps3
  go_wp2_with fail
  refine (few_c A B n c m d _).mono ?_
  rintro e w1 ⟨rfl, rfl⟩
  rw [decide_eq_true hfew]
  go_wp2_with fail
  have hnew := New_ws A c ws (by have := HNN.out; omega) (by have := HNN.out; omega) (by have := HNN.out; omega) HWS.out w1 (by have := HR.out; rw [HNN.out]; exact this)
  rw [HNN.out] at hnew
  refine hnew.mono ?_
  rintro e w2 ⟨o, hon, rfl, hI, ob, og, oh, om, hB⟩
  have HR2 : Hid (Reads w2 w2.heap.size 1 A n (wordVs ws)) := hidp ((HR.out.below hB).more hB.size)
  subst hon
  have HO : Hid (o.New w1.heap.size) := hidp ⟨ob, og, oh, om⟩
  have HI2 := hidp hI
  have HB2 := hidp hB
  clear hnew hI ob og oh om hB
  go_wp2_with fail
  have hnew2 := RNew_ws A c ws (by have := HNN.out; omega) (by have := HNN.out; omega) (by have := HNN.out; omega) HWS.out w2 (by have := HR2.out; rw [HNN.out]; exact this)
  rw [HNN.out] at hnew2
  refine hnew2.mono ?_
  rintro e w3 ⟨r, hrn, rfl, hJ, hF, hB3⟩
  obtain ⟨rb, hrb⟩ : ∃ rb, r.b = rb := ⟨_, rfl⟩
  rw [hrb]
  have HI3 := hidp (HI2.out.keep hB3)
  have HJ3 := hidp hJ
  have HAP : Hid (Apart10 r o w1.heap.size) := hidp (fun i hi => by
    have h1 := hF i hi
    have h2 := HB2.out.size
    have h3 := HI2.out.head.lt
    exact ⟨fun hf => by have := HI2.out.Flt _ hf; omega, by omega, by omega⟩)
  have HB3 := hidp (Bgo HB2.out hB3)
  have HRB := hidp hrb
  have HRN := hidp hrn
  clear hnew2 hJ hF hB3 hrb hrn HI2 HB2 HR2
  go_wp2_with fail
  go_loopw [7] (fun i wr => ∃ (k : Nat) (s : Mst) (r : RGeo), k ≤ m ∧ i = .int .i64 k ∧ Hid (IsMem wr o k s) ∧ Hid (IsRef wr r s) ∧ Hid (r.b = rb) ∧ Hid (r.n = o.n) ∧ Hid (Apart10 r o w1.heap.size) ∧ Hid (Below w1.heap.size w1 wr)) (fun i _ => m - (intOf i).toNat)
  case atStart => exact ⟨0, _, r, by omega, rfl, HI3, HJ3, HRB, HRN, HAP, HB3⟩
  case round =>
    clear HI3 HJ3 HRB HRN HAP HB3
    obtain ⟨k, s, r, hk, rfl, HI, HJ, HRB, HRN, HAP, HB⟩ := hrel
    by_cases hlt : k < m
    · obtain ⟨a, ha⟩ : ∃ a, l[k]? = some a := ⟨_, List.getElem?_eq_getElem (by rw [HMM.out]; omega)⟩
      have HAO := hidp (HLL.out a (List.mem_of_getElem? ha))
      obtain ⟨ad, rfl, _, _⟩ := HA.out k a ha
      have HAC : Hid (∀ w', Below w1.heap.size w1 w' → ActCells w' (ad.add (k * 6)) a) := hidp (fun w' hb => (HA.out.below hb).cells ha)
      obtain ⟨x0, x1, x2, x3, x4, x5⟩ := HAC.out _ HB.out
      clear ha
      have hnx := HI.out.nmax
      go_wp2_with fail
      refine (Do_m o k s a HAO.out (by omega) _ HI.out).mono ?_
      rintro e w5 ⟨rfl, hI5, hT5⟩
      have HI5 := hidp hI5
      have HJ5 := hidp (HJ.out.turns hT5 (fun i hi => (HAP.out i hi).1))
      have HB5 := hidp (hT5.below HB.out HO.out.F)
      clear hI5 hT5 x0 x1 x2 x3 x4 x5
      obtain ⟨x0, x1, x2, x3, x4, x5⟩ := HAC.out _ HB5.out
      go_wp2_with fail
      have hdo := RDo_m r s a HAO.out w5 HJ5.out
      rw [HRB.out, HRN.out] at hdo
      refine hdo.mono ?_
      rintro e w6 ⟨rfl, r', hrb', hrn', hJ6, hF6, hT6⟩
      have HJ6 := hidp hJ6
      have HI6 := hidp (HI5.out.turns hT6 (fun hf => (HAP.out _ hf).2.1 rfl) (fun hf => (HAP.out _ hf).1 (.inl rfl)) (fun hf => (HAP.out _ hf).1 (.inr (.inl rfl))) (fun hf => (HAP.out _ hf).1 (.inr (.inr rfl))))
      have HB6 := hidp (hT6.below HB5.out (fun i hi => (HAP.out i hi).2.2))
      have HAP6 : Hid (Apart10 r' o w1.heap.size) := hidp (fun i hi => by
        rcases hF6 i hi with h1 | h1
        · exact HAP.out i h1
        · have h2 := HB5.out.size
          have h3 := HI5.out.head.lt
          exact ⟨fun hf => by have := HI5.out.Flt _ hf; omega, by omega, by omega⟩)
      have HRB6 := hidp hrb'
      have HRN6 := hidp hrn'
      clear hdo hrb' hrn' hJ6 hF6 hT6 x0 x1 x2 x3 x4 x5 HI5 HJ5 HB5 HI HJ HB
      obtain ⟨x0, x1, x2, x3, x4, x5⟩ := HAC.out _ HB6.out
      have y0 := HJ6.out.c0
      have y1 := HJ6.out.c1
      rw [HRB6.out, HRN6.out] at y0 y1
      have hrw := HJ6.out.words
      have hrk := HJ6.out.kept
      rw [HRN6.out] at hrw hrk
      have HRW := hidp hrw
      have HRK := hidp hrk
      have RPend : Hid (∀ w', Below w6.heap.size w6 w' → Calls Try.prog 18 #[.pointer (some ⟨rb, 0, none⟩), .int .i64 a.who] w' fun e w'' =>
          ∃ v, e = .returned v ∧ w''.ownsRow w'.heap.size 3 1 v (pendL (o.n / 8) (stepS o.n s a).P a.who).length ((castL (pendL (o.n / 8) (stepS o.n s a).P a.who)).map (Value.int .i64)) ∧ Below w'.heap.size w' w'') := hidp (fun w' hb => by
        have := RPending_m r' _ a.who w' (HJ6.out.keep hb)
        rwa [HRB6.out, HRN6.out] at this)
      have hlim : k + 1 < 2 ^ 40 := by omega
      clear x0 x2 x3 x4 x5 hrw hrk
      generalize stepS o.n s a = s' at *
      generalize tellN o.n s a = tn at *
      generalize tellB o.n s a = tb at *
      go_wp2_with fail
      refine wp_region_held_drew (S := (fun w' => w'.cell? ⟨rb, 0, none⟩ = some (.slice (some ⟨r'.g, 0, none⟩) o.n r'.cg) ∧ w'.cell? ⟨rb, 1, none⟩ = some (.slice (some ⟨r'.h, 0, none⟩) o.n r'.ch) ∧ w'.cell? ⟨(ad.add (k * 6)).block, (ad.add (k * 6)).off + 1, none⟩ = some (.int .i64 a.who))) (by kernel_rfl) ?_ (fun hHeld => ?_)
      · (try dsimp only)
        first | exact ⟨y0, y1, x1⟩ | exact ⟨hst _ _ hHeld.1, hst _ _ hHeld.2.1, hst _ _ hHeld.2.2⟩ | exact hHeld
      refine wpAnyH_take (i := 0) (oi := _) (v := ?_) rfl (by kernel_rfl) (by kernel_rfl) (by kernel_rfl) (fun _ _ _ h => h) (Or.inl ⟨by rfl, ?_⟩) (by assumption) ?_
      rotate_left
      · intro w hSw; (try dsimp only at hSw); go_simp; (try with_reducible rfl)
      (try simp only [Act.put, List.getElem_toArray, List.getElem_cons_zero, List.getElem_cons_succ, List.setIfInBounds_toArray, List.set_cons_zero, List.set_cons_succ])
      refine wpAnyH_take (i := 1) (oi := _) (v := ?_) rfl (by kernel_rfl) (by kernel_rfl) (by kernel_rfl) (fun _ _ _ h => h) (Or.inl ⟨by rfl, ?_⟩) (by assumption) ?_
      rotate_left
      · intro w hSw; (try dsimp only at hSw); go_simp; (try with_reducible rfl)
      (try simp only [Act.put, List.getElem_toArray, List.getElem_cons_zero, List.getElem_cons_succ, List.setIfInBounds_toArray, List.set_cons_zero, List.set_cons_succ])
      refine wpAnyH_take (i := 2) (oi := _) (v := ?_) rfl (by kernel_rfl) (by kernel_rfl) (by kernel_rfl) (fun _ _ _ h => h) (Or.inl ⟨by rfl, ?_⟩) (by assumption) ?_
      rotate_left
      · intro w hSw; (try dsimp only at hSw); go_simp; (try with_reducible rfl)
      (try simp only [Act.put, List.getElem_toArray, List.getElem_cons_zero, List.getElem_cons_succ, List.setIfInBounds_toArray, List.set_cons_zero, List.set_cons_succ])
      refine wpAnyH_take (i := 3) (oi := _) (v := ?_) rfl (by kernel_rfl) (by kernel_rfl) (by kernel_rfl) (fun _ _ _ h => h) (Or.inl ⟨by rfl, ?_⟩) (by assumption) ?_
      rotate_left
      · intro w hSw; (try dsimp only at hSw); go_simp; (try with_reducible rfl)
      (try simp only [Act.put, List.getElem_toArray, List.getElem_cons_zero, List.getElem_cons_succ, List.setIfInBounds_toArray, List.set_cons_zero, List.set_cons_succ])
      refine wpAnyH_take (i := 4) (oi := _) (v := ?_) rfl (by kernel_rfl) (by kernel_rfl) (by kernel_rfl) (fun _ _ _ h => h) (Or.inl ⟨by rfl, ?_⟩) (by assumption) ?_
      rotate_left
      · intro w hSw; (try dsimp only at hSw); go_simp; (try with_reducible rfl)
      (try simp only [Act.put, List.getElem_toArray, List.getElem_cons_zero, List.getElem_cons_succ, List.setIfInBounds_toArray, List.set_cons_zero, List.set_cons_succ])
      refine wpAnyH_take (i := 5) (oi := _) (v := ?_) rfl (by kernel_rfl) (by kernel_rfl) (by kernel_rfl) (fun _ _ _ h => h) (Or.inl ⟨by rfl, ?_⟩) (by assumption) ?_
      rotate_left
      · intro w hSw; (try dsimp only at hSw); go_simp; (try with_reducible rfl)
      (try simp only [Act.put, List.getElem_toArray, List.getElem_cons_zero, List.getElem_cons_succ, List.setIfInBounds_toArray, List.set_cons_zero, List.set_cons_succ])
      refine wpAnyH_take (i := 6) (oi := _) (v := ?_) rfl (by kernel_rfl) (by kernel_rfl) (by kernel_rfl) (fun _ _ _ h => h) (Or.inl ⟨by rfl, ?_⟩) (by assumption) ?_
      rotate_left
      · intro w hSw; (try dsimp only at hSw); go_simp; (try with_reducible rfl)
      (try simp only [Act.put, List.getElem_toArray, List.getElem_cons_zero, List.getElem_cons_succ, List.setIfInBounds_toArray, List.set_cons_zero, List.set_cons_succ])
      refine wpAnyH_take (i := 7) (oi := _) (v := ?_) rfl (by kernel_rfl) (by kernel_rfl) (by kernel_rfl) (fun _ _ _ h => h) (Or.inl ⟨by rfl, ?_⟩) (by assumption) ?_
      rotate_left
      · intro w hSw; (try dsimp only at hSw); go_simp; (try with_reducible rfl)
      (try simp only [Act.put, List.getElem_toArray, List.getElem_cons_zero, List.getElem_cons_succ, List.setIfInBounds_toArray, List.set_cons_zero, List.set_cons_succ])
      refine wpAnyH_take (i := 8) (oi := _) (v := ?_) rfl (by kernel_rfl) (by kernel_rfl) (by kernel_rfl) (fun _ _ _ h => h) (Or.inl ⟨by rfl, ?_⟩) (by assumption) ?_
      rotate_left
      · intro w hSw; (try dsimp only at hSw); go_simp; (try with_reducible rfl)
      (try simp only [Act.put, List.getElem_toArray, List.getElem_cons_zero, List.getElem_cons_succ, List.setIfInBounds_toArray, List.set_cons_zero, List.set_cons_succ])
      refine wpAnyH_take (i := 9) (oi := _) (v := ?_) rfl (by kernel_rfl) (by kernel_rfl) (by kernel_rfl) (fun _ _ _ h => h) (Or.inl ⟨by rfl, ?_⟩) (by assumption) ?_
      rotate_left
      · intro w hSw; (try dsimp only at hSw); go_simp; (try with_reducible rfl)
      (try simp only [Act.put, List.getElem_toArray, List.getElem_cons_zero, List.getElem_cons_succ, List.setIfInBounds_toArray, List.set_cons_zero, List.set_cons_succ])
      refine wpAnyH_take (i := 11) (oi := _) (v := ?_) rfl (by kernel_rfl) (by kernel_rfl) (by kernel_rfl) (fun _ _ _ h => h) (Or.inl ⟨by rfl, ?_⟩) (by assumption) ?_
      rotate_left
      · intro w hSw; (try dsimp only at hSw); go_simp; (try with_reducible rfl)
      (try simp only [Act.put, List.getElem_toArray, List.getElem_cons_zero, List.getElem_cons_succ, List.setIfInBounds_toArray, List.set_cons_zero, List.set_cons_succ])
      refine wpAnyH_take (i := 12) (oi := _) (v := ?_) rfl (by kernel_rfl) (by kernel_rfl) (by kernel_rfl) (fun _ _ _ h => h) (Or.inl ⟨by rfl, ?_⟩) (by assumption) ?_
      rotate_left
      · intro w hSw; (try dsimp only at hSw); go_simp; (try with_reducible rfl)
      (try simp only [Act.put, List.getElem_toArray, List.getElem_cons_zero, List.getElem_cons_succ, List.setIfInBounds_toArray, List.set_cons_zero, List.set_cons_succ])
      refine wpAnyH_take (i := 13) (oi := _) (v := ?_) rfl (by kernel_rfl) (by kernel_rfl) (by kernel_rfl) (fun _ _ _ h => h) (Or.inl ⟨by rfl, ?_⟩) (by assumption) ?_
      rotate_left
      · intro w hSw; (try dsimp only at hSw); go_simp; (try with_reducible rfl)
      (try simp only [Act.put, List.getElem_toArray, List.getElem_cons_zero, List.getElem_cons_succ, List.setIfInBounds_toArray, List.set_cons_zero, List.set_cons_succ])
      refine wpAnyH_take (i := 14) (oi := _) (v := ?_) rfl (by kernel_rfl) (by kernel_rfl) (by kernel_rfl) (fun _ _ _ h => h) (Or.inl ⟨by rfl, ?_⟩) (by assumption) ?_
      rotate_left
      · intro w hSw; (try dsimp only at hSw); go_simp; (try with_reducible rfl)
      (try simp only [Act.put, List.getElem_toArray, List.getElem_cons_zero, List.getElem_cons_succ, List.setIfInBounds_toArray, List.set_cons_zero, List.set_cons_succ])
      refine wpAnyH_ready (rs := [10]) (by kernel_rfl) (by simp) ?_
      refine AllReadyH.cons (o := _) rfl (fun K hK => ?_) AllReadyH.nil
      go_simp
      refine (Words_m o _ _ _ (HI6.out.keep (Bdrew (B0 _)))).mono ?_; rintro e wa ⟨ga, ca, rfl, _, hra, hba⟩; have HRa := hidp hra; have HBa := hidp (Bgo (Bdrew (B0 w6)) hba); have hst := cells_stay hba; clear hra hba
      refine hK.out _ _ ?_ (fun hHeld => ?_)
      · (try dsimp only)
        first | exact ⟨y0, y1, x1⟩ | exact ⟨hst _ _ hHeld.1, hst _ _ hHeld.2.1, hst _ _ hHeld.2.2⟩ | exact hHeld
      clear hK K
      (try simp only [Act.put, List.getElem_toArray, List.getElem_cons_zero, List.getElem_cons_succ, List.setIfInBounds_toArray, List.set_cons_zero, List.set_cons_succ])
      refine wpAnyH_ready (rs := [15]) (by kernel_rfl) (by simp) ?_
      refine AllReadyH.cons (o := _) rfl (fun K hK => ?_) AllReadyH.nil
      go_simp
      refine (WordsRow_c ga r'.g o.n ca r'.cg _ hnx _ HRa.out (HRW.out.keep HBa.out)).mono ?_; rintro e wb ⟨rfl, ja, rfl⟩; have hst := cells_stay (Bdraw (B0 wa) ja); have HBb := hidp (Bdraw HBa.out ja); clear HRa HBa
      refine hK.out _ _ ?_ (fun hHeld => ?_)
      · (try dsimp only)
        first | exact ⟨y0, y1, x1⟩ | exact ⟨hst _ _ hHeld.1, hst _ _ hHeld.2.1, hst _ _ hHeld.2.2⟩ | exact hHeld
      clear hK K
      (try simp only [Act.put, List.getElem_toArray, List.getElem_cons_zero, List.getElem_cons_succ, List.setIfInBounds_toArray, List.set_cons_zero, List.set_cons_succ])
      refine wpAnyH_take (i := 16) (oi := _) (v := ?_) rfl (by kernel_rfl) (by kernel_rfl) (by kernel_rfl) (fun _ _ _ h => h) (Or.inl ⟨by rfl, ?_⟩) (by assumption) ?_
      rotate_left
      · intro w hSw; (try dsimp only at hSw); go_simp; (try with_reducible rfl)
      (try simp only [Act.put, List.getElem_toArray, List.getElem_cons_zero, List.getElem_cons_succ, List.setIfInBounds_toArray, List.set_cons_zero, List.set_cons_succ])
      refine wpAnyH_take (i := 17) (oi := _) (v := ?_) rfl (by kernel_rfl) (by kernel_rfl) (by kernel_rfl) (fun _ _ _ h => h) (Or.inl ⟨by rfl, ?_⟩) (by assumption) ?_
      rotate_left
      · intro w hSw; (try dsimp only at hSw); go_simp; (try with_reducible rfl)
      (try simp only [Act.put, List.getElem_toArray, List.getElem_cons_zero, List.getElem_cons_succ, List.setIfInBounds_toArray, List.set_cons_zero, List.set_cons_succ])
      refine wpAnyH_take (i := 18) (oi := _) (v := ?_) rfl (by kernel_rfl) (by kernel_rfl) (by kernel_rfl) (fun _ _ _ h => h) (Or.inl ⟨by rfl, ?_⟩) (by assumption) ?_
      rotate_left
      · intro w hSw; (try dsimp only at hSw); go_simp; (try with_reducible rfl)
      (try simp only [Act.put, List.getElem_toArray, List.getElem_cons_zero, List.getElem_cons_succ, List.setIfInBounds_toArray, List.set_cons_zero, List.set_cons_succ])
      refine wpAnyH_take (i := 19) (oi := _) (v := ?_) rfl (by kernel_rfl) (by kernel_rfl) (by kernel_rfl) (fun _ _ _ h => h) (Or.inl ⟨by rfl, ?_⟩) (by assumption) ?_
      rotate_left
      · intro w hSw; (try dsimp only at hSw); go_simp; (try with_reducible rfl)
      (try simp only [Act.put, List.getElem_toArray, List.getElem_cons_zero, List.getElem_cons_succ, List.setIfInBounds_toArray, List.set_cons_zero, List.set_cons_succ])
      refine wpAnyH_take (i := 21) (oi := _) (v := ?_) rfl (by kernel_rfl) (by kernel_rfl) (by kernel_rfl) (fun _ _ _ h => h) (Or.inl ⟨by rfl, ?_⟩) (by assumption) ?_
      rotate_left
      · intro w hSw; (try dsimp only at hSw); go_simp; (try with_reducible rfl)
      (try simp only [Act.put, List.getElem_toArray, List.getElem_cons_zero, List.getElem_cons_succ, List.setIfInBounds_toArray, List.set_cons_zero, List.set_cons_succ])
      refine wpAnyH_take (i := 22) (oi := _) (v := ?_) rfl (by kernel_rfl) (by kernel_rfl) (by kernel_rfl) (fun _ _ _ h => h) (Or.inl ⟨by rfl, ?_⟩) (by assumption) ?_
      rotate_left
      · intro w hSw; (try dsimp only at hSw); go_simp; (try with_reducible rfl)
      (try simp only [Act.put, List.getElem_toArray, List.getElem_cons_zero, List.getElem_cons_succ, List.setIfInBounds_toArray, List.set_cons_zero, List.set_cons_succ])
      refine wpAnyH_take (i := 23) (oi := _) (v := ?_) rfl (by kernel_rfl) (by kernel_rfl) (by kernel_rfl) (fun _ _ _ h => h) (Or.inl ⟨by rfl, ?_⟩) (by assumption) ?_
      rotate_left
      · intro w hSw; (try dsimp only at hSw); go_simp; (try with_reducible rfl)
      (try simp only [Act.put, List.getElem_toArray, List.getElem_cons_zero, List.getElem_cons_succ, List.setIfInBounds_toArray, List.set_cons_zero, List.set_cons_succ])
      refine wpAnyH_take (i := 24) (oi := _) (v := ?_) rfl (by kernel_rfl) (by kernel_rfl) (by kernel_rfl) (fun _ _ _ h => h) (Or.inl ⟨by rfl, ?_⟩) (by assumption) ?_
      rotate_left
      · intro w hSw; (try dsimp only at hSw); go_simp; (try with_reducible rfl)
      (try simp only [Act.put, List.getElem_toArray, List.getElem_cons_zero, List.getElem_cons_succ, List.setIfInBounds_toArray, List.set_cons_zero, List.set_cons_succ])
      refine wpAnyH_ready (rs := [20]) (by kernel_rfl) (by simp) ?_
      refine AllReadyH.cons (o := _) rfl (fun K hK => ?_) AllReadyH.nil
      go_simp
      refine (Kept_m o _ _ _ (HI6.out.keep HBb.out)).mono ?_; rintro e wc ⟨gc, cc, rfl, _, hrc, hbc⟩; have HRc := hidp hrc; have HBc := hidp (Bgo HBb.out hbc); have hst := cells_stay hbc; clear hrc hbc HBb
      refine hK.out _ _ ?_ (fun hHeld => ?_)
      · (try dsimp only)
        first | exact ⟨y0, y1, x1⟩ | exact ⟨hst _ _ hHeld.1, hst _ _ hHeld.2.1, hst _ _ hHeld.2.2⟩ | exact hHeld
      clear hK K
      (try simp only [Act.put, List.getElem_toArray, List.getElem_cons_zero, List.getElem_cons_succ, List.setIfInBounds_toArray, List.set_cons_zero, List.set_cons_succ])
      refine wpAnyH_ready (rs := [25]) (by kernel_rfl) (by simp) ?_
      refine AllReadyH.cons (o := _) rfl (fun K hK => ?_) AllReadyH.nil
      go_simp
      refine (WordsRow_c gc r'.h o.n cc r'.ch _ hnx _ HRc.out (HRK.out.keep HBc.out)).mono ?_; rintro e wd ⟨rfl, jc, rfl⟩; have hst := cells_stay (Bdraw (B0 wc) jc); have HBd := hidp (Bdraw HBc.out jc); clear HRc HBc
      refine hK.out _ _ ?_ (fun hHeld => ?_)
      · (try dsimp only)
        first | exact ⟨y0, y1, x1⟩ | exact ⟨hst _ _ hHeld.1, hst _ _ hHeld.2.1, hst _ _ hHeld.2.2⟩ | exact hHeld
      clear hK K
      (try simp only [Act.put, List.getElem_toArray, List.getElem_cons_zero, List.getElem_cons_succ, List.setIfInBounds_toArray, List.set_cons_zero, List.set_cons_succ])
      refine wpAnyH_take (i := 26) (oi := _) (v := ?_) rfl (by kernel_rfl) (by kernel_rfl) (by kernel_rfl) (fun _ _ _ h => h) (Or.inl ⟨by rfl, ?_⟩) (by assumption) ?_
      rotate_left
      · intro w hSw; (try dsimp only at hSw); go_simp; (try with_reducible rfl)
      (try simp only [Act.put, List.getElem_toArray, List.getElem_cons_zero, List.getElem_cons_succ, List.setIfInBounds_toArray, List.set_cons_zero, List.set_cons_succ])
      refine wpAnyH_take (i := 27) (oi := _) (v := ?_) rfl (by kernel_rfl) (by kernel_rfl) (by kernel_rfl) (fun _ _ _ h => h) (Or.inl ⟨by rfl, ?_⟩) (by assumption) ?_
      rotate_left
      · intro w hSw; (try dsimp only at hSw); go_simp; (try with_reducible rfl)
      (try simp only [Act.put, List.getElem_toArray, List.getElem_cons_zero, List.getElem_cons_succ, List.setIfInBounds_toArray, List.set_cons_zero, List.set_cons_succ])
      refine wpAnyH_take (i := 28) (oi := _) (v := ?_) rfl (by kernel_rfl) (by kernel_rfl) (by kernel_rfl) (fun _ _ _ h => h) (Or.inl ⟨by rfl, ?_⟩) (by assumption) ?_
      rotate_left
      · intro w hSw; (try dsimp only at hSw); go_simp; (try with_reducible rfl)
      (try simp only [Act.put, List.getElem_toArray, List.getElem_cons_zero, List.getElem_cons_succ, List.setIfInBounds_toArray, List.set_cons_zero, List.set_cons_succ])
      refine wpAnyH_take (i := 29) (oi := _) (v := ?_) rfl (by kernel_rfl) (by kernel_rfl) (by kernel_rfl) (fun _ _ _ h => h) (Or.inl ⟨by rfl, ?_⟩) (by assumption) ?_
      rotate_left
      · intro w hSw; (try dsimp only at hSw); go_simp; (try with_reducible rfl)
      (try simp only [Act.put, List.getElem_toArray, List.getElem_cons_zero, List.getElem_cons_succ, List.setIfInBounds_toArray, List.set_cons_zero, List.set_cons_succ])
      refine wpAnyH_take (i := 30) (oi := _) (v := ?_) rfl (by kernel_rfl) (by kernel_rfl) (by kernel_rfl) (fun _ _ _ h => h) (Or.inl ⟨by rfl, ?_⟩) (by assumption) ?_
      rotate_left
      · intro w hSw; (try dsimp only at hSw); go_simp; (try with_reducible rfl)
      (try simp only [Act.put, List.getElem_toArray, List.getElem_cons_zero, List.getElem_cons_succ, List.setIfInBounds_toArray, List.set_cons_zero, List.set_cons_succ])
      refine wpAnyH_take (i := 31) (oi := _) (v := ?_) rfl (by kernel_rfl) (by kernel_rfl) (by kernel_rfl) (fun _ _ _ h => h) (Or.inl ⟨by rfl, ?_⟩) (by assumption) ?_
      rotate_left
      · intro w hSw; (try dsimp only at hSw); go_simp; (try with_reducible rfl)
      (try simp only [Act.put, List.getElem_toArray, List.getElem_cons_zero, List.getElem_cons_succ, List.setIfInBounds_toArray, List.set_cons_zero, List.set_cons_succ])
      refine wpAnyH_take (i := 32) (oi := _) (v := ?_) rfl (by kernel_rfl) (by kernel_rfl) (by kernel_rfl) (fun _ _ _ h => h) (Or.inl ⟨by rfl, ?_⟩) (by assumption) ?_
      rotate_left
      · intro w hSw; (try dsimp only at hSw); go_simp; (try with_reducible rfl)
      (try simp only [Act.put, List.getElem_toArray, List.getElem_cons_zero, List.getElem_cons_succ, List.setIfInBounds_toArray, List.set_cons_zero, List.set_cons_succ])
      refine wpAnyH_take (i := 33) (oi := _) (v := ?_) rfl (by kernel_rfl) (by kernel_rfl) (by kernel_rfl) (fun _ _ _ h => h) (Or.inl ⟨by rfl, ?_⟩) (by assumption) ?_
      rotate_left
      · intro w hSw; (try dsimp only at hSw); go_simp; (try with_reducible rfl)
      (try simp only [Act.put, List.getElem_toArray, List.getElem_cons_zero, List.getElem_cons_succ, List.setIfInBounds_toArray, List.set_cons_zero, List.set_cons_succ])
      refine wpAnyH_take (i := 34) (oi := _) (v := ?_) rfl (by kernel_rfl) (by kernel_rfl) (by kernel_rfl) (fun _ _ _ h => h) (Or.inl ⟨by rfl, ?_⟩) (by assumption) ?_
      rotate_left
      · intro w hSw; (try dsimp only at hSw); go_simp; (try with_reducible rfl)
      (try simp only [Act.put, List.getElem_toArray, List.getElem_cons_zero, List.getElem_cons_succ, List.setIfInBounds_toArray, List.set_cons_zero, List.set_cons_succ])
      refine wpAnyH_take (i := 36) (oi := _) (v := ?_) rfl (by kernel_rfl) (by kernel_rfl) (by kernel_rfl) (fun _ _ _ h => h) (Or.inl ⟨by rfl, ?_⟩) (by assumption) ?_
      rotate_left
      · intro w hSw; (try dsimp only at hSw); go_simp; (try with_reducible rfl)
      (try simp only [Act.put, List.getElem_toArray, List.getElem_cons_zero, List.getElem_cons_succ, List.setIfInBounds_toArray, List.set_cons_zero, List.set_cons_succ])
      refine wpAnyH_take (i := 37) (oi := _) (v := ?_) rfl (by kernel_rfl) (by kernel_rfl) (by kernel_rfl) (fun _ _ _ h => h) (Or.inl ⟨by rfl, ?_⟩) (by assumption) ?_
      rotate_left
      · intro w hSw; (try dsimp only at hSw); go_simp; (try with_reducible rfl)
      (try simp only [Act.put, List.getElem_toArray, List.getElem_cons_zero, List.getElem_cons_succ, List.setIfInBounds_toArray, List.set_cons_zero, List.set_cons_succ])
      refine wpAnyH_take (i := 38) (oi := _) (v := ?_) rfl (by kernel_rfl) (by kernel_rfl) (by kernel_rfl) (fun _ _ _ h => h) (Or.inl ⟨by rfl, ?_⟩) (by assumption) ?_
      rotate_left
      · intro w hSw; (try dsimp only at hSw); go_simp; (try with_reducible rfl)
      (try simp only [Act.put, List.getElem_toArray, List.getElem_cons_zero, List.getElem_cons_succ, List.setIfInBounds_toArray, List.set_cons_zero, List.set_cons_succ])
      refine wpAnyH_take (i := 39) (oi := _) (v := ?_) rfl (by kernel_rfl) (by kernel_rfl) (by kernel_rfl) (fun _ _ _ h => h) (Or.inl ⟨by rfl, ?_⟩) (by assumption) ?_
      rotate_left
      · intro w hSw; (try dsimp only at hSw); go_simp; (try with_reducible rfl)
      (try simp only [Act.put, List.getElem_toArray, List.getElem_cons_zero, List.getElem_cons_succ, List.setIfInBounds_toArray, List.set_cons_zero, List.set_cons_succ])
      refine wpAnyH_take (i := 40) (oi := _) (v := ?_) rfl (by kernel_rfl) (by kernel_rfl) (by kernel_rfl) (fun _ _ _ h => h) (Or.inl ⟨by rfl, ?_⟩) (by assumption) ?_
      rotate_left
      · intro w hSw; (try dsimp only at hSw); go_simp; (try with_reducible rfl)
      (try simp only [Act.put, List.getElem_toArray, List.getElem_cons_zero, List.getElem_cons_succ, List.setIfInBounds_toArray, List.set_cons_zero, List.set_cons_succ])
      refine wpAnyH_take (i := 41) (oi := _) (v := ?_) rfl (by kernel_rfl) (by kernel_rfl) (by kernel_rfl) (fun _ _ _ h => h) (Or.inl ⟨by rfl, ?_⟩) (by assumption) ?_
      rotate_left
      · intro w hSw; (try dsimp only at hSw); go_simp; (try with_reducible rfl)
      (try simp only [Act.put, List.getElem_toArray, List.getElem_cons_zero, List.getElem_cons_succ, List.setIfInBounds_toArray, List.set_cons_zero, List.set_cons_succ])
      refine wpAnyH_ready (rs := [35]) (by kernel_rfl) (by simp) ?_
      refine AllReadyH.cons (o := _) rfl (fun K hK => ?_) AllReadyH.nil
      go_simp
      refine (Pending_m o _ _ a.who HAO.out.who hlim _ (HI6.out.keep HBd.out)).mono ?_; rintro e we ⟨ve, rfl, hoe, hbe⟩; have HOe := hidp (own_rowV hoe); have HBe := hidp (Bgo HBd.out hbe); have hst := cells_stay hbe; clear hoe hbe HBd
      refine hK.out _ _ ?_ (fun hHeld => ?_)
      · (try dsimp only)
        first | exact ⟨y0, y1, x1⟩ | exact ⟨hst _ _ hHeld.1, hst _ _ hHeld.2.1, hst _ _ hHeld.2.2⟩ | exact hHeld
      clear hK K
      (try simp only [Act.put, List.getElem_toArray, List.getElem_cons_zero, List.getElem_cons_succ, List.setIfInBounds_toArray, List.set_cons_zero, List.set_cons_succ])
      refine wpAnyH_ready (rs := [42]) (by kernel_rfl) (by simp) ?_
      refine AllReadyH.cons (o := _) rfl (fun K hK => ?_) AllReadyH.nil
      go_simp
      refine (RPend.out _ HBe.out).mono ?_; rintro e wf ⟨vf, rfl, hof, hbf⟩; have HOf := hidp (own_rowV hof); have HOe2 := hidp (HOe.out.below hbf); have HBf := hidp (Bgo HBe.out hbf); have hst := cells_stay hbf; clear hof hbf HBe HOe
      refine hK.out _ _ ?_ (fun hHeld => ?_)
      · (try dsimp only)
        first | exact ⟨y0, y1, x1⟩ | exact ⟨hst _ _ hHeld.1, hst _ _ hHeld.2.1, hst _ _ hHeld.2.2⟩ | exact hHeld
      clear hK K
      (try simp only [Act.put, List.getElem_toArray, List.getElem_cons_zero, List.getElem_cons_succ, List.setIfInBounds_toArray, List.set_cons_zero, List.set_cons_succ])
      refine wpAnyH_ready (rs := [43]) (by kernel_rfl) (by simp) ?_
      refine AllReadyH.cons (o := _) rfl (fun K hK => ?_) AllReadyH.nil
      go_simp
      refine (Ints_same _ ve vf _ HOe2.out HOf.out).mono ?_; rintro e wg ⟨rfl, jf, rfl⟩; have hst := cells_stay (Bdraw (B0 wf) jf); have HBg := hidp (Bdraw HBf.out jf); clear HOf HOe2 HBf
      refine hK.out _ _ ?_ (fun hHeld => ?_)
      · (try dsimp only)
        first | exact ⟨y0, y1, x1⟩ | exact ⟨hst _ _ hHeld.1, hst _ _ hHeld.2.1, hst _ _ hHeld.2.2⟩ | exact hHeld
      clear hK K
      (try simp only [Act.put, List.getElem_toArray, List.getElem_cons_zero, List.getElem_cons_succ, List.setIfInBounds_toArray, List.set_cons_zero, List.set_cons_succ])
      refine wpAnyH_take (i := 44) (oi := _) (v := ?_) rfl (by kernel_rfl) (by kernel_rfl) (by kernel_rfl) (fun _ _ _ h => h) (Or.inl ⟨by rfl, ?_⟩) (by assumption) ?_
      rotate_left
      · intro w hSw; (try dsimp only at hSw); go_simp; (try with_reducible rfl)
      (try simp only [Act.put, List.getElem_toArray, List.getElem_cons_zero, List.getElem_cons_succ, List.setIfInBounds_toArray, List.set_cons_zero, List.set_cons_succ])
      refine wpAnyH_take (i := 45) (oi := _) (v := ?_) rfl (by kernel_rfl) (by kernel_rfl) (by kernel_rfl) (fun _ _ _ h => h) (Or.inl ⟨by rfl, ?_⟩) (by assumption) ?_
      rotate_left
      · intro w hSw; (try dsimp only at hSw); go_simp; (try with_reducible rfl)
      (try simp only [Act.put, List.getElem_toArray, List.getElem_cons_zero, List.getElem_cons_succ, List.setIfInBounds_toArray, List.set_cons_zero, List.set_cons_succ])
      refine wpAnyH_done (by kernel_rfl) ?_ _
      go_wp2
      go_roundw
      case rel => exact ⟨k + 1, _, r', by omega, by go_num, hidp (HI6.out.keep HBg.out), hidp (HJ6.out.keep HBg.out), HRB6, HRN6, HAP6, hidp (Bgo HB6.out HBg.out)⟩
      case measure => simp [intOf]; omega
    · obtain rfl : k = m := by omega
      go_wp2_with fail
      refine (live_c _).mono ?_
      rintro e w9 ⟨rfl, hb9⟩
      go_wp2
      go_ret
      exact ⟨rfl, Bgo HB.out hb9⟩

theorem NvmActs_calls (A B : Option Addr) (c d : Nat) (ws : List Nat) (l : List ActV) (hcd : l.length ≤ d) (hdm : d ≤ maxLen) (hw : ∀ y ∈ ws, y < 2 ^ 64) (hl : ∀ a ∈ l, a.Ok) (W : World) (HR : Hid (Reads W W.heap.size 1 A ws.length (wordVs ws))) (HA : Hid (ActsAt W B l)) :
    Calls Try.prog 3 #[.slice A ws.length c, .slice B l.length d] W (Keeps W) := by
  by_cases hfew : ws.length ≤ 64 ∧ l.length ≤ 200
  · have HF := hidp (decide_eq_true hfew)
    rcases Nat.lt_or_ge ws.length 8 with h8 | h8
    · exact NvmActs_low A B _ c _ d HF h8 W
    · by_cases hmod : ws.length % 8 = 0
      · exact NvmActs_main A B c d _ ws l _ hcd hdm (hidp rfl) (hidp rfl) (hidp hw) (hidp hl) hfew h8 hmod W HR HA
      · exact NvmActs_mod A B _ c _ d HF h8 (by omega) hmod W
  · exact NvmActs_few A B _ c _ d (hidp (decide_eq_false hfew)) W
end Go.Proofs.Ytobeapibiebpaaa
