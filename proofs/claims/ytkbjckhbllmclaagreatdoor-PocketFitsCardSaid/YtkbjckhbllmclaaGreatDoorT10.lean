/-
  The document's rules 2, 3, 4. Written by doc12/gen_rules.py.
-/
import Derived.Test.YtkbjckhbllmclaaGreatDoorT09
import Derived.Test.YtkbjckhbllmclaaGreatDoorT06
namespace Go.Proofs.YtkbjckhbllmclaaGreatDoor
open Go.ChangeShapes Go.WideShapes Go.ChangeAt Go.RowKit Go.Shelf
set_option linter.unusedVariables false
set_option linter.unusedSimpArgs false
section
def LRow (w : World) (g : Nat) (l : List Nat) : Prop := g < w.heap.size ∧ ∀ (i a : Nat), l[i]? = some a → w.cell? ⟨g, i, none⟩ = some (.int .i64 (a : Int))
theorem LRow.keep {w w' : World} {g : Nat} {l : List Nat} (h : LRow w g l) (hb : Below w.heap.size w w') : LRow w' g l :=
  ⟨Nat.lt_of_lt_of_le h.1 hb.size, fun i a hi => (hb.cell (p := ⟨g, i, none⟩) h.1).trans (h.2 i a hi)⟩
theorem LRow.drew {w : World} {g : Nat} {l : List Nat} (h : LRow w g l) : LRow w.drew g l := h
def StartsYes (H : AuH) (w : World) (e : Ending) (w' : World) : Prop := ∃ g cap l nl, e = .returned (.tuple #[.slice (some ⟨g, 0, none⟩) nl cap, .bool true]) ∧ H.Starts l H.p ∧ l.length = nl ∧ 0 < nl ∧ nl ≤ cap ∧ cap ≤ 9223372036854775807 ∧ LRow w' g l ∧ Below w.heap.size w w'
theorem own_caps {w : World} {base : Nat} {e : TypeId} {size n c : Nat} {A : Option Addr} {xs : List Value} (h : w.ownsRow base e size (.slice A n c) n xs) : n ≤ c ∧ c ≤ 9223372036854775807 := by
  rcases h.2 with ⟨h1, h2⟩ | ⟨g, cap, cur, h1, hb, hg, hnc, hcm, hr⟩
  · injection h1 with _ h1 h3; omega
  · injection h1 with _ _ h3; unfold maxLen at hcm; omega
theorem xStarts_yes {H : AuH} {n c : Nat} (HV : HeapV H n c) (hA : H.At H.p) (ad : Addr) (w : World) (hv : IsVals w ad n H.V) : Calls Tryz.prog 56 #[hpV H ad n c] w (StartsYes H w) := by
  refine (xStarts_c HV ad w hv).mono ?_
  rintro e w1 ⟨u, b, rfl, ⟨h1, h2⟩, hb⟩
  have hbt := h1.2 hA
  subst hbt
  obtain ⟨l, hl, hown⟩ := h2 rfl
  have hpos : 0 < l.length := by
    rcases hl.head with ⟨_, h⟩ | h
    · have := HV.nums.2.2.1; omega
    · rcases Nat.lt_or_ge 0 l.length with h3 | h3
      · exact h3
      · rw [List.getElem?_eq_none h3] at h; cases h
  obtain ⟨g, cap, rfl, hg1, hg2⟩ := hown.form hpos
  have hc := own_caps hown
  exact ⟨g, cap, l, l.length, rfl, hl, rfl, hpos, hc.1, hc.2, ⟨hg2, fun i a hi => own_nat hown rfl hi⟩, hb⟩
def StartsNo (w : World) (e : Ending) (w' : World) : Prop := ∃ u, e = .returned (.tuple #[u, .bool false]) ∧ Below w.heap.size w w'
theorem xStarts_no {H : AuH} {n c : Nat} (HV : HeapV H n c) (hA : ¬ H.At H.p) (ad : Addr) (w : World) (hv : IsVals w ad n H.V) : Calls Tryz.prog 56 #[hpV H ad n c] w (StartsNo w) := by
  refine (xStarts_c HV ad w hv).mono ?_
  rintro e w1 ⟨u, b, rfl, ⟨h1, h2⟩, hb⟩
  cases b
  · exact ⟨u, rfl, hb⟩
  · exact absurd (h1.1 rfl) hA

set_option maxHeartbeats 6400000 in
set_option maxRecDepth 100000 in
theorem xTiles_c {H : AuH} {n c : Nat} (HV : HeapV H n c) (ad : Addr) (b : Bool) (hb : b = true ↔ H.Tiled) (w : World) (hv : IsVals w ad n H.V) :
    Calls Tryz.prog 35 #[hpV H ad n c] w fun e w' => e = .returned (.bool b) ∧ Below w.heap.size w w' := by
  have HVL := hidp hv
  have HX0 := hidp (Held.new w 58 #[.int .i64 (H.t : Int), .int .i64 (H.p : Int), .int .i64 (H.s : Int), .slice (some ad) n c])
  obtain ⟨c0, c1, c2, c3⟩ := HX0.out.four
  have HBW := hidp (Bnew (B0 w) (.cells #[.int .i64 (H.t : Int), .int .i64 (H.p : Int), .int .i64 (H.s : Int), .slice (some ad) n c] 58))
  have hn := HV.nums
  have hcx : c ≤ 9223372036854775807 := hn.2.2.2.2.2.2.2.2
  have hni : n ≤ 6238 := hn.2.2.2.2.2.2.1
  have hnc := HV.cap
  have hp1 := hn.2.2.2.1
  have HBC := hidp hb
  clear hv hn hb
  unfold hpV
  by_cases hA : H.At H.p
  · go_enter Tryz.func35, Tryz.ntmps35
    go_wp2_with (first
      | (go_at_call 56; refine (xStarts_yes HV hA ad _ (HVL.out.below HBW.out)).mono ?_; rintro e w2 ⟨gl, cl, l, nl, rfl, hl, hln, hpos, hcl0, hcl, hlr, hb2⟩; have HSL := hidp hl; have HLN := hidp hln; have HLR := hidp hlr; have HB2 := hidp (Bgo HBW.out hb2); have HX2 := hidp (HX0.out.keep hb2); clear hl hln hlr hb2 c0 c1 c2 c3)
      | fail)
    have hnl : nl ≤ 1024 := by have := HSL.out.len; have := HLN.out; omega
    go_loopw [5, 6] (fun u5 u6 wr => ∃ (n1 p : Nat), n1 ≤ nl ∧ p ≤ H.p ∧ u5 = .int .i64 (n1 : Int) ∧ u6 = .int .i64 (p : Int) ∧ Hid (H.Front l n1 p) ∧ Hid (∀ q, q < p → ¬ H.At q → H.cel q 0 = 0) ∧ Hid (Held wr w.heap.size 58 #[.int .i64 (H.t : Int), .int .i64 (H.p : Int), .int .i64 (H.s : Int), .slice (some ad) n c]) ∧ Hid (LRow wr gl l) ∧ Hid (Below w.heap.size w wr)) (fun _ u6 _ => H.p - (intOf u6).toNat)
    case atStart => exact ⟨0, 0, by omega, by omega, rfl, rfl, hidp (AuH.Front.zero HSL.out), hidp (fun q h => by omega), HX2, HLR, HB2⟩
    case round =>
      obtain ⟨n1, p, hn1, hp, rfl, rfl, HF, HJ, HX, HLW, HB⟩ := hrel
      obtain ⟨c0, c1, c2, c3⟩ := HX.out.four
      by_cases hlt : p < H.p
      · have t0 : decide ((p : Int) < H.p) = true := decide_eq_true (by omega)
        have HVR := hidp (HVL.out.below HB.out)
        by_cases hln : n1 < nl
        · obtain ⟨a, hi⟩ : ∃ a, l[n1]? = some a := ⟨_, List.getElem?_eq_getElem (by have := HLN.out; omega)⟩
          have l0 := HLW.out.2 n1 a hi
          have t1 : decide ((n1 : Int) < nl) = true := decide_eq_true (by omega)
          by_cases hap : a = p
          · subst hap
            have HFN := hidp (AuH.Front.yes HSL.out HF.out hi)
            have q0 : ((a : Int) == (a : Int)) = true := by simp
            clear hi
            go_wp2_with fail
            go_roundw
            case rel => exact ⟨n1 + 1, a + 1, by omega, by omega, by go_num, by go_num, hidp HFN.out.2, hidp (fun q hq hn => by rcases Nat.lt_or_ge q a with h | h; (exact HJ.out q h hn); (have : q = a := by omega); subst this; exact absurd HFN.out.1 hn), HX, HLW, HB⟩
            case measure => simp [intOf]; omega
          · have HFN := hidp (AuH.Front.no HSL.out HF.out hlt (by rw [hi]; simpa using hap))
            have q0 : ((a : Int) == (p : Int)) = false := by simp; omega
            clear hi
            obtain ⟨i, hii⟩ : ∃ i, 30 + 4 * H.t + 6 * p + 0 = i := ⟨_, rfl⟩
            have hini : i < n := by have := HV.len; omega
            have HI : Hid (pageI H.t H.p H.s p 0 = (i : Int)) := hidp (by have h := HV.page (b := 0) hlt (by omega); rw [hii] at h; exact h)
            have h32i := HV.cel_lt hlt (show 0 < 6 by omega)
            have hceli : H.cel p 0 = H.V i := by unfold AuH.cel; rw [hii]
            obtain ⟨v, hvvv⟩ : ∃ v, H.cel p 0 = v := ⟨_, rfl⟩
            have HCv := hidp hvvv
            rw [hvvv] at h32i
            have hci := (HVR.out).2 i hini
            rw [← hceli, hvvv] at hci
            have hbli : (ad.add i).block < wr.heap.size := by rw [block_of_add]; exact (HVR.out).1
            have HS : Hid (∀ w', Below wr.heap.size wr w' → (fun w' => w'.cell? ⟨w.heap.size, 0, none⟩ = some (.int .i64 (H.t : Int)) ∧ w'.cell? ⟨w.heap.size, 1, none⟩ = some (.int .i64 (H.p : Int)) ∧ w'.cell? ⟨w.heap.size, 2, none⟩ = some (.int .i64 (H.s : Int)) ∧ w'.cell? ⟨w.heap.size, 3, none⟩ = some (.slice (some ad) n c) ∧ w'.cell? (ad.add i) = some (.int .u32 (v : Int))) w') := hidp (fun w' hb => by have hh := HX.out.keep hb; exact ⟨hh.four.1, hh.four.2.1, hh.four.2.2.1, hh.four.2.2.2, (hb.cell hbli).trans hci⟩)
            clear hci hbli hceli hvvv hii
            by_cases hv0 : v = 0
            · have q2 : ((v : Int) != 0) = false := by simp; omega
              have HV0 := hidp hv0
              clear hv0
              go_wp2_with fail
              refine wp_region_held_drew (S := (fun w' => w'.cell? ⟨w.heap.size, 0, none⟩ = some (.int .i64 (H.t : Int)) ∧ w'.cell? ⟨w.heap.size, 1, none⟩ = some (.int .i64 (H.p : Int)) ∧ w'.cell? ⟨w.heap.size, 2, none⟩ = some (.int .i64 (H.s : Int)) ∧ w'.cell? ⟨w.heap.size, 3, none⟩ = some (.slice (some ad) n c) ∧ w'.cell? (ad.add i) = some (.int .u32 (v : Int)))) (by kernel_rfl) ?_ (fun hHeld => ?_)
              · (try dsimp only)
                first | exact HS.out _ (Bdrew (B0 _)) | exact HS.out _ HB5r.out | exact hHeld
              refine tkz 0 ?_
              refine tkz 1 ?_
              refine tkz 2 ?_
              refine tkz 3 ?_
              refine tkz 4 ?_
              refine wpAnyH_ready (rs := [5]) (by kernel_rfl) (by simp) ?_
              refine AllReadyH.cons (o := _) rfl (fun K hK => ?_) AllReadyH.nil
              go_simp
              (go_at_call 57; refine (r7Info_c _ _ _ _ _).mono ?_; rintro e w5 ⟨rfl, hb5⟩; rw [HI.out]; have HB5 := hidp (Bgo (Bdrew HB.out) hb5); have HB5r := hidp (Bgo (Bdrew (B0 wr)) hb5); have HX5 := hidp (HX.out.drew.keep hb5); have HL5 := hidp (HLW.out.drew.keep hb5); clear hb5)
              refine hK.out _ _ ?_ (fun hHeld => ?_)
              · (try dsimp only)
                first | exact HS.out _ (Bdrew (B0 _)) | exact HS.out _ HB5r.out | exact hHeld
              clear hK K
              (try simp only [Act.put, gA, gB, gC, sA, sB, sC])
              refine tkz 6 ?_
              refine tkz 7 ?_
              refine tkz 8 ?_
              refine wpAnyH_done (by kernel_rfl) ?_ _
              go_wp2_with fail
              go_roundw
              case rel => exact ⟨n1, p + 1, by omega, by omega, rfl, by go_num, hidp HFN.out.2, hidp (fun q hq hn => by rcases Nat.lt_or_ge q p with h | h; (exact HJ.out q h hn); (have : q = p := by omega); subst this; rw [HCv.out]; exact HV0.out), HX5, HL5, HB5⟩
              case measure => simp [intOf]; omega
            · have q2 : ((v : Int) != 0) = true := by simp; omega
              have HBF : Hid (b = false) := hidp (bool_no HBC.out (fun h => hv0 (HCv.out.symm.trans (AuH.tiled_not h hlt HFN.out.1))))
              go_wp2_with fail
              refine wp_region_held_drew (S := (fun w' => w'.cell? ⟨w.heap.size, 0, none⟩ = some (.int .i64 (H.t : Int)) ∧ w'.cell? ⟨w.heap.size, 1, none⟩ = some (.int .i64 (H.p : Int)) ∧ w'.cell? ⟨w.heap.size, 2, none⟩ = some (.int .i64 (H.s : Int)) ∧ w'.cell? ⟨w.heap.size, 3, none⟩ = some (.slice (some ad) n c) ∧ w'.cell? (ad.add i) = some (.int .u32 (v : Int)))) (by kernel_rfl) ?_ (fun hHeld => ?_)
              · (try dsimp only)
                first | exact HS.out _ (Bdrew (B0 _)) | exact HS.out _ HB5r.out | exact hHeld
              refine tkz 0 ?_
              refine tkz 1 ?_
              refine tkz 2 ?_
              refine tkz 3 ?_
              refine tkz 4 ?_
              refine wpAnyH_ready (rs := [5]) (by kernel_rfl) (by simp) ?_
              refine AllReadyH.cons (o := _) rfl (fun K hK => ?_) AllReadyH.nil
              go_simp
              (go_at_call 57; refine (r7Info_c _ _ _ _ _).mono ?_; rintro e w5 ⟨rfl, hb5⟩; rw [HI.out]; have HB5 := hidp (Bgo (Bdrew HB.out) hb5); have HB5r := hidp (Bgo (Bdrew (B0 wr)) hb5); have HX5 := hidp (HX.out.drew.keep hb5); have HL5 := hidp (HLW.out.drew.keep hb5); clear hb5)
              refine hK.out _ _ ?_ (fun hHeld => ?_)
              · (try dsimp only)
                first | exact HS.out _ (Bdrew (B0 _)) | exact HS.out _ HB5r.out | exact hHeld
              clear hK K
              (try simp only [Act.put, gA, gB, gC, sA, sB, sC])
              refine tkz 6 ?_
              refine tkz 7 ?_
              refine tkz 8 ?_
              refine wpAnyH_done (by kernel_rfl) ?_ _
              go_wp2_with fail
              go_ret
              exact ⟨by rw [HBF.out]; rfl, HB5.out⟩
        · have t1 : decide ((n1 : Int) < nl) = false := decide_eq_false (by omega)
          have HFN := hidp (AuH.Front.no HSL.out HF.out hlt (by rw [List.getElem?_eq_none (by have := HLN.out; omega)]; simp))
          obtain ⟨i, hii⟩ : ∃ i, 30 + 4 * H.t + 6 * p + 0 = i := ⟨_, rfl⟩
          have hini : i < n := by have := HV.len; omega
          have HI : Hid (pageI H.t H.p H.s p 0 = (i : Int)) := hidp (by have h := HV.page (b := 0) hlt (by omega); rw [hii] at h; exact h)
          have h32i := HV.cel_lt hlt (show 0 < 6 by omega)
          have hceli : H.cel p 0 = H.V i := by unfold AuH.cel; rw [hii]
          obtain ⟨v, hvvv⟩ : ∃ v, H.cel p 0 = v := ⟨_, rfl⟩
          have HCv := hidp hvvv
          rw [hvvv] at h32i
          have hci := (HVR.out).2 i hini
          rw [← hceli, hvvv] at hci
          have hbli : (ad.add i).block < wr.heap.size := by rw [block_of_add]; exact (HVR.out).1
          have HS : Hid (∀ w', Below wr.heap.size wr w' → (fun w' => w'.cell? ⟨w.heap.size, 0, none⟩ = some (.int .i64 (H.t : Int)) ∧ w'.cell? ⟨w.heap.size, 1, none⟩ = some (.int .i64 (H.p : Int)) ∧ w'.cell? ⟨w.heap.size, 2, none⟩ = some (.int .i64 (H.s : Int)) ∧ w'.cell? ⟨w.heap.size, 3, none⟩ = some (.slice (some ad) n c) ∧ w'.cell? (ad.add i) = some (.int .u32 (v : Int))) w') := hidp (fun w' hb => by have hh := HX.out.keep hb; exact ⟨hh.four.1, hh.four.2.1, hh.four.2.2.1, hh.four.2.2.2, (hb.cell hbli).trans hci⟩)
          clear hci hbli hceli hvvv hii
          by_cases hv0 : v = 0
          · have q2 : ((v : Int) != 0) = false := by simp; omega
            have HV0 := hidp hv0
            clear hv0
            go_wp2_with fail
            refine wp_region_held_drew (S := (fun w' => w'.cell? ⟨w.heap.size, 0, none⟩ = some (.int .i64 (H.t : Int)) ∧ w'.cell? ⟨w.heap.size, 1, none⟩ = some (.int .i64 (H.p : Int)) ∧ w'.cell? ⟨w.heap.size, 2, none⟩ = some (.int .i64 (H.s : Int)) ∧ w'.cell? ⟨w.heap.size, 3, none⟩ = some (.slice (some ad) n c) ∧ w'.cell? (ad.add i) = some (.int .u32 (v : Int)))) (by kernel_rfl) ?_ (fun hHeld => ?_)
            · (try dsimp only)
              first | exact HS.out _ (Bdrew (B0 _)) | exact HS.out _ HB5r.out | exact hHeld
            refine tkz 0 ?_
            refine tkz 1 ?_
            refine tkz 2 ?_
            refine tkz 3 ?_
            refine tkz 4 ?_
            refine wpAnyH_ready (rs := [5]) (by kernel_rfl) (by simp) ?_
            refine AllReadyH.cons (o := _) rfl (fun K hK => ?_) AllReadyH.nil
            go_simp
            (go_at_call 57; refine (r7Info_c _ _ _ _ _).mono ?_; rintro e w5 ⟨rfl, hb5⟩; rw [HI.out]; have HB5 := hidp (Bgo (Bdrew HB.out) hb5); have HB5r := hidp (Bgo (Bdrew (B0 wr)) hb5); have HX5 := hidp (HX.out.drew.keep hb5); have HL5 := hidp (HLW.out.drew.keep hb5); clear hb5)
            refine hK.out _ _ ?_ (fun hHeld => ?_)
            · (try dsimp only)
              first | exact HS.out _ (Bdrew (B0 _)) | exact HS.out _ HB5r.out | exact hHeld
            clear hK K
            (try simp only [Act.put, gA, gB, gC, sA, sB, sC])
            refine tkz 6 ?_
            refine tkz 7 ?_
            refine tkz 8 ?_
            refine wpAnyH_done (by kernel_rfl) ?_ _
            go_wp2_with fail
            go_roundw
            case rel => exact ⟨n1, p + 1, by omega, by omega, rfl, by go_num, hidp HFN.out.2, hidp (fun q hq hn => by rcases Nat.lt_or_ge q p with h | h; (exact HJ.out q h hn); (have : q = p := by omega); subst this; rw [HCv.out]; exact HV0.out), HX5, HL5, HB5⟩
            case measure => simp [intOf]; omega
          · have q2 : ((v : Int) != 0) = true := by simp; omega
            have HBF : Hid (b = false) := hidp (bool_no HBC.out (fun h => hv0 (HCv.out.symm.trans (AuH.tiled_not h hlt HFN.out.1))))
            go_wp2_with fail
            refine wp_region_held_drew (S := (fun w' => w'.cell? ⟨w.heap.size, 0, none⟩ = some (.int .i64 (H.t : Int)) ∧ w'.cell? ⟨w.heap.size, 1, none⟩ = some (.int .i64 (H.p : Int)) ∧ w'.cell? ⟨w.heap.size, 2, none⟩ = some (.int .i64 (H.s : Int)) ∧ w'.cell? ⟨w.heap.size, 3, none⟩ = some (.slice (some ad) n c) ∧ w'.cell? (ad.add i) = some (.int .u32 (v : Int)))) (by kernel_rfl) ?_ (fun hHeld => ?_)
            · (try dsimp only)
              first | exact HS.out _ (Bdrew (B0 _)) | exact HS.out _ HB5r.out | exact hHeld
            refine tkz 0 ?_
            refine tkz 1 ?_
            refine tkz 2 ?_
            refine tkz 3 ?_
            refine tkz 4 ?_
            refine wpAnyH_ready (rs := [5]) (by kernel_rfl) (by simp) ?_
            refine AllReadyH.cons (o := _) rfl (fun K hK => ?_) AllReadyH.nil
            go_simp
            (go_at_call 57; refine (r7Info_c _ _ _ _ _).mono ?_; rintro e w5 ⟨rfl, hb5⟩; rw [HI.out]; have HB5 := hidp (Bgo (Bdrew HB.out) hb5); have HB5r := hidp (Bgo (Bdrew (B0 wr)) hb5); have HX5 := hidp (HX.out.drew.keep hb5); have HL5 := hidp (HLW.out.drew.keep hb5); clear hb5)
            refine hK.out _ _ ?_ (fun hHeld => ?_)
            · (try dsimp only)
              first | exact HS.out _ (Bdrew (B0 _)) | exact HS.out _ HB5r.out | exact hHeld
            clear hK K
            (try simp only [Act.put, gA, gB, gC, sA, sB, sC])
            refine tkz 6 ?_
            refine tkz 7 ?_
            refine tkz 8 ?_
            refine wpAnyH_done (by kernel_rfl) ?_ _
            go_wp2_with fail
            go_ret
            exact ⟨by rw [HBF.out]; rfl, HB5.out⟩
      · have t0 : decide ((p : Int) < H.p) = false := decide_eq_false (by omega)
        have HBT : Hid (b = true) := hidp (HBC.out.2 ((AuH.tiled_iff hA).2 (fun q hq => HJ.out q (by omega))))
        go_wp2_with fail
        go_ret
        exact ⟨by rw [HBT.out]; rfl, HB.out⟩
  · have HBF : Hid (b = false) := hidp (bool_no HBC.out (fun h => hA h.1))
    go_enter Tryz.func35, Tryz.ntmps35
    go_wp2_with (first
      | (go_at_call 56; refine (xStarts_no HV hA ad _ (HVL.out.below HBW.out)).mono ?_; rintro e w2 ⟨u, rfl, hb2⟩; have HB2 := hidp (Bgo HBW.out hb2); clear hb2)
      | fail)
    go_ret
    exact ⟨by rw [HBF.out]; rfl, HB2.out⟩
end
end Go.Proofs.YtkbjckhbllmclaaGreatDoor
