/-
  The document's rule 3. Written by doc12/gen_rules.py.
-/
import Derived.Test.YtlpcdfcghgapkaaGreatB06
import Derived.Test.YtlpcdfcghgapkaaGreatB03
namespace Go.Proofs.YtlpcdfcghgapkaaGreat
open Go.ChangeShapes Go.WideShapes Go.ChangeAt Go.RowKit Go.Shelf
set_option linter.unusedVariables false
set_option linter.unusedSimpArgs false
section
set_option maxHeartbeats 6400000 in
set_option maxRecDepth 100000 in
theorem xFeet_c {H : AuH} {n c : Nat} (HV : HeapV H n c) (ht : H.Tiled) (ad : Addr) (b : Bool) (hb : b = true ↔ H.R3) (w : World) (hv : IsVals w ad n H.V) :
  Calls Tryz.prog 70 #[hpV H ad n c] w fun e w' => e = .returned (.bool b) /\ Below w.heap.size w w' := by
 have HVL := hidp hv
 have HX0 := hidp (Held.new w 96 #[.int .i64 (H.t : Int), .int .i64 (H.p : Int), .int .i64 (H.s : Int), .slice (some ad) n c])
 obtain ⟨c0, c1, c2, c3⟩ := HX0.out.four
 have HBW := hidp (Bnew (B0 w) (.cells #[.int .i64 (H.t : Int), .int .i64 (H.p : Int), .int .i64 (H.s : Int), .slice (some ad) n c] 96))
 have hn := HV.nums
 have hcx : c <= 9223372036854775807 := hn.2.2.2.2.2.2.2.2
 have hni : n <= 6238 := hn.2.2.2.2.2.2.1
 have hnc := HV.cap
 have hp1 := hn.2.2.2.1
 have hp0 := hn.2.2.1
 have HBC := hidp hb
 have HTD := hidp ht
 have hA := ht.1
 clear hv hn hb ht
 unfold hpV
 go_enter Tryz.func70, Tryz.ntmps70
 go_wp2_with (first
  | (go_at_call 89; refine (xStarts_yes HV hA ad _ (HVL.out.below HBW.out)).mono ?_; rintro e w2 ⟨gl, cl, l, nl, rfl, hl, hln, hpos, hcl0, hcl, hlr, hb2⟩; have HSL := hidp hl; have HLN := hidp hln; have HLR := hidp hlr; have HB2 := hidp (Bgo HBW.out hb2); have HX2 := hidp (HX0.out.keep hb2); clear hl hln hlr hb2 c0 c1 c2 c3)
  | fail)
 have hnl : nl <= 1024 := by have := HSL.out.len; have := HLN.out; omega
 have HHD : Hid (l[0]? = some 0) := hidp (by
  rcases HSL.out.head with ⟨_, h⟩ | h
  ·omega
  ·exact h)
 go_loopw [5, 6] (fun u5 u6 wr => ∃ (n1 p a : Nat), n1 < nl /\ p <= H.p /\ a <= p /\ Hid (p <= H.nx a) /\ u5 = .int .i64 (n1 : Int) /\ u6 = .int .i64 (p : Int) /\ Hid (l[n1]? = some a) /\ Hid (∀ q, q < p -> ∀ a', H.At a' -> a' <= q -> q < H.nx a' -> H.FootAt a' q) /\ Hid (Held wr w.heap.size 96 #[.int .i64 (H.t : Int), .int .i64 (H.p : Int), .int .i64 (H.s : Int), .slice (some ad) n c]) /\ Hid (LRow wr gl l) /\ Hid (Below w.heap.size w wr)) (fun _ u6 _ => H.p - (intOf u6).toNat)
 case atStart => exact ⟨0, 0, 0, by omega, by omega, by omega, hidp (Nat.zero_le _), rfl, rfl, HHD, hidp (fun q h => by omega), HX2, HLR, HB2⟩
 case round =>
  obtain ⟨n1, p, a0, hn1, hp, hle0, HLX0, rfl, rfl, HN1, HJ, HX, HLW, HB⟩ := hrel
  obtain ⟨c0, c1, c2, c3⟩ := HX.out.four
  by_cases hlt : p < H.p
  ·have t0 : decide ((p : Int) < H.p) = true := decide_eq_true (by omega)
   have HVR := hidp (HVL.out.below HB.out)
   obtain ⟨nn, a, hle, hlx, hnn, hcase⟩ : ∃ nn a, a <= p /\ p < H.nx a /\ l[nn]? = some a /\ ((nn < nl /\ nn = n1 + 1 /\ a = p) \/ (nn + 1 < nl /\ nn = n1 /\ ∃ y, l[nn + 1]? = some y /\ y ≠ p) \/ (nn + 1 = nl /\ nn = n1)) := by
    have hlx0 := HLX0.out
    have hlen := HLN.out
    rcases (HSL.out.next HN1.out).2 with h | ⟨h, h2⟩
    ·have hl : n1 + 1 < nl := by
      rcases Nat.lt_or_ge (n1 + 1) l.length with h5 | h5
      ·omega
      ·rw [List.getElem?_eq_none h5] at h; cases h
     by_cases he : H.nx a0 = p
     ·rw [he] at h
      have hg := (H.nx_gt (HSL.out.next h).1.2.1).1
      exact ⟨n1 + 1, p, Nat.le_refl _, hg, h, .inl ⟨hl, rfl, rfl⟩⟩
     ·exact ⟨n1, a0, hle0, by omega, HN1.out, .inr (.inl ⟨hl, rfl, _, h, he⟩)⟩
    ·exact ⟨n1, a0, hle0, by omega, HN1.out, .inr (.inr ⟨by omega, rfl⟩)⟩
   have HNN := hidp hnn
   have hap : a < H.p := by omega
   have HNL : Hid (nn < nl) := hidp (by rcases hcase with h | h | h <;> omega)
   have l0 := HLW.out.2 nn a hnn
   have hm := (H.ln_pos a (((H.can_iff a).1 (HSL.out.next hnn).1.2.1).2.1)).2
   have hm1 := (H.ln_pos a (((H.can_iff a).1 (HSL.out.next hnn).1.2.1).2.1)).1
   have HSF : Hid (∀ w', Below wr.heap.size wr w' -> (fun w' => w'.cell? ⟨w.heap.size, 0, none⟩ = some (.int .i64 (H.t : Int)) /\ w'.cell? ⟨w.heap.size, 1, none⟩ = some (.int .i64 (H.p : Int)) /\ w'.cell? ⟨w.heap.size, 2, none⟩ = some (.int .i64 (H.s : Int)) /\ w'.cell? ⟨w.heap.size, 3, none⟩ = some (.slice (some ad) n c) /\ w'.cell? ⟨gl, nn, none⟩ = some (.int .i64 (a : Int))) w') := hidp (fun w' hb => by have hh := HX.out.keep hb; exact ⟨hh.four.1, hh.four.2.1, hh.four.2.2.1, hh.four.2.2.2, (HLW.out.keep hb).2 nn a HNN.out⟩)
   have hR : ∀ v, H.cel p 1 = v -> (H.R3 -> v = if p + 1 = H.nx a then a + 1 else 0) /\ (v = (if p + 1 = H.nx a then a + 1 else 0) -> ∀ q, q < p + 1 -> ∀ a', H.At a' -> a' <= q -> q < H.nx a' -> H.FootAt a' q) := fun v hv => by
    have ha := (HSL.out.next HNN.out).1.1
    refine ⟨fun h => by rw [<- hv]; exact (AuH.r3_iff HTD.out).1 h p hlt a ha hle hlx, fun h q hq a' h1 h2 h3 => ?_⟩
    rcases Nat.lt_or_ge q p with h4 | h4
    ·exact HJ.out q h4 a' h1 h2 h3
    ·have : q = p := by omega
     subst this
     have : a' = a := by
      rcases Nat.lt_trichotomy a' a with h5 | h5 | h5
      ·have := (AuH.At.next h1 ha h5).2; omega
      ·exact h5
      ·have := (AuH.At.next ha h1 h5).2; omega
     subst this
     unfold AuH.FootAt
     rw [hv]
     exact h
   have hf : ∀ (x y z : Value) (w : World), (Instr.field 76 (.agg #[x, y, z]) 1).run Tryz.prog w = .ok y w := fun _ _ _ _ => by kernel_rfl
   have hnx : H.nx a = a + H.ln a := rfl
   have HLX : Hid (p + 1 <= H.nx a) := hidp hlx
   have HLE := hidp hle
   obtain ⟨i, hii⟩ : ∃ i, 30 + 4 * H.t + 6 * p + 1 = i := ⟨_, rfl⟩
   have hini : i < n := by have := HV.len; omega
   have HI : Hid (pageI H.t H.p H.s p 1 = (i : Int)) := hidp (by have h := HV.page (b := 1) hlt (by omega); rw [hii] at h; exact h)
   have h32i := HV.cel_lt hlt (show 1 < 6 by omega)
   have hceli : H.cel p 1 = H.V i := by unfold AuH.cel; rw [hii]
   obtain ⟨v, hvvv⟩ : ∃ v, H.cel p 1 = v := ⟨_, rfl⟩
   have HCv := hidp hvvv
   rw [hvvv] at h32i
   have HRV := hidp (hR v hvvv)
   rw [hnx] at hlx HRV
   clear hR hnx hnn HLX0 HN1 hle0
   obtain ⟨m, hlm⟩ : ∃ m, H.ln a = m := ⟨_, rfl⟩
   rw [hlm] at hlx HRV hm hm1
   have HLM := hidp hlm
   clear hlm
   have sw1 : IntKind.i64.wrap ((a : Int) + m) = (a : Int) + m := i64_same (by omega) (by omega)
   have sw2 : IntKind.i64.wrap ((a : Int) + m - 1) = ((a + m - 1 : Nat) : Int) := by rw [i64_same (by omega) (by omega)]; omega
   have sw3 : IntKind.u32.wrap ((a : Int) + 1) = (a : Int) + 1 := by rw [show (a : Int) + 1 = ((a + 1 : Nat) : Int) by push_cast; rfl]; exact wrap_nat32 _ (by omega)
   have sw4 : IntKind.i64.wrap ((a : Int) + 1) = (a : Int) + 1 := i64_same (by omega) (by omega)
   by_cases hpm : p + 1 = a + m
   all_goals (first | rw [if_pos hpm] at HRV | rw [if_neg hpm] at HRV)
   ·by_cases hvw : v = a + 1
    ·rcases hcase with ⟨g1, g2, g3⟩ | ⟨g1, rfl, y, g3, g4⟩ | ⟨g1, rfl⟩
     ·have t1c : nn < nl := by omega
      have t1 : decide ((nn : Int) < nl) = true := decide_eq_true (by omega)
      have swn : IntKind.i64.wrap ((n1 : Int) + 1) = (nn : Int) := by rw [i64_same (by omega) (by omega)]; omega
      have q0 : ((a : Int) == (p : Int)) = true := by simp; omega
      clear g1 g2 g3
      have q5 : ((p : Int) == ((a + m - 1 : Nat) : Int)) = true := by simp; omega
      have q6 : ((v : Int) != ((a : Int) + 1)) = false := by simp; omega
      have HFIN := hidp (HRV.out.2 (by omega))
      clear hpm hvw HRV hle
      go_wp2_with fail
      refine wp_region_held_drew (S := (fun w' => w'.cell? ⟨w.heap.size, 0, none⟩ = some (.int .i64 (H.t : Int)) /\ w'.cell? ⟨w.heap.size, 1, none⟩ = some (.int .i64 (H.p : Int)) /\ w'.cell? ⟨w.heap.size, 2, none⟩ = some (.int .i64 (H.s : Int)) /\ w'.cell? ⟨w.heap.size, 3, none⟩ = some (.slice (some ad) n c) /\ w'.cell? ⟨gl, nn, none⟩ = some (.int .i64 (a : Int)))) (by kernel_rfl) ?_ (fun hHeld => ?_)
      ·(try dsimp only)
       first | exact HSF.out _ (Bdrew (B0 _)) | exact HSF.out _ HB3r.out | exact hHeld
      refine tkz 0 ?_
      refine tkz 1 ?_
      refine tkz 2 ?_
      refine tkz 3 ?_
      refine tkz 4 ?_
      refine tkz 5 ?_
      refine tkz 6 ?_
      refine tkz 7 ?_
      refine tkz 8 ?_
      refine tkz 9 ?_
      refine rdz 10 fun K hK => ?_
      go_simp
      (go_at_call 78; refine (xInfo_c HV ad hap _ HVR.out.drew).mono ?_; rintro e w3 ⟨rfl, hb3⟩; rw [HLM.out]; have HB3 := hidp (Bgo (Bdrew HB.out) hb3); have HB3r := hidp (Bgo (Bdrew (B0 wr)) hb3); have HX3 := hidp (HX.out.drew.keep hb3); have HL3 := hidp (HLW.out.drew.keep hb3); clear hb3)
      refine hK.out _ _ ?_ (fun hHeld => ?_)
      ·(try dsimp only)
       first | exact HSF.out _ (Bdrew (B0 _)) | exact HSF.out _ HB3r.out | exact hHeld
      clear hK K
      (try simp only [Act.put, gA, gB, gC, sA, sB, sC])
      refine tkz 11 ?_
      refine tkz 12 ?_
      refine tkz 13 ?_
      refine tkz 14 ?_
      refine dnz ?_
      obtain ⟨c0, c1, c2, c3⟩ := HX3.out.four
      have l3 := HL3.out.2 nn a HNN.out
      have HV3 := hidp (HVL.out.below HB3.out)
      have hci := (HV3.out).2 i hini
      rw [<- hceli, hvvv] at hci
      have hbli : (ad.add i).block < w3.heap.size := by rw [block_of_add]; exact (HV3.out).1
      have HS : Hid (∀ w', Below w3.heap.size w3 w' -> (fun w' => w'.cell? ⟨w.heap.size, 0, none⟩ = some (.int .i64 (H.t : Int)) /\ w'.cell? ⟨w.heap.size, 1, none⟩ = some (.int .i64 (H.p : Int)) /\ w'.cell? ⟨w.heap.size, 2, none⟩ = some (.int .i64 (H.s : Int)) /\ w'.cell? ⟨w.heap.size, 3, none⟩ = some (.slice (some ad) n c) /\ w'.cell? (ad.add i) = some (.int .u32 (v : Int))) w') := hidp (fun w' hb => by have hh := HX3.out.keep hb; exact ⟨hh.four.1, hh.four.2.1, hh.four.2.2.1, hh.four.2.2.2, (hb.cell hbli).trans hci⟩)
      clear hci hbli hceli hvvv hii
      go_wp2_with fail
      refine wp_region_held_drew (S := (fun w' => w'.cell? ⟨w.heap.size, 0, none⟩ = some (.int .i64 (H.t : Int)) /\ w'.cell? ⟨w.heap.size, 1, none⟩ = some (.int .i64 (H.p : Int)) /\ w'.cell? ⟨w.heap.size, 2, none⟩ = some (.int .i64 (H.s : Int)) /\ w'.cell? ⟨w.heap.size, 3, none⟩ = some (.slice (some ad) n c) /\ w'.cell? (ad.add i) = some (.int .u32 (v : Int)))) (by kernel_rfl) ?_ (fun hHeld => ?_)
      ·(try dsimp only)
       first | exact HS.out _ (Bdrew (B0 _)) | exact HS.out _ HB5r.out | exact hHeld
      refine tkz 0 ?_
      refine tkz 1 ?_
      refine tkz 2 ?_
      refine tkz 3 ?_
      refine tkz 4 ?_
      refine tkz 8 ?_
      refine rdz 5 fun K hK => ?_
      go_simp
      (go_at_call 91; refine (r7Foot_c _ _ _ _ _).mono ?_; rintro e w5 ⟨rfl, hb5⟩; rw [HI.out]; have HB5 := hidp (Bgo (Bdrew HB3.out) hb5); have HB5r := hidp (Bgo (Bdrew (B0 w3)) hb5); have HX5 := hidp (HX3.out.drew.keep hb5); have HL5 := hidp (HL3.out.drew.keep hb5); clear hb5)
      refine hK.out _ _ ?_ (fun hHeld => ?_)
      ·(try dsimp only)
       first | exact HS.out _ (Bdrew (B0 _)) | exact HS.out _ HB5r.out | exact hHeld
      clear hK K
      (try simp only [Act.put, gA, gB, gC, sA, sB, sC])
      refine tkz 6 ?_
      refine tkz 7 ?_
      refine tkz 9 ?_
      refine dnz ?_
      go_wp2_with fail
      go_roundw
      case rel => exact ⟨nn, p + 1, a, by have := HNL.out; omega, by omega, by have := HLE.out; omega, hidp HLX.out, by go_num, by go_num, HNN, HFIN, HX5, HL5, HB5⟩
      case measure => simp [intOf]; omega
     ·have t1c : nn + 1 < nl := by omega
      have t1 : decide (((nn + 1 : Nat) : Int) < nl) = true := decide_eq_true (by omega)
      have swn : IntKind.i64.wrap ((nn : Int) + 1) = ((nn + 1 : Nat) : Int) := by rw [i64_same (by omega) (by omega)]; push_cast; rfl
      have l1 := HLW.out.2 _ _ g3
      have q0 : ((y : Int) == (p : Int)) = false := by simp; omega
      clear g1 g3 g4
      have q5 : ((p : Int) == ((a + m - 1 : Nat) : Int)) = true := by simp; omega
      have q6 : ((v : Int) != ((a : Int) + 1)) = false := by simp; omega
      have HFIN := hidp (HRV.out.2 (by omega))
      clear hpm hvw HRV hle
      go_wp2_with fail
      refine wp_region_held_drew (S := (fun w' => w'.cell? ⟨w.heap.size, 0, none⟩ = some (.int .i64 (H.t : Int)) /\ w'.cell? ⟨w.heap.size, 1, none⟩ = some (.int .i64 (H.p : Int)) /\ w'.cell? ⟨w.heap.size, 2, none⟩ = some (.int .i64 (H.s : Int)) /\ w'.cell? ⟨w.heap.size, 3, none⟩ = some (.slice (some ad) n c) /\ w'.cell? ⟨gl, nn, none⟩ = some (.int .i64 (a : Int)))) (by kernel_rfl) ?_ (fun hHeld => ?_)
      ·(try dsimp only)
       first | exact HSF.out _ (Bdrew (B0 _)) | exact HSF.out _ HB3r.out | exact hHeld
      refine tkz 0 ?_
      refine tkz 1 ?_
      refine tkz 2 ?_
      refine tkz 3 ?_
      refine tkz 4 ?_
      refine tkz 5 ?_
      refine tkz 6 ?_
      refine tkz 7 ?_
      refine tkz 8 ?_
      refine tkz 9 ?_
      refine rdz 10 fun K hK => ?_
      go_simp
      (go_at_call 78; refine (xInfo_c HV ad hap _ HVR.out.drew).mono ?_; rintro e w3 ⟨rfl, hb3⟩; rw [HLM.out]; have HB3 := hidp (Bgo (Bdrew HB.out) hb3); have HB3r := hidp (Bgo (Bdrew (B0 wr)) hb3); have HX3 := hidp (HX.out.drew.keep hb3); have HL3 := hidp (HLW.out.drew.keep hb3); clear hb3)
      refine hK.out _ _ ?_ (fun hHeld => ?_)
      ·(try dsimp only)
       first | exact HSF.out _ (Bdrew (B0 _)) | exact HSF.out _ HB3r.out | exact hHeld
      clear hK K
      (try simp only [Act.put, gA, gB, gC, sA, sB, sC])
      refine tkz 11 ?_
      refine tkz 12 ?_
      refine tkz 13 ?_
      refine tkz 14 ?_
      refine dnz ?_
      obtain ⟨c0, c1, c2, c3⟩ := HX3.out.four
      have l3 := HL3.out.2 nn a HNN.out
      have HV3 := hidp (HVL.out.below HB3.out)
      have hci := (HV3.out).2 i hini
      rw [<- hceli, hvvv] at hci
      have hbli : (ad.add i).block < w3.heap.size := by rw [block_of_add]; exact (HV3.out).1
      have HS : Hid (∀ w', Below w3.heap.size w3 w' -> (fun w' => w'.cell? ⟨w.heap.size, 0, none⟩ = some (.int .i64 (H.t : Int)) /\ w'.cell? ⟨w.heap.size, 1, none⟩ = some (.int .i64 (H.p : Int)) /\ w'.cell? ⟨w.heap.size, 2, none⟩ = some (.int .i64 (H.s : Int)) /\ w'.cell? ⟨w.heap.size, 3, none⟩ = some (.slice (some ad) n c) /\ w'.cell? (ad.add i) = some (.int .u32 (v : Int))) w') := hidp (fun w' hb => by have hh := HX3.out.keep hb; exact ⟨hh.four.1, hh.four.2.1, hh.four.2.2.1, hh.four.2.2.2, (hb.cell hbli).trans hci⟩)
      clear hci hbli hceli hvvv hii
      go_wp2_with fail
      refine wp_region_held_drew (S := (fun w' => w'.cell? ⟨w.heap.size, 0, none⟩ = some (.int .i64 (H.t : Int)) /\ w'.cell? ⟨w.heap.size, 1, none⟩ = some (.int .i64 (H.p : Int)) /\ w'.cell? ⟨w.heap.size, 2, none⟩ = some (.int .i64 (H.s : Int)) /\ w'.cell? ⟨w.heap.size, 3, none⟩ = some (.slice (some ad) n c) /\ w'.cell? (ad.add i) = some (.int .u32 (v : Int)))) (by kernel_rfl) ?_ (fun hHeld => ?_)
      ·(try dsimp only)
       first | exact HS.out _ (Bdrew (B0 _)) | exact HS.out _ HB5r.out | exact hHeld
      refine tkz 0 ?_
      refine tkz 1 ?_
      refine tkz 2 ?_
      refine tkz 3 ?_
      refine tkz 4 ?_
      refine tkz 8 ?_
      refine rdz 5 fun K hK => ?_
      go_simp
      (go_at_call 91; refine (r7Foot_c _ _ _ _ _).mono ?_; rintro e w5 ⟨rfl, hb5⟩; rw [HI.out]; have HB5 := hidp (Bgo (Bdrew HB3.out) hb5); have HB5r := hidp (Bgo (Bdrew (B0 w3)) hb5); have HX5 := hidp (HX3.out.drew.keep hb5); have HL5 := hidp (HL3.out.drew.keep hb5); clear hb5)
      refine hK.out _ _ ?_ (fun hHeld => ?_)
      ·(try dsimp only)
       first | exact HS.out _ (Bdrew (B0 _)) | exact HS.out _ HB5r.out | exact hHeld
      clear hK K
      (try simp only [Act.put, gA, gB, gC, sA, sB, sC])
      refine tkz 6 ?_
      refine tkz 7 ?_
      refine tkz 9 ?_
      refine dnz ?_
      go_wp2_with fail
      go_roundw
      case rel => exact ⟨nn, p + 1, a, by have := HNL.out; omega, by omega, by have := HLE.out; omega, hidp HLX.out, by go_num, by go_num, HNN, HFIN, HX5, HL5, HB5⟩
      case measure => simp [intOf]; omega
     ·have t1c : ¬ (nn + 1 < nl) := by omega
      have t1b : decide (nn + 1 < nl) = false := decide_eq_false t1c
      have t1 : decide (((nn + 1 : Nat) : Int) < nl) = false := decide_eq_false (by omega)
      have swn : IntKind.i64.wrap ((nn : Int) + 1) = ((nn + 1 : Nat) : Int) := by rw [i64_same (by omega) (by omega)]; push_cast; rfl
      clear g1
      have q5 : ((p : Int) == ((a + m - 1 : Nat) : Int)) = true := by simp; omega
      have q6 : ((v : Int) != ((a : Int) + 1)) = false := by simp; omega
      have HFIN := hidp (HRV.out.2 (by omega))
      clear hpm hvw HRV hle
      go_wp2_with fail
      refine wp_region_held_drew (S := (fun w' => w'.cell? ⟨w.heap.size, 0, none⟩ = some (.int .i64 (H.t : Int)) /\ w'.cell? ⟨w.heap.size, 1, none⟩ = some (.int .i64 (H.p : Int)) /\ w'.cell? ⟨w.heap.size, 2, none⟩ = some (.int .i64 (H.s : Int)) /\ w'.cell? ⟨w.heap.size, 3, none⟩ = some (.slice (some ad) n c) /\ w'.cell? ⟨gl, nn, none⟩ = some (.int .i64 (a : Int)))) (by kernel_rfl) ?_ (fun hHeld => ?_)
      ·(try dsimp only)
       first | exact HSF.out _ (Bdrew (B0 _)) | exact HSF.out _ HB3r.out | exact hHeld
      refine tkz 0 ?_
      refine tkz 1 ?_
      refine tkz 2 ?_
      refine tkz 3 ?_
      refine tkz 4 ?_
      refine tkz 5 ?_
      refine tkz 6 ?_
      refine tkz 7 ?_
      refine tkz 8 ?_
      refine tkz 9 ?_
      refine rdz 10 fun K hK => ?_
      go_simp
      (go_at_call 78; refine (xInfo_c HV ad hap _ HVR.out.drew).mono ?_; rintro e w3 ⟨rfl, hb3⟩; rw [HLM.out]; have HB3 := hidp (Bgo (Bdrew HB.out) hb3); have HB3r := hidp (Bgo (Bdrew (B0 wr)) hb3); have HX3 := hidp (HX.out.drew.keep hb3); have HL3 := hidp (HLW.out.drew.keep hb3); clear hb3)
      refine hK.out _ _ ?_ (fun hHeld => ?_)
      ·(try dsimp only)
       first | exact HSF.out _ (Bdrew (B0 _)) | exact HSF.out _ HB3r.out | exact hHeld
      clear hK K
      (try simp only [Act.put, gA, gB, gC, sA, sB, sC])
      refine tkz 11 ?_
      refine tkz 12 ?_
      refine tkz 13 ?_
      refine tkz 14 ?_
      refine dnz ?_
      obtain ⟨c0, c1, c2, c3⟩ := HX3.out.four
      have l3 := HL3.out.2 nn a HNN.out
      have HV3 := hidp (HVL.out.below HB3.out)
      have hci := (HV3.out).2 i hini
      rw [<- hceli, hvvv] at hci
      have hbli : (ad.add i).block < w3.heap.size := by rw [block_of_add]; exact (HV3.out).1
      have HS : Hid (∀ w', Below w3.heap.size w3 w' -> (fun w' => w'.cell? ⟨w.heap.size, 0, none⟩ = some (.int .i64 (H.t : Int)) /\ w'.cell? ⟨w.heap.size, 1, none⟩ = some (.int .i64 (H.p : Int)) /\ w'.cell? ⟨w.heap.size, 2, none⟩ = some (.int .i64 (H.s : Int)) /\ w'.cell? ⟨w.heap.size, 3, none⟩ = some (.slice (some ad) n c) /\ w'.cell? (ad.add i) = some (.int .u32 (v : Int))) w') := hidp (fun w' hb => by have hh := HX3.out.keep hb; exact ⟨hh.four.1, hh.four.2.1, hh.four.2.2.1, hh.four.2.2.2, (hb.cell hbli).trans hci⟩)
      clear hci hbli hceli hvvv hii
      go_wp2_with fail
      refine wp_region_held_drew (S := (fun w' => w'.cell? ⟨w.heap.size, 0, none⟩ = some (.int .i64 (H.t : Int)) /\ w'.cell? ⟨w.heap.size, 1, none⟩ = some (.int .i64 (H.p : Int)) /\ w'.cell? ⟨w.heap.size, 2, none⟩ = some (.int .i64 (H.s : Int)) /\ w'.cell? ⟨w.heap.size, 3, none⟩ = some (.slice (some ad) n c) /\ w'.cell? (ad.add i) = some (.int .u32 (v : Int)))) (by kernel_rfl) ?_ (fun hHeld => ?_)
      ·(try dsimp only)
       first | exact HS.out _ (Bdrew (B0 _)) | exact HS.out _ HB5r.out | exact hHeld
      refine tkz 0 ?_
      refine tkz 1 ?_
      refine tkz 2 ?_
      refine tkz 3 ?_
      refine tkz 4 ?_
      refine tkz 8 ?_
      refine rdz 5 fun K hK => ?_
      go_simp
      (go_at_call 91; refine (r7Foot_c _ _ _ _ _).mono ?_; rintro e w5 ⟨rfl, hb5⟩; rw [HI.out]; have HB5 := hidp (Bgo (Bdrew HB3.out) hb5); have HB5r := hidp (Bgo (Bdrew (B0 w3)) hb5); have HX5 := hidp (HX3.out.drew.keep hb5); have HL5 := hidp (HL3.out.drew.keep hb5); clear hb5)
      refine hK.out _ _ ?_ (fun hHeld => ?_)
      ·(try dsimp only)
       first | exact HS.out _ (Bdrew (B0 _)) | exact HS.out _ HB5r.out | exact hHeld
      clear hK K
      (try simp only [Act.put, gA, gB, gC, sA, sB, sC])
      refine tkz 6 ?_
      refine tkz 7 ?_
      refine tkz 9 ?_
      refine dnz ?_
      go_wp2_with fail
      go_roundw
      case rel => exact ⟨nn, p + 1, a, by have := HNL.out; omega, by omega, by have := HLE.out; omega, hidp HLX.out, by go_num, by go_num, HNN, HFIN, HX5, HL5, HB5⟩
      case measure => simp [intOf]; omega
    ·rcases hcase with ⟨g1, g2, g3⟩ | ⟨g1, rfl, y, g3, g4⟩ | ⟨g1, rfl⟩
     ·have t1c : nn < nl := by omega
      have t1 : decide ((nn : Int) < nl) = true := decide_eq_true (by omega)
      have swn : IntKind.i64.wrap ((n1 : Int) + 1) = (nn : Int) := by rw [i64_same (by omega) (by omega)]; omega
      have q0 : ((a : Int) == (p : Int)) = true := by simp; omega
      clear g1 g2 g3
      have q5 : ((p : Int) == ((a + m - 1 : Nat) : Int)) = true := by simp; omega
      have q6 : ((v : Int) != ((a : Int) + 1)) = true := by simp; omega
      have HFIN := hidp ((bool_no HBC.out (fun h => hvw (HRV.out.1 h)) : b = false))
      clear hpm hvw HRV hle
      go_wp2_with fail
      refine wp_region_held_drew (S := (fun w' => w'.cell? ⟨w.heap.size, 0, none⟩ = some (.int .i64 (H.t : Int)) /\ w'.cell? ⟨w.heap.size, 1, none⟩ = some (.int .i64 (H.p : Int)) /\ w'.cell? ⟨w.heap.size, 2, none⟩ = some (.int .i64 (H.s : Int)) /\ w'.cell? ⟨w.heap.size, 3, none⟩ = some (.slice (some ad) n c) /\ w'.cell? ⟨gl, nn, none⟩ = some (.int .i64 (a : Int)))) (by kernel_rfl) ?_ (fun hHeld => ?_)
      ·(try dsimp only)
       first | exact HSF.out _ (Bdrew (B0 _)) | exact HSF.out _ HB3r.out | exact hHeld
      refine tkz 0 ?_
      refine tkz 1 ?_
      refine tkz 2 ?_
      refine tkz 3 ?_
      refine tkz 4 ?_
      refine tkz 5 ?_
      refine tkz 6 ?_
      refine tkz 7 ?_
      refine tkz 8 ?_
      refine tkz 9 ?_
      refine rdz 10 fun K hK => ?_
      go_simp
      (go_at_call 78; refine (xInfo_c HV ad hap _ HVR.out.drew).mono ?_; rintro e w3 ⟨rfl, hb3⟩; rw [HLM.out]; have HB3 := hidp (Bgo (Bdrew HB.out) hb3); have HB3r := hidp (Bgo (Bdrew (B0 wr)) hb3); have HX3 := hidp (HX.out.drew.keep hb3); have HL3 := hidp (HLW.out.drew.keep hb3); clear hb3)
      refine hK.out _ _ ?_ (fun hHeld => ?_)
      ·(try dsimp only)
       first | exact HSF.out _ (Bdrew (B0 _)) | exact HSF.out _ HB3r.out | exact hHeld
      clear hK K
      (try simp only [Act.put, gA, gB, gC, sA, sB, sC])
      refine tkz 11 ?_
      refine tkz 12 ?_
      refine tkz 13 ?_
      refine tkz 14 ?_
      refine dnz ?_
      obtain ⟨c0, c1, c2, c3⟩ := HX3.out.four
      have l3 := HL3.out.2 nn a HNN.out
      have HV3 := hidp (HVL.out.below HB3.out)
      have hci := (HV3.out).2 i hini
      rw [<- hceli, hvvv] at hci
      have hbli : (ad.add i).block < w3.heap.size := by rw [block_of_add]; exact (HV3.out).1
      have HS : Hid (∀ w', Below w3.heap.size w3 w' -> (fun w' => w'.cell? ⟨w.heap.size, 0, none⟩ = some (.int .i64 (H.t : Int)) /\ w'.cell? ⟨w.heap.size, 1, none⟩ = some (.int .i64 (H.p : Int)) /\ w'.cell? ⟨w.heap.size, 2, none⟩ = some (.int .i64 (H.s : Int)) /\ w'.cell? ⟨w.heap.size, 3, none⟩ = some (.slice (some ad) n c) /\ w'.cell? (ad.add i) = some (.int .u32 (v : Int))) w') := hidp (fun w' hb => by have hh := HX3.out.keep hb; exact ⟨hh.four.1, hh.four.2.1, hh.four.2.2.1, hh.four.2.2.2, (hb.cell hbli).trans hci⟩)
      clear hci hbli hceli hvvv hii
      go_wp2_with fail
      refine wp_region_held_drew (S := (fun w' => w'.cell? ⟨w.heap.size, 0, none⟩ = some (.int .i64 (H.t : Int)) /\ w'.cell? ⟨w.heap.size, 1, none⟩ = some (.int .i64 (H.p : Int)) /\ w'.cell? ⟨w.heap.size, 2, none⟩ = some (.int .i64 (H.s : Int)) /\ w'.cell? ⟨w.heap.size, 3, none⟩ = some (.slice (some ad) n c) /\ w'.cell? (ad.add i) = some (.int .u32 (v : Int)))) (by kernel_rfl) ?_ (fun hHeld => ?_)
      ·(try dsimp only)
       first | exact HS.out _ (Bdrew (B0 _)) | exact HS.out _ HB5r.out | exact hHeld
      refine tkz 0 ?_
      refine tkz 1 ?_
      refine tkz 2 ?_
      refine tkz 3 ?_
      refine tkz 4 ?_
      refine tkz 8 ?_
      refine rdz 5 fun K hK => ?_
      go_simp
      (go_at_call 91; refine (r7Foot_c _ _ _ _ _).mono ?_; rintro e w5 ⟨rfl, hb5⟩; rw [HI.out]; have HB5 := hidp (Bgo (Bdrew HB3.out) hb5); have HB5r := hidp (Bgo (Bdrew (B0 w3)) hb5); have HX5 := hidp (HX3.out.drew.keep hb5); have HL5 := hidp (HL3.out.drew.keep hb5); clear hb5)
      refine hK.out _ _ ?_ (fun hHeld => ?_)
      ·(try dsimp only)
       first | exact HS.out _ (Bdrew (B0 _)) | exact HS.out _ HB5r.out | exact hHeld
      clear hK K
      (try simp only [Act.put, gA, gB, gC, sA, sB, sC])
      refine tkz 6 ?_
      refine tkz 7 ?_
      refine tkz 9 ?_
      refine dnz ?_
      go_wp2_with fail
      go_ret
      exact ⟨by rw [HFIN.out]; rfl, HB5.out⟩
     ·have t1c : nn + 1 < nl := by omega
      have t1 : decide (((nn + 1 : Nat) : Int) < nl) = true := decide_eq_true (by omega)
      have swn : IntKind.i64.wrap ((nn : Int) + 1) = ((nn + 1 : Nat) : Int) := by rw [i64_same (by omega) (by omega)]; push_cast; rfl
      have l1 := HLW.out.2 _ _ g3
      have q0 : ((y : Int) == (p : Int)) = false := by simp; omega
      clear g1 g3 g4
      have q5 : ((p : Int) == ((a + m - 1 : Nat) : Int)) = true := by simp; omega
      have q6 : ((v : Int) != ((a : Int) + 1)) = true := by simp; omega
      have HFIN := hidp ((bool_no HBC.out (fun h => hvw (HRV.out.1 h)) : b = false))
      clear hpm hvw HRV hle
      go_wp2_with fail
      refine wp_region_held_drew (S := (fun w' => w'.cell? ⟨w.heap.size, 0, none⟩ = some (.int .i64 (H.t : Int)) /\ w'.cell? ⟨w.heap.size, 1, none⟩ = some (.int .i64 (H.p : Int)) /\ w'.cell? ⟨w.heap.size, 2, none⟩ = some (.int .i64 (H.s : Int)) /\ w'.cell? ⟨w.heap.size, 3, none⟩ = some (.slice (some ad) n c) /\ w'.cell? ⟨gl, nn, none⟩ = some (.int .i64 (a : Int)))) (by kernel_rfl) ?_ (fun hHeld => ?_)
      ·(try dsimp only)
       first | exact HSF.out _ (Bdrew (B0 _)) | exact HSF.out _ HB3r.out | exact hHeld
      refine tkz 0 ?_
      refine tkz 1 ?_
      refine tkz 2 ?_
      refine tkz 3 ?_
      refine tkz 4 ?_
      refine tkz 5 ?_
      refine tkz 6 ?_
      refine tkz 7 ?_
      refine tkz 8 ?_
      refine tkz 9 ?_
      refine rdz 10 fun K hK => ?_
      go_simp
      (go_at_call 78; refine (xInfo_c HV ad hap _ HVR.out.drew).mono ?_; rintro e w3 ⟨rfl, hb3⟩; rw [HLM.out]; have HB3 := hidp (Bgo (Bdrew HB.out) hb3); have HB3r := hidp (Bgo (Bdrew (B0 wr)) hb3); have HX3 := hidp (HX.out.drew.keep hb3); have HL3 := hidp (HLW.out.drew.keep hb3); clear hb3)
      refine hK.out _ _ ?_ (fun hHeld => ?_)
      ·(try dsimp only)
       first | exact HSF.out _ (Bdrew (B0 _)) | exact HSF.out _ HB3r.out | exact hHeld
      clear hK K
      (try simp only [Act.put, gA, gB, gC, sA, sB, sC])
      refine tkz 11 ?_
      refine tkz 12 ?_
      refine tkz 13 ?_
      refine tkz 14 ?_
      refine dnz ?_
      obtain ⟨c0, c1, c2, c3⟩ := HX3.out.four
      have l3 := HL3.out.2 nn a HNN.out
      have HV3 := hidp (HVL.out.below HB3.out)
      have hci := (HV3.out).2 i hini
      rw [<- hceli, hvvv] at hci
      have hbli : (ad.add i).block < w3.heap.size := by rw [block_of_add]; exact (HV3.out).1
      have HS : Hid (∀ w', Below w3.heap.size w3 w' -> (fun w' => w'.cell? ⟨w.heap.size, 0, none⟩ = some (.int .i64 (H.t : Int)) /\ w'.cell? ⟨w.heap.size, 1, none⟩ = some (.int .i64 (H.p : Int)) /\ w'.cell? ⟨w.heap.size, 2, none⟩ = some (.int .i64 (H.s : Int)) /\ w'.cell? ⟨w.heap.size, 3, none⟩ = some (.slice (some ad) n c) /\ w'.cell? (ad.add i) = some (.int .u32 (v : Int))) w') := hidp (fun w' hb => by have hh := HX3.out.keep hb; exact ⟨hh.four.1, hh.four.2.1, hh.four.2.2.1, hh.four.2.2.2, (hb.cell hbli).trans hci⟩)
      clear hci hbli hceli hvvv hii
      go_wp2_with fail
      refine wp_region_held_drew (S := (fun w' => w'.cell? ⟨w.heap.size, 0, none⟩ = some (.int .i64 (H.t : Int)) /\ w'.cell? ⟨w.heap.size, 1, none⟩ = some (.int .i64 (H.p : Int)) /\ w'.cell? ⟨w.heap.size, 2, none⟩ = some (.int .i64 (H.s : Int)) /\ w'.cell? ⟨w.heap.size, 3, none⟩ = some (.slice (some ad) n c) /\ w'.cell? (ad.add i) = some (.int .u32 (v : Int)))) (by kernel_rfl) ?_ (fun hHeld => ?_)
      ·(try dsimp only)
       first | exact HS.out _ (Bdrew (B0 _)) | exact HS.out _ HB5r.out | exact hHeld
      refine tkz 0 ?_
      refine tkz 1 ?_
      refine tkz 2 ?_
      refine tkz 3 ?_
      refine tkz 4 ?_
      refine tkz 8 ?_
      refine rdz 5 fun K hK => ?_
      go_simp
      (go_at_call 91; refine (r7Foot_c _ _ _ _ _).mono ?_; rintro e w5 ⟨rfl, hb5⟩; rw [HI.out]; have HB5 := hidp (Bgo (Bdrew HB3.out) hb5); have HB5r := hidp (Bgo (Bdrew (B0 w3)) hb5); have HX5 := hidp (HX3.out.drew.keep hb5); have HL5 := hidp (HL3.out.drew.keep hb5); clear hb5)
      refine hK.out _ _ ?_ (fun hHeld => ?_)
      ·(try dsimp only)
       first | exact HS.out _ (Bdrew (B0 _)) | exact HS.out _ HB5r.out | exact hHeld
      clear hK K
      (try simp only [Act.put, gA, gB, gC, sA, sB, sC])
      refine tkz 6 ?_
      refine tkz 7 ?_
      refine tkz 9 ?_
      refine dnz ?_
      go_wp2_with fail
      go_ret
      exact ⟨by rw [HFIN.out]; rfl, HB5.out⟩
     ·have t1c : ¬ (nn + 1 < nl) := by omega
      have t1b : decide (nn + 1 < nl) = false := decide_eq_false t1c
      have t1 : decide (((nn + 1 : Nat) : Int) < nl) = false := decide_eq_false (by omega)
      have swn : IntKind.i64.wrap ((nn : Int) + 1) = ((nn + 1 : Nat) : Int) := by rw [i64_same (by omega) (by omega)]; push_cast; rfl
      clear g1
      have q5 : ((p : Int) == ((a + m - 1 : Nat) : Int)) = true := by simp; omega
      have q6 : ((v : Int) != ((a : Int) + 1)) = true := by simp; omega
      have HFIN := hidp ((bool_no HBC.out (fun h => hvw (HRV.out.1 h)) : b = false))
      clear hpm hvw HRV hle
      go_wp2_with fail
      refine wp_region_held_drew (S := (fun w' => w'.cell? ⟨w.heap.size, 0, none⟩ = some (.int .i64 (H.t : Int)) /\ w'.cell? ⟨w.heap.size, 1, none⟩ = some (.int .i64 (H.p : Int)) /\ w'.cell? ⟨w.heap.size, 2, none⟩ = some (.int .i64 (H.s : Int)) /\ w'.cell? ⟨w.heap.size, 3, none⟩ = some (.slice (some ad) n c) /\ w'.cell? ⟨gl, nn, none⟩ = some (.int .i64 (a : Int)))) (by kernel_rfl) ?_ (fun hHeld => ?_)
      ·(try dsimp only)
       first | exact HSF.out _ (Bdrew (B0 _)) | exact HSF.out _ HB3r.out | exact hHeld
      refine tkz 0 ?_
      refine tkz 1 ?_
      refine tkz 2 ?_
      refine tkz 3 ?_
      refine tkz 4 ?_
      refine tkz 5 ?_
      refine tkz 6 ?_
      refine tkz 7 ?_
      refine tkz 8 ?_
      refine tkz 9 ?_
      refine rdz 10 fun K hK => ?_
      go_simp
      (go_at_call 78; refine (xInfo_c HV ad hap _ HVR.out.drew).mono ?_; rintro e w3 ⟨rfl, hb3⟩; rw [HLM.out]; have HB3 := hidp (Bgo (Bdrew HB.out) hb3); have HB3r := hidp (Bgo (Bdrew (B0 wr)) hb3); have HX3 := hidp (HX.out.drew.keep hb3); have HL3 := hidp (HLW.out.drew.keep hb3); clear hb3)
      refine hK.out _ _ ?_ (fun hHeld => ?_)
      ·(try dsimp only)
       first | exact HSF.out _ (Bdrew (B0 _)) | exact HSF.out _ HB3r.out | exact hHeld
      clear hK K
      (try simp only [Act.put, gA, gB, gC, sA, sB, sC])
      refine tkz 11 ?_
      refine tkz 12 ?_
      refine tkz 13 ?_
      refine tkz 14 ?_
      refine dnz ?_
      obtain ⟨c0, c1, c2, c3⟩ := HX3.out.four
      have l3 := HL3.out.2 nn a HNN.out
      have HV3 := hidp (HVL.out.below HB3.out)
      have hci := (HV3.out).2 i hini
      rw [<- hceli, hvvv] at hci
      have hbli : (ad.add i).block < w3.heap.size := by rw [block_of_add]; exact (HV3.out).1
      have HS : Hid (∀ w', Below w3.heap.size w3 w' -> (fun w' => w'.cell? ⟨w.heap.size, 0, none⟩ = some (.int .i64 (H.t : Int)) /\ w'.cell? ⟨w.heap.size, 1, none⟩ = some (.int .i64 (H.p : Int)) /\ w'.cell? ⟨w.heap.size, 2, none⟩ = some (.int .i64 (H.s : Int)) /\ w'.cell? ⟨w.heap.size, 3, none⟩ = some (.slice (some ad) n c) /\ w'.cell? (ad.add i) = some (.int .u32 (v : Int))) w') := hidp (fun w' hb => by have hh := HX3.out.keep hb; exact ⟨hh.four.1, hh.four.2.1, hh.four.2.2.1, hh.four.2.2.2, (hb.cell hbli).trans hci⟩)
      clear hci hbli hceli hvvv hii
      go_wp2_with fail
      refine wp_region_held_drew (S := (fun w' => w'.cell? ⟨w.heap.size, 0, none⟩ = some (.int .i64 (H.t : Int)) /\ w'.cell? ⟨w.heap.size, 1, none⟩ = some (.int .i64 (H.p : Int)) /\ w'.cell? ⟨w.heap.size, 2, none⟩ = some (.int .i64 (H.s : Int)) /\ w'.cell? ⟨w.heap.size, 3, none⟩ = some (.slice (some ad) n c) /\ w'.cell? (ad.add i) = some (.int .u32 (v : Int)))) (by kernel_rfl) ?_ (fun hHeld => ?_)
      ·(try dsimp only)
       first | exact HS.out _ (Bdrew (B0 _)) | exact HS.out _ HB5r.out | exact hHeld
      refine tkz 0 ?_
      refine tkz 1 ?_
      refine tkz 2 ?_
      refine tkz 3 ?_
      refine tkz 4 ?_
      refine tkz 8 ?_
      refine rdz 5 fun K hK => ?_
      go_simp
      (go_at_call 91; refine (r7Foot_c _ _ _ _ _).mono ?_; rintro e w5 ⟨rfl, hb5⟩; rw [HI.out]; have HB5 := hidp (Bgo (Bdrew HB3.out) hb5); have HB5r := hidp (Bgo (Bdrew (B0 w3)) hb5); have HX5 := hidp (HX3.out.drew.keep hb5); have HL5 := hidp (HL3.out.drew.keep hb5); clear hb5)
      refine hK.out _ _ ?_ (fun hHeld => ?_)
      ·(try dsimp only)
       first | exact HS.out _ (Bdrew (B0 _)) | exact HS.out _ HB5r.out | exact hHeld
      clear hK K
      (try simp only [Act.put, gA, gB, gC, sA, sB, sC])
      refine tkz 6 ?_
      refine tkz 7 ?_
      refine tkz 9 ?_
      refine dnz ?_
      go_wp2_with fail
      go_ret
      exact ⟨by rw [HFIN.out]; rfl, HB5.out⟩
   ·by_cases hvw : v = 0
    ·rcases hcase with ⟨g1, g2, g3⟩ | ⟨g1, rfl, y, g3, g4⟩ | ⟨g1, rfl⟩
     ·have t1c : nn < nl := by omega
      have t1 : decide ((nn : Int) < nl) = true := decide_eq_true (by omega)
      have swn : IntKind.i64.wrap ((n1 : Int) + 1) = (nn : Int) := by rw [i64_same (by omega) (by omega)]; omega
      have q0 : ((a : Int) == (p : Int)) = true := by simp; omega
      clear g1 g2 g3
      have q5 : ((p : Int) == ((a + m - 1 : Nat) : Int)) = false := by simp; omega
      have q6 : ((v : Int) != (0 : Int)) = false := by simp; omega
      have HFIN := hidp (HRV.out.2 (by omega))
      clear hpm hvw HRV hle
      go_wp2_with fail
      refine wp_region_held_drew (S := (fun w' => w'.cell? ⟨w.heap.size, 0, none⟩ = some (.int .i64 (H.t : Int)) /\ w'.cell? ⟨w.heap.size, 1, none⟩ = some (.int .i64 (H.p : Int)) /\ w'.cell? ⟨w.heap.size, 2, none⟩ = some (.int .i64 (H.s : Int)) /\ w'.cell? ⟨w.heap.size, 3, none⟩ = some (.slice (some ad) n c) /\ w'.cell? ⟨gl, nn, none⟩ = some (.int .i64 (a : Int)))) (by kernel_rfl) ?_ (fun hHeld => ?_)
      ·(try dsimp only)
       first | exact HSF.out _ (Bdrew (B0 _)) | exact HSF.out _ HB3r.out | exact hHeld
      refine tkz 0 ?_
      refine tkz 1 ?_
      refine tkz 2 ?_
      refine tkz 3 ?_
      refine tkz 4 ?_
      refine tkz 5 ?_
      refine tkz 6 ?_
      refine tkz 7 ?_
      refine tkz 8 ?_
      refine tkz 9 ?_
      refine rdz 10 fun K hK => ?_
      go_simp
      (go_at_call 78; refine (xInfo_c HV ad hap _ HVR.out.drew).mono ?_; rintro e w3 ⟨rfl, hb3⟩; rw [HLM.out]; have HB3 := hidp (Bgo (Bdrew HB.out) hb3); have HB3r := hidp (Bgo (Bdrew (B0 wr)) hb3); have HX3 := hidp (HX.out.drew.keep hb3); have HL3 := hidp (HLW.out.drew.keep hb3); clear hb3)
      refine hK.out _ _ ?_ (fun hHeld => ?_)
      ·(try dsimp only)
       first | exact HSF.out _ (Bdrew (B0 _)) | exact HSF.out _ HB3r.out | exact hHeld
      clear hK K
      (try simp only [Act.put, gA, gB, gC, sA, sB, sC])
      refine tkz 11 ?_
      refine tkz 12 ?_
      refine tkz 13 ?_
      refine tkz 14 ?_
      refine dnz ?_
      obtain ⟨c0, c1, c2, c3⟩ := HX3.out.four
      have l3 := HL3.out.2 nn a HNN.out
      have HV3 := hidp (HVL.out.below HB3.out)
      have hci := (HV3.out).2 i hini
      rw [<- hceli, hvvv] at hci
      have hbli : (ad.add i).block < w3.heap.size := by rw [block_of_add]; exact (HV3.out).1
      have HS : Hid (∀ w', Below w3.heap.size w3 w' -> (fun w' => w'.cell? ⟨w.heap.size, 0, none⟩ = some (.int .i64 (H.t : Int)) /\ w'.cell? ⟨w.heap.size, 1, none⟩ = some (.int .i64 (H.p : Int)) /\ w'.cell? ⟨w.heap.size, 2, none⟩ = some (.int .i64 (H.s : Int)) /\ w'.cell? ⟨w.heap.size, 3, none⟩ = some (.slice (some ad) n c) /\ w'.cell? (ad.add i) = some (.int .u32 (v : Int))) w') := hidp (fun w' hb => by have hh := HX3.out.keep hb; exact ⟨hh.four.1, hh.four.2.1, hh.four.2.2.1, hh.four.2.2.2, (hb.cell hbli).trans hci⟩)
      clear hci hbli hceli hvvv hii
      go_wp2_with fail
      refine wp_region_held_drew (S := (fun w' => w'.cell? ⟨w.heap.size, 0, none⟩ = some (.int .i64 (H.t : Int)) /\ w'.cell? ⟨w.heap.size, 1, none⟩ = some (.int .i64 (H.p : Int)) /\ w'.cell? ⟨w.heap.size, 2, none⟩ = some (.int .i64 (H.s : Int)) /\ w'.cell? ⟨w.heap.size, 3, none⟩ = some (.slice (some ad) n c) /\ w'.cell? (ad.add i) = some (.int .u32 (v : Int)))) (by kernel_rfl) ?_ (fun hHeld => ?_)
      ·(try dsimp only)
       first | exact HS.out _ (Bdrew (B0 _)) | exact HS.out _ HB5r.out | exact hHeld
      refine tkz 0 ?_
      refine tkz 1 ?_
      refine tkz 2 ?_
      refine tkz 3 ?_
      refine tkz 4 ?_
      refine tkz 8 ?_
      refine rdz 5 fun K hK => ?_
      go_simp
      (go_at_call 91; refine (r7Foot_c _ _ _ _ _).mono ?_; rintro e w5 ⟨rfl, hb5⟩; rw [HI.out]; have HB5 := hidp (Bgo (Bdrew HB3.out) hb5); have HB5r := hidp (Bgo (Bdrew (B0 w3)) hb5); have HX5 := hidp (HX3.out.drew.keep hb5); have HL5 := hidp (HL3.out.drew.keep hb5); clear hb5)
      refine hK.out _ _ ?_ (fun hHeld => ?_)
      ·(try dsimp only)
       first | exact HS.out _ (Bdrew (B0 _)) | exact HS.out _ HB5r.out | exact hHeld
      clear hK K
      (try simp only [Act.put, gA, gB, gC, sA, sB, sC])
      refine tkz 6 ?_
      refine tkz 7 ?_
      refine tkz 9 ?_
      refine dnz ?_
      go_wp2_with fail
      go_roundw
      case rel => exact ⟨nn, p + 1, a, by have := HNL.out; omega, by omega, by have := HLE.out; omega, hidp HLX.out, by go_num, by go_num, HNN, HFIN, HX5, HL5, HB5⟩
      case measure => simp [intOf]; omega
     ·have t1c : nn + 1 < nl := by omega
      have t1 : decide (((nn + 1 : Nat) : Int) < nl) = true := decide_eq_true (by omega)
      have swn : IntKind.i64.wrap ((nn : Int) + 1) = ((nn + 1 : Nat) : Int) := by rw [i64_same (by omega) (by omega)]; push_cast; rfl
      have l1 := HLW.out.2 _ _ g3
      have q0 : ((y : Int) == (p : Int)) = false := by simp; omega
      clear g1 g3 g4
      have q5 : ((p : Int) == ((a + m - 1 : Nat) : Int)) = false := by simp; omega
      have q6 : ((v : Int) != (0 : Int)) = false := by simp; omega
      have HFIN := hidp (HRV.out.2 (by omega))
      clear hpm hvw HRV hle
      go_wp2_with fail
      refine wp_region_held_drew (S := (fun w' => w'.cell? ⟨w.heap.size, 0, none⟩ = some (.int .i64 (H.t : Int)) /\ w'.cell? ⟨w.heap.size, 1, none⟩ = some (.int .i64 (H.p : Int)) /\ w'.cell? ⟨w.heap.size, 2, none⟩ = some (.int .i64 (H.s : Int)) /\ w'.cell? ⟨w.heap.size, 3, none⟩ = some (.slice (some ad) n c) /\ w'.cell? ⟨gl, nn, none⟩ = some (.int .i64 (a : Int)))) (by kernel_rfl) ?_ (fun hHeld => ?_)
      ·(try dsimp only)
       first | exact HSF.out _ (Bdrew (B0 _)) | exact HSF.out _ HB3r.out | exact hHeld
      refine tkz 0 ?_
      refine tkz 1 ?_
      refine tkz 2 ?_
      refine tkz 3 ?_
      refine tkz 4 ?_
      refine tkz 5 ?_
      refine tkz 6 ?_
      refine tkz 7 ?_
      refine tkz 8 ?_
      refine tkz 9 ?_
      refine rdz 10 fun K hK => ?_
      go_simp
      (go_at_call 78; refine (xInfo_c HV ad hap _ HVR.out.drew).mono ?_; rintro e w3 ⟨rfl, hb3⟩; rw [HLM.out]; have HB3 := hidp (Bgo (Bdrew HB.out) hb3); have HB3r := hidp (Bgo (Bdrew (B0 wr)) hb3); have HX3 := hidp (HX.out.drew.keep hb3); have HL3 := hidp (HLW.out.drew.keep hb3); clear hb3)
      refine hK.out _ _ ?_ (fun hHeld => ?_)
      ·(try dsimp only)
       first | exact HSF.out _ (Bdrew (B0 _)) | exact HSF.out _ HB3r.out | exact hHeld
      clear hK K
      (try simp only [Act.put, gA, gB, gC, sA, sB, sC])
      refine tkz 11 ?_
      refine tkz 12 ?_
      refine tkz 13 ?_
      refine tkz 14 ?_
      refine dnz ?_
      obtain ⟨c0, c1, c2, c3⟩ := HX3.out.four
      have l3 := HL3.out.2 nn a HNN.out
      have HV3 := hidp (HVL.out.below HB3.out)
      have hci := (HV3.out).2 i hini
      rw [<- hceli, hvvv] at hci
      have hbli : (ad.add i).block < w3.heap.size := by rw [block_of_add]; exact (HV3.out).1
      have HS : Hid (∀ w', Below w3.heap.size w3 w' -> (fun w' => w'.cell? ⟨w.heap.size, 0, none⟩ = some (.int .i64 (H.t : Int)) /\ w'.cell? ⟨w.heap.size, 1, none⟩ = some (.int .i64 (H.p : Int)) /\ w'.cell? ⟨w.heap.size, 2, none⟩ = some (.int .i64 (H.s : Int)) /\ w'.cell? ⟨w.heap.size, 3, none⟩ = some (.slice (some ad) n c) /\ w'.cell? (ad.add i) = some (.int .u32 (v : Int))) w') := hidp (fun w' hb => by have hh := HX3.out.keep hb; exact ⟨hh.four.1, hh.four.2.1, hh.four.2.2.1, hh.four.2.2.2, (hb.cell hbli).trans hci⟩)
      clear hci hbli hceli hvvv hii
      go_wp2_with fail
      refine wp_region_held_drew (S := (fun w' => w'.cell? ⟨w.heap.size, 0, none⟩ = some (.int .i64 (H.t : Int)) /\ w'.cell? ⟨w.heap.size, 1, none⟩ = some (.int .i64 (H.p : Int)) /\ w'.cell? ⟨w.heap.size, 2, none⟩ = some (.int .i64 (H.s : Int)) /\ w'.cell? ⟨w.heap.size, 3, none⟩ = some (.slice (some ad) n c) /\ w'.cell? (ad.add i) = some (.int .u32 (v : Int)))) (by kernel_rfl) ?_ (fun hHeld => ?_)
      ·(try dsimp only)
       first | exact HS.out _ (Bdrew (B0 _)) | exact HS.out _ HB5r.out | exact hHeld
      refine tkz 0 ?_
      refine tkz 1 ?_
      refine tkz 2 ?_
      refine tkz 3 ?_
      refine tkz 4 ?_
      refine tkz 8 ?_
      refine rdz 5 fun K hK => ?_
      go_simp
      (go_at_call 91; refine (r7Foot_c _ _ _ _ _).mono ?_; rintro e w5 ⟨rfl, hb5⟩; rw [HI.out]; have HB5 := hidp (Bgo (Bdrew HB3.out) hb5); have HB5r := hidp (Bgo (Bdrew (B0 w3)) hb5); have HX5 := hidp (HX3.out.drew.keep hb5); have HL5 := hidp (HL3.out.drew.keep hb5); clear hb5)
      refine hK.out _ _ ?_ (fun hHeld => ?_)
      ·(try dsimp only)
       first | exact HS.out _ (Bdrew (B0 _)) | exact HS.out _ HB5r.out | exact hHeld
      clear hK K
      (try simp only [Act.put, gA, gB, gC, sA, sB, sC])
      refine tkz 6 ?_
      refine tkz 7 ?_
      refine tkz 9 ?_
      refine dnz ?_
      go_wp2_with fail
      go_roundw
      case rel => exact ⟨nn, p + 1, a, by have := HNL.out; omega, by omega, by have := HLE.out; omega, hidp HLX.out, by go_num, by go_num, HNN, HFIN, HX5, HL5, HB5⟩
      case measure => simp [intOf]; omega
     ·have t1c : ¬ (nn + 1 < nl) := by omega
      have t1b : decide (nn + 1 < nl) = false := decide_eq_false t1c
      have t1 : decide (((nn + 1 : Nat) : Int) < nl) = false := decide_eq_false (by omega)
      have swn : IntKind.i64.wrap ((nn : Int) + 1) = ((nn + 1 : Nat) : Int) := by rw [i64_same (by omega) (by omega)]; push_cast; rfl
      clear g1
      have q5 : ((p : Int) == ((a + m - 1 : Nat) : Int)) = false := by simp; omega
      have q6 : ((v : Int) != (0 : Int)) = false := by simp; omega
      have HFIN := hidp (HRV.out.2 (by omega))
      clear hpm hvw HRV hle
      go_wp2_with fail
      refine wp_region_held_drew (S := (fun w' => w'.cell? ⟨w.heap.size, 0, none⟩ = some (.int .i64 (H.t : Int)) /\ w'.cell? ⟨w.heap.size, 1, none⟩ = some (.int .i64 (H.p : Int)) /\ w'.cell? ⟨w.heap.size, 2, none⟩ = some (.int .i64 (H.s : Int)) /\ w'.cell? ⟨w.heap.size, 3, none⟩ = some (.slice (some ad) n c) /\ w'.cell? ⟨gl, nn, none⟩ = some (.int .i64 (a : Int)))) (by kernel_rfl) ?_ (fun hHeld => ?_)
      ·(try dsimp only)
       first | exact HSF.out _ (Bdrew (B0 _)) | exact HSF.out _ HB3r.out | exact hHeld
      refine tkz 0 ?_
      refine tkz 1 ?_
      refine tkz 2 ?_
      refine tkz 3 ?_
      refine tkz 4 ?_
      refine tkz 5 ?_
      refine tkz 6 ?_
      refine tkz 7 ?_
      refine tkz 8 ?_
      refine tkz 9 ?_
      refine rdz 10 fun K hK => ?_
      go_simp
      (go_at_call 78; refine (xInfo_c HV ad hap _ HVR.out.drew).mono ?_; rintro e w3 ⟨rfl, hb3⟩; rw [HLM.out]; have HB3 := hidp (Bgo (Bdrew HB.out) hb3); have HB3r := hidp (Bgo (Bdrew (B0 wr)) hb3); have HX3 := hidp (HX.out.drew.keep hb3); have HL3 := hidp (HLW.out.drew.keep hb3); clear hb3)
      refine hK.out _ _ ?_ (fun hHeld => ?_)
      ·(try dsimp only)
       first | exact HSF.out _ (Bdrew (B0 _)) | exact HSF.out _ HB3r.out | exact hHeld
      clear hK K
      (try simp only [Act.put, gA, gB, gC, sA, sB, sC])
      refine tkz 11 ?_
      refine tkz 12 ?_
      refine tkz 13 ?_
      refine tkz 14 ?_
      refine dnz ?_
      obtain ⟨c0, c1, c2, c3⟩ := HX3.out.four
      have l3 := HL3.out.2 nn a HNN.out
      have HV3 := hidp (HVL.out.below HB3.out)
      have hci := (HV3.out).2 i hini
      rw [<- hceli, hvvv] at hci
      have hbli : (ad.add i).block < w3.heap.size := by rw [block_of_add]; exact (HV3.out).1
      have HS : Hid (∀ w', Below w3.heap.size w3 w' -> (fun w' => w'.cell? ⟨w.heap.size, 0, none⟩ = some (.int .i64 (H.t : Int)) /\ w'.cell? ⟨w.heap.size, 1, none⟩ = some (.int .i64 (H.p : Int)) /\ w'.cell? ⟨w.heap.size, 2, none⟩ = some (.int .i64 (H.s : Int)) /\ w'.cell? ⟨w.heap.size, 3, none⟩ = some (.slice (some ad) n c) /\ w'.cell? (ad.add i) = some (.int .u32 (v : Int))) w') := hidp (fun w' hb => by have hh := HX3.out.keep hb; exact ⟨hh.four.1, hh.four.2.1, hh.four.2.2.1, hh.four.2.2.2, (hb.cell hbli).trans hci⟩)
      clear hci hbli hceli hvvv hii
      go_wp2_with fail
      refine wp_region_held_drew (S := (fun w' => w'.cell? ⟨w.heap.size, 0, none⟩ = some (.int .i64 (H.t : Int)) /\ w'.cell? ⟨w.heap.size, 1, none⟩ = some (.int .i64 (H.p : Int)) /\ w'.cell? ⟨w.heap.size, 2, none⟩ = some (.int .i64 (H.s : Int)) /\ w'.cell? ⟨w.heap.size, 3, none⟩ = some (.slice (some ad) n c) /\ w'.cell? (ad.add i) = some (.int .u32 (v : Int)))) (by kernel_rfl) ?_ (fun hHeld => ?_)
      ·(try dsimp only)
       first | exact HS.out _ (Bdrew (B0 _)) | exact HS.out _ HB5r.out | exact hHeld
      refine tkz 0 ?_
      refine tkz 1 ?_
      refine tkz 2 ?_
      refine tkz 3 ?_
      refine tkz 4 ?_
      refine tkz 8 ?_
      refine rdz 5 fun K hK => ?_
      go_simp
      (go_at_call 91; refine (r7Foot_c _ _ _ _ _).mono ?_; rintro e w5 ⟨rfl, hb5⟩; rw [HI.out]; have HB5 := hidp (Bgo (Bdrew HB3.out) hb5); have HB5r := hidp (Bgo (Bdrew (B0 w3)) hb5); have HX5 := hidp (HX3.out.drew.keep hb5); have HL5 := hidp (HL3.out.drew.keep hb5); clear hb5)
      refine hK.out _ _ ?_ (fun hHeld => ?_)
      ·(try dsimp only)
       first | exact HS.out _ (Bdrew (B0 _)) | exact HS.out _ HB5r.out | exact hHeld
      clear hK K
      (try simp only [Act.put, gA, gB, gC, sA, sB, sC])
      refine tkz 6 ?_
      refine tkz 7 ?_
      refine tkz 9 ?_
      refine dnz ?_
      go_wp2_with fail
      go_roundw
      case rel => exact ⟨nn, p + 1, a, by have := HNL.out; omega, by omega, by have := HLE.out; omega, hidp HLX.out, by go_num, by go_num, HNN, HFIN, HX5, HL5, HB5⟩
      case measure => simp [intOf]; omega
    ·rcases hcase with ⟨g1, g2, g3⟩ | ⟨g1, rfl, y, g3, g4⟩ | ⟨g1, rfl⟩
     ·have t1c : nn < nl := by omega
      have t1 : decide ((nn : Int) < nl) = true := decide_eq_true (by omega)
      have swn : IntKind.i64.wrap ((n1 : Int) + 1) = (nn : Int) := by rw [i64_same (by omega) (by omega)]; omega
      have q0 : ((a : Int) == (p : Int)) = true := by simp; omega
      clear g1 g2 g3
      have q5 : ((p : Int) == ((a + m - 1 : Nat) : Int)) = false := by simp; omega
      have q6 : ((v : Int) != (0 : Int)) = true := by simp; omega
      have HFIN := hidp ((bool_no HBC.out (fun h => hvw (HRV.out.1 h)) : b = false))
      clear hpm hvw HRV hle
      go_wp2_with fail
      refine wp_region_held_drew (S := (fun w' => w'.cell? ⟨w.heap.size, 0, none⟩ = some (.int .i64 (H.t : Int)) /\ w'.cell? ⟨w.heap.size, 1, none⟩ = some (.int .i64 (H.p : Int)) /\ w'.cell? ⟨w.heap.size, 2, none⟩ = some (.int .i64 (H.s : Int)) /\ w'.cell? ⟨w.heap.size, 3, none⟩ = some (.slice (some ad) n c) /\ w'.cell? ⟨gl, nn, none⟩ = some (.int .i64 (a : Int)))) (by kernel_rfl) ?_ (fun hHeld => ?_)
      ·(try dsimp only)
       first | exact HSF.out _ (Bdrew (B0 _)) | exact HSF.out _ HB3r.out | exact hHeld
      refine tkz 0 ?_
      refine tkz 1 ?_
      refine tkz 2 ?_
      refine tkz 3 ?_
      refine tkz 4 ?_
      refine tkz 5 ?_
      refine tkz 6 ?_
      refine tkz 7 ?_
      refine tkz 8 ?_
      refine tkz 9 ?_
      refine rdz 10 fun K hK => ?_
      go_simp
      (go_at_call 78; refine (xInfo_c HV ad hap _ HVR.out.drew).mono ?_; rintro e w3 ⟨rfl, hb3⟩; rw [HLM.out]; have HB3 := hidp (Bgo (Bdrew HB.out) hb3); have HB3r := hidp (Bgo (Bdrew (B0 wr)) hb3); have HX3 := hidp (HX.out.drew.keep hb3); have HL3 := hidp (HLW.out.drew.keep hb3); clear hb3)
      refine hK.out _ _ ?_ (fun hHeld => ?_)
      ·(try dsimp only)
       first | exact HSF.out _ (Bdrew (B0 _)) | exact HSF.out _ HB3r.out | exact hHeld
      clear hK K
      (try simp only [Act.put, gA, gB, gC, sA, sB, sC])
      refine tkz 11 ?_
      refine tkz 12 ?_
      refine tkz 13 ?_
      refine tkz 14 ?_
      refine dnz ?_
      obtain ⟨c0, c1, c2, c3⟩ := HX3.out.four
      have l3 := HL3.out.2 nn a HNN.out
      have HV3 := hidp (HVL.out.below HB3.out)
      have hci := (HV3.out).2 i hini
      rw [<- hceli, hvvv] at hci
      have hbli : (ad.add i).block < w3.heap.size := by rw [block_of_add]; exact (HV3.out).1
      have HS : Hid (∀ w', Below w3.heap.size w3 w' -> (fun w' => w'.cell? ⟨w.heap.size, 0, none⟩ = some (.int .i64 (H.t : Int)) /\ w'.cell? ⟨w.heap.size, 1, none⟩ = some (.int .i64 (H.p : Int)) /\ w'.cell? ⟨w.heap.size, 2, none⟩ = some (.int .i64 (H.s : Int)) /\ w'.cell? ⟨w.heap.size, 3, none⟩ = some (.slice (some ad) n c) /\ w'.cell? (ad.add i) = some (.int .u32 (v : Int))) w') := hidp (fun w' hb => by have hh := HX3.out.keep hb; exact ⟨hh.four.1, hh.four.2.1, hh.four.2.2.1, hh.four.2.2.2, (hb.cell hbli).trans hci⟩)
      clear hci hbli hceli hvvv hii
      go_wp2_with fail
      refine wp_region_held_drew (S := (fun w' => w'.cell? ⟨w.heap.size, 0, none⟩ = some (.int .i64 (H.t : Int)) /\ w'.cell? ⟨w.heap.size, 1, none⟩ = some (.int .i64 (H.p : Int)) /\ w'.cell? ⟨w.heap.size, 2, none⟩ = some (.int .i64 (H.s : Int)) /\ w'.cell? ⟨w.heap.size, 3, none⟩ = some (.slice (some ad) n c) /\ w'.cell? (ad.add i) = some (.int .u32 (v : Int)))) (by kernel_rfl) ?_ (fun hHeld => ?_)
      ·(try dsimp only)
       first | exact HS.out _ (Bdrew (B0 _)) | exact HS.out _ HB5r.out | exact hHeld
      refine tkz 0 ?_
      refine tkz 1 ?_
      refine tkz 2 ?_
      refine tkz 3 ?_
      refine tkz 4 ?_
      refine tkz 8 ?_
      refine rdz 5 fun K hK => ?_
      go_simp
      (go_at_call 91; refine (r7Foot_c _ _ _ _ _).mono ?_; rintro e w5 ⟨rfl, hb5⟩; rw [HI.out]; have HB5 := hidp (Bgo (Bdrew HB3.out) hb5); have HB5r := hidp (Bgo (Bdrew (B0 w3)) hb5); have HX5 := hidp (HX3.out.drew.keep hb5); have HL5 := hidp (HL3.out.drew.keep hb5); clear hb5)
      refine hK.out _ _ ?_ (fun hHeld => ?_)
      ·(try dsimp only)
       first | exact HS.out _ (Bdrew (B0 _)) | exact HS.out _ HB5r.out | exact hHeld
      clear hK K
      (try simp only [Act.put, gA, gB, gC, sA, sB, sC])
      refine tkz 6 ?_
      refine tkz 7 ?_
      refine tkz 9 ?_
      refine dnz ?_
      go_wp2_with fail
      go_ret
      exact ⟨by rw [HFIN.out]; rfl, HB5.out⟩
     ·have t1c : nn + 1 < nl := by omega
      have t1 : decide (((nn + 1 : Nat) : Int) < nl) = true := decide_eq_true (by omega)
      have swn : IntKind.i64.wrap ((nn : Int) + 1) = ((nn + 1 : Nat) : Int) := by rw [i64_same (by omega) (by omega)]; push_cast; rfl
      have l1 := HLW.out.2 _ _ g3
      have q0 : ((y : Int) == (p : Int)) = false := by simp; omega
      clear g1 g3 g4
      have q5 : ((p : Int) == ((a + m - 1 : Nat) : Int)) = false := by simp; omega
      have q6 : ((v : Int) != (0 : Int)) = true := by simp; omega
      have HFIN := hidp ((bool_no HBC.out (fun h => hvw (HRV.out.1 h)) : b = false))
      clear hpm hvw HRV hle
      go_wp2_with fail
      refine wp_region_held_drew (S := (fun w' => w'.cell? ⟨w.heap.size, 0, none⟩ = some (.int .i64 (H.t : Int)) /\ w'.cell? ⟨w.heap.size, 1, none⟩ = some (.int .i64 (H.p : Int)) /\ w'.cell? ⟨w.heap.size, 2, none⟩ = some (.int .i64 (H.s : Int)) /\ w'.cell? ⟨w.heap.size, 3, none⟩ = some (.slice (some ad) n c) /\ w'.cell? ⟨gl, nn, none⟩ = some (.int .i64 (a : Int)))) (by kernel_rfl) ?_ (fun hHeld => ?_)
      ·(try dsimp only)
       first | exact HSF.out _ (Bdrew (B0 _)) | exact HSF.out _ HB3r.out | exact hHeld
      refine tkz 0 ?_
      refine tkz 1 ?_
      refine tkz 2 ?_
      refine tkz 3 ?_
      refine tkz 4 ?_
      refine tkz 5 ?_
      refine tkz 6 ?_
      refine tkz 7 ?_
      refine tkz 8 ?_
      refine tkz 9 ?_
      refine rdz 10 fun K hK => ?_
      go_simp
      (go_at_call 78; refine (xInfo_c HV ad hap _ HVR.out.drew).mono ?_; rintro e w3 ⟨rfl, hb3⟩; rw [HLM.out]; have HB3 := hidp (Bgo (Bdrew HB.out) hb3); have HB3r := hidp (Bgo (Bdrew (B0 wr)) hb3); have HX3 := hidp (HX.out.drew.keep hb3); have HL3 := hidp (HLW.out.drew.keep hb3); clear hb3)
      refine hK.out _ _ ?_ (fun hHeld => ?_)
      ·(try dsimp only)
       first | exact HSF.out _ (Bdrew (B0 _)) | exact HSF.out _ HB3r.out | exact hHeld
      clear hK K
      (try simp only [Act.put, gA, gB, gC, sA, sB, sC])
      refine tkz 11 ?_
      refine tkz 12 ?_
      refine tkz 13 ?_
      refine tkz 14 ?_
      refine dnz ?_
      obtain ⟨c0, c1, c2, c3⟩ := HX3.out.four
      have l3 := HL3.out.2 nn a HNN.out
      have HV3 := hidp (HVL.out.below HB3.out)
      have hci := (HV3.out).2 i hini
      rw [<- hceli, hvvv] at hci
      have hbli : (ad.add i).block < w3.heap.size := by rw [block_of_add]; exact (HV3.out).1
      have HS : Hid (∀ w', Below w3.heap.size w3 w' -> (fun w' => w'.cell? ⟨w.heap.size, 0, none⟩ = some (.int .i64 (H.t : Int)) /\ w'.cell? ⟨w.heap.size, 1, none⟩ = some (.int .i64 (H.p : Int)) /\ w'.cell? ⟨w.heap.size, 2, none⟩ = some (.int .i64 (H.s : Int)) /\ w'.cell? ⟨w.heap.size, 3, none⟩ = some (.slice (some ad) n c) /\ w'.cell? (ad.add i) = some (.int .u32 (v : Int))) w') := hidp (fun w' hb => by have hh := HX3.out.keep hb; exact ⟨hh.four.1, hh.four.2.1, hh.four.2.2.1, hh.four.2.2.2, (hb.cell hbli).trans hci⟩)
      clear hci hbli hceli hvvv hii
      go_wp2_with fail
      refine wp_region_held_drew (S := (fun w' => w'.cell? ⟨w.heap.size, 0, none⟩ = some (.int .i64 (H.t : Int)) /\ w'.cell? ⟨w.heap.size, 1, none⟩ = some (.int .i64 (H.p : Int)) /\ w'.cell? ⟨w.heap.size, 2, none⟩ = some (.int .i64 (H.s : Int)) /\ w'.cell? ⟨w.heap.size, 3, none⟩ = some (.slice (some ad) n c) /\ w'.cell? (ad.add i) = some (.int .u32 (v : Int)))) (by kernel_rfl) ?_ (fun hHeld => ?_)
      ·(try dsimp only)
       first | exact HS.out _ (Bdrew (B0 _)) | exact HS.out _ HB5r.out | exact hHeld
      refine tkz 0 ?_
      refine tkz 1 ?_
      refine tkz 2 ?_
      refine tkz 3 ?_
      refine tkz 4 ?_
      refine tkz 8 ?_
      refine rdz 5 fun K hK => ?_
      go_simp
      (go_at_call 91; refine (r7Foot_c _ _ _ _ _).mono ?_; rintro e w5 ⟨rfl, hb5⟩; rw [HI.out]; have HB5 := hidp (Bgo (Bdrew HB3.out) hb5); have HB5r := hidp (Bgo (Bdrew (B0 w3)) hb5); have HX5 := hidp (HX3.out.drew.keep hb5); have HL5 := hidp (HL3.out.drew.keep hb5); clear hb5)
      refine hK.out _ _ ?_ (fun hHeld => ?_)
      ·(try dsimp only)
       first | exact HS.out _ (Bdrew (B0 _)) | exact HS.out _ HB5r.out | exact hHeld
      clear hK K
      (try simp only [Act.put, gA, gB, gC, sA, sB, sC])
      refine tkz 6 ?_
      refine tkz 7 ?_
      refine tkz 9 ?_
      refine dnz ?_
      go_wp2_with fail
      go_ret
      exact ⟨by rw [HFIN.out]; rfl, HB5.out⟩
     ·have t1c : ¬ (nn + 1 < nl) := by omega
      have t1b : decide (nn + 1 < nl) = false := decide_eq_false t1c
      have t1 : decide (((nn + 1 : Nat) : Int) < nl) = false := decide_eq_false (by omega)
      have swn : IntKind.i64.wrap ((nn : Int) + 1) = ((nn + 1 : Nat) : Int) := by rw [i64_same (by omega) (by omega)]; push_cast; rfl
      clear g1
      have q5 : ((p : Int) == ((a + m - 1 : Nat) : Int)) = false := by simp; omega
      have q6 : ((v : Int) != (0 : Int)) = true := by simp; omega
      have HFIN := hidp ((bool_no HBC.out (fun h => hvw (HRV.out.1 h)) : b = false))
      clear hpm hvw HRV hle
      go_wp2_with fail
      refine wp_region_held_drew (S := (fun w' => w'.cell? ⟨w.heap.size, 0, none⟩ = some (.int .i64 (H.t : Int)) /\ w'.cell? ⟨w.heap.size, 1, none⟩ = some (.int .i64 (H.p : Int)) /\ w'.cell? ⟨w.heap.size, 2, none⟩ = some (.int .i64 (H.s : Int)) /\ w'.cell? ⟨w.heap.size, 3, none⟩ = some (.slice (some ad) n c) /\ w'.cell? ⟨gl, nn, none⟩ = some (.int .i64 (a : Int)))) (by kernel_rfl) ?_ (fun hHeld => ?_)
      ·(try dsimp only)
       first | exact HSF.out _ (Bdrew (B0 _)) | exact HSF.out _ HB3r.out | exact hHeld
      refine tkz 0 ?_
      refine tkz 1 ?_
      refine tkz 2 ?_
      refine tkz 3 ?_
      refine tkz 4 ?_
      refine tkz 5 ?_
      refine tkz 6 ?_
      refine tkz 7 ?_
      refine tkz 8 ?_
      refine tkz 9 ?_
      refine rdz 10 fun K hK => ?_
      go_simp
      (go_at_call 78; refine (xInfo_c HV ad hap _ HVR.out.drew).mono ?_; rintro e w3 ⟨rfl, hb3⟩; rw [HLM.out]; have HB3 := hidp (Bgo (Bdrew HB.out) hb3); have HB3r := hidp (Bgo (Bdrew (B0 wr)) hb3); have HX3 := hidp (HX.out.drew.keep hb3); have HL3 := hidp (HLW.out.drew.keep hb3); clear hb3)
      refine hK.out _ _ ?_ (fun hHeld => ?_)
      ·(try dsimp only)
       first | exact HSF.out _ (Bdrew (B0 _)) | exact HSF.out _ HB3r.out | exact hHeld
      clear hK K
      (try simp only [Act.put, gA, gB, gC, sA, sB, sC])
      refine tkz 11 ?_
      refine tkz 12 ?_
      refine tkz 13 ?_
      refine tkz 14 ?_
      refine dnz ?_
      obtain ⟨c0, c1, c2, c3⟩ := HX3.out.four
      have l3 := HL3.out.2 nn a HNN.out
      have HV3 := hidp (HVL.out.below HB3.out)
      have hci := (HV3.out).2 i hini
      rw [<- hceli, hvvv] at hci
      have hbli : (ad.add i).block < w3.heap.size := by rw [block_of_add]; exact (HV3.out).1
      have HS : Hid (∀ w', Below w3.heap.size w3 w' -> (fun w' => w'.cell? ⟨w.heap.size, 0, none⟩ = some (.int .i64 (H.t : Int)) /\ w'.cell? ⟨w.heap.size, 1, none⟩ = some (.int .i64 (H.p : Int)) /\ w'.cell? ⟨w.heap.size, 2, none⟩ = some (.int .i64 (H.s : Int)) /\ w'.cell? ⟨w.heap.size, 3, none⟩ = some (.slice (some ad) n c) /\ w'.cell? (ad.add i) = some (.int .u32 (v : Int))) w') := hidp (fun w' hb => by have hh := HX3.out.keep hb; exact ⟨hh.four.1, hh.four.2.1, hh.four.2.2.1, hh.four.2.2.2, (hb.cell hbli).trans hci⟩)
      clear hci hbli hceli hvvv hii
      go_wp2_with fail
      refine wp_region_held_drew (S := (fun w' => w'.cell? ⟨w.heap.size, 0, none⟩ = some (.int .i64 (H.t : Int)) /\ w'.cell? ⟨w.heap.size, 1, none⟩ = some (.int .i64 (H.p : Int)) /\ w'.cell? ⟨w.heap.size, 2, none⟩ = some (.int .i64 (H.s : Int)) /\ w'.cell? ⟨w.heap.size, 3, none⟩ = some (.slice (some ad) n c) /\ w'.cell? (ad.add i) = some (.int .u32 (v : Int)))) (by kernel_rfl) ?_ (fun hHeld => ?_)
      ·(try dsimp only)
       first | exact HS.out _ (Bdrew (B0 _)) | exact HS.out _ HB5r.out | exact hHeld
      refine tkz 0 ?_
      refine tkz 1 ?_
      refine tkz 2 ?_
      refine tkz 3 ?_
      refine tkz 4 ?_
      refine tkz 8 ?_
      refine rdz 5 fun K hK => ?_
      go_simp
      (go_at_call 91; refine (r7Foot_c _ _ _ _ _).mono ?_; rintro e w5 ⟨rfl, hb5⟩; rw [HI.out]; have HB5 := hidp (Bgo (Bdrew HB3.out) hb5); have HB5r := hidp (Bgo (Bdrew (B0 w3)) hb5); have HX5 := hidp (HX3.out.drew.keep hb5); have HL5 := hidp (HL3.out.drew.keep hb5); clear hb5)
      refine hK.out _ _ ?_ (fun hHeld => ?_)
      ·(try dsimp only)
       first | exact HS.out _ (Bdrew (B0 _)) | exact HS.out _ HB5r.out | exact hHeld
      clear hK K
      (try simp only [Act.put, gA, gB, gC, sA, sB, sC])
      refine tkz 6 ?_
      refine tkz 7 ?_
      refine tkz 9 ?_
      refine dnz ?_
      go_wp2_with fail
      go_ret
      exact ⟨by rw [HFIN.out]; rfl, HB5.out⟩
  ·have t0 : decide ((p : Int) < H.p) = false := decide_eq_false (by omega)
   have HBT : Hid (b = true) := hidp (HBC.out.2 ((AuH.r3_iff HTD.out).2 (fun q hq => HJ.out q (by omega))))
   go_wp2_with fail
   go_ret
   exact ⟨by rw [HBT.out]; rfl, HB.out⟩
end
end Go.Proofs.YtlpcdfcghgapkaaGreat
