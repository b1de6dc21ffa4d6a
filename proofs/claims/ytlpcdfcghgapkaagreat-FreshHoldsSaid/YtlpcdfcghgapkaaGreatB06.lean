/-
  The document's heap (nacreref12.X): what begins at a page, its slots. Written by doc12/gen_docat.py.
-/
import Derived.Test.YtlpcdfcghgapkaaGreatB03
import Derived.Test.YtlpcdfcghgapkaaGreatB04
import Derived.Deep.RegionWith
import Derived.Deep.CutRange
import Derived.Test.YtlpcdfcghgapkaaGreatB01
namespace Go.Proofs.YtlpcdfcghgapkaaGreat
open Go.ChangeShapes Go.WideShapes Go.ChangeAt Go.RowKit Go.Shelf
set_option linter.unusedVariables false
set_option linter.unusedSimpArgs false
section
set_option maxHeartbeats 1600000 in
theorem xSlots_c {H : AuH} {n c : Nat} (HV : HeapV H n c) (ad : Addr) {q : Nat} (hq : q < H.p) (w : World) (hv : IsVals w ad n H.V) :
  Calls Tryz.prog 93 #[hpV H ad n c, .int .i64 (q : Int)] w fun e w' => e = .returned (.int .u32 (H.cel q 4 : Nat)) /\ Below w.heap.size w w' := by
 obtain ⟨i, hii⟩ : ∃ i, 30 + 4 * H.t + 6 * q + 4 = i := ⟨_, rfl⟩
 have hini : i < n := by have := HV.len; omega
 have HI : Hid (pageI H.t H.p H.s q 4 = (i : Int)) := hidp (by have h := HV.page (b := 4) hq (by omega); rw [hii] at h; exact h)
 have h32i := HV.cel_lt hq (show 4 < 6 by omega)
 have hceli : H.cel q 4 = H.V i := by unfold AuH.cel; rw [hii]
 obtain ⟨v, hvvv⟩ : ∃ v, H.cel q 4 = v := ⟨_, rfl⟩
 have HCv := hidp hvvv
 rw [hvvv] at h32i
 have hci := (hv).2 i hini
 rw [<- hceli, hvvv] at hci
 have hbli : (ad.add i).block < w.heap.size := by rw [block_of_add]; exact (hv).1
 have hn := HV.nums
 have hcx : c <= 9223372036854775807 := hn.2.2.2.2.2.2.2.2
 have hni : n <= 6238 := hn.2.2.2.2.2.2.1
 have hnc := HV.cap
 rw [hvvv]
 have hc := Held.new w 96 #[.int .i64 (H.t : Int), .int .i64 (H.p : Int), .int .i64 (H.s : Int), .slice (some ad) n c]
 have HS : Hid (∀ w', Below w.heap.size w w' -> Held w' w.heap.size 96 #[.int .i64 (H.t : Int), .int .i64 (H.p : Int), .int .i64 (H.s : Int), .slice (some ad) n c] -> (fun w' => w'.cell? ⟨w.heap.size, 0, none⟩ = some (.int .i64 (H.t : Int)) /\ w'.cell? ⟨w.heap.size, 1, none⟩ = some (.int .i64 (H.p : Int)) /\ w'.cell? ⟨w.heap.size, 2, none⟩ = some (.int .i64 (H.s : Int)) /\ w'.cell? ⟨w.heap.size, 3, none⟩ = some (.slice (some ad) n c) /\ w'.cell? (ad.add i) = some (.int .u32 (v : Int))) w') := hidp (fun w' hb hh => ⟨hh.four.1, hh.four.2.1, hh.four.2.2.1, hh.four.2.2.2, (hb.cell hbli).trans hci⟩)
 clear hv hci hbli hceli hvvv hii hn hq HCv h32i
 unfold hpV
 go_enter Tryz.func93, Tryz.ntmps93
 go_wp2_with fail
 refine wp_region_held_drew (S := (fun w' => w'.cell? ⟨w.heap.size, 0, none⟩ = some (.int .i64 (H.t : Int)) /\ w'.cell? ⟨w.heap.size, 1, none⟩ = some (.int .i64 (H.p : Int)) /\ w'.cell? ⟨w.heap.size, 2, none⟩ = some (.int .i64 (H.s : Int)) /\ w'.cell? ⟨w.heap.size, 3, none⟩ = some (.slice (some ad) n c) /\ w'.cell? (ad.add i) = some (.int .u32 (v : Int)))) (by kernel_rfl) ?_ (fun hHeld => ?_)
 ·(try dsimp only)
  first | exact HS.out _ (Bdrew (Bnew (B0 w) _)) hc | exact HS.out _ HB1.out HC1.out | exact hHeld
 refine tkz 0 ?_
 refine tkz 1 ?_
 refine tkz 2 ?_
 refine tkz 3 ?_
 refine tkz 4 ?_
 refine rdz 5 fun K hK => ?_
 go_simp
 (go_at_call 111; refine (r7Slots_c _ _ _ _ _).mono ?_; rintro e w1 ⟨rfl, hb1⟩; rw [HI.out]; have HB1 := hidp (Bgo (Bdrew (Bnew (B0 w) _)) hb1); have HC1 := hidp (hc.drew.keep hb1); clear hb1)
 refine hK.out _ _ ?_ (fun hHeld => ?_)
 ·(try dsimp only)
  first | exact HS.out _ (Bdrew (Bnew (B0 w) _)) hc | exact HS.out _ HB1.out HC1.out | exact hHeld
 clear hK K
 (try simp only [Act.put, gA, gB, gC, sA, sB, sC])
 refine tkz 6 ?_
 refine tkz 7 ?_
 refine tkz 8 ?_
 refine dnz ?_
 go_wp2
 go_ret
 exact ⟨rfl, HB1.out⟩

set_option maxHeartbeats 1600000 in
theorem xTaken_c {H : AuH} {n c : Nat} (HV : HeapV H n c) (ad : Addr) {q : Nat} (hq : q < H.p) (w : World) (hv : IsVals w ad n H.V) :
  Calls Tryz.prog 94 #[hpV H ad n c, .int .i64 (q : Int)] w fun e w' => e = .returned (.int .u32 (H.cel q 5 : Nat)) /\ Below w.heap.size w w' := by
 obtain ⟨i, hii⟩ : ∃ i, 30 + 4 * H.t + 6 * q + 5 = i := ⟨_, rfl⟩
 have hini : i < n := by have := HV.len; omega
 have HI : Hid (pageI H.t H.p H.s q 5 = (i : Int)) := hidp (by have h := HV.page (b := 5) hq (by omega); rw [hii] at h; exact h)
 have h32i := HV.cel_lt hq (show 5 < 6 by omega)
 have hceli : H.cel q 5 = H.V i := by unfold AuH.cel; rw [hii]
 obtain ⟨v, hvvv⟩ : ∃ v, H.cel q 5 = v := ⟨_, rfl⟩
 have HCv := hidp hvvv
 rw [hvvv] at h32i
 have hci := (hv).2 i hini
 rw [<- hceli, hvvv] at hci
 have hbli : (ad.add i).block < w.heap.size := by rw [block_of_add]; exact (hv).1
 have hn := HV.nums
 have hcx : c <= 9223372036854775807 := hn.2.2.2.2.2.2.2.2
 have hni : n <= 6238 := hn.2.2.2.2.2.2.1
 have hnc := HV.cap
 rw [hvvv]
 have hc := Held.new w 96 #[.int .i64 (H.t : Int), .int .i64 (H.p : Int), .int .i64 (H.s : Int), .slice (some ad) n c]
 have HS : Hid (∀ w', Below w.heap.size w w' -> Held w' w.heap.size 96 #[.int .i64 (H.t : Int), .int .i64 (H.p : Int), .int .i64 (H.s : Int), .slice (some ad) n c] -> (fun w' => w'.cell? ⟨w.heap.size, 0, none⟩ = some (.int .i64 (H.t : Int)) /\ w'.cell? ⟨w.heap.size, 1, none⟩ = some (.int .i64 (H.p : Int)) /\ w'.cell? ⟨w.heap.size, 2, none⟩ = some (.int .i64 (H.s : Int)) /\ w'.cell? ⟨w.heap.size, 3, none⟩ = some (.slice (some ad) n c) /\ w'.cell? (ad.add i) = some (.int .u32 (v : Int))) w') := hidp (fun w' hb hh => ⟨hh.four.1, hh.four.2.1, hh.four.2.2.1, hh.four.2.2.2, (hb.cell hbli).trans hci⟩)
 clear hv hci hbli hceli hvvv hii hn hq HCv h32i
 unfold hpV
 go_enter Tryz.func94, Tryz.ntmps94
 go_wp2_with fail
 refine wp_region_held_drew (S := (fun w' => w'.cell? ⟨w.heap.size, 0, none⟩ = some (.int .i64 (H.t : Int)) /\ w'.cell? ⟨w.heap.size, 1, none⟩ = some (.int .i64 (H.p : Int)) /\ w'.cell? ⟨w.heap.size, 2, none⟩ = some (.int .i64 (H.s : Int)) /\ w'.cell? ⟨w.heap.size, 3, none⟩ = some (.slice (some ad) n c) /\ w'.cell? (ad.add i) = some (.int .u32 (v : Int)))) (by kernel_rfl) ?_ (fun hHeld => ?_)
 ·(try dsimp only)
  first | exact HS.out _ (Bdrew (Bnew (B0 w) _)) hc | exact HS.out _ HB1.out HC1.out | exact hHeld
 refine tkz 0 ?_
 refine tkz 1 ?_
 refine tkz 2 ?_
 refine tkz 3 ?_
 refine tkz 4 ?_
 refine rdz 5 fun K hK => ?_
 go_simp
 (go_at_call 112; refine (r7Taken_c _ _ _ _ _).mono ?_; rintro e w1 ⟨rfl, hb1⟩; rw [HI.out]; have HB1 := hidp (Bgo (Bdrew (Bnew (B0 w) _)) hb1); have HC1 := hidp (hc.drew.keep hb1); clear hb1)
 refine hK.out _ _ ?_ (fun hHeld => ?_)
 ·(try dsimp only)
  first | exact HS.out _ (Bdrew (Bnew (B0 w) _)) hc | exact HS.out _ HB1.out HC1.out | exact hHeld
 clear hK K
 (try simp only [Act.put, gA, gB, gC, sA, sB, sC])
 refine tkz 6 ?_
 refine tkz 7 ?_
 refine tkz 8 ?_
 refine dnz ?_
 go_wp2
 go_ret
 exact ⟨rfl, HB1.out⟩

set_option maxHeartbeats 3200000 in
set_option maxRecDepth 100000 in
theorem xInfo_c {H : AuH} {n c : Nat} (HV : HeapV H n c) (ad : Addr) {q : Nat} (hq : q < H.p) (w : World) (hv : IsVals w ad n H.V) :
  Calls Tryz.prog 78 #[hpV H ad n c, .int .i64 (q : Int)] w fun e w' => e = .returned (.agg #[.int .i64 (H.K q), .int .i64 (H.ln q : Int), .int .i64 (H.Cl q)]) /\ Below w.heap.size w w' := by
 obtain ⟨i, hii⟩ : ∃ i, 30 + 4 * H.t + 6 * q + 0 = i := ⟨_, rfl⟩
 have hini : i < n := by have := HV.len; omega
 have HI : Hid (pageI H.t H.p H.s q 0 = (i : Int)) := hidp (by have h := HV.page (b := 0) hq (by omega); rw [hii] at h; exact h)
 have h32i := HV.cel_lt hq (show 0 < 6 by omega)
 have hceli : H.cel q 0 = H.V i := by unfold AuH.cel; rw [hii]
 obtain ⟨v, hvvv⟩ : ∃ v, H.cel q 0 = v := ⟨_, rfl⟩
 have HCv := hidp hvvv
 rw [hvvv] at h32i
 have hci := (hv).2 i hini
 rw [<- hceli, hvvv] at hci
 have hbli : (ad.add i).block < w.heap.size := by rw [block_of_add]; exact (hv).1
 have hn := HV.nums
 have hcx : c <= 9223372036854775807 := hn.2.2.2.2.2.2.2.2
 have hni : n <= 6238 := hn.2.2.2.2.2.2.1
 have hnc := HV.cap
 have hie := H.info_eq q
 rw [H.L_ln, hvvv] at hie
 generalize H.K q = k at *
 generalize H.ln q = m at *
 generalize H.Cl q = cl at *
 generalize H.ok q = okb at *
 have HG := hidp hie
 have hc := (Held.new w 96 #[.int .i64 (H.t : Int), .int .i64 (H.p : Int), .int .i64 (H.s : Int), .slice (some ad) n c]).alloc (.cells #[.int .i64 0, .int .i64 0, .int .i64 0] 76)
 have HR := hidp (Held.new2 w (.cells #[.int .i64 (H.t : Int), .int .i64 (H.p : Int), .int .i64 (H.s : Int), .slice (some ad) n c] 96) 76 #[.int .i64 0, .int .i64 0, .int .i64 0])
 have HBW := hidp (Bnew (Bnew (B0 w) (.cells #[.int .i64 (H.t : Int), .int .i64 (H.p : Int), .int .i64 (H.s : Int), .slice (some ad) n c] 96)) (.cells #[.int .i64 0, .int .i64 0, .int .i64 0] 76))
 have HS : Hid (∀ w', Below ((w.alloc (.cells #[.int .i64 (H.t : Int), .int .i64 (H.p : Int), .int .i64 (H.s : Int), .slice (some ad) n c] 96)).alloc (.cells #[.int .i64 0, .int .i64 0, .int .i64 0] 76)).heap.size ((w.alloc (.cells #[.int .i64 (H.t : Int), .int .i64 (H.p : Int), .int .i64 (H.s : Int), .slice (some ad) n c] 96)).alloc (.cells #[.int .i64 0, .int .i64 0, .int .i64 0] 76)) w' -> (fun w' => w'.cell? ⟨w.heap.size, 0, none⟩ = some (.int .i64 (H.t : Int)) /\ w'.cell? ⟨w.heap.size, 1, none⟩ = some (.int .i64 (H.p : Int)) /\ w'.cell? ⟨w.heap.size, 2, none⟩ = some (.int .i64 (H.s : Int)) /\ w'.cell? ⟨w.heap.size, 3, none⟩ = some (.slice (some ad) n c) /\ w'.cell? (ad.add i) = some (.int .u32 (v : Int))) w') := hidp (fun w' hb => by have hh := hc.keep hb; exact ⟨hh.four.1, hh.four.2.1, hh.four.2.2.1, hh.four.2.2.2, ((Bgo HBW.out hb).cell hbli).trans hci⟩)
 clear hv hci hbli hceli hvvv hii hn hq HCv hie hc
 unfold hpV
 go_enter Tryz.func78, Tryz.ntmps78
 go_upto_region 1 with fail
 go_cut [5, 6] from 7 to 18 (fun u5 u6 wx => ∃ g : Nat, u5 = .pointer (some ⟨g, 0, none⟩) /\ Held wx g 76 #[(.int .i64 k), (.int .i64 (m : Int)), (.int .i64 cl)] /\ Below ((w.alloc (.cells #[.int .i64 (H.t : Int), .int .i64 (H.p : Int), .int .i64 (H.s : Int), .slice (some ad) n c] 96)).alloc (.cells #[.int .i64 0, .int .i64 0, .int .i64 0] 76)).heap.size ((w.alloc (.cells #[.int .i64 (H.t : Int), .int .i64 (H.p : Int), .int .i64 (H.s : Int), .slice (some ad) n c] 96)).alloc (.cells #[.int .i64 0, .int .i64 0, .int .i64 0] 76)) wx /\ ((w.alloc (.cells #[.int .i64 (H.t : Int), .int .i64 (H.p : Int), .int .i64 (H.s : Int), .slice (some ad) n c] 96)).alloc (.cells #[.int .i64 0, .int .i64 0, .int .i64 0] 76)).heap.size <= g)
 case first =>
  have HB := hidp (Bdrew (B0 (((w.alloc (.cells #[.int .i64 (H.t : Int), .int .i64 (H.p : Int), .int .i64 (H.s : Int), .slice (some ad) n c] 96)).alloc (.cells #[.int .i64 0, .int .i64 0, .int .i64 0] 76)))))
  refine wp_region_held_drew (S := (fun w' => w'.cell? ⟨w.heap.size, 0, none⟩ = some (.int .i64 (H.t : Int)) /\ w'.cell? ⟨w.heap.size, 1, none⟩ = some (.int .i64 (H.p : Int)) /\ w'.cell? ⟨w.heap.size, 2, none⟩ = some (.int .i64 (H.s : Int)) /\ w'.cell? ⟨w.heap.size, 3, none⟩ = some (.slice (some ad) n c) /\ w'.cell? (ad.add i) = some (.int .u32 (v : Int)))) (by kernel_rfl) ?_ (fun hHeld => ?_)
  ·(try dsimp only)
   exact HS.out _ HB.out
  generalize hq0 : (((w.alloc (.cells #[.int .i64 (H.t : Int), .int .i64 (H.p : Int), .int .i64 (H.s : Int), .slice (some ad) n c] 96)).alloc (.cells #[.int .i64 0, .int .i64 0, .int .i64 0] 76))).drew = q0 at HB hHeld ⊢
  clear hq0
  refine tkz 0 ?_
  refine tkz 1 ?_
  refine tkz 2 ?_
  refine tkz 3 ?_
  refine tkz 4 ?_
  refine wpAnyH_ready (rs := [5, 12]) (by kernel_rfl) (by simp) ?_
  refine AllReadyH.cons (o := _) rfl (fun K hK => ?_) (AllReadyH.cons (o := _) rfl (fun K hK => ?_) AllReadyH.nil)
  ·skip
   go_simp
   (go_at_call 90; refine (r7Info_c _ _ _ _ _).mono ?_; rintro e q1 ⟨rfl, hb1⟩; rw [HI.out]; have HB := hidp (Bgo HB.out hb1); skip; clear hb1)
   refine hK.out _ _ ?_ (fun hHeld => ?_)
   ·(try dsimp only)
    exact HS.out _ HB.out
   clear hK K
   (try simp only [Act.put, gA, gB, gC, sA, sB, sC])
   refine tkz 6 ?_
   refine tkz 7 ?_
   refine wpAnyH_ready (rs := [8, 12]) (by kernel_rfl) (by simp) ?_
   refine AllReadyH.cons (o := _) rfl (fun K hK => ?_) (AllReadyH.cons (o := _) rfl (fun K hK => ?_) AllReadyH.nil)
   ·skip
    go_simp
    (go_at_call 106; refine (r9Get_c _ _ _ _ _ h32i HG.out _).mono ?_; rintro e q2 ⟨rfl, hb1⟩; have HB := hidp (Bgo HB.out hb1); skip; clear hb1)
    refine hK.out _ _ ?_ (fun hHeld => ?_)
    ·(try dsimp only)
     exact HS.out _ HB.out
    clear hK K
    (try simp only [Act.put, gA, gB, gC, sA, sB, sC])
    refine tkz 9 ?_
    refine tkz 10 ?_
    refine tkz 11 ?_
    refine rdz 12 fun K hK => ?_
    ·skip
     go_simp
     have HLE := hidp HB.out.size
     have HB := hidp (Bnew HB.out (.cells #[.int .i64 0, .int .i64 0, .int .i64 0] 76))
     have HN := hidp (Held.new q2 76 #[.int .i64 0, .int .i64 0, .int .i64 0])
     try simp only [World.heap_drew] at HLE HN
     generalize hq3 : q2.alloc (.cells #[.int .i64 0, .int .i64 0, .int .i64 0] 76) = q3 at HB HN ⊢
     clear hq3
     refine hK.out _ _ ?_ (fun hHeld => ?_)
     ·(try dsimp only)
      exact HS.out _ HB.out
     clear hK K
     (try simp only [Act.put, gA, gB, gC, sA, sB, sC])
     refine rdz 13 fun K hK => ?_
     obtain ⟨z0, z1, z2⟩ := HN.out.three
     have f0 := HN.out.thawed 0
     have f1 := HN.out.thawed 1
     have f2 := HN.out.thawed 2
     go_simp
     have HN := hidp (HN.out.put 0 (.int .i64 k))
     have HN := hidp (HN.out.put 1 (.int .i64 (m : Int)))
     have HN := hidp (HN.out.put 2 (.int .i64 cl))
     have HB := hidp (Bput (p := ⟨_, 2, none⟩) (Bput (p := ⟨_, 1, none⟩) (Bput (p := ⟨_, 0, none⟩) HB.out HLE.out (.int .i64 k)) HLE.out (.int .i64 (m : Int))) HLE.out (.int .i64 cl))
     clear z0 z1 z2 f0 f1 f2
     refine hK.out _ _ ?_ (fun hHeld => ?_)
     ·(try dsimp only)
      exact HS.out _ HB.out
     clear hK K
     (try simp only [Act.put, gA, gB, gC, sA, sB, sC])
     refine tkz 14 ?_
     refine dnz ?_
     go_wp2_with fail
     go_meet
     case rel => exact ⟨_, rfl, HN.out, HB.out, HLE.out⟩
   ·skip
    go_simp
    have HLE := hidp HB.out.size
    have HB := hidp (Bnew HB.out (.cells #[.int .i64 0, .int .i64 0, .int .i64 0] 76))
    have HN := hidp (Held.new q1 76 #[.int .i64 0, .int .i64 0, .int .i64 0])
    try simp only [World.heap_drew] at HLE HN
    generalize hq4 : q1.alloc (.cells #[.int .i64 0, .int .i64 0, .int .i64 0] 76) = q4 at HB HN ⊢
    clear hq4
    refine hK.out _ _ ?_ (fun hHeld => ?_)
    ·(try dsimp only)
     exact HS.out _ HB.out
    clear hK K
    (try simp only [Act.put, gA, gB, gC, sA, sB, sC])
    refine rdz 8 fun K hK => ?_
    ·skip
     go_simp
     (go_at_call 106; refine (r9Get_c _ _ _ _ _ h32i HG.out _).mono ?_; rintro e q5 ⟨rfl, hb1⟩; have HB := hidp (Bgo HB.out hb1); have HN := hidp (HN.out.keep hb1); clear hb1)
     refine hK.out _ _ ?_ (fun hHeld => ?_)
     ·(try dsimp only)
      exact HS.out _ HB.out
     clear hK K
     (try simp only [Act.put, gA, gB, gC, sA, sB, sC])
     refine tkz 9 ?_
     refine tkz 10 ?_
     refine tkz 11 ?_
     refine rdz 13 fun K hK => ?_
     obtain ⟨z0, z1, z2⟩ := HN.out.three
     have f0 := HN.out.thawed 0
     have f1 := HN.out.thawed 1
     have f2 := HN.out.thawed 2
     go_simp
     have HN := hidp (HN.out.put 0 (.int .i64 k))
     have HN := hidp (HN.out.put 1 (.int .i64 (m : Int)))
     have HN := hidp (HN.out.put 2 (.int .i64 cl))
     have HB := hidp (Bput (p := ⟨_, 2, none⟩) (Bput (p := ⟨_, 1, none⟩) (Bput (p := ⟨_, 0, none⟩) HB.out HLE.out (.int .i64 k)) HLE.out (.int .i64 (m : Int))) HLE.out (.int .i64 cl))
     clear z0 z1 z2 f0 f1 f2
     refine hK.out _ _ ?_ (fun hHeld => ?_)
     ·(try dsimp only)
      exact HS.out _ HB.out
     clear hK K
     (try simp only [Act.put, gA, gB, gC, sA, sB, sC])
     refine tkz 14 ?_
     refine dnz ?_
     go_wp2_with fail
     go_meet
     case rel => exact ⟨_, rfl, HN.out, HB.out, HLE.out⟩
  ·skip
   go_simp
   have HLE := hidp HB.out.size
   have HB := hidp (Bnew HB.out (.cells #[.int .i64 0, .int .i64 0, .int .i64 0] 76))
   have HN := hidp (Held.new q0 76 #[.int .i64 0, .int .i64 0, .int .i64 0])
   try simp only [World.heap_drew] at HLE HN
   generalize hq6 : q0.alloc (.cells #[.int .i64 0, .int .i64 0, .int .i64 0] 76) = q6 at HB HN ⊢
   clear hq6
   refine hK.out _ _ ?_ (fun hHeld => ?_)
   ·(try dsimp only)
    exact HS.out _ HB.out
   clear hK K
   (try simp only [Act.put, gA, gB, gC, sA, sB, sC])
   refine rdz 5 fun K hK => ?_
   ·skip
    go_simp
    (go_at_call 90; refine (r7Info_c _ _ _ _ _).mono ?_; rintro e q7 ⟨rfl, hb1⟩; rw [HI.out]; have HB := hidp (Bgo HB.out hb1); have HN := hidp (HN.out.keep hb1); clear hb1)
    refine hK.out _ _ ?_ (fun hHeld => ?_)
    ·(try dsimp only)
     exact HS.out _ HB.out
    clear hK K
    (try simp only [Act.put, gA, gB, gC, sA, sB, sC])
    refine tkz 6 ?_
    refine tkz 7 ?_
    refine rdz 8 fun K hK => ?_
    ·skip
     go_simp
     (go_at_call 106; refine (r9Get_c _ _ _ _ _ h32i HG.out _).mono ?_; rintro e q8 ⟨rfl, hb1⟩; have HB := hidp (Bgo HB.out hb1); have HN := hidp (HN.out.keep hb1); clear hb1)
     refine hK.out _ _ ?_ (fun hHeld => ?_)
     ·(try dsimp only)
      exact HS.out _ HB.out
     clear hK K
     (try simp only [Act.put, gA, gB, gC, sA, sB, sC])
     refine tkz 9 ?_
     refine tkz 10 ?_
     refine tkz 11 ?_
     refine rdz 13 fun K hK => ?_
     obtain ⟨z0, z1, z2⟩ := HN.out.three
     have f0 := HN.out.thawed 0
     have f1 := HN.out.thawed 1
     have f2 := HN.out.thawed 2
     go_simp
     have HN := hidp (HN.out.put 0 (.int .i64 k))
     have HN := hidp (HN.out.put 1 (.int .i64 (m : Int)))
     have HN := hidp (HN.out.put 2 (.int .i64 cl))
     have HB := hidp (Bput (p := ⟨_, 2, none⟩) (Bput (p := ⟨_, 1, none⟩) (Bput (p := ⟨_, 0, none⟩) HB.out HLE.out (.int .i64 k)) HLE.out (.int .i64 (m : Int))) HLE.out (.int .i64 cl))
     clear z0 z1 z2 f0 f1 f2
     refine hK.out _ _ ?_ (fun hHeld => ?_)
     ·(try dsimp only)
      exact HS.out _ HB.out
     clear hK K
     (try simp only [Act.put, gA, gB, gC, sA, sB, sC])
     refine tkz 14 ?_
     refine dnz ?_
     go_wp2_with fail
     go_meet
     case rel => exact ⟨_, rfl, HN.out, HB.out, HLE.out⟩
 case rest =>
  obtain ⟨g, rfl, h1, h2, h3⟩ := hcut
  obtain ⟨x0, x1, x2⟩ := h1.three
  have z := HR.out.keep h2
  obtain ⟨y0, y1, y2⟩ := z.three
  obtain ⟨v0, v1, v2⟩ := (((z.put 0 (.int .i64 k)).put 1 (.int .i64 (m : Int))).put 2 (.int .i64 cl)).three
  have f0 := z.thawed 0
  have f1 := z.thawed 1
  have f2 := z.thawed 2
  go_wp2_with fail
  refine bodyPost_ret (v := .agg #[(.int .i64 k), (.int .i64 (m : Int)), (.int .i64 cl)]) (by simp [results, Tryz.results78, go_sem, v0, v1, v2]) rfl ⟨rfl, ?_⟩
  exact Bput (Bput (Bput (Bgo HBW.out h2) (by simp) _) (by simp) _) (by simp) _
end
section
def natVs (l : List Nat) : List Value := l.map fun (n : Nat) => Value.int .i64 (n : Int)
theorem natVs_snoc (l : List Nat) (q : Nat) : natVs (l ++ [q]) = natVs l ++ [.int .i64 (q : Int)] := by unfold natVs; simp
theorem natVs_get {l : List Nat} {i a : Nat} (h : l[i]? = some a) : (natVs l)[i]? = some (.int .i64 (a : Int)) := by unfold natVs; simp [h]
theorem own_nat {w : World} {base n g cap : Nat} {e : TypeId} {l : List Nat} (h : w.ownsRow base e 1 (.slice (some ⟨g, 0, none⟩) n cap) n (natVs l)) (hn : l.length = n) {i a : Nat} (hi : l[i]? = some a) : w.cell? ⟨g, i, none⟩ = some (.int .i64 (a : Int)) := by
 have hl : i < n := by
  rcases Nat.lt_or_ge i n with h1 | h1
  ·exact h1
  ·rw [List.getElem?_eq_none (by omega)] at hi; cases hi
 exact (h.cellAt _ (by omega)).trans (natVs_get hi)
def StartsIs (H : AuH) (w : World) (u : Value) (b : Bool) (w' : World) : Prop := (b = true ↔ H.At H.p) /\ (b = true -> ∃ l, H.Starts l H.p /\ w'.ownsRow w.heap.size 3 1 u l.length (natVs l))
def StartsEnd (H : AuH) (w : World) (e : Ending) (w' : World) : Prop := ∃ u b, e = .returned (.tuple #[u, .bool b]) /\ StartsIs H w u b w' /\ Below w.heap.size w w'

set_option maxHeartbeats 6400000 in
set_option maxRecDepth 100000 in
theorem xStarts_c {H : AuH} {n c : Nat} (HV : HeapV H n c) (ad : Addr) (w : World) (hv : IsVals w ad n H.V) :
    Calls Tryz.prog 89 #[hpV H ad n c] w (StartsEnd H w) := by
  have HVL := hidp hv
  have HX0 := hidp ((Held.new w 96 #[.int .i64 (H.t : Int), .int .i64 (H.p : Int), .int .i64 (H.s : Int), .slice (some ad) n c]).alloc (.cells #[] 3))
  have HBW := hidp (Bnew (Bnew (B0 w) (.cells #[.int .i64 (H.t : Int), .int .i64 (H.p : Int), .int .i64 (H.s : Int), .slice (some ad) n c] 96)) (.cells #[] 3))
  have HOW : Hid (((w.alloc (.cells #[.int .i64 (H.t : Int), .int .i64 (H.p : Int), .int .i64 (H.s : Int), .slice (some ad) n c] 96)).alloc (.cells #[] 3)).ownsRow (w.heap.size + 1) 3 1 (.slice (some ⟨(w.alloc (.cells #[.int .i64 (H.t : Int), .int .i64 (H.p : Int), .int .i64 (H.s : Int), .slice (some ad) n c] 96)).heap.size, 0, none⟩) 0 0) 0 []) := hidp (World.ownsRow_lit (base := (w.heap.size + 1)) (e := 3) (size := 1) (w.alloc (.cells #[.int .i64 (H.t : Int), .int .i64 (H.p : Int), .int .i64 (H.s : Int), .slice (some ad) n c] 96)) #[] 0 (by simp) (by unfold maxLen; omega) rfl)
  obtain ⟨i0, hi0, hz0, hz1, hz2⟩ := info_parts intInfo
  have hn := HV.nums
  have hcx : c <= 9223372036854775807 := hn.2.2.2.2.2.2.2.2
  have hni : n <= 6238 := hn.2.2.2.2.2.2.1
  have hnc := HV.cap
  have hp1 := hn.2.2.2.1
  clear hv hn
  unfold hpV
  go_enter Tryz.func89, Tryz.ntmps89
  go_wp2_with fail
  rw [World.size_alloc] at HOW
  generalize (w.alloc (.cells #[.int .i64 (H.t : Int), .int .i64 (H.p : Int), .int .i64 (H.s : Int), .slice (some ad) n c] 96)).alloc (.cells #[] 3) = W0 at *
  go_loopw [4, 5] (fun u4 u5 wr => ∃ (a : Nat) (l : List Nat) (nl : Nat), u5 = .int .i64 (a : Int) /\ a <= 4096 /\ Hid ((a <= H.p /\ H.Starts l a) \/ (H.p < a /\ ¬ H.At H.p)) /\ nl <= 1024 /\ Hid (l.length = nl) /\ Hid (wr.ownsRow (w.heap.size + 1) 3 1 u4 nl (natVs l)) /\ Hid (Held wr w.heap.size 96 #[.int .i64 (H.t : Int), .int .i64 (H.p : Int), .int .i64 (H.s : Int), .slice (some ad) n c]) /\ Hid (Below w.heap.size w wr)) (fun _ u5 _ => H.p - (intOf u5).toNat)
  case atStart => exact ⟨0, [], 0, rfl, by omega, hidp (.inl ⟨by omega, .nil⟩), by omega, hidp rfl, HOW, HX0, HBW⟩
  case round =>
    clear HOW HX0 HBW
    obtain ⟨a, l, nl, rfl, ha, HST, hnl, HLN, HO, HX, HB⟩ := hrel
    obtain ⟨c0, c1, c2, c3⟩ := HX.out.four
    by_cases hlt : a < H.p
    · have hst : H.Starts l a := by
        rcases HST.out with h | h
        · exact h.2
        · omega
      have HSL := hidp hst
      have hln := hst.len
      have t0 : decide ((a : Int) < H.p) = true := decide_eq_true (by omega)
      have HVR := hidp (HVL.out.below HB.out)
      obtain ⟨i, hii⟩ : ∃ i, 30 + 4 * H.t + 6 * a + 0 = i := ⟨_, rfl⟩
      have hini : i < n := by have := HV.len; omega
      have HI : Hid (pageI H.t H.p H.s a 0 = (i : Int)) := hidp (by have h := HV.page (b := 0) hlt (by omega); rw [hii] at h; exact h)
      have h32i := HV.cel_lt hlt (show 0 < 6 by omega)
      have hceli : H.cel a 0 = H.V i := by unfold AuH.cel; rw [hii]
      obtain ⟨v, hvvv⟩ : ∃ v, H.cel a 0 = v := ⟨_, rfl⟩
      have HCv := hidp hvvv
      rw [hvvv] at h32i
      have hci := (HVR.out).2 i hini
      rw [<- hceli, hvvv] at hci
      have hbli : (ad.add i).block < wr.heap.size := by rw [block_of_add]; exact (HVR.out).1
      have HS : Hid (∀ w', Below wr.heap.size wr w' -> (fun w' => w'.cell? ⟨w.heap.size, 0, none⟩ = some (.int .i64 (H.t : Int)) /\ w'.cell? ⟨w.heap.size, 1, none⟩ = some (.int .i64 (H.p : Int)) /\ w'.cell? ⟨w.heap.size, 2, none⟩ = some (.int .i64 (H.s : Int)) /\ w'.cell? ⟨w.heap.size, 3, none⟩ = some (.slice (some ad) n c) /\ w'.cell? (ad.add i) = some (.int .u32 (v : Int))) w') := hidp (fun w' hb => by have hh := HX.out.keep hb; exact ⟨hh.four.1, hh.four.2.1, hh.four.2.2.1, hh.four.2.2.2, (hb.cell hbli).trans hci⟩)
      have hie := H.info_eq a
      rw [H.L_ln, hvvv] at hie
      have hok := H.ok_of a
      have hkc := H.K_cases a
      have HCN : Hid (H.can a = false -> ¬ H.At H.p) := hidp (fun h hp => by have := (AuH.At.next hst.at_ hp hlt).1; rw [h] at this; cases this)
      have HCA : Hid (H.K a ≠ 0 -> a + H.ln a <= H.p -> H.can a = true /\ H.nx a = a + H.ln a) := hidp (fun h1 h2 => ⟨(H.can_iff a).2 ⟨hlt, h1, h2⟩, rfl⟩)
      have HCF : Hid (H.K a = 0 \/ H.p < a + H.ln a -> H.can a = false) := hidp (fun h => (H.can_no a).2 (by omega))
      generalize H.K a = k at *
      generalize H.ln a = m at *
      generalize H.Cl a = cl at *
      generalize H.ok a = okb at *
      have HG := hidp hie
      clear hci hbli hceli hvvv hii HCv hie hst
      go_upto_region 4 with fail
      go_cut [6, 7] from 14 to 25 (fun u6 u7 wx => ∃ g : Nat, u6 = .pointer (some ⟨g, 0, none⟩) /\ u7 = .bool okb /\ Held wx g 76 #[(.int .i64 k), (.int .i64 (m : Int)), (.int .i64 cl)] /\ Below wr.heap.size wr wx /\ wr.heap.size <= g)
      case first =>
        have HB := hidp (Bdrew (B0 (wr)))
        refine wp_region_held_drew (S := (fun w' => w'.cell? ⟨w.heap.size, 0, none⟩ = some (.int .i64 (H.t : Int)) /\ w'.cell? ⟨w.heap.size, 1, none⟩ = some (.int .i64 (H.p : Int)) /\ w'.cell? ⟨w.heap.size, 2, none⟩ = some (.int .i64 (H.s : Int)) /\ w'.cell? ⟨w.heap.size, 3, none⟩ = some (.slice (some ad) n c) /\ w'.cell? (ad.add i) = some (.int .u32 (v : Int)))) (by kernel_rfl) ?_ (fun hHeld => ?_)
        · (try dsimp only)
          exact HS.out _ HB.out
        generalize hq0 : (wr).drew = q0 at HB hHeld ⊢
        clear hq0
        refine tkz 0 ?_
        refine tkz 1 ?_
        refine tkz 2 ?_
        refine tkz 3 ?_
        refine tkz 4 ?_
        refine wpAnyH_ready (rs := [5, 12]) (by kernel_rfl) (by simp) ?_
        refine AllReadyH.cons (o := _) rfl (fun K hK => ?_) (AllReadyH.cons (o := _) rfl (fun K hK => ?_) AllReadyH.nil)
        · skip
          go_simp
          (go_at_call 90; refine (r7Info_c _ _ _ _ _).mono ?_; rintro e q1 ⟨rfl, hb1⟩; rw [HI.out]; have HB := hidp (Bgo HB.out hb1); skip; clear hb1)
          refine hK.out _ _ ?_ (fun hHeld => ?_)
          · (try dsimp only)
            exact HS.out _ HB.out
          clear hK K
          (try simp only [Act.put, gA, gB, gC, sA, sB, sC])
          refine tkz 6 ?_
          refine tkz 7 ?_
          refine wpAnyH_ready (rs := [8, 12]) (by kernel_rfl) (by simp) ?_
          refine AllReadyH.cons (o := _) rfl (fun K hK => ?_) (AllReadyH.cons (o := _) rfl (fun K hK => ?_) AllReadyH.nil)
          · skip
            go_simp
            (go_at_call 106; refine (r9Get_c _ _ _ _ _ h32i HG.out _).mono ?_; rintro e q2 ⟨rfl, hb1⟩; have HB := hidp (Bgo HB.out hb1); skip; clear hb1)
            refine hK.out _ _ ?_ (fun hHeld => ?_)
            · (try dsimp only)
              exact HS.out _ HB.out
            clear hK K
            (try simp only [Act.put, gA, gB, gC, sA, sB, sC])
            refine tkz 9 ?_
            refine tkz 10 ?_
            refine tkz 11 ?_
            refine rdz 12 fun K hK => ?_
            · skip
              go_simp
              have HLE := hidp HB.out.size
              have HB := hidp (Bnew HB.out (.cells #[.int .i64 0, .int .i64 0, .int .i64 0] 76))
              have HN := hidp (Held.new q2 76 #[.int .i64 0, .int .i64 0, .int .i64 0])
              try simp only [World.heap_drew] at HLE HN
              generalize hq3 : q2.alloc (.cells #[.int .i64 0, .int .i64 0, .int .i64 0] 76) = q3 at HB HN ⊢
              clear hq3
              refine hK.out _ _ ?_ (fun hHeld => ?_)
              · (try dsimp only)
                exact HS.out _ HB.out
              clear hK K
              (try simp only [Act.put, gA, gB, gC, sA, sB, sC])
              refine rdz 13 fun K hK => ?_
              obtain ⟨z0, z1, z2⟩ := HN.out.three
              have f0 := HN.out.thawed 0
              have f1 := HN.out.thawed 1
              have f2 := HN.out.thawed 2
              go_simp
              have HN := hidp (HN.out.put 0 (.int .i64 k))
              have HN := hidp (HN.out.put 1 (.int .i64 (m : Int)))
              have HN := hidp (HN.out.put 2 (.int .i64 cl))
              have HB := hidp (Bput (p := ⟨_, 2, none⟩) (Bput (p := ⟨_, 1, none⟩) (Bput (p := ⟨_, 0, none⟩) HB.out HLE.out (.int .i64 k)) HLE.out (.int .i64 (m : Int))) HLE.out (.int .i64 cl))
              clear z0 z1 z2 f0 f1 f2
              refine hK.out _ _ ?_ (fun hHeld => ?_)
              · (try dsimp only)
                exact HS.out _ HB.out
              clear hK K
              (try simp only [Act.put, gA, gB, gC, sA, sB, sC])
              refine tkz 14 ?_
              refine dnz ?_
              go_wp2_with fail
              go_meet
              case rel => exact ⟨_, rfl, rfl, HN.out, HB.out, HLE.out⟩
          · skip
            go_simp
            have HLE := hidp HB.out.size
            have HB := hidp (Bnew HB.out (.cells #[.int .i64 0, .int .i64 0, .int .i64 0] 76))
            have HN := hidp (Held.new q1 76 #[.int .i64 0, .int .i64 0, .int .i64 0])
            try simp only [World.heap_drew] at HLE HN
            generalize hq4 : q1.alloc (.cells #[.int .i64 0, .int .i64 0, .int .i64 0] 76) = q4 at HB HN ⊢
            clear hq4
            refine hK.out _ _ ?_ (fun hHeld => ?_)
            · (try dsimp only)
              exact HS.out _ HB.out
            clear hK K
            (try simp only [Act.put, gA, gB, gC, sA, sB, sC])
            refine rdz 8 fun K hK => ?_
            · skip
              go_simp
              (go_at_call 106; refine (r9Get_c _ _ _ _ _ h32i HG.out _).mono ?_; rintro e q5 ⟨rfl, hb1⟩; have HB := hidp (Bgo HB.out hb1); have HN := hidp (HN.out.keep hb1); clear hb1)
              refine hK.out _ _ ?_ (fun hHeld => ?_)
              · (try dsimp only)
                exact HS.out _ HB.out
              clear hK K
              (try simp only [Act.put, gA, gB, gC, sA, sB, sC])
              refine tkz 9 ?_
              refine tkz 10 ?_
              refine tkz 11 ?_
              refine rdz 13 fun K hK => ?_
              obtain ⟨z0, z1, z2⟩ := HN.out.three
              have f0 := HN.out.thawed 0
              have f1 := HN.out.thawed 1
              have f2 := HN.out.thawed 2
              go_simp
              have HN := hidp (HN.out.put 0 (.int .i64 k))
              have HN := hidp (HN.out.put 1 (.int .i64 (m : Int)))
              have HN := hidp (HN.out.put 2 (.int .i64 cl))
              have HB := hidp (Bput (p := ⟨_, 2, none⟩) (Bput (p := ⟨_, 1, none⟩) (Bput (p := ⟨_, 0, none⟩) HB.out HLE.out (.int .i64 k)) HLE.out (.int .i64 (m : Int))) HLE.out (.int .i64 cl))
              clear z0 z1 z2 f0 f1 f2
              refine hK.out _ _ ?_ (fun hHeld => ?_)
              · (try dsimp only)
                exact HS.out _ HB.out
              clear hK K
              (try simp only [Act.put, gA, gB, gC, sA, sB, sC])
              refine tkz 14 ?_
              refine dnz ?_
              go_wp2_with fail
              go_meet
              case rel => exact ⟨_, rfl, rfl, HN.out, HB.out, HLE.out⟩
        · skip
          go_simp
          have HLE := hidp HB.out.size
          have HB := hidp (Bnew HB.out (.cells #[.int .i64 0, .int .i64 0, .int .i64 0] 76))
          have HN := hidp (Held.new q0 76 #[.int .i64 0, .int .i64 0, .int .i64 0])
          try simp only [World.heap_drew] at HLE HN
          generalize hq6 : q0.alloc (.cells #[.int .i64 0, .int .i64 0, .int .i64 0] 76) = q6 at HB HN ⊢
          clear hq6
          refine hK.out _ _ ?_ (fun hHeld => ?_)
          · (try dsimp only)
            exact HS.out _ HB.out
          clear hK K
          (try simp only [Act.put, gA, gB, gC, sA, sB, sC])
          refine rdz 5 fun K hK => ?_
          · skip
            go_simp
            (go_at_call 90; refine (r7Info_c _ _ _ _ _).mono ?_; rintro e q7 ⟨rfl, hb1⟩; rw [HI.out]; have HB := hidp (Bgo HB.out hb1); have HN := hidp (HN.out.keep hb1); clear hb1)
            refine hK.out _ _ ?_ (fun hHeld => ?_)
            · (try dsimp only)
              exact HS.out _ HB.out
            clear hK K
            (try simp only [Act.put, gA, gB, gC, sA, sB, sC])
            refine tkz 6 ?_
            refine tkz 7 ?_
            refine rdz 8 fun K hK => ?_
            · skip
              go_simp
              (go_at_call 106; refine (r9Get_c _ _ _ _ _ h32i HG.out _).mono ?_; rintro e q8 ⟨rfl, hb1⟩; have HB := hidp (Bgo HB.out hb1); have HN := hidp (HN.out.keep hb1); clear hb1)
              refine hK.out _ _ ?_ (fun hHeld => ?_)
              · (try dsimp only)
                exact HS.out _ HB.out
              clear hK K
              (try simp only [Act.put, gA, gB, gC, sA, sB, sC])
              refine tkz 9 ?_
              refine tkz 10 ?_
              refine tkz 11 ?_
              refine rdz 13 fun K hK => ?_
              obtain ⟨z0, z1, z2⟩ := HN.out.three
              have f0 := HN.out.thawed 0
              have f1 := HN.out.thawed 1
              have f2 := HN.out.thawed 2
              go_simp
              have HN := hidp (HN.out.put 0 (.int .i64 k))
              have HN := hidp (HN.out.put 1 (.int .i64 (m : Int)))
              have HN := hidp (HN.out.put 2 (.int .i64 cl))
              have HB := hidp (Bput (p := ⟨_, 2, none⟩) (Bput (p := ⟨_, 1, none⟩) (Bput (p := ⟨_, 0, none⟩) HB.out HLE.out (.int .i64 k)) HLE.out (.int .i64 (m : Int))) HLE.out (.int .i64 cl))
              clear z0 z1 z2 f0 f1 f2
              refine hK.out _ _ ?_ (fun hHeld => ?_)
              · (try dsimp only)
                exact HS.out _ HB.out
              clear hK K
              (try simp only [Act.put, gA, gB, gC, sA, sB, sC])
              refine tkz 14 ?_
              refine dnz ?_
              go_wp2_with fail
              go_meet
              case rel => exact ⟨_, rfl, rfl, HN.out, HB.out, HLE.out⟩
      case rest =>
        obtain ⟨g, rfl, rfl, h1, h2, h3⟩ := hcut
        obtain ⟨d0, d1, d2⟩ := h1.three
        have HBX := hidp (Bgo HB.out h2)
        have HHX := hidp (HX.out.keep h2)
        have HNX := hidp h1
        have HOX := hidp (own_below HO.out h2)
        have HGE := hidp h3
        clear h1 h2 h3 HS c0 c1 c2 c3
        by_cases hk0 : k = 0
        · have HNA := hidp (HCN.out (HCF.out (.inl hk0)))
          subst hk0
          cases okb
          · go_wp2_with fail
            go_ret2
            exact ⟨_, false, rfl, ⟨⟨fun h => (by cases h), fun h => absurd h HNA.out⟩, fun h => (by cases h)⟩, HBX.out⟩
          · go_wp2_with fail
            go_ret2
            exact ⟨_, false, rfl, ⟨⟨fun h => (by cases h), fun h => absurd h HNA.out⟩, fun h => (by cases h)⟩, HBX.out⟩
        · have e : okb = true := hok hk0
          subst e
          have q0 : (k == 0) = false := by simpa using hk0
          have hmm : 1 <= m /\ m <= 1024 := by omega
          have sw : IntKind.i64.wrap ((a : Int) + m) = ((a + m : Nat) : Int) := by rw [i64_same (by omega) (by omega)]; push_cast; rfl
          clear hkc hok
          go_wp2_with (first
            | (at_builtin
               refine wpList_append_own _ rfl _ _ 81 rfl (w.heap.size + 1) 3 i0 (.int .i64 0) 1 8 Tryz.underlying81 hi0 hz0 hz1 hz2 rfl (by decide) _ _ _ rfl (HOX.out.alloc _) ⟨_, 0, none⟩ 1 1 [.int .i64 (a : Int)] rfl rfl ?c1 ?c2 ?c3 ?c4 ?c5 ?_
               case c1 => intro j y hy; rcases j with _ | j; (· simp at hy; subst hy; simp [Addr.add]); (· simp at hy)
               case c2 => simp [Value.oneCell']
               case c3 => unfold maxLen; omega
               case c4 => omega
               case c5 => have := HBX.out.size; have := HX.out.lt; simp; omega
               intro u1 w3 hown3 hgrow hat3
               have HO3 : Hid (w3.ownsRow (w.heap.size + 1) 3 1 u1 (nl + 1) (natVs (l ++ [a]))) := hidp (by rw [natVs_snoc]; exact hown3)
               have hnb : ∀ j, u4.ownBlock = some j -> (w.heap.size + 1) <= j := fun j hj => (HOX.out.lt j hj).1
               have HB3 := hidp ((Bnew HBX.out (.cells #[.int .i64 (a : Int)] 3)).grown hgrow (by have := HBX.out.size; simp; omega) (fun j hj => by have := hnb j hj; omega))
               have HX3 := hidp (held_grown (HHX.out.alloc (.cells #[.int .i64 (a : Int)] 3)) hgrow (fun e => by have := hnb _ e; omega))
               have HN3 := hidp (held_grown (HNX.out.alloc (.cells #[.int .i64 (a : Int)] 3)) hgrow (fun e => by have := (HO.out.lt _ e).2; have := HGE.out; omega))
               clear hown3 hgrow hat3 hnb d0 d1 d2
               obtain ⟨d0, d1, d2⟩ := HN3.out.three)
            | fail)
          go_roundw
          case rel =>
            refine ⟨a + m, l ++ [a], nl + 1, by go_num, by omega, ?_, by have := HSL.out.len; have := HLN.out; omega, hidp (by rw [List.length_append, HLN.out]; rfl), HO3, HX3, HB3⟩
            rcases Nat.lt_or_ge H.p (a + m) with h | h
            · exact hidp (.inr ⟨h, HCN.out (HCF.out (.inr h))⟩)
            · have h4 := HCA.out hk0 h
              exact hidp (.inl ⟨h, by rw [<- h4.2]; exact .snoc HSL.out h4.1⟩)
          case measure => simp [intOf]; omega
    · have t0 : decide ((a : Int) < H.p) = false := decide_eq_false (by omega)
      obtain ⟨b, hb⟩ : ∃ b : Bool, ((a : Int) == H.p) = b := ⟨_, rfl⟩
      have HSI : Hid (StartsIs H w u4 b wr) := hidp (by
        rcases HST.out with ⟨h1, h2⟩ | ⟨h1, h2⟩
        · have hap : a = H.p := by omega
          have hbt : b = true := by rw [<- hb]; simp; omega
          subst hbt
          refine ⟨⟨fun _ => by rw [<- hap]; exact h2.at_, fun _ => rfl⟩, fun _ => ⟨l, by rw [<- hap]; exact h2, by rw [HLN.out]; exact own_down HO.out (by omega)⟩⟩
        · have hbt : b = false := by rw [<- hb]; simp; omega
          subst hbt
          exact ⟨⟨fun h => (by cases h), fun h => absurd h h2⟩, fun h => (by cases h)⟩)
      clear HST
      go_wp2_with fail
      refine wp_region_held_drew (S := (fun w' => w'.cell? ⟨w.heap.size, 0, none⟩ = some (.int .i64 (H.t : Int)) /\ w'.cell? ⟨w.heap.size, 1, none⟩ = some (.int .i64 (H.p : Int)) /\ w'.cell? ⟨w.heap.size, 2, none⟩ = some (.int .i64 (H.s : Int)) /\ w'.cell? ⟨w.heap.size, 3, none⟩ = some (.slice (some ad) n c))) (by kernel_rfl) ?_ (fun hHeld => ?_)
      · (try dsimp only)
        first | exact ⟨c0, c1, c2, c3⟩ | exact hHeld
      refine tkz 0 ?_
      refine tkz 1 ?_
      refine tkz 2 ?_
      refine tkz 3 ?_
      refine tkz 4 ?_
      refine tkz 5 ?_
      refine tkz 6 ?_
      refine tkz 7 ?_
      refine dnz ?_
      go_wp2_with fail
      go_ret2
      exact ⟨_, _, rfl, HSI.out, Bdrew HB.out⟩
end
section
def LRow (w : World) (g : Nat) (l : List Nat) : Prop := g < w.heap.size /\ ∀ (i a : Nat), l[i]? = some a -> w.cell? ⟨g, i, none⟩ = some (.int .i64 (a : Int))
theorem LRow.keep {w w' : World} {g : Nat} {l : List Nat} (h : LRow w g l) (hb : Below w.heap.size w w') : LRow w' g l :=
 ⟨Nat.lt_of_lt_of_le h.1 hb.size, fun i a hi => (hb.cell (p := ⟨g, i, none⟩) h.1).trans (h.2 i a hi)⟩
theorem LRow.drew {w : World} {g : Nat} {l : List Nat} (h : LRow w g l) : LRow w.drew g l := h
def StartsYes (H : AuH) (w : World) (e : Ending) (w' : World) : Prop := ∃ g cap l nl, e = .returned (.tuple #[.slice (some ⟨g, 0, none⟩) nl cap, .bool true]) /\ H.Starts l H.p /\ l.length = nl /\ 0 < nl /\ nl <= cap /\ cap <= 9223372036854775807 /\ LRow w' g l /\ Below w.heap.size w w'
theorem own_caps {w : World} {base : Nat} {e : TypeId} {size n c : Nat} {A : Option Addr} {xs : List Value} (h : w.ownsRow base e size (.slice A n c) n xs) : n <= c /\ c <= 9223372036854775807 := by
 rcases h.2 with ⟨h1, h2⟩ | ⟨g, cap, cur, h1, hb, hg, hnc, hcm, hr⟩
 ·injection h1 with _ h1 h3; omega
 ·injection h1 with _ _ h3; unfold maxLen at hcm; omega
theorem xStarts_yes {H : AuH} {n c : Nat} (HV : HeapV H n c) (hA : H.At H.p) (ad : Addr) (w : World) (hv : IsVals w ad n H.V) : Calls Tryz.prog 89 #[hpV H ad n c] w (StartsYes H w) := by
 refine (xStarts_c HV ad w hv).mono ?_
 rintro e w1 ⟨u, b, rfl, ⟨h1, h2⟩, hb⟩
 have hbt := h1.2 hA
 subst hbt
 obtain ⟨l, hl, hown⟩ := h2 rfl
 have hpos : 0 < l.length := by
  rcases hl.head with ⟨_, h⟩ | h
  ·have := HV.nums.2.2.1; omega
  ·rcases Nat.lt_or_ge 0 l.length with h3 | h3
   ·exact h3
   ·rw [List.getElem?_eq_none h3] at h; cases h
 obtain ⟨g, cap, rfl, hg1, hg2⟩ := hown.form hpos
 have hc := own_caps hown
 exact ⟨g, cap, l, l.length, rfl, hl, rfl, hpos, hc.1, hc.2, ⟨hg2, fun i a hi => own_nat hown rfl hi⟩, hb⟩
def StartsNo (w : World) (e : Ending) (w' : World) : Prop := ∃ u, e = .returned (.tuple #[u, .bool false]) /\ Below w.heap.size w w'
theorem xStarts_no {H : AuH} {n c : Nat} (HV : HeapV H n c) (hA : ¬ H.At H.p) (ad : Addr) (w : World) (hv : IsVals w ad n H.V) : Calls Tryz.prog 89 #[hpV H ad n c] w (StartsNo w) := by
 refine (xStarts_c HV ad w hv).mono ?_
 rintro e w1 ⟨u, b, rfl, ⟨h1, h2⟩, hb⟩
 cases b
 ·exact ⟨u, rfl, hb⟩
 ·exact absurd (h1.1 rfl) hA

set_option maxHeartbeats 6400000 in
set_option maxRecDepth 100000 in
theorem xTiles_c {H : AuH} {n c : Nat} (HV : HeapV H n c) (ad : Addr) (b : Bool) (hb : b = true ↔ H.Tiled) (w : World) (hv : IsVals w ad n H.V) :
  Calls Tryz.prog 69 #[hpV H ad n c] w fun e w' => e = .returned (.bool b) /\ Below w.heap.size w w' := by
 have HVL := hidp hv
 have HX0 := hidp (Held.new w 96 #[.int .i64 (H.t : Int), .int .i64 (H.p : Int), .int .i64 (H.s : Int), .slice (some ad) n c])
 obtain ⟨c0, c1, c2, c3⟩ := HX0.out.four
 have HBW := hidp (Bnew (B0 w) (.cells #[.int .i64 (H.t : Int), .int .i64 (H.p : Int), .int .i64 (H.s : Int), .slice (some ad) n c] 96))
 have hn := HV.nums
 have hcx : c <= 9223372036854775807 := hn.2.2.2.2.2.2.2.2
 have hni : n <= 6238 := hn.2.2.2.2.2.2.1
 have hnc := HV.cap
 have hp1 := hn.2.2.2.1
 have HBC := hidp hb
 clear hv hn hb
 unfold hpV
 by_cases hA : H.At H.p
 ·go_enter Tryz.func69, Tryz.ntmps69
  go_wp2_with (first
   | (go_at_call 89; refine (xStarts_yes HV hA ad _ (HVL.out.below HBW.out)).mono ?_; rintro e w2 ⟨gl, cl, l, nl, rfl, hl, hln, hpos, hcl0, hcl, hlr, hb2⟩; have HSL := hidp hl; have HLN := hidp hln; have HLR := hidp hlr; have HB2 := hidp (Bgo HBW.out hb2); have HX2 := hidp (HX0.out.keep hb2); clear hl hln hlr hb2 c0 c1 c2 c3)
   | fail)
  have hnl : nl <= 1024 := by have := HSL.out.len; have := HLN.out; omega
  go_loopw [5, 6] (fun u5 u6 wr => ∃ (n1 p : Nat), n1 <= nl /\ p <= H.p /\ u5 = .int .i64 (n1 : Int) /\ u6 = .int .i64 (p : Int) /\ Hid (H.Front l n1 p) /\ Hid (∀ q, q < p -> ¬ H.At q -> H.cel q 0 = 0) /\ Hid (Held wr w.heap.size 96 #[.int .i64 (H.t : Int), .int .i64 (H.p : Int), .int .i64 (H.s : Int), .slice (some ad) n c]) /\ Hid (LRow wr gl l) /\ Hid (Below w.heap.size w wr)) (fun _ u6 _ => H.p - (intOf u6).toNat)
  case atStart => exact ⟨0, 0, by omega, by omega, rfl, rfl, hidp (AuH.Front.zero HSL.out), hidp (fun q h => by omega), HX2, HLR, HB2⟩
  case round =>
   obtain ⟨n1, p, hn1, hp, rfl, rfl, HF, HJ, HX, HLW, HB⟩ := hrel
   obtain ⟨c0, c1, c2, c3⟩ := HX.out.four
   by_cases hlt : p < H.p
   ·have t0 : decide ((p : Int) < H.p) = true := decide_eq_true (by omega)
    have HVR := hidp (HVL.out.below HB.out)
    by_cases hln : n1 < nl
    ·obtain ⟨a, hi⟩ : ∃ a, l[n1]? = some a := ⟨_, List.getElem?_eq_getElem (by have := HLN.out; omega)⟩
     have l0 := HLW.out.2 n1 a hi
     have t1 : decide ((n1 : Int) < nl) = true := decide_eq_true (by omega)
     by_cases hap : a = p
     ·subst hap
      have HFN := hidp (AuH.Front.yes HSL.out HF.out hi)
      have q0 : ((a : Int) == (a : Int)) = true := by simp
      clear hi
      go_wp2_with fail
      go_roundw
      case rel => exact ⟨n1 + 1, a + 1, by omega, by omega, by go_num, by go_num, hidp HFN.out.2, hidp (fun q hq hn => by rcases Nat.lt_or_ge q a with h | h; (exact HJ.out q h hn); (have : q = a := by omega); subst this; exact absurd HFN.out.1 hn), HX, HLW, HB⟩
      case measure => simp [intOf]; omega
     ·have HFN := hidp (AuH.Front.no HSL.out HF.out hlt (by rw [hi]; simpa using hap))
      have q0 : ((a : Int) == (p : Int)) = false := by simp; omega
      clear hi
      obtain ⟨i, hii⟩ : ∃ i, 30 + 4 * H.t + 6 * p + 0 = i := ⟨_, rfl⟩
      have hini : i < n := by have := HV.len; omega
      have HI : Hid (pageI H.t H.p H.s p 0 = (i : Int)) := hidp (by have h := HV.page (b := 0) hlt (by omega); rw [hii] at h; exact h)
      have h32i := HV.cel_lt hlt (show 0 < 6 by omega)
      have hceli : H.cel p 0 = H.V i := by unfold AuH.cel; rw [hii]
      obtain ⟨v, hvvv⟩ : ∃ v, H.cel p 0 = v := ⟨_, rfl⟩
      have HCv := hidp hvvv
      rw [hvvv] at h32i
      have hci := (HVR.out).2 i hini
      rw [<- hceli, hvvv] at hci
      have hbli : (ad.add i).block < wr.heap.size := by rw [block_of_add]; exact (HVR.out).1
      have HS : Hid (∀ w', Below wr.heap.size wr w' -> (fun w' => w'.cell? ⟨w.heap.size, 0, none⟩ = some (.int .i64 (H.t : Int)) /\ w'.cell? ⟨w.heap.size, 1, none⟩ = some (.int .i64 (H.p : Int)) /\ w'.cell? ⟨w.heap.size, 2, none⟩ = some (.int .i64 (H.s : Int)) /\ w'.cell? ⟨w.heap.size, 3, none⟩ = some (.slice (some ad) n c) /\ w'.cell? (ad.add i) = some (.int .u32 (v : Int))) w') := hidp (fun w' hb => by have hh := HX.out.keep hb; exact ⟨hh.four.1, hh.four.2.1, hh.four.2.2.1, hh.four.2.2.2, (hb.cell hbli).trans hci⟩)
      clear hci hbli hceli hvvv hii
      by_cases hv0 : v = 0
      ·have q2 : ((v : Int) != 0) = false := by simp; omega
       have HV0 := hidp hv0
       clear hv0
       go_wp2_with fail
       refine wp_region_held_drew (S := (fun w' => w'.cell? ⟨w.heap.size, 0, none⟩ = some (.int .i64 (H.t : Int)) /\ w'.cell? ⟨w.heap.size, 1, none⟩ = some (.int .i64 (H.p : Int)) /\ w'.cell? ⟨w.heap.size, 2, none⟩ = some (.int .i64 (H.s : Int)) /\ w'.cell? ⟨w.heap.size, 3, none⟩ = some (.slice (some ad) n c) /\ w'.cell? (ad.add i) = some (.int .u32 (v : Int)))) (by kernel_rfl) ?_ (fun hHeld => ?_)
       ·(try dsimp only)
        first | exact HS.out _ (Bdrew (B0 _)) | exact HS.out _ HB5r.out | exact hHeld
       refine tkz 0 ?_
       refine tkz 1 ?_
       refine tkz 2 ?_
       refine tkz 3 ?_
       refine tkz 4 ?_
       refine rdz 5 fun K hK => ?_
       go_simp
       (go_at_call 90; refine (r7Info_c _ _ _ _ _).mono ?_; rintro e w5 ⟨rfl, hb5⟩; rw [HI.out]; have HB5 := hidp (Bgo (Bdrew HB.out) hb5); have HB5r := hidp (Bgo (Bdrew (B0 wr)) hb5); have HX5 := hidp (HX.out.drew.keep hb5); have HL5 := hidp (HLW.out.drew.keep hb5); clear hb5)
       refine hK.out _ _ ?_ (fun hHeld => ?_)
       ·(try dsimp only)
        first | exact HS.out _ (Bdrew (B0 _)) | exact HS.out _ HB5r.out | exact hHeld
       clear hK K
       (try simp only [Act.put, gA, gB, gC, sA, sB, sC])
       refine tkz 6 ?_
       refine tkz 7 ?_
       refine tkz 8 ?_
       refine dnz ?_
       go_wp2_with fail
       go_roundw
       case rel => exact ⟨n1, p + 1, by omega, by omega, rfl, by go_num, hidp HFN.out.2, hidp (fun q hq hn => by rcases Nat.lt_or_ge q p with h | h; (exact HJ.out q h hn); (have : q = p := by omega); subst this; rw [HCv.out]; exact HV0.out), HX5, HL5, HB5⟩
       case measure => simp [intOf]; omega
      ·have q2 : ((v : Int) != 0) = true := by simp; omega
       have HBF : Hid (b = false) := hidp (bool_no HBC.out (fun h => hv0 (HCv.out.symm.trans (AuH.tiled_not h hlt HFN.out.1))))
       go_wp2_with fail
       refine wp_region_held_drew (S := (fun w' => w'.cell? ⟨w.heap.size, 0, none⟩ = some (.int .i64 (H.t : Int)) /\ w'.cell? ⟨w.heap.size, 1, none⟩ = some (.int .i64 (H.p : Int)) /\ w'.cell? ⟨w.heap.size, 2, none⟩ = some (.int .i64 (H.s : Int)) /\ w'.cell? ⟨w.heap.size, 3, none⟩ = some (.slice (some ad) n c) /\ w'.cell? (ad.add i) = some (.int .u32 (v : Int)))) (by kernel_rfl) ?_ (fun hHeld => ?_)
       ·(try dsimp only)
        first | exact HS.out _ (Bdrew (B0 _)) | exact HS.out _ HB5r.out | exact hHeld
       refine tkz 0 ?_
       refine tkz 1 ?_
       refine tkz 2 ?_
       refine tkz 3 ?_
       refine tkz 4 ?_
       refine rdz 5 fun K hK => ?_
       go_simp
       (go_at_call 90; refine (r7Info_c _ _ _ _ _).mono ?_; rintro e w5 ⟨rfl, hb5⟩; rw [HI.out]; have HB5 := hidp (Bgo (Bdrew HB.out) hb5); have HB5r := hidp (Bgo (Bdrew (B0 wr)) hb5); have HX5 := hidp (HX.out.drew.keep hb5); have HL5 := hidp (HLW.out.drew.keep hb5); clear hb5)
       refine hK.out _ _ ?_ (fun hHeld => ?_)
       ·(try dsimp only)
        first | exact HS.out _ (Bdrew (B0 _)) | exact HS.out _ HB5r.out | exact hHeld
       clear hK K
       (try simp only [Act.put, gA, gB, gC, sA, sB, sC])
       refine tkz 6 ?_
       refine tkz 7 ?_
       refine tkz 8 ?_
       refine dnz ?_
       go_wp2_with fail
       go_ret
       exact ⟨by rw [HBF.out]; rfl, HB5.out⟩
    ·have t1 : decide ((n1 : Int) < nl) = false := decide_eq_false (by omega)
     have HFN := hidp (AuH.Front.no HSL.out HF.out hlt (by rw [List.getElem?_eq_none (by have := HLN.out; omega)]; simp))
     obtain ⟨i, hii⟩ : ∃ i, 30 + 4 * H.t + 6 * p + 0 = i := ⟨_, rfl⟩
     have hini : i < n := by have := HV.len; omega
     have HI : Hid (pageI H.t H.p H.s p 0 = (i : Int)) := hidp (by have h := HV.page (b := 0) hlt (by omega); rw [hii] at h; exact h)
     have h32i := HV.cel_lt hlt (show 0 < 6 by omega)
     have hceli : H.cel p 0 = H.V i := by unfold AuH.cel; rw [hii]
     obtain ⟨v, hvvv⟩ : ∃ v, H.cel p 0 = v := ⟨_, rfl⟩
     have HCv := hidp hvvv
     rw [hvvv] at h32i
     have hci := (HVR.out).2 i hini
     rw [<- hceli, hvvv] at hci
     have hbli : (ad.add i).block < wr.heap.size := by rw [block_of_add]; exact (HVR.out).1
     have HS : Hid (∀ w', Below wr.heap.size wr w' -> (fun w' => w'.cell? ⟨w.heap.size, 0, none⟩ = some (.int .i64 (H.t : Int)) /\ w'.cell? ⟨w.heap.size, 1, none⟩ = some (.int .i64 (H.p : Int)) /\ w'.cell? ⟨w.heap.size, 2, none⟩ = some (.int .i64 (H.s : Int)) /\ w'.cell? ⟨w.heap.size, 3, none⟩ = some (.slice (some ad) n c) /\ w'.cell? (ad.add i) = some (.int .u32 (v : Int))) w') := hidp (fun w' hb => by have hh := HX.out.keep hb; exact ⟨hh.four.1, hh.four.2.1, hh.four.2.2.1, hh.four.2.2.2, (hb.cell hbli).trans hci⟩)
     clear hci hbli hceli hvvv hii
     by_cases hv0 : v = 0
     ·have q2 : ((v : Int) != 0) = false := by simp; omega
      have HV0 := hidp hv0
      clear hv0
      go_wp2_with fail
      refine wp_region_held_drew (S := (fun w' => w'.cell? ⟨w.heap.size, 0, none⟩ = some (.int .i64 (H.t : Int)) /\ w'.cell? ⟨w.heap.size, 1, none⟩ = some (.int .i64 (H.p : Int)) /\ w'.cell? ⟨w.heap.size, 2, none⟩ = some (.int .i64 (H.s : Int)) /\ w'.cell? ⟨w.heap.size, 3, none⟩ = some (.slice (some ad) n c) /\ w'.cell? (ad.add i) = some (.int .u32 (v : Int)))) (by kernel_rfl) ?_ (fun hHeld => ?_)
      ·(try dsimp only)
       first | exact HS.out _ (Bdrew (B0 _)) | exact HS.out _ HB5r.out | exact hHeld
      refine tkz 0 ?_
      refine tkz 1 ?_
      refine tkz 2 ?_
      refine tkz 3 ?_
      refine tkz 4 ?_
      refine rdz 5 fun K hK => ?_
      go_simp
      (go_at_call 90; refine (r7Info_c _ _ _ _ _).mono ?_; rintro e w5 ⟨rfl, hb5⟩; rw [HI.out]; have HB5 := hidp (Bgo (Bdrew HB.out) hb5); have HB5r := hidp (Bgo (Bdrew (B0 wr)) hb5); have HX5 := hidp (HX.out.drew.keep hb5); have HL5 := hidp (HLW.out.drew.keep hb5); clear hb5)
      refine hK.out _ _ ?_ (fun hHeld => ?_)
      ·(try dsimp only)
       first | exact HS.out _ (Bdrew (B0 _)) | exact HS.out _ HB5r.out | exact hHeld
      clear hK K
      (try simp only [Act.put, gA, gB, gC, sA, sB, sC])
      refine tkz 6 ?_
      refine tkz 7 ?_
      refine tkz 8 ?_
      refine dnz ?_
      go_wp2_with fail
      go_roundw
      case rel => exact ⟨n1, p + 1, by omega, by omega, rfl, by go_num, hidp HFN.out.2, hidp (fun q hq hn => by rcases Nat.lt_or_ge q p with h | h; (exact HJ.out q h hn); (have : q = p := by omega); subst this; rw [HCv.out]; exact HV0.out), HX5, HL5, HB5⟩
      case measure => simp [intOf]; omega
     ·have q2 : ((v : Int) != 0) = true := by simp; omega
      have HBF : Hid (b = false) := hidp (bool_no HBC.out (fun h => hv0 (HCv.out.symm.trans (AuH.tiled_not h hlt HFN.out.1))))
      go_wp2_with fail
      refine wp_region_held_drew (S := (fun w' => w'.cell? ⟨w.heap.size, 0, none⟩ = some (.int .i64 (H.t : Int)) /\ w'.cell? ⟨w.heap.size, 1, none⟩ = some (.int .i64 (H.p : Int)) /\ w'.cell? ⟨w.heap.size, 2, none⟩ = some (.int .i64 (H.s : Int)) /\ w'.cell? ⟨w.heap.size, 3, none⟩ = some (.slice (some ad) n c) /\ w'.cell? (ad.add i) = some (.int .u32 (v : Int)))) (by kernel_rfl) ?_ (fun hHeld => ?_)
      ·(try dsimp only)
       first | exact HS.out _ (Bdrew (B0 _)) | exact HS.out _ HB5r.out | exact hHeld
      refine tkz 0 ?_
      refine tkz 1 ?_
      refine tkz 2 ?_
      refine tkz 3 ?_
      refine tkz 4 ?_
      refine rdz 5 fun K hK => ?_
      go_simp
      (go_at_call 90; refine (r7Info_c _ _ _ _ _).mono ?_; rintro e w5 ⟨rfl, hb5⟩; rw [HI.out]; have HB5 := hidp (Bgo (Bdrew HB.out) hb5); have HB5r := hidp (Bgo (Bdrew (B0 wr)) hb5); have HX5 := hidp (HX.out.drew.keep hb5); have HL5 := hidp (HLW.out.drew.keep hb5); clear hb5)
      refine hK.out _ _ ?_ (fun hHeld => ?_)
      ·(try dsimp only)
       first | exact HS.out _ (Bdrew (B0 _)) | exact HS.out _ HB5r.out | exact hHeld
      clear hK K
      (try simp only [Act.put, gA, gB, gC, sA, sB, sC])
      refine tkz 6 ?_
      refine tkz 7 ?_
      refine tkz 8 ?_
      refine dnz ?_
      go_wp2_with fail
      go_ret
      exact ⟨by rw [HBF.out]; rfl, HB5.out⟩
   ·have t0 : decide ((p : Int) < H.p) = false := decide_eq_false (by omega)
    have HBT : Hid (b = true) := hidp (HBC.out.2 ((AuH.tiled_iff hA).2 (fun q hq => HJ.out q (by omega))))
    go_wp2_with fail
    go_ret
    exact ⟨by rw [HBT.out]; rfl, HB.out⟩
 ·have HBF : Hid (b = false) := hidp (bool_no HBC.out (fun h => hA h.1))
  go_enter Tryz.func69, Tryz.ntmps69
  go_wp2_with (first
   | (go_at_call 89; refine (xStarts_no HV hA ad _ (HVL.out.below HBW.out)).mono ?_; rintro e w2 ⟨u, rfl, hb2⟩; have HB2 := hidp (Bgo HBW.out hb2); clear hb2)
   | fail)
  go_ret
  exact ⟨by rw [HBF.out]; rfl, HB2.out⟩
end
end Go.Proofs.YtlpcdfcghgapkaaGreat
