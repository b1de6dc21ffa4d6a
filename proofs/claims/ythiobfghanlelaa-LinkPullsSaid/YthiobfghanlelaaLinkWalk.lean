/-
  What link.Walk does. Written by link/gen_walk.py.
-/
import Derived.Test.YthiobfghanlelaaYPush
import Derived.Test.YthiobfghanlelaaYOb
import Derived.Deep.RegionWith
import Derived.Deep.CutRange
namespace Go.Proofs.Ythiobfghanlelaa
open Go.ChangeShapes Go.WideShapes Go.ChangeAt Go.RowKit Go.Maps
set_option linter.unusedVariables false
set_option linter.unusedSimpArgs false
set_option maxRecDepth 100000

section
variable {base b n : Nat} {wh : Bool} {K : Nat → Option Nat} {st : Vst} {w w0 : World} {A G : Nat → Prop} {t q s hd : Int}

set_option maxHeartbeats 6400000 in
theorem lkWalk_c (hn : n < 2 ^ 40) (hq : q ≤ 64) (h : (vOb base b n wh K).At w0 A G st w) :
    Calls Try.prog 15 #[.pointer (some ⟨b, 0, none⟩), .agg #[.int .i64 t, .int .i64 q, .int .i64 s], .int .i64 hd] w (WalkEnd (vOb base b n wh K) w0 A G (walkL n K t q s hd st) (walkS n K t q s hd st) w) := by
  obtain ⟨i0, hin, hz0, hz1, hz2⟩ := info_parts intInfo
  obtain ⟨l0, hl0⟩ : ∃ l, getV n K st hd = l := ⟨_, rfl⟩
  have hl32 : l0 < 2 ^ 32 := by rw [← hl0]; exact vAt_lt h hd
  have HL0 := hidp hl0
  obtain ⟨Q, hQ⟩ : ∃ Q, q.toNat = Q := ⟨_, rfl⟩
  have hQ64 : Q ≤ 64 := by omega
  have HqQ : Hid (∀ l : Nat, pgB q ((l : Int) - 1) = decide (1 ≤ l ∧ l ≤ Q)) := hidp (fun l => by
    rw [Bool.eq_iff_iff, pgB_iff, decide_eq_true_iff]
    omega)
  have HFIN : Hid (walkL n K t q s hd st = (walkF n K t q s Q l0 (getS n K st hd)).1 ∧ walkS n K t q s hd st = (walkF n K t q s Q l0 (getS n K st hd)).2) := hidp (by unfold walkL walkS; rw [hl0, hQ]; exact ⟨rfl, rfl⟩)
  have HLT : Hid (∀ l : Nat, (l : Int) < q ↔ l < Q) := hidp (fun l => by omega)
  have HGL : Hid (∀ g, G g → g < w.heap.size) := hidp h.own_lt
  have HW := hidp ((WK.two h (.cells #[.int .i64 t, .int .i64 q, .int .i64 s] 23) 65 #[.pointer (some ⟨b, 0, none⟩), .int .i64 t, .int .i64 q, .int .i64 s, .int .i64 hd]).at_)
  have HC0 := hidp ((Held.new w 23 #[.int .i64 t, .int .i64 q, .int .i64 s]).alloc (.cells #[.pointer (some ⟨b, 0, none⟩), .int .i64 t, .int .i64 q, .int .i64 s, .int .i64 hd] 65))
  have HSp0 := hidp (Held.new2 w (.cells #[.int .i64 t, .int .i64 q, .int .i64 s] 23) 65 #[.pointer (some ⟨b, 0, none⟩), .int .i64 t, .int .i64 q, .int .i64 s, .int .i64 hd])
  have HS0 : Hid (Stay G w ((w.alloc (.cells #[.int .i64 t, .int .i64 q, .int .i64 s] 23)).alloc (.cells #[.pointer (some ⟨b, 0, none⟩), .int .i64 t, .int .i64 q, .int .i64 s, .int .i64 hd] 65))) := hidp (Stay.of_below (Bnew (Bnew (B0 _) _) _) G)
  have HZ0 : Hid (((w.alloc (.cells #[.int .i64 t, .int .i64 q, .int .i64 s] 23)).alloc (.cells #[.pointer (some ⟨b, 0, none⟩), .int .i64 t, .int .i64 q, .int .i64 s, .int .i64 hd] 65)).heap.size = w.heap.size + 2) := hidp (by simp)
  have HK0 : Hid (WK (vOb base b n wh K) w0 A (And1 G w.heap.size) ((w.alloc (.cells #[.int .i64 t, .int .i64 q, .int .i64 s] 23)).alloc (.cells #[.pointer (some ⟨b, 0, none⟩), .int .i64 t, .int .i64 q, .int .i64 s, .int .i64 hd] 65)) (w.heap.size + 1) 65 #[.pointer (some ⟨b, 0, none⟩), .int .i64 t, .int .i64 q, .int .i64 s, .int .i64 hd] st ((w.alloc (.cells #[.int .i64 t, .int .i64 q, .int .i64 s] 23)).alloc (.cells #[.pointer (some ⟨b, 0, none⟩), .int .i64 t, .int .i64 q, .int .i64 s, .int .i64 hd] 65))) := hidp ⟨by have h2 := (h.box (.cells #[.int .i64 t, .int .i64 q, .int .i64 s] 23)).box (.cells #[.pointer (some ⟨b, 0, none⟩), .int .i64 t, .int .i64 q, .int .i64 s, .int .i64 hd] 65); simpa using h2, HSp0.out, Stay.of_below (B0 _) _⟩
  obtain ⟨x0, x1, x2⟩ := HC0.out.three
  obtain ⟨y0, y1, y2, y3, y4⟩ := HSp0.out.five'
  clear h hl0 hQ HW
  go_enter Try.func15, Try.ntmps15
  go_upto_region 3 with fail
  generalize hW0 : ((w.alloc (.cells #[.int .i64 t, .int .i64 q, .int .i64 s] 23)).alloc (.cells #[.pointer (some ⟨b, 0, none⟩), .int .i64 t, .int .i64 q, .int .i64 s, .int .i64 hd] 65)) = W0 at HC0 HSp0 HS0 HZ0 HK0 x0 x1 x2 y0 y1 y2 y3 y4 ⊢
  clear hW0
  go_cut [9] from 14 to 17 (fun u9 wx => ∃ gp : Nat, u9 = .pointer (some ⟨gp, 0, none⟩) ∧ WK (vOb base b n wh K) w0 A (And1 G w.heap.size) W0 gp 67 #[.pointer (some ⟨b, 0, none⟩), .int .i64 t, .int .i64 q, .int .i64 s, .int .i64 hd, .int .i64 ((l0 : Int) - 1)] (getS n K st hd) wx ∧ W0.heap.size ≤ gp)
  case first =>
    have HK := hidp HK0.out.drew
    have HSp := hidp HSp0.out.drw
    refine wp_region_held_drew (S := (fun w' => w'.cell? ⟨w.heap.size + 1, 0, none⟩ = some (.pointer (some ⟨b, 0, none⟩)) ∧ w'.cell? ⟨w.heap.size + 1, 1, none⟩ = some (.int .i64 t) ∧ w'.cell? ⟨w.heap.size + 1, 2, none⟩ = some (.int .i64 q) ∧ w'.cell? ⟨w.heap.size + 1, 3, none⟩ = some (.int .i64 s) ∧ w'.cell? ⟨w.heap.size + 1, 4, none⟩ = some (.int .i64 hd))) (by kernel_rfl) ?_ (fun hHeld => ?_)
    · (try dsimp only)
      first | exact HSp.out.five' | exact hHeld
    generalize hq0 : W0.drew = q0 at HK HSp hHeld ⊢
    clear hq0
    refine tkO (i := 0) (v := ?_) rfl (by kernel_rfl) (fun _ _ _ h => h) (by rfl) ?_ (by assumption) ?_
    rotate_left
    · intro w hSw; (try dsimp only at hSw); go_simp; (try with_reducible rfl)
    (try simp only [Act.put, gA, gB, gC, sA, sB, sC])
    refine tkO (i := 1) (v := ?_) rfl (by kernel_rfl) (fun _ _ _ h => h) (by rfl) ?_ (by assumption) ?_
    rotate_left
    · intro w hSw; (try dsimp only at hSw); go_simp; (try with_reducible rfl)
    (try simp only [Act.put, gA, gB, gC, sA, sB, sC])
    refine wpAnyH_ready (rs := [2, 4]) (by kernel_rfl) (by simp) ?_
    refine AllReadyH.cons (o := _) rfl (fun K hK => ?_) (AllReadyH.cons (o := _) rfl (fun K hK => ?_) AllReadyH.nil)
    · skip
      go_simp
      (refine (lkFirst_c hn HK.out.at_).mono ?_; rintro e q1 ⟨rfl, h1, h2⟩; rw [HL0.out]; have HK := hidp (HK.out.call h1 h2); have HSp := hidp (HK.out.held); clear h1 h2)
      refine hK.out _ _ ?_ (fun hHeld => ?_)
      · (try dsimp only)
        first | exact HSp.out.five' | exact hHeld
      clear hK K
      (try simp only [Act.put, gA, gB, gC, sA, sB, sC])
      refine wpAnyH_ready (rs := [3, 4]) (by kernel_rfl) (by simp) ?_
      refine AllReadyH.cons (o := _) rfl (fun K hK => ?_) (AllReadyH.cons (o := _) rfl (fun K hK => ?_) AllReadyH.nil)
      · skip
        go_simp
        (refine (lkTo_c b t q s hd l0 hl32 _).mono ?_; rintro e q3 ⟨rfl, hb⟩; have HK := hidp (HK.out.keep hb); have HSp := hidp (HSp.out.keep hb); clear hb)
        refine hK.out _ _ ?_ (fun hHeld => ?_)
        · (try dsimp only)
          first | exact HSp.out.five' | exact hHeld
        clear hK K
        (try simp only [Act.put, gA, gB, gC, sA, sB, sC])
        refine wpAnyH_ready (rs := [4]) (by kernel_rfl) (by simp) ?_
        refine AllReadyH.cons (o := _) rfl (fun K hK => ?_) AllReadyH.nil
        · skip
          go_simp
          have HGE : Hid (W0.heap.size ≤ q3.heap.size) := hidp HK.out.stay.1
          have HSp := hidp (HSp.out.alloc (.cells #[.pointer none, .int .i64 0, .int .i64 0, .int .i64 0, .int .i64 0, .int .i64 0] 67))
          have HK := hidp (HK.out.next (T' := 67) (cs' := #[.pointer none, .int .i64 0, .int .i64 0, .int .i64 0, .int .i64 0, .int .i64 0]) HSp0.out)
          generalize hnq5 : q3.heap.size = Nq5 at HK HGE ⊢
          generalize hq5 : q3.alloc (.cells #[.pointer none, .int .i64 0, .int .i64 0, .int .i64 0, .int .i64 0, .int .i64 0] 67) = q5 at HK HSp ⊢
          clear hq5 hnq5
          refine hK.out _ _ ?_ (fun hHeld => ?_)
          · (try dsimp only)
            first | exact HSp.out.five' | exact hHeld
          clear hK K
          (try simp only [Act.put, gA, gB, gC, sA, sB, sC])
          refine wpAnyH_ready (rs := [5]) (by kernel_rfl) (by simp) ?_
          refine AllReadyH.cons (o := _) rfl (fun K hK => ?_) AllReadyH.nil
          · skip
            obtain ⟨z0, z1, z2, z3, z4, z5⟩ := HK.out.held.six'
            have f0 := HK.out.held.thawed 0
            have f1 := HK.out.held.thawed 1
            have f2 := HK.out.held.thawed 2
            have f3 := HK.out.held.thawed 3
            have f4 := HK.out.held.thawed 4
            have f5 := HK.out.held.thawed 5
            go_simp
            have HK := hidp ((((((HK.out.put HGE.out 0 (.pointer (some ⟨b, 0, none⟩))).put HGE.out 1 (.int .i64 t)).put HGE.out 2 (.int .i64 q)).put HGE.out 3 (.int .i64 s)).put HGE.out 4 (.int .i64 hd)).put HGE.out 5 (.int .i64 ((l0 : Int) - 1)))
            have HSp := hidp (HK.out.stay.held (.inr rfl) HSp0.out)
            refine hK.out _ _ ?_ (fun hHeld => ?_)
            · (try dsimp only)
              first | exact HSp.out.five' | exact hHeld
            clear hK K
            (try simp only [Act.put, gA, gB, gC, sA, sB, sC])
            refine wpAnyH_done (by kernel_rfl) ?_ _
            clear x0 x1 x2 y0 y1 y2 y3 y4 z0 z1 z2 z3 z4 z5 f0 f1 f2 f3 f4 f5
            go_wp2_with fail
            go_meet
            case rel => exact ⟨_, rfl, HK.out.less, HGE.out⟩
      · skip
        go_simp
        have HGE : Hid (W0.heap.size ≤ q1.heap.size) := hidp HK.out.stay.1
        have HSp := hidp (HSp.out.alloc (.cells #[.pointer none, .int .i64 0, .int .i64 0, .int .i64 0, .int .i64 0, .int .i64 0] 67))
        have HK := hidp (HK.out.next (T' := 67) (cs' := #[.pointer none, .int .i64 0, .int .i64 0, .int .i64 0, .int .i64 0, .int .i64 0]) HSp0.out)
        generalize hnq4 : q1.heap.size = Nq4 at HK HGE ⊢
        generalize hq4 : q1.alloc (.cells #[.pointer none, .int .i64 0, .int .i64 0, .int .i64 0, .int .i64 0, .int .i64 0] 67) = q4 at HK HSp ⊢
        clear hq4 hnq4
        refine hK.out _ _ ?_ (fun hHeld => ?_)
        · (try dsimp only)
          first | exact HSp.out.five' | exact hHeld
        clear hK K
        (try simp only [Act.put, gA, gB, gC, sA, sB, sC])
        refine wpAnyH_ready (rs := [3]) (by kernel_rfl) (by simp) ?_
        refine AllReadyH.cons (o := _) rfl (fun K hK => ?_) AllReadyH.nil
        · skip
          go_simp
          (refine (lkTo_c b t q s hd l0 hl32 _).mono ?_; rintro e q6 ⟨rfl, hb⟩; have HK := hidp (HK.out.keep hb); have HSp := hidp (HSp.out.keep hb); clear hb)
          refine hK.out _ _ ?_ (fun hHeld => ?_)
          · (try dsimp only)
            first | exact HSp.out.five' | exact hHeld
          clear hK K
          (try simp only [Act.put, gA, gB, gC, sA, sB, sC])
          refine wpAnyH_ready (rs := [5]) (by kernel_rfl) (by simp) ?_
          refine AllReadyH.cons (o := _) rfl (fun K hK => ?_) AllReadyH.nil
          · skip
            obtain ⟨z0, z1, z2, z3, z4, z5⟩ := HK.out.held.six'
            have f0 := HK.out.held.thawed 0
            have f1 := HK.out.held.thawed 1
            have f2 := HK.out.held.thawed 2
            have f3 := HK.out.held.thawed 3
            have f4 := HK.out.held.thawed 4
            have f5 := HK.out.held.thawed 5
            go_simp
            have HK := hidp ((((((HK.out.put HGE.out 0 (.pointer (some ⟨b, 0, none⟩))).put HGE.out 1 (.int .i64 t)).put HGE.out 2 (.int .i64 q)).put HGE.out 3 (.int .i64 s)).put HGE.out 4 (.int .i64 hd)).put HGE.out 5 (.int .i64 ((l0 : Int) - 1)))
            have HSp := hidp (HK.out.stay.held (.inr rfl) HSp0.out)
            refine hK.out _ _ ?_ (fun hHeld => ?_)
            · (try dsimp only)
              first | exact HSp.out.five' | exact hHeld
            clear hK K
            (try simp only [Act.put, gA, gB, gC, sA, sB, sC])
            refine wpAnyH_done (by kernel_rfl) ?_ _
            clear x0 x1 x2 y0 y1 y2 y3 y4 z0 z1 z2 z3 z4 z5 f0 f1 f2 f3 f4 f5
            go_wp2_with fail
            go_meet
            case rel => exact ⟨_, rfl, HK.out.less, HGE.out⟩
    · skip
      go_simp
      have HGE : Hid (W0.heap.size ≤ q0.heap.size) := hidp HK.out.stay.1
      have HSp := hidp (HSp.out.alloc (.cells #[.pointer none, .int .i64 0, .int .i64 0, .int .i64 0, .int .i64 0, .int .i64 0] 67))
      have HK := hidp (HK.out.next (T' := 67) (cs' := #[.pointer none, .int .i64 0, .int .i64 0, .int .i64 0, .int .i64 0, .int .i64 0]) HSp0.out)
      generalize hnq2 : q0.heap.size = Nq2 at HK HGE ⊢
      generalize hq2 : q0.alloc (.cells #[.pointer none, .int .i64 0, .int .i64 0, .int .i64 0, .int .i64 0, .int .i64 0] 67) = q2 at HK HSp ⊢
      clear hq2 hnq2
      refine hK.out _ _ ?_ (fun hHeld => ?_)
      · (try dsimp only)
        first | exact HSp.out.five' | exact hHeld
      clear hK K
      (try simp only [Act.put, gA, gB, gC, sA, sB, sC])
      refine wpAnyH_ready (rs := [2]) (by kernel_rfl) (by simp) ?_
      refine AllReadyH.cons (o := _) rfl (fun K hK => ?_) AllReadyH.nil
      · skip
        go_simp
        (refine (lkFirst_c hn HK.out.at_).mono ?_; rintro e q7 ⟨rfl, h1, h2⟩; rw [HL0.out]; have HK := hidp (HK.out.call h1 h2); have HSp := hidp (HK.out.stay.held (.inr rfl) HSp0.out); clear h1 h2)
        refine hK.out _ _ ?_ (fun hHeld => ?_)
        · (try dsimp only)
          first | exact HSp.out.five' | exact hHeld
        clear hK K
        (try simp only [Act.put, gA, gB, gC, sA, sB, sC])
        refine wpAnyH_ready (rs := [3]) (by kernel_rfl) (by simp) ?_
        refine AllReadyH.cons (o := _) rfl (fun K hK => ?_) AllReadyH.nil
        · skip
          go_simp
          (refine (lkTo_c b t q s hd l0 hl32 _).mono ?_; rintro e q8 ⟨rfl, hb⟩; have HK := hidp (HK.out.keep hb); have HSp := hidp (HSp.out.keep hb); clear hb)
          refine hK.out _ _ ?_ (fun hHeld => ?_)
          · (try dsimp only)
            first | exact HSp.out.five' | exact hHeld
          clear hK K
          (try simp only [Act.put, gA, gB, gC, sA, sB, sC])
          refine wpAnyH_ready (rs := [5]) (by kernel_rfl) (by simp) ?_
          refine AllReadyH.cons (o := _) rfl (fun K hK => ?_) AllReadyH.nil
          · skip
            obtain ⟨z0, z1, z2, z3, z4, z5⟩ := HK.out.held.six'
            have f0 := HK.out.held.thawed 0
            have f1 := HK.out.held.thawed 1
            have f2 := HK.out.held.thawed 2
            have f3 := HK.out.held.thawed 3
            have f4 := HK.out.held.thawed 4
            have f5 := HK.out.held.thawed 5
            go_simp
            have HK := hidp ((((((HK.out.put HGE.out 0 (.pointer (some ⟨b, 0, none⟩))).put HGE.out 1 (.int .i64 t)).put HGE.out 2 (.int .i64 q)).put HGE.out 3 (.int .i64 s)).put HGE.out 4 (.int .i64 hd)).put HGE.out 5 (.int .i64 ((l0 : Int) - 1)))
            have HSp := hidp (HK.out.stay.held (.inr rfl) HSp0.out)
            refine hK.out _ _ ?_ (fun hHeld => ?_)
            · (try dsimp only)
              first | exact HSp.out.five' | exact hHeld
            clear hK K
            (try simp only [Act.put, gA, gB, gC, sA, sB, sC])
            refine wpAnyH_done (by kernel_rfl) ?_ _
            clear x0 x1 x2 y0 y1 y2 y3 y4 z0 z1 z2 z3 z4 z5 f0 f1 f2 f3 f4 f5
            go_wp2_with fail
            go_meet
            case rel => exact ⟨_, rfl, HK.out.less, HGE.out⟩
  case rest =>
    obtain ⟨gp, rfl, hK, hGE⟩ := hcut
    have HK1 := hidp hK
    have HGE1 := hidp hGE
    have HO1 : Hid (wc.ownsRow (w.heap.size + 2) 3 1 (.slice none 0 0) 0 []) := hidp ⟨rfl, .inl ⟨rfl, rfl⟩⟩
    clear hK hGE HK0 HSp0 x0 x1 x2 y0 y1 y2 y3 y4
    go_wp2_with fail
    go_loopw [7, 9] (fun u7 u9 wr => ∃ (l nl gp : Nat) (out : List Nat) (sx : Vst), u9 = .pointer (some ⟨gp, 0, none⟩) ∧ l < 2 ^ 32 ∧ nl ≤ 64 ∧ Hid (Walked n K t q s Q l0 (getS n K st hd) out l sx) ∧ Hid (out.length = nl) ∧ (∃ A c, u7 = .slice A nl c ∧ nl ≤ c ∧ c ≤ 9223372036854775807) ∧ Hid (RowW (vOb base b n wh K) w0 A (And1 G w.heap.size) W0 gp 67 #[.pointer (some ⟨b, 0, none⟩), .int .i64 t, .int .i64 q, .int .i64 s, .int .i64 hd, .int .i64 ((l : Int) - 1)] (w.heap.size + 2) u7 nl (ntVs out) sx wr) ∧ Hid (W0.heap.size ≤ gp)) (fun u7 _ _ => Q - (match u7 with | .slice _ k _ => k | _ => 0))
    case atStart => exact ⟨l0, 0, gp, [], _, rfl, hl32, by omega, hidp Walked.start, hidp rfl, ⟨_, _, rfl, by omega, by omega⟩, hidp ⟨HK1.out.at_.less (fun g x => by
      rcases x with x | x
      · exact x
      · simp [Value.ownBlock] at x), HO1.out, HK1.out.held, HK1.out.stay⟩, HGE1⟩
    case round =>
      clear HK1 HGE1 HO1
      obtain ⟨l, nl, gp, out, sx, rfl, hl, hnl, HWK, HLN, ⟨Au, cu, rfl, hcu0, hcu⟩, HR, HGE⟩ := hrel
      obtain ⟨x0, x1, x2⟩ := (HR.out.stay.held (.inr rfl) HC0.out).three
      obtain ⟨y0, y1, y2, y3, y4, y5⟩ := HR.out.held.six'
      go_wp2_with fail
      refine (lkIs_c b t q s hd ((l : Int) - 1) _).mono ?_
      rintro e w4 ⟨rfl, hb⟩
      rw [HqQ.out]
      have HR4 := hidp (HR.out.keep hb)
      clear hb HR x0 x1 x2 y0 y1 y2 y3 y4 y5
      obtain ⟨x0, x1, x2⟩ := (HR4.out.stay.held (.inr rfl) HC0.out).three
      obtain ⟨y0, y1, y2, y3, y4, y5⟩ := HR4.out.held.six'
      by_cases hlq : 1 ≤ l ∧ l ≤ Q
      · have t2 : decide (1 ≤ l ∧ l ≤ Q) = true := decide_eq_true hlq
        rw [t2]
        have h1 := hlq.1
        by_cases hlt : nl < Q
        · have t3 : decide ((nl : Int) < q) = true := decide_eq_true ((HLT.out nl).2 hlt)
          have hlq2 : (l : Int) ≤ q := by
            have h9 := HqQ.out l
            rw [t2] at h9
            have := (pgB_iff _ _).1 h9
            omega
          have HN := hidp (HWK.out.step ⟨h1, hlq2⟩ (by rw [HLN.out]; exact hlt))
          have hv32 := vAt_lt HR4.out.at_ (pageI t q s ((l : Int) - 1) 2)
          obtain ⟨v, hv⟩ : ∃ v, getV n K sx (pageI t q s ((l : Int) - 1) 2) = v := ⟨_, rfl⟩
          rw [hv] at hv32 HN
          have HV := hidp hv
          have HPL : Hid (Value.int .i64 ((l : Int) - 1) = Value.int .i64 ((l - 1 : Nat) : Int)) := hidp (by congr 1; omega)
          have hn64 : nl < 64 := by omega
          clear hv HWK hlq2
          go_upto_region 5 with (first
            | (at_builtin
               refine wpList_append_lies _ rfl _ _ 37 rfl (w.heap.size + 2) 3 i0 (.int .i64 0) 1 8 Try.underlying37 hin hz0 hz1 hz2 rfl (by decide) (.slice Au nl cu) nl (ntVs out) rfl (own_below HR4.out.own (Bnew (B0 _) _)) ⟨_, 0, none⟩ 1 1 [.int .i64 ((l : Int) - 1)] rfl rfl ?c1 ?c2 (by omega) ?c3 ?c4 ?c5 _ rfl ?_
               case c1 => intro j y hy; rcases j with _ | j; (· simp at hy; subst hy; simp [Addr.add]); (· simp at hy)
               case c2 => simp [Value.oneCell']
               case c3 => unfold maxLen; omega
               case c4 => omega
               case c5 => have := HR4.out.stay.1; have := HZ0.out; simp; omega
               intro g cap w5 hown4 hgrow4 hat4 hlt4
               have HR5 := hidp (row_grown HR4.out.at_ HR4.out.own HR4.out.held (heldOwn_ne HR4.out.held HR4.out.own (by decide)) HR4.out.stay hown4 hgrow4 hat4 hlt4 (fun g x => by
                 rcases x with x | x
                 · have := HGL.out g x; omega
                 · have x : g = w.heap.size := x
                   omega))
               clear hown4 hgrow4 hat4 hlt4 x0 x1 x2 y0 y1 y2 y3 y4 y5
               obtain ⟨y0, y1, y2, y3, y4, y5⟩ := HR5.out.held.six')
            | fail)
          have HGE : Hid (W0.heap.size ≤ w5.heap.size) := hidp HR5.out.stay.1
          have HR := hidp (HR5.out.next (T' := 67) (cs' := #[.pointer (some ⟨b, 0, none⟩), .int .i64 t, .int .i64 q, .int .i64 s, .int .i64 hd, .int .i64 ((l : Int) - 1)]))
          clear HR5 HR4 y0 y1 y2 y3 y4 y5
          generalize hgn : w5.heap.size = gn at HR HGE ⊢
          generalize hwn : w5.alloc (.cells #[.pointer (some ⟨b, 0, none⟩), .int .i64 t, .int .i64 q, .int .i64 s, .int .i64 hd, .int .i64 ((l : Int) - 1)] 67) = wn at HR ⊢
          clear hgn hwn
          have HR := hidp (HR.out.keep (Bdrew (B0 wn)))
          refine wp_region_held_drew (S := (fun w' => True)) (by kernel_rfl) ?_ (fun hHeld => ?_)
          · all_goals trivial
          generalize hq0 : wn.drew = q0 at HR hHeld ⊢
          clear hq0
          refine tkO (i := 0) (v := ?_) rfl (by kernel_rfl) (fun _ _ _ h => h) (by rfl) ?_ (by assumption) ?_
          rotate_left
          · intro w hSw; (try dsimp only at hSw); go_simp; (try with_reducible rfl)
          (try simp only [Act.put, gA, gB, gC, sA, sB, sC])
          refine wpAnyH_ready (rs := [1, 2]) (by kernel_rfl) (by simp) ?_
          refine AllReadyH.cons (o := _) rfl (fun K hK => ?_) (AllReadyH.cons (o := _) rfl (fun K hK => ?_) AllReadyH.nil)
          · skip
            obtain ⟨y0, y1, y2, y3, y4, y5⟩ := HR.out.held.six'
            go_simp
            clear y0 y1 y2 y3 y4 y5
            refine hK.out _ _ ?_ (fun hHeld => ?_)
            · (try dsimp only)
              all_goals trivial
            clear hK K
            (try simp only [Act.put, gA, gB, gC, sA, sB, sC])
            refine wpAnyH_ready (rs := [2]) (by kernel_rfl) (by simp) ?_
            refine AllReadyH.cons (o := _) rfl (fun K hK => ?_) AllReadyH.nil
            · skip
              obtain ⟨y0, y1, y2, y3, y4, y5⟩ := HR.out.held.six'
              go_simp
              clear y0 y1 y2 y3 y4 y5
              refine hK.out _ _ ?_ (fun hHeld => ?_)
              · (try dsimp only)
                all_goals trivial
              clear hK K
              (try simp only [Act.put, gA, gB, gC, sA, sB, sC])
              refine wpAnyH_ready (rs := [3]) (by kernel_rfl) (by simp) ?_
              refine AllReadyH.cons (o := _) rfl (fun K hK => ?_) AllReadyH.nil
              · skip
                go_simp
                (refine (lkNext_c hn HR.out.at_).mono ?_; rintro e q9 ⟨rfl, h2, h3⟩; rw [HV.out]; have HR := hidp (HR.out.call h2 h3); clear h2 h3)
                refine hK.out _ _ ?_ (fun hHeld => ?_)
                · (try dsimp only)
                  all_goals trivial
                clear hK K
                (try simp only [Act.put, gA, gB, gC, sA, sB, sC])
                refine wpAnyH_ready (rs := [4]) (by kernel_rfl) (by simp) ?_
                refine AllReadyH.cons (o := _) rfl (fun K hK => ?_) AllReadyH.nil
                · skip
                  go_simp
                  (refine (lkTo_c b t q s hd v hv32 _).mono ?_; rintro e q10 ⟨rfl, hb⟩; have HR := hidp (HR.out.keep hb); clear hb)
                  refine hK.out _ _ ?_ (fun hHeld => ?_)
                  · (try dsimp only)
                    all_goals trivial
                  clear hK K
                  (try simp only [Act.put, gA, gB, gC, sA, sB, sC])
                  refine wpAnyH_ready (rs := [5]) (by kernel_rfl) (by simp) ?_
                  refine AllReadyH.cons (o := _) rfl (fun K hK => ?_) AllReadyH.nil
                  · skip
                    have HNE : Hid (Value.ownBlock _ ≠ some gn) := hidp (heldOwn_ne HR.out.held HR.out.own (by decide))
                    obtain ⟨z0, z1, z2, z3, z4, z5⟩ := HR.out.held.six'
                    have f0 := HR.out.held.thawed 0
                    have f1 := HR.out.held.thawed 1
                    have f2 := HR.out.held.thawed 2
                    have f3 := HR.out.held.thawed 3
                    have f4 := HR.out.held.thawed 4
                    have f5 := HR.out.held.thawed 5
                    go_simp
                    have HR := hidp ((((((HR.out.put HNE.out HGE.out 0 (.pointer (some ⟨b, 0, none⟩))).put HNE.out HGE.out 1 (.int .i64 t)).put HNE.out HGE.out 2 (.int .i64 q)).put HNE.out HGE.out 3 (.int .i64 s)).put HNE.out HGE.out 4 (.int .i64 hd)).put HNE.out HGE.out 5 (.int .i64 ((v : Int) - 1)))
                    clear z0 z1 z2 z3 z4 z5 f0 f1 f2 f3 f4 f5
                    refine hK.out _ _ ?_ (fun hHeld => ?_)
                    · (try dsimp only)
                      all_goals trivial
                    clear hK K
                    (try simp only [Act.put, gA, gB, gC, sA, sB, sC])
                    refine wpAnyH_done (by kernel_rfl) ?_ _
                    have hcc := own_caps9 HR.out.own
                    go_wp2_with fail
                    go_roundw
                    case rel => exact ⟨v, nl + 1, gn, out ++ [l - 1], _, rfl, hv32, by omega, HN, hidp (by rw [List.length_append, HLN.out]; rfl), ⟨_, _, rfl, hcc.1, hcc.2⟩, hidp (by rw [ntVs_snoc, ← HPL.out]; exact HR.out), HGE⟩
                    case measure => simp; omega
          · skip
            obtain ⟨y0, y1, y2, y3, y4, y5⟩ := HR.out.held.six'
            go_simp
            clear y0 y1 y2 y3 y4 y5
            refine hK.out _ _ ?_ (fun hHeld => ?_)
            · (try dsimp only)
              all_goals trivial
            clear hK K
            (try simp only [Act.put, gA, gB, gC, sA, sB, sC])
            refine wpAnyH_ready (rs := [1, 3]) (by kernel_rfl) (by simp) ?_
            refine AllReadyH.cons (o := _) rfl (fun K hK => ?_) (AllReadyH.cons (o := _) rfl (fun K hK => ?_) AllReadyH.nil)
            · skip
              obtain ⟨y0, y1, y2, y3, y4, y5⟩ := HR.out.held.six'
              go_simp
              clear y0 y1 y2 y3 y4 y5
              refine hK.out _ _ ?_ (fun hHeld => ?_)
              · (try dsimp only)
                all_goals trivial
              clear hK K
              (try simp only [Act.put, gA, gB, gC, sA, sB, sC])
              refine wpAnyH_ready (rs := [3]) (by kernel_rfl) (by simp) ?_
              refine AllReadyH.cons (o := _) rfl (fun K hK => ?_) AllReadyH.nil
              · skip
                go_simp
                (refine (lkNext_c hn HR.out.at_).mono ?_; rintro e q12 ⟨rfl, h2, h3⟩; rw [HV.out]; have HR := hidp (HR.out.call h2 h3); clear h2 h3)
                refine hK.out _ _ ?_ (fun hHeld => ?_)
                · (try dsimp only)
                  all_goals trivial
                clear hK K
                (try simp only [Act.put, gA, gB, gC, sA, sB, sC])
                refine wpAnyH_ready (rs := [4]) (by kernel_rfl) (by simp) ?_
                refine AllReadyH.cons (o := _) rfl (fun K hK => ?_) AllReadyH.nil
                · skip
                  go_simp
                  (refine (lkTo_c b t q s hd v hv32 _).mono ?_; rintro e q13 ⟨rfl, hb⟩; have HR := hidp (HR.out.keep hb); clear hb)
                  refine hK.out _ _ ?_ (fun hHeld => ?_)
                  · (try dsimp only)
                    all_goals trivial
                  clear hK K
                  (try simp only [Act.put, gA, gB, gC, sA, sB, sC])
                  refine wpAnyH_ready (rs := [5]) (by kernel_rfl) (by simp) ?_
                  refine AllReadyH.cons (o := _) rfl (fun K hK => ?_) AllReadyH.nil
                  · skip
                    have HNE : Hid (Value.ownBlock _ ≠ some gn) := hidp (heldOwn_ne HR.out.held HR.out.own (by decide))
                    obtain ⟨z0, z1, z2, z3, z4, z5⟩ := HR.out.held.six'
                    have f0 := HR.out.held.thawed 0
                    have f1 := HR.out.held.thawed 1
                    have f2 := HR.out.held.thawed 2
                    have f3 := HR.out.held.thawed 3
                    have f4 := HR.out.held.thawed 4
                    have f5 := HR.out.held.thawed 5
                    go_simp
                    have HR := hidp ((((((HR.out.put HNE.out HGE.out 0 (.pointer (some ⟨b, 0, none⟩))).put HNE.out HGE.out 1 (.int .i64 t)).put HNE.out HGE.out 2 (.int .i64 q)).put HNE.out HGE.out 3 (.int .i64 s)).put HNE.out HGE.out 4 (.int .i64 hd)).put HNE.out HGE.out 5 (.int .i64 ((v : Int) - 1)))
                    clear z0 z1 z2 z3 z4 z5 f0 f1 f2 f3 f4 f5
                    refine hK.out _ _ ?_ (fun hHeld => ?_)
                    · (try dsimp only)
                      all_goals trivial
                    clear hK K
                    (try simp only [Act.put, gA, gB, gC, sA, sB, sC])
                    refine wpAnyH_done (by kernel_rfl) ?_ _
                    have hcc := own_caps9 HR.out.own
                    go_wp2_with fail
                    go_roundw
                    case rel => exact ⟨v, nl + 1, gn, out ++ [l - 1], _, rfl, hv32, by omega, HN, hidp (by rw [List.length_append, HLN.out]; rfl), ⟨_, _, rfl, hcc.1, hcc.2⟩, hidp (by rw [ntVs_snoc, ← HPL.out]; exact HR.out), HGE⟩
                    case measure => simp; omega
            · skip
              go_simp
              (refine (lkNext_c hn HR.out.at_).mono ?_; rintro e q11 ⟨rfl, h2, h3⟩; rw [HV.out]; have HR := hidp (HR.out.call h2 h3); clear h2 h3)
              refine hK.out _ _ ?_ (fun hHeld => ?_)
              · (try dsimp only)
                all_goals trivial
              clear hK K
              (try simp only [Act.put, gA, gB, gC, sA, sB, sC])
              refine wpAnyH_ready (rs := [1]) (by kernel_rfl) (by simp) ?_
              refine AllReadyH.cons (o := _) rfl (fun K hK => ?_) AllReadyH.nil
              · skip
                obtain ⟨y0, y1, y2, y3, y4, y5⟩ := HR.out.held.six'
                go_simp
                clear y0 y1 y2 y3 y4 y5
                refine hK.out _ _ ?_ (fun hHeld => ?_)
                · (try dsimp only)
                  all_goals trivial
                clear hK K
                (try simp only [Act.put, gA, gB, gC, sA, sB, sC])
                refine wpAnyH_ready (rs := [4]) (by kernel_rfl) (by simp) ?_
                refine AllReadyH.cons (o := _) rfl (fun K hK => ?_) AllReadyH.nil
                · skip
                  go_simp
                  (refine (lkTo_c b t q s hd v hv32 _).mono ?_; rintro e q14 ⟨rfl, hb⟩; have HR := hidp (HR.out.keep hb); clear hb)
                  refine hK.out _ _ ?_ (fun hHeld => ?_)
                  · (try dsimp only)
                    all_goals trivial
                  clear hK K
                  (try simp only [Act.put, gA, gB, gC, sA, sB, sC])
                  refine wpAnyH_ready (rs := [5]) (by kernel_rfl) (by simp) ?_
                  refine AllReadyH.cons (o := _) rfl (fun K hK => ?_) AllReadyH.nil
                  · skip
                    have HNE : Hid (Value.ownBlock _ ≠ some gn) := hidp (heldOwn_ne HR.out.held HR.out.own (by decide))
                    obtain ⟨z0, z1, z2, z3, z4, z5⟩ := HR.out.held.six'
                    have f0 := HR.out.held.thawed 0
                    have f1 := HR.out.held.thawed 1
                    have f2 := HR.out.held.thawed 2
                    have f3 := HR.out.held.thawed 3
                    have f4 := HR.out.held.thawed 4
                    have f5 := HR.out.held.thawed 5
                    go_simp
                    have HR := hidp ((((((HR.out.put HNE.out HGE.out 0 (.pointer (some ⟨b, 0, none⟩))).put HNE.out HGE.out 1 (.int .i64 t)).put HNE.out HGE.out 2 (.int .i64 q)).put HNE.out HGE.out 3 (.int .i64 s)).put HNE.out HGE.out 4 (.int .i64 hd)).put HNE.out HGE.out 5 (.int .i64 ((v : Int) - 1)))
                    clear z0 z1 z2 z3 z4 z5 f0 f1 f2 f3 f4 f5
                    refine hK.out _ _ ?_ (fun hHeld => ?_)
                    · (try dsimp only)
                      all_goals trivial
                    clear hK K
                    (try simp only [Act.put, gA, gB, gC, sA, sB, sC])
                    refine wpAnyH_done (by kernel_rfl) ?_ _
                    have hcc := own_caps9 HR.out.own
                    go_wp2_with fail
                    go_roundw
                    case rel => exact ⟨v, nl + 1, gn, out ++ [l - 1], _, rfl, hv32, by omega, HN, hidp (by rw [List.length_append, HLN.out]; rfl), ⟨_, _, rfl, hcc.1, hcc.2⟩, hidp (by rw [ntVs_snoc, ← HPL.out]; exact HR.out), HGE⟩
                    case measure => simp; omega
        · have t3 : decide ((nl : Int) < q) = false := decide_eq_false (fun x => hlt ((HLT.out nl).1 x))
          have HE := hidp (HWK.out.fin (.inr (by rw [HLN.out]; exact hlt)))
          go_wp2_with fail
          go_ret
          exact WalkEnd.mk' (base := 2) (HR4.out.at_.less (fun g x => gu_less x)) HR4.out.own HLN.out (HS0.out.trans (HR4.out.stay.less (fun g x => .inl x))) (HFIN.out.1.trans (by rw [HE.out])) (HFIN.out.2.trans (by rw [HE.out]))
      · have t2 : decide (1 ≤ l ∧ l ≤ Q) = false := decide_eq_false hlq
        rw [t2]
        have hlq2 : ¬ (1 ≤ l ∧ (l : Int) ≤ q) := fun x => by
          have h9 := HqQ.out l
          rw [t2] at h9
          exact pgB_no h9 (by omega)
        have HE := hidp (HWK.out.fin (.inl hlq2))
        clear hlq2
        go_wp2_with fail
        go_ret
        exact WalkEnd.mk' (base := 2) (HR4.out.at_.less (fun g x => gu_less x)) HR4.out.own HLN.out (HS0.out.trans (HR4.out.stay.less (fun g x => .inl x))) (HFIN.out.1.trans (by rw [HE.out])) (HFIN.out.2.trans (by rw [HE.out]))
end
end Go.Proofs.Ythiobfghanlelaa
