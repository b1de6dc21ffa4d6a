/-
  What the document's automaton allows (nacreref26.Allows): all ways. Written by model/gen_top.py.
-/
import Derived.Test.YtedakmhffjhfnaaDoorB04
import Derived.Test.YtedakmhffjhfnaaDoorB01
import Derived.Test.YtedakmhffjhfnaaDoorB03
import Derived.RegionTactic
namespace Go.Proofs.YtedakmhffjhfnaaDoor
open Go.ChangeShapes Go.WideShapes Go.ChangeAt Go.RowKit Go.Maps
set_option linter.unusedVariables false
set_option linter.unusedSimpArgs false
set_option maxRecDepth 100000
section
theorem sizeAt_eq {L : List (Int × Int)} {a z : Int} {i : Nat} (hi : mAt L a = (i : Int)) (hl : L[i]? = some (a, z)) : sizeAt L (mAt L a) = z := by
 unfold sizeAt
 rw [hi, Int.toNat_natCast, List.getD, hl]
 rfl

theorem r26Allow_c {w : World} {g base : Nat} {Z : Nat -> Prop} {t p s : Int} {L : List (Int × Int)} {R : Nat -> Int} (h : RMod w g base Z t p s L R) (hn : L.length <= 90000) (k a b err out aux : Int) (hk : -9223372036854775808 <= k /\ k <= 9223372036854775807) (ha : -9223372036854775808 <= a /\ a <= 9223372036854775807) (hb : -9223372036854775808 <= b /\ b <= 9223372036854775807) : Calls Tryd.prog 15 #[.pointer (some ⟨g, 0, none⟩), .agg #[.int .i64 k, .int .i64 a, .int .i64 b], .agg #[.int .i64 err, .int .i64 out, .int .i64 aux]] w fun e w' => e = .returned (.bool (allowM t p s L R k a b err out aux)) /\ Below w.heap.size w w' := by
 unfold allowM
 cases ho : opB k a b with
 | false =>
  rw [if_pos rfl]
  exact r26Allow_wrong h hn k a b err out aux ha hb hk ho _ rfl
 | true =>
  rw [if_neg (by simp)]
  have hkk := opB_kind ho
  rcases (by omega : k = 1 \/ k = 2 \/ k = 3 \/ k = 4 \/ k = 5 \/ k = 6 \/ k = 7 \/ k = 8 \/ k = 9) with rfl | rfl | rfl | rfl | rfl | rfl | rfl | rfl | rfl
  ·rw [if_neg (by omega), if_pos rfl]
   cases hm : madeM t p s L a err out aux (-1) with
   | true =>
    rw [Bool.true_and]
    exact r26Allow_alloc h hn a b err out aux ha hb ho _ rfl _ _ rfl rfl _ hm rfl
   | false =>
    rw [Bool.false_and]
    exact r26Allow_noalloc h hn a b err out aux ha hb ho _ rfl _ _ rfl rfl hm
  ·rcases mAt_cases L a with ⟨hi, _⟩ | ⟨i, z, hi, hl, hil⟩
   ·rw [if_pos ⟨by omega, by omega⟩]
    exact r26Allow_none2 h hn a b err out aux ha hb ho hi _ rfl
   ·rw [if_neg (by omega), if_neg (by omega), if_pos rfl, sizeAt_eq hi hl]
    cases hh : heldM R a with
    | true =>
     rw [if_pos rfl]
     exact r26Allow_held h hn a b err out aux ha hb ho i z hi hl hil hh _ rfl
    | false =>
     rw [if_neg (by simp)]
     exact r26Allow_free h hn a b err out aux ha hb ho i z hi hl hil hh _ rfl
  ·rcases mAt_cases L a with ⟨hi, _⟩ | ⟨i, z, hi, hl, hil⟩
   ·rw [if_pos ⟨by omega, by omega⟩]
    exact r26Allow_none3 h hn a b err out aux ha hb ho hi _ rfl
   ·rw [if_neg (by omega), if_neg (by omega), if_neg (by omega), if_pos rfl]
    by_cases hoa : out = a
    ·rw [if_pos hoa, hi]
     cases hm : madeM t p s L b err out aux (i : Int) with
     | true =>
      rw [Bool.true_and]
      exact r26Allow_reown h hn a b err out aux ha hb ho i z hi hl hil hoa _ _ rfl rfl _ hm rfl
     | false =>
      rw [Bool.false_and]
      exact r26Allow_noreown h hn a b err out aux ha hb ho i z hi hl hil hoa _ _ rfl rfl hm
    ·rw [if_neg hoa]
     cases hm : madeM t p s L b err out aux (-1) with
     | true =>
      rw [Bool.true_and]
      exact r26Allow_renew h hn a b err out aux ha hb ho i z hi hl hil hoa _ _ rfl rfl _ hm rfl
     | false =>
      rw [Bool.false_and]
      exact r26Allow_norenew h hn a b err out aux ha hb ho i z hi hl hil hoa _ _ rfl rfl hm
  ·rw [if_neg (by omega), if_neg (by omega), if_neg (by omega), if_neg (by omega), if_neg (by omega), if_neg (by omega), if_neg (by omega)]
   exact r26Allow_root4 h hn a b err out aux ha hb ho _ rfl _ rfl
  ·rw [if_neg (by omega), if_neg (by omega), if_neg (by omega), if_neg (by omega), if_neg (by omega), if_neg (by omega), if_neg (by omega)]
   exact r26Allow_root5 h hn a b err out aux ha hb ho _ rfl _ rfl
  ·rw [if_neg (by omega), if_neg (by omega), if_neg (by omega), if_neg (by omega), if_neg (by omega), if_neg (by omega), if_neg (by omega)]
   exact r26Allow_root6 h hn a b err out aux ha hb ho _ rfl _ rfl
  ·rcases mAt_cases L a with ⟨hi, _⟩ | ⟨i, z, hi, hl, hil⟩
   ·rw [if_pos ⟨by omega, by omega⟩]
    exact r26Allow_none7 h hn a b err out aux ha hb ho hi _ rfl
   ·rw [if_neg (by omega), if_neg (by omega), if_neg (by omega), if_neg (by omega), if_pos rfl, sizeAt_eq hi hl]
    exact r26Allow_usable h hn a b err out aux ha hb ho i z hi hl hil _ rfl
  ·rw [if_neg (by omega), if_neg (by omega), if_neg (by omega), if_neg (by omega), if_neg (by omega), if_pos rfl]
   by_cases he : err = 0
   ·by_cases h1 : out < 0
    ·rw [decide_eq_false (by omega)]
     exact r26Allow_stats_b h hn a b err out aux ha hb ho _ rfl he h1
    by_cases h2 : p < out
    ·rw [decide_eq_false (by omega)]
     exact r26Allow_stats_c h hn a b err out aux ha hb ho _ rfl he (by omega) h2
    by_cases h3 : aux = (L.length : Int)
    ·rw [decide_eq_true ⟨he, by omega, by omega, h3⟩]
     exact r26Allow_stats_e h hn a b err out aux ha hb ho _ rfl he (by omega) (by omega) h3
    ·rw [decide_eq_false (by omega)]
     exact r26Allow_stats_d h hn a b err out aux ha hb ho _ rfl he (by omega) (by omega) h3
   ·rw [decide_eq_false (by omega)]
    exact r26Allow_stats_a h hn a b err out aux ha hb ho _ rfl he
  ·rw [if_neg (by omega), if_neg (by omega), if_neg (by omega), if_neg (by omega), if_neg (by omega), if_neg (by omega), if_pos rfl]
   by_cases h0 : a < 0
   ·rw [if_pos (.inl h0)]
    exact r26Allow_flush_lo h hn a b err out aux ha hb ho _ rfl h0 _ rfl
   by_cases h8 : 8 < a
   ·rw [if_pos (.inr h8)]
    exact r26Allow_flush_hi h hn a b err out aux ha hb ho _ rfl h8 _ rfl
   rw [if_neg (by omega)]
   by_cases he : err = 0
   ·by_cases h1 : out < 0
    ·rw [decide_eq_false (by omega)]
     exact r26Allow_flush_b h hn a b err out aux ha hb ho _ rfl (by omega) (by omega) he h1
    by_cases h2 : 4 < out
    ·rw [decide_eq_false (by omega)]
     exact r26Allow_flush_c h hn a b err out aux ha hb ho _ rfl (by omega) (by omega) he (by omega) h2
    by_cases h3 : aux = 0
    ·rw [decide_eq_true ⟨he, by omega, by omega, h3⟩]
     exact r26Allow_flush_e h hn a b err out aux ha hb ho _ rfl (by omega) (by omega) he (by omega) (by omega) h3
    ·rw [decide_eq_false (by omega)]
     exact r26Allow_flush_d h hn a b err out aux ha hb ho _ rfl (by omega) (by omega) he (by omega) (by omega) h3
   ·rw [decide_eq_false (by omega)]
    exact r26Allow_flush_a h hn a b err out aux ha hb ho _ rfl (by omega) (by omega) he
end
section
theorem addTo_few (b : Int × Int) (L : List (Int × Int)) : (addTo b L).1.length <= L.length + 1 := by
 have := addTo_len b L ([], false)
 unfold addTo
 simp at this
 exact this
theorem addTo_flat {b : Int × Int} {L : List (Int × Int)} {nl : Nat} (hn : L.length = nl) : ∀ j, j <= nl -> (addTo b (L.take j)).2 = false -> (addTo b (L.take j)).1.length = j
 | 0, _, _ => by simp [addTo]
 | j + 1, hj, h => by
  obtain ⟨x, hx⟩ : ∃ x, L[j]? = some x := ⟨_, List.getElem?_eq_getElem (by omega)⟩
  have e : L.take (j + 1) = L.take j ++ [x] := by rw [List.take_add_one, hx]; rfl
  rw [e, addTo_snoc] at h ⊢
  unfold addStep at h ⊢
  split at h
  ·cases h
  ·rename_i hc
   rw [if_neg hc]
   have := addTo_flat hn j (by omega) h
   simp [this]
end
section
theorem erase_same {L : List (Int × Int)} {x : Int × Int} {i : Nat} (hl : i <= L.length) (h : L.take (i + 1) = L.take i ++ [x]) : (L.take (i + 1)).eraseIdx i = (L.take i).eraseIdx i := by
 have e : (L.take i).length = i := by rw [List.length_take]; omega
 rw [h, List.eraseIdx_append_of_length_le (by omega), e, Nat.sub_self, List.eraseIdx_of_length_le (l := L.take i) (by omega)]
 simp
theorem erase_other {L : List (Int × Int)} {x : Int × Int} {i k : Nat} (hl : i <= L.length) (h : L.take (i + 1) = L.take i ++ [x]) (hk : i ≠ k) : (L.take (i + 1)).eraseIdx k = (L.take i).eraseIdx k ++ [x] := by
 have e : (L.take i).length = i := by rw [List.length_take]; omega
 rw [h]
 by_cases hlt : k < i
 ·rw [List.eraseIdx_append_of_lt_length (by omega)]
 ·rw [List.eraseIdx_of_length_le (l := L.take i ++ [x]) (by simp; omega), List.eraseIdx_of_length_le (l := L.take i) (by omega)]
set_option maxHeartbeats 6400000 in
theorem r26Drop_c {w : World} {g base : Nat} {Z : Nat -> Prop} {t p s : Int} {L : List (Int × Int)} {R : Nat -> Int} (h : RMod w g base Z t p s L R) (hn : L.length <= 90000) (k : Nat) : Calls Tryd.prog 53 #[.pointer (some ⟨g, 0, none⟩), .int .i64 (k : Int)] w fun e w' => e = .returned (.tuple #[]) /\ RMod w' g base Z t p s (L.eraseIdx k) R /\ Turns (fun i => i = g) w w' := by
  obtain ⟨j0, hjn, hjz0, hjz1, hjz2⟩ := info_parts blockInfo
  obtain ⟨nl, hnl⟩ : ∃ n, L.length = n := ⟨_, rfl⟩
  have HNL := hidp hnl
  rw [hnl] at hn
  have HLO := hidp h.lo
  have HMW := hidp h
  have HOW : Hid ((w.alloc (.cells #[] 55)).ownsRow w.heap.size 55 2 (.slice (some ⟨w.heap.size, 0, none⟩) 0 0) 0 []) := hidp (World.ownsRow_lit (base := w.heap.size) (e := 55) (size := 2) w #[] 0 (by simp) (by unfold maxLen; omega) rfl)
  have HBW := hidp (Bnew (B0 w) (.cells #[] 55))
  clear h hnl
  go_enter Tryd.func53, Tryd.ntmps53
  go_wp2_with fail
  go_loopw [4, 5] (fun u4 u5 wr => ∃ (i m : Nat), i <= nl /\ u5 = .int .i64 (i : Int) /\ m <= i /\ Hid (((L.take i).eraseIdx k).length = m) /\ Hid (wr.ownsRow w.heap.size 55 2 u4 m (bkVs ((L.take i).eraseIdx k))) /\ Hid (Below w.heap.size w wr)) (fun _ u5 _ => nl - (intOf u5).toNat)
  case atStart => exact ⟨0, 0, by omega, rfl, by omega, hidp (by simp), by simpa [bkVs] using HOW, HBW⟩
  case round =>
    clear HOW HBW
    obtain ⟨i, m, hi, rfl, hmi, HMM, HO, HB⟩ := hrel
    have HM := hidp (HMW.out.keep HB.out)
    obtain ⟨A, c, hx, ho⟩ := HM.out.ex
    obtain ⟨_, _, _, x3⟩ := mod_cells hx
    rw [HNL.out] at x3 ho
    have hcv := own_caps3 ho
    have HO0 := hidp ho
    clear hx ho
    have hbs := HB.out.size
    by_cases hlt : i < nl
    · obtain ⟨x, hx⟩ : ∃ x, L[i]? = some x := ⟨_, List.getElem?_eq_getElem (by have := HNL.out; omega)⟩
      obtain ⟨gv, cv', hvv, hbv, hlv⟩ := HO0.out.form (by omega)
      injection hvv with hvv hn0 hcc
      subst hvv
      subst hcc
      obtain ⟨p0, p1⟩ := own_block0 HO0.out HNL.out hx
      have HTK : Hid (L.take (i + 1) = L.take i ++ [x]) := hidp (by rw [List.take_add_one, hx]; rfl)
      have HXX := hidp hx
      obtain ⟨ad, z⟩ := x
      have t0 : decide ((i : Int) < nl) = true := decide_eq_true (by omega)
      clear hn0 hx
      simp only at p0 p1
      by_cases h2 : i = k
      · have HB1 : Hid ((L.take (i + 1)).eraseIdx k = (L.take i).eraseIdx k) := hidp (by rw [<- h2]; exact erase_same (by have := HNL.out; omega) HTK.out)
        have q0 : ((i : Int) != (k : Int)) = false := by simp; omega
        have q1 : (i != k) = false := by simp; omega
        clear h2
        go_wp2_with fail
        go_roundw
        case rel => exact ⟨i + 1, m, by omega, by go_num, by omega, hidp (by rw [HB1.out]; exact HMM.out), hidp (by rw [HB1.out]; exact HO.out), HB⟩
        case measure => simp [intOf]; omega
      · have HB1 : Hid ((L.take (i + 1)).eraseIdx k = (L.take i).eraseIdx k ++ [(ad, z)]) := hidp (erase_other (by have := HNL.out; omega) HTK.out h2)
        have q0 : ((i : Int) != (k : Int)) = true := by simp; omega
        have q1 : (i != k) = true := by simp; omega
        clear h2
        go_wp2_with (first
          | (at_builtin
             refine wpList_append_lies _ rfl _ _ 24 rfl w.heap.size 55 j0 (.agg #[.int .i64 0, .int .i64 0]) 2 16 Tryd.underlying24 hjn hjz0 hjz1 hjz2 rfl (by decide) u4 (m) (bkVs ((L.take i).eraseIdx k)) rfl (HO.out.alloc _) ⟨_, 0, none⟩ 1 1 [.int .i64 ad, .int .i64 z] rfl rfl ?c1 ?c2 (by omega) ?c3 ?c4 ?c5 _ rfl ?_
             case c1 => intro jj yy hyy; rcases jj with _ | _ | jj; (· simp at hyy; subst hyy; simp [Addr.add]); (· simp at hyy; subst hyy; simp [Addr.add]); (· simp at hyy)
             case c2 => simp [Value.oneCell']
             case c3 => unfold maxLen; omega
             case c4 => omega
             case c5 => simp; omega
             intro g8 capg8 w8 hown8 hgrow8 hat8 hlt8)
          | fail)
        have HO8 : Hid (w8.ownsRow w.heap.size 55 2 (.slice (some ⟨g8, 0, none⟩) (m + 1) capg8) (m + 1) (bkVs ((L.take (i + 1)).eraseIdx k))) := hidp (by rw [HB1.out, bkVs_snoc]; exact hown8)
        have HB8 : Hid (Below w.heap.size w w8) := hidp ((Bnew HB.out _).grown hgrow8 (by simp; omega) (fun j hj => (HO.out.lt j hj).1))
        have HMM1 : Hid (((L.take (i + 1)).eraseIdx k).length = m + 1) := hidp (by rw [HB1.out, List.length_append, HMM.out]; rfl)
        clear hown8 hgrow8 hat8 hlt8
        go_wp2_with fail
        go_roundw
        case rel => exact ⟨i + 1, m + 1, by omega, by go_num, by omega, HMM1, HO8, HB8⟩
        case measure => simp [intOf]; omega
    · have hkn : i = nl := by omega
      have t0 : decide ((i : Int) < nl) = false := decide_eq_false (by omega)
      have HTK : Hid (L.take i = L) := hidp (by rw [List.take_of_length_le (by have := HNL.out; omega)])
      clear hkn
      rw [HTK.out] at HO HMM
      obtain ⟨Au, cu, hu⟩ := own_slice HO.out
      subst hu
      have HO9 : Hid (wr.ownsRow base 55 2 (.slice Au m cu) m (bkVs (L.eraseIdx k))) := hidp (by
        have h := HO.out
        exact own_down h (Nat.le_trans HLO.out (by omega)))
      have HL9 : Hid ((L.eraseIdx k).length = m) := HMM
      obtain ⟨A9, c9, hx9, _⟩ := HM.out.ex
      have f3 := hx9.thawed 3
      obtain ⟨_, _, _, x3⟩ := mod_cells hx9
      clear hx9
      go_wp2_with fail
      go_end0
      refine ⟨rfl, ?_, ?_⟩
      · have h1 := HM.out.live (A := Au) (c := cu) (L' := L.eraseIdx k) (HM.out.ins.erase k) (by rw [HL9.out]; exact HO9.out) (fun i hi hz => by
          have h1 := (HO.out.lt i (by rw [HL9.out] at hi; exact hi)).1
          have h2 := HMW.out.zlt i hz
          omega)
        rw [HL9.out] at h1
        exact h1
      · exact (Turns.of_below HB.out (fun i => i = g)).put (p := ⟨g, 3, none⟩) rfl _


set_option maxHeartbeats 12800000 in
theorem r26Add_c {w : World} {g base : Nat} {Z : Nat -> Prop} {t p s : Int} {L : List (Int × Int)} {R : Nat -> Int} (h : RMod w g base Z t p s L R) (hn : L.length <= 90000) (b1 b2 : Int) (hin : insB (pageN t p s : Int) (endI t p s) b1 b2 = true) : Calls Tryd.prog 24 #[.pointer (some ⟨g, 0, none⟩), .agg #[.int .i64 b1, .int .i64 b2]] w fun e w' => e = .returned (.tuple #[]) /\ RMod w' g base Z t p s (addB L (b1, b2)) R /\ Turns (fun i => i = g) w w' := by
  obtain ⟨j0, hjn, hjz0, hjz1, hjz2⟩ := info_parts blockInfo
  obtain ⟨nl, hnl⟩ : ∃ n, L.length = n := ⟨_, rfl⟩
  have HNL := hidp hnl
  rw [hnl] at hn
  have HLO := hidp h.lo
  have HMW := hidp h
  have HIN := hidp hin
  obtain ⟨A, c, hX, hO⟩ := h.ex
  rw [hnl] at hX hO
  have HX0 := hidp hX
  have HO00 := hidp hO
  have hcv := own_caps3 hO
  have HXW := hidp ((Held.new w 55 #[.int .i64 b1, .int .i64 b2]).alloc (.cells #[] 55))
  have HBW := hidp (Bnew (Bnew (B0 w) (.cells #[.int .i64 b1, .int .i64 b2] 55)) (.cells #[] 55))
  have HOW : Hid (((w.alloc (.cells #[.int .i64 b1, .int .i64 b2] 55)).alloc (.cells #[] 55)).ownsRow (w.heap.size + 1) 55 2 (.slice (some ⟨(w.alloc (.cells #[.int .i64 b1, .int .i64 b2] 55)).heap.size, 0, none⟩) 0 0) 0 []) := hidp (World.ownsRow_lit (base := w.heap.size + 1) (e := 55) (size := 2) (w.alloc (.cells #[.int .i64 b1, .int .i64 b2] 55)) #[] 0 (by simp) (by unfold maxLen; omega) rfl)
  rw [World.size_alloc] at HOW
  clear h hin hX hO hnl
  go_enter Tryd.func24, Tryd.ntmps24
  go_wp2_with fail
  go_loopw [4, 5, 6] (fun u4 u5 u6 wr => ∃ (i k : Nat) (d : Bool), i <= nl /\ u6 = .int .i64 (i : Int) /\ u5 = .bool d /\ k <= i + 1 /\ Hid ((addTo (b1, b2) (L.take i)).1.length = k) /\ Hid ((addTo (b1, b2) (L.take i)).2 = d) /\ Hid (wr.ownsRow (w.heap.size + 1) 55 2 u4 k (bkVs (addTo (b1, b2) (L.take i)).1)) /\ Hid (Held wr w.heap.size 55 #[.int .i64 b1, .int .i64 b2]) /\ Hid (Below w.heap.size w wr)) (fun _ _ u6 _ => nl - (intOf u6).toNat)
  case atStart => exact ⟨0, 0, false, by omega, rfl, rfl, by omega, hidp rfl, hidp rfl, HOW, HXW, HBW⟩
  case round =>
    clear HOW HBW HXW
    obtain ⟨i, k, d, hi, rfl, rfl, hki, HM, HD, HO, HX, HB⟩ := hrel
    obtain ⟨y0, y1⟩ := HX.out.two
    have HG := hidp (HX0.out.keep HB.out)
    obtain ⟨_, _, _, x3⟩ := mod_cells HG.out
    have hbs := HB.out.size
    by_cases hlt : i < nl
    · obtain ⟨x, hx⟩ : ∃ x, L[i]? = some x := ⟨_, List.getElem?_eq_getElem (by have := HNL.out; omega)⟩
      obtain ⟨gv, cv', hvv, hbv, hlv⟩ := HO00.out.form (by omega)
      injection hvv with hvv hn0 hcc
      subst hvv
      subst hcc
      obtain ⟨p0, p1⟩ := own_block0 (own_below HO00.out HB.out) HNL.out hx
      have HTK : Hid (L.take (i + 1) = L.take i ++ [x]) := hidp (by rw [List.take_add_one, hx]; rfl)
      have HXX := hidp hx
      have hkm := addTo_few (b1, b2) (L.take i)
      obtain ⟨ad, z⟩ := x
      have t0 : decide ((i : Int) < nl) = true := decide_eq_true (by omega)
      clear hn0 hx
      simp only at p0 p1
      have HPP : Hid (wr.cell? ⟨w.heap.size, 0, none⟩ = some (.int .i64 b1) /\ wr.cell? ⟨g, 3, none⟩ = some (.slice (some ⟨gv, 0, none⟩) nl c) /\ wr.cell? ⟨gv, i * 2, none⟩ = some (.int .i64 ad)) := hidp ⟨y0, x3, p0⟩
      generalize hT : addTo (b1, b2) (L.take i) = T at *
      obtain ⟨acc, dd⟩ := T
      simp only at HM HD HO hkm
      have hdd := HD.out
      have hmm := HM.out
      have hacc : acc.length <= i + 1 := by rw [List.length_take] at hkm; omega
      cases d with
      | true =>
        subst hdd
        have HT1 : Hid (addTo (b1, b2) (L.take (i + 1)) = (acc ++ [(ad, z)], true)) := hidp (by rw [HTK.out, addTo_snoc, hT]; unfold addStep; rw [if_neg (by simp)])
        clear hT
        go_wp2_with fail
        have HSD : Hid ((fun w' => w'.cell? ⟨w.heap.size, 0, none⟩ = some (.int .i64 b1) /\ w'.cell? ⟨g, 3, none⟩ = some (.slice (some ⟨gv, 0, none⟩) nl c) /\ w'.cell? ⟨gv, i * 2, none⟩ = some (.int .i64 ad)) wr.drew) := hidp HPP.out
        refine wp_region_held_drew (S := (fun w' => w'.cell? ⟨w.heap.size, 0, none⟩ = some (.int .i64 b1) /\ w'.cell? ⟨g, 3, none⟩ = some (.slice (some ⟨gv, 0, none⟩) nl c) /\ w'.cell? ⟨gv, i * 2, none⟩ = some (.int .i64 ad))) (by kernel_rfl) ?_ (fun hHeld => ?_)
        · (try dsimp only)
          exact HSD.out
        refine tkz 0 ?_
        refine tkz 1 ?_
        refine tkz 2 ?_
        refine skz 3 ?_
        refine skz 4 ?_
        refine skz 5 ?_
        refine skz 6 ?_
        refine skz 7 ?_
        refine skz 8 ?_
        refine skz 9 ?_
        refine skz 10 ?_
        refine skz 11 ?_
        refine skz 12 ?_
        refine skz 13 ?_
        refine skz 14 ?_
        refine tkz 15 ?_
        refine dnz ?_
        have HOd := hidp (own_below HO.out (Bdrew (B0 wr)))
        have HXd := hidp (HX.out.keep (Bdrew (B0 wr)))
        have HBd := hidp (Bdrew HB.out)
        generalize hwd : wr.drew = wd at *
        clear hwd y0 y1 p0 p1 x3 HPP HSD
        have HGHBd := hidp (HX0.out.keep HBd.out)
        obtain ⟨_, _, _, x3⟩ := mod_cells HGHBd.out
        have HPHBd := hidp (own_block0 (own_below HO00.out HBd.out) HNL.out HXX.out)
        obtain ⟨p0, p1⟩ := HPHBd.out
        dsimp only at p0 p1
        obtain ⟨y0, y1⟩ := HXd.out.two
        have hbsd := HBd.out.size
        have hxsd := HXd.out.lt
        go_wp2_with (first
          | (at_builtin
             refine wpList_append_lies _ rfl _ _ 24 rfl (w.heap.size + 1) 55 j0 (.agg #[.int .i64 0, .int .i64 0]) 2 16 Tryd.underlying24 hjn hjz0 hjz1 hjz2 rfl (by decide) u4 (k) (bkVs (acc)) rfl (HOd.out.alloc _) ⟨_, 0, none⟩ 1 1 [.int .i64 ad, .int .i64 z] rfl rfl ?c1 ?c2 (by omega) ?c3 ?c4 ?c5 _ rfl ?_
             case c1 => intro jj yy hyy; rcases jj with _ | _ | jj; (· simp at hyy; subst hyy; simp [Addr.add]); (· simp at hyy; subst hyy; simp [Addr.add]); (· simp at hyy)
             case c2 => simp [Value.oneCell']
             case c3 => unfold maxLen; omega
             case c4 => omega
             case c5 => simp; omega
             intro g8 capg8 w8 hown8 hgrow8 hat8 hlt8)
          | fail)
        have HO8 : Hid (w8.ownsRow (w.heap.size + 1) 55 2 (.slice (some ⟨g8, 0, none⟩) (k + 1) capg8) (k + 1) (bkVs (addTo (b1, b2) (L.take (i + 1))).1)) := hidp (by rw [HT1.out]; show w8.ownsRow _ _ _ _ _ (bkVs (acc ++ [(ad, z)])); rw [bkVs_snoc]; exact hown8)
        have HB8 : Hid (Below w.heap.size w w8) := hidp ((Bnew HBd.out _).grown hgrow8 (by have := HBd.out.size; simp; omega) (fun j hj => by have := (HOd.out.lt j hj).1; omega))
        have HX8 : Hid (Held w8 w.heap.size 55 #[.int .i64 b1, .int .i64 b2]) := hidp ((hgrow8.block _ (by have := HXd.out.lt; simp; omega) (fun e => by have := (HOd.out.lt _ e.symm).1; omega)).trans (HXd.out.alloc _))
        have HM1 : Hid ((addTo (b1, b2) (L.take (i + 1))).1.length = k + 1) := hidp (by rw [HT1.out]; simp; have := HM.out; omega)
        have HD1 : Hid ((addTo (b1, b2) (L.take (i + 1))).2 = true) := hidp (by rw [HT1.out])
        clear hown8 hgrow8 hat8 hlt8 y0 y1 p0 p1 x3
        go_wp2_with fail
        go_roundw
        case rel => exact ⟨i + 1, k + 1, true, by omega, by go_num, rfl, by omega, HM1, HD1, HO8, HX8, HB8⟩
        case measure => simp [intOf]; omega
      | false =>
        have hkf : k <= i := by
          have h0 := addTo_flat (b := (b1, b2)) HNL.out
          have := h0 i (by omega) (by rw [hT]; exact hdd)
          rw [hT] at this
          simp only at this
          omega
        by_cases hlt2 : b1 < ad
        · subst hdd
          have HT1 : Hid (addTo (b1, b2) (L.take (i + 1)) = (acc ++ [(b1, b2)] ++ [(ad, z)], true)) := hidp (by rw [HTK.out, addTo_snoc, hT]; unfold addStep; rw [if_pos ⟨rfl, hlt2⟩])
          have t1 : decide (b1 < ad) = true := decide_eq_true hlt2
          clear hT
          go_wp2_with fail
          have HSD : Hid ((fun w' => w'.cell? ⟨w.heap.size, 0, none⟩ = some (.int .i64 b1) /\ w'.cell? ⟨g, 3, none⟩ = some (.slice (some ⟨gv, 0, none⟩) nl c) /\ w'.cell? ⟨gv, i * 2, none⟩ = some (.int .i64 ad)) wr.drew) := hidp HPP.out
          refine wp_region_held_drew (S := (fun w' => w'.cell? ⟨w.heap.size, 0, none⟩ = some (.int .i64 b1) /\ w'.cell? ⟨g, 3, none⟩ = some (.slice (some ⟨gv, 0, none⟩) nl c) /\ w'.cell? ⟨gv, i * 2, none⟩ = some (.int .i64 ad))) (by kernel_rfl) ?_ (fun hHeld => ?_)
          · (try dsimp only)
            exact HSD.out
          refine tkz 0 ?_
          refine tkz 1 ?_
          refine tkz 2 ?_
          refine tkz 3 ?_
          refine tkz 4 ?_
          refine tkz 5 ?_
          refine tkz 6 ?_
          refine tkz 7 ?_
          refine tkz 8 ?_
          refine tkz 9 ?_
          refine tkz 10 ?_
          refine tkz 11 ?_
          refine tkz 12 ?_
          refine tkz 13 ?_
          refine tkz 14 ?_
          refine tkz 15 ?_
          refine dnz ?_
          have HOd := hidp (own_below HO.out (Bdrew (B0 wr)))
          have HXd := hidp (HX.out.keep (Bdrew (B0 wr)))
          have HBd := hidp (Bdrew HB.out)
          generalize hwd : wr.drew = wd at *
          clear hwd y0 y1 p0 p1 x3 HPP HSD
          have HGHBd := hidp (HX0.out.keep HBd.out)
          obtain ⟨_, _, _, x3⟩ := mod_cells HGHBd.out
          have HPHBd := hidp (own_block0 (own_below HO00.out HBd.out) HNL.out HXX.out)
          obtain ⟨p0, p1⟩ := HPHBd.out
          dsimp only at p0 p1
          obtain ⟨y0, y1⟩ := HXd.out.two
          have hbsd := HBd.out.size
          have hxsd := HXd.out.lt
          have HTOK : Hid True := hidp trivial
          go_wp2_with (first
            | (at_builtin
               have hz := HTOK.out
               clear hz HTOK
               refine wpList_append_lies _ rfl _ _ 24 rfl (w.heap.size + 1) 55 j0 (.agg #[.int .i64 0, .int .i64 0]) 2 16 Tryd.underlying24 hjn hjz0 hjz1 hjz2 rfl (by decide) u4 (k) (bkVs (acc)) rfl (HOd.out.alloc _) ⟨_, 0, none⟩ 1 1 [.int .i64 b1, .int .i64 b2] rfl rfl ?c1 ?c2 (by omega) ?c3 ?c4 ?c5 _ rfl ?_
               case c1 => intro jj yy hyy; rcases jj with _ | _ | jj; (· simp at hyy; subst hyy; simp [Addr.add]); (· simp at hyy; subst hyy; simp [Addr.add]); (· simp at hyy)
               case c2 => simp [Value.oneCell']
               case c3 => unfold maxLen; omega
               case c4 => omega
               case c5 => simp; omega
               intro g7 capg7 w7 hown8 hgrow8 hat8 hlt8
               have HO7 : Hid (w7.ownsRow (w.heap.size + 1) 55 2 (.slice (some ⟨g7, 0, none⟩) (k + 1) capg7) (k + 1) (bkVs (acc ++ [(b1, b2)]))) := hidp (by rw [bkVs_snoc]; exact hown8)
               have HB7 : Hid (Below w.heap.size w w7) := hidp ((Bnew HBd.out _).grown hgrow8 (by have := HBd.out.size; simp; omega) (fun j hj => by have := (HOd.out.lt j hj).1; omega))
               have HX7 : Hid (Held w7 w.heap.size 55 #[.int .i64 b1, .int .i64 b2]) := hidp ((hgrow8.block _ (by have := HXd.out.lt; simp; omega) (fun e => by have := (HOd.out.lt _ e.symm).1; omega)).trans (HXd.out.alloc _))
               clear hown8 hgrow8 hat8 hlt8 y0 y1 p0 p1 x3
               have hbs7 := HB7.out.size
               have hxs7 := HX7.out.lt
               have HGHB7 := hidp (HX0.out.keep HB7.out)
               obtain ⟨_, _, _, x3⟩ := mod_cells HGHB7.out
               have HPHB7 := hidp (own_block0 (own_below HO00.out HB7.out) HNL.out HXX.out)
               obtain ⟨p0, p1⟩ := HPHB7.out
               dsimp only at p0 p1
               obtain ⟨y0, y1⟩ := HX7.out.two)
            | (at_builtin
               refine wpList_append_lies _ rfl _ _ 24 rfl (w.heap.size + 1) 55 j0 (.agg #[.int .i64 0, .int .i64 0]) 2 16 Tryd.underlying24 hjn hjz0 hjz1 hjz2 rfl (by decide) (.slice (some ⟨g7, 0, none⟩) (k + 1) capg7) (k + 1) (bkVs (acc ++ [(b1, b2)])) rfl (HO7.out.alloc _) ⟨_, 0, none⟩ 1 1 [.int .i64 ad, .int .i64 z] rfl rfl ?c1 ?c2 (by omega) ?c3 ?c4 ?c5 _ rfl ?_
               case c1 => intro jj yy hyy; rcases jj with _ | _ | jj; (· simp at hyy; subst hyy; simp [Addr.add]); (· simp at hyy; subst hyy; simp [Addr.add]); (· simp at hyy)
               case c2 => simp [Value.oneCell']
               case c3 => unfold maxLen; omega
               case c4 => omega
               case c5 => simp; omega
               intro g8 capg8 w8 hown8 hgrow8 hat8 hlt8)
            | fail)
          have HO8 : Hid (w8.ownsRow (w.heap.size + 1) 55 2 (.slice (some ⟨g8, 0, none⟩) (k + 1 + 1) capg8) (k + 1 + 1) (bkVs (addTo (b1, b2) (L.take (i + 1))).1)) := hidp (by rw [HT1.out]; show w8.ownsRow _ _ _ _ _ (bkVs (acc ++ [(b1, b2)] ++ [(ad, z)])); rw [bkVs_snoc]; exact hown8)
          have HB8 : Hid (Below w.heap.size w w8) := hidp ((Bnew HB7.out _).grown hgrow8 (by have := HB7.out.size; simp; omega) (fun j hj => by have := (HO7.out.lt j hj).1; omega))
          have HX8 : Hid (Held w8 w.heap.size 55 #[.int .i64 b1, .int .i64 b2]) := hidp ((hgrow8.block _ (by have := HX7.out.lt; simp; omega) (fun e => by have := (HO7.out.lt _ e.symm).1; omega)).trans (HX7.out.alloc _))
          have HM1 : Hid ((addTo (b1, b2) (L.take (i + 1))).1.length = k + 1 + 1) := hidp (by rw [HT1.out]; simp; have := HM.out; omega)
          have HD1 : Hid ((addTo (b1, b2) (L.take (i + 1))).2 = true) := hidp (by rw [HT1.out])
          clear hown8 hgrow8 hat8 hlt8 y0 y1 p0 p1 x3
          go_wp2_with fail
          go_roundw
          case rel => exact ⟨i + 1, k + 1 + 1, true, by omega, by go_num, rfl, by omega, HM1, HD1, HO8, HX8, HB8⟩
          case measure => simp [intOf]; omega
        · subst hdd
          have HT1 : Hid (addTo (b1, b2) (L.take (i + 1)) = (acc ++ [(ad, z)], false)) := hidp (by rw [HTK.out, addTo_snoc, hT]; unfold addStep; rw [if_neg (by intro h; exact hlt2 h.2)])
          have t1 : decide (b1 < ad) = false := decide_eq_false hlt2
          clear hT
          go_wp2_with fail
          have HSD : Hid ((fun w' => w'.cell? ⟨w.heap.size, 0, none⟩ = some (.int .i64 b1) /\ w'.cell? ⟨g, 3, none⟩ = some (.slice (some ⟨gv, 0, none⟩) nl c) /\ w'.cell? ⟨gv, i * 2, none⟩ = some (.int .i64 ad)) wr.drew) := hidp HPP.out
          refine wp_region_held_drew (S := (fun w' => w'.cell? ⟨w.heap.size, 0, none⟩ = some (.int .i64 b1) /\ w'.cell? ⟨g, 3, none⟩ = some (.slice (some ⟨gv, 0, none⟩) nl c) /\ w'.cell? ⟨gv, i * 2, none⟩ = some (.int .i64 ad))) (by kernel_rfl) ?_ (fun hHeld => ?_)
          · (try dsimp only)
            exact HSD.out
          refine tkz 0 ?_
          refine tkz 1 ?_
          refine tkz 2 ?_
          refine tkz 3 ?_
          refine tkz 4 ?_
          refine tkz 5 ?_
          refine tkz 6 ?_
          refine tkz 7 ?_
          refine tkz 8 ?_
          refine tkz 9 ?_
          refine tkz 10 ?_
          refine tkz 11 ?_
          refine tkz 12 ?_
          refine tkz 13 ?_
          refine tkz 14 ?_
          refine tkz 15 ?_
          refine dnz ?_
          have HOd := hidp (own_below HO.out (Bdrew (B0 wr)))
          have HXd := hidp (HX.out.keep (Bdrew (B0 wr)))
          have HBd := hidp (Bdrew HB.out)
          generalize hwd : wr.drew = wd at *
          clear hwd y0 y1 p0 p1 x3 HPP HSD
          have HGHBd := hidp (HX0.out.keep HBd.out)
          obtain ⟨_, _, _, x3⟩ := mod_cells HGHBd.out
          have HPHBd := hidp (own_block0 (own_below HO00.out HBd.out) HNL.out HXX.out)
          obtain ⟨p0, p1⟩ := HPHBd.out
          dsimp only at p0 p1
          obtain ⟨y0, y1⟩ := HXd.out.two
          have hbsd := HBd.out.size
          have hxsd := HXd.out.lt
          go_wp2_with (first
            | (at_builtin
               refine wpList_append_lies _ rfl _ _ 24 rfl (w.heap.size + 1) 55 j0 (.agg #[.int .i64 0, .int .i64 0]) 2 16 Tryd.underlying24 hjn hjz0 hjz1 hjz2 rfl (by decide) u4 (k) (bkVs (acc)) rfl (HOd.out.alloc _) ⟨_, 0, none⟩ 1 1 [.int .i64 ad, .int .i64 z] rfl rfl ?c1 ?c2 (by omega) ?c3 ?c4 ?c5 _ rfl ?_
               case c1 => intro jj yy hyy; rcases jj with _ | _ | jj; (· simp at hyy; subst hyy; simp [Addr.add]); (· simp at hyy; subst hyy; simp [Addr.add]); (· simp at hyy)
               case c2 => simp [Value.oneCell']
               case c3 => unfold maxLen; omega
               case c4 => omega
               case c5 => simp; omega
               intro g8 capg8 w8 hown8 hgrow8 hat8 hlt8)
            | fail)
          have HO8 : Hid (w8.ownsRow (w.heap.size + 1) 55 2 (.slice (some ⟨g8, 0, none⟩) (k + 1) capg8) (k + 1) (bkVs (addTo (b1, b2) (L.take (i + 1))).1)) := hidp (by rw [HT1.out]; show w8.ownsRow _ _ _ _ _ (bkVs (acc ++ [(ad, z)])); rw [bkVs_snoc]; exact hown8)
          have HB8 : Hid (Below w.heap.size w w8) := hidp ((Bnew HBd.out _).grown hgrow8 (by have := HBd.out.size; simp; omega) (fun j hj => by have := (HOd.out.lt j hj).1; omega))
          have HX8 : Hid (Held w8 w.heap.size 55 #[.int .i64 b1, .int .i64 b2]) := hidp ((hgrow8.block _ (by have := HXd.out.lt; simp; omega) (fun e => by have := (HOd.out.lt _ e.symm).1; omega)).trans (HXd.out.alloc _))
          have HM1 : Hid ((addTo (b1, b2) (L.take (i + 1))).1.length = k + 1) := hidp (by rw [HT1.out]; simp; have := HM.out; omega)
          have HD1 : Hid ((addTo (b1, b2) (L.take (i + 1))).2 = false) := hidp (by rw [HT1.out])
          clear hown8 hgrow8 hat8 hlt8 y0 y1 p0 p1 x3
          go_wp2_with fail
          go_roundw
          case rel => exact ⟨i + 1, k + 1, false, by omega, by go_num, rfl, by omega, HM1, HD1, HO8, HX8, HB8⟩
          case measure => simp [intOf]; omega
    · have hkn : i = nl := by omega
      have t0 : decide ((i : Int) < nl) = false := decide_eq_false (by omega)
      have HTK : Hid (L.take i = L) := hidp (by rw [List.take_of_length_le (by have := HNL.out; omega)])
      clear hkn
      rw [HTK.out] at HO HM HD
      cases d with
      | true =>
        have HA9 := hidp (HMW.out.keep HB.out)
        have HE : Hid (addB L (b1, b2) = (addTo (b1, b2) L).1) := hidp (by unfold addB; rw [if_pos HD.out])
        rw [<- HE.out] at HO HM
        obtain ⟨Au, cu, hu⟩ := own_slice HO.out
        subst hu
        have HO9 : Hid (wr.ownsRow base 55 2 (.slice Au k cu) k (bkVs (addB L (b1, b2)))) := hidp (by
          have h := HO.out
          exact own_down h (Nat.le_trans HLO.out (by omega)))
        have HL9 : Hid ((addB L (b1, b2)).length = k) := HM
        obtain ⟨A9, c9, hx9, _⟩ := HA9.out.ex
        have f3 := hx9.thawed 3
        obtain ⟨_, _, _, x3⟩ := mod_cells hx9
        clear hx9
        go_wp2_with fail
        go_end0
        refine ⟨rfl, ?_, ?_⟩
        · have h1 := HA9.out.live (A := Au) (c := cu) (L' := addB L (b1, b2)) (HA9.out.ins.add HIN.out) (by rw [HL9.out]; exact HO9.out) (fun i hi hz => by
            have h1 := (HO.out.lt i (by rw [HL9.out] at hi; exact hi)).1
            have h2 := HMW.out.zlt i hz
            omega)
          rw [HL9.out] at h1
          exact h1
        · exact (Turns.of_below HB.out (fun i => i = g)).put (p := ⟨g, 3, none⟩) rfl _
      | false =>
        have hbs := HB.out.size
        have hxs := HX.out.lt
        go_wp2_with (first
          | (at_builtin
             refine wpList_append_lies _ rfl _ _ 24 rfl (w.heap.size + 1) 55 j0 (.agg #[.int .i64 0, .int .i64 0]) 2 16 Tryd.underlying24 hjn hjz0 hjz1 hjz2 rfl (by decide) u4 (k) (bkVs ((addTo (b1, b2) L).1)) rfl (HO.out.alloc _) ⟨_, 0, none⟩ 1 1 [.int .i64 b1, .int .i64 b2] rfl rfl ?c1 ?c2 (by omega) ?c3 ?c4 ?c5 _ rfl ?_
             case c1 => intro jj yy hyy; rcases jj with _ | _ | jj; (· simp at hyy; subst hyy; simp [Addr.add]); (· simp at hyy; subst hyy; simp [Addr.add]); (· simp at hyy)
             case c2 => simp [Value.oneCell']
             case c3 => unfold maxLen; omega
             case c4 => omega
             case c5 => simp; omega
             intro g8 capg8 w8 hown8 hgrow8 hat8 hlt8
             have HE : Hid (addB L (b1, b2) = (addTo (b1, b2) L).1 ++ [(b1, b2)]) := hidp (by unfold addB; rw [if_neg (by rw [HD.out]; simp)])
             have HO8 : Hid (w8.ownsRow (w.heap.size + 1) 55 2 (.slice (some ⟨g8, 0, none⟩) (k + 1) capg8) (k + 1) (bkVs (addB L (b1, b2)))) := hidp (by rw [HE.out, bkVs_snoc]; exact hown8)
             have HB8 : Hid (Below w.heap.size w w8) := hidp ((Bnew HB.out _).grown hgrow8 (by simp; omega) (fun j hj => by have := (HO.out.lt j hj).1; omega))
             have HM8 : Hid ((addB L (b1, b2)).length = k + 1) := hidp (by rw [HE.out, List.length_append, HM.out]; rfl)
             have HA9 := hidp (HMW.out.keep HB8.out)
             clear hown8 hgrow8 hat8 hlt8 x3 y0 y1
             obtain ⟨A9, c9, hx9, _⟩ := HA9.out.ex
             have f3 := hx9.thawed 3
             obtain ⟨_, _, _, x3⟩ := mod_cells hx9
             clear hx9)
          | fail)
        have HO9 : Hid (w8.ownsRow base 55 2 (.slice (some ⟨g8, 0, none⟩) (k + 1) capg8) (k + 1) (bkVs (addB L (b1, b2)))) := hidp (by
          have h := HO8.out
          exact own_down h (Nat.le_trans HLO.out (by omega)))
        have HL9 : Hid ((addB L (b1, b2)).length = (k + 1)) := HM8
        go_end0
        refine ⟨rfl, ?_, ?_⟩
        · have h1 := HA9.out.live (A := (some ⟨g8, 0, none⟩)) (c := capg8) (L' := addB L (b1, b2)) (HA9.out.ins.add HIN.out) (by rw [HL9.out]; exact HO9.out) (fun i hi hz => by
            have h1 := (HO8.out.lt i (by rw [HL9.out] at hi; exact hi)).1
            have h2 := HMW.out.zlt i hz
            omega)
          rw [HL9.out] at h1
          exact h1
        · exact (Turns.of_below HB8.out (fun i => i = g)).put (p := ⟨g, 3, none⟩) rfl _
end
section
set_option maxHeartbeats 6400000 in
theorem r26Apply_no {w : World} {g base : Nat} {Z : Nat -> Prop} {t p s : Int} {L : List (Int × Int)} {R : Nat -> Int} (h : RMod w g base Z t p s L R) (hn : L.length <= 90000) (k a b err out aux : Int) (ha : -9223372036854775808 <= a /\ a <= 9223372036854775807) (hb : -9223372036854775808 <= b /\ b <= 9223372036854775807) (hk : -9223372036854775808 <= k /\ k <= 9223372036854775807) (hv : allowM t p s L R k a b err out aux = false) : Calls Tryd.prog 19 #[.pointer (some ⟨g, 0, none⟩), .agg #[.int .i64 k, .int .i64 a, .int .i64 b], .agg #[.int .i64 err, .int .i64 out, .int .i64 aux]] w fun e w' => e = .returned (.bool false) /\ RMod w' g base Z t p s (L) (R) /\ Turns (fun i => i = g) w w' := by
 have HKL := hidp hk
 clear hk
 have HAL := hidp ha
 have HBL := hidp hb
 clear ha hb
 have HGL := hidp h.lt
 have HV := hidp hv
 clear hv
 have HB := hidp (Bnew (Bnew (B0 w) (.cells #[.int .i64 k, .int .i64 a, .int .i64 b] 29)) (.cells #[.int .i64 err, .int .i64 out, .int .i64 aux] 32))
 have HM := hidp (h.keep HB.out)
 have HX := hidp ((Held.new w 29 #[.int .i64 k, .int .i64 a, .int .i64 b]).alloc (.cells #[.int .i64 err, .int .i64 out, .int .i64 aux] 32))
 have HY := hidp (Held.new2 w (.cells #[.int .i64 k, .int .i64 a, .int .i64 b] 29) 32 #[.int .i64 err, .int .i64 out, .int .i64 aux])
 have HN := hidp hn
 obtain ⟨A, c, hx, ho⟩ := h.ex
 have HG := hidp (hx.keep HB.out)
 have HO := hidp (own_below ho HB.out)
 have hcv := own_caps3 ho
 clear hx ho h hn
 obtain ⟨x0, x1, x2⟩ := HX.out.three
 obtain ⟨y0, y1, y2⟩ := HY.out.three
 obtain ⟨m0, m1, m2, m3⟩ := mod_cells HG.out
 go_enter Tryd.func19, Tryd.ntmps19
 go_wp2_with fail
 refine (r26Allow_c HM.out HN.out k a b err out aux HKL.out HAL.out HBL.out).mono ?_; rintro e w1 ⟨rfl, hb⟩; rw [HV.out]
 clear x0 x1 x2 y0 y1 y2 m0 m1 m2 m3
 replace HX := hidp (HX.out.keep hb)
 replace HY := hidp (HY.out.keep hb)
 replace HG := hidp (HG.out.keep hb)
 replace HO := hidp (own_below HO.out hb)
 replace HM := hidp (HM.out.keep hb)
 replace HB := hidp (Bgo HB.out hb)
 clear hb
 obtain ⟨x0, x1, x2⟩ := HX.out.three
 obtain ⟨y0, y1, y2⟩ := HY.out.three
 obtain ⟨m0, m1, m2, m3⟩ := mod_cells HG.out
 go_wp2_with fail
 go_ret
 exact ⟨rfl, HM.out, Turns.of_below HB.out _⟩

set_option maxHeartbeats 6400000 in
theorem r26Apply_err {w : World} {g base : Nat} {Z : Nat -> Prop} {t p s : Int} {L : List (Int × Int)} {R : Nat -> Int} (h : RMod w g base Z t p s L R) (hn : L.length <= 90000) (k a b err out aux : Int) (ha : -9223372036854775808 <= a /\ a <= 9223372036854775807) (hb : -9223372036854775808 <= b /\ b <= 9223372036854775807) (hk : -9223372036854775808 <= k /\ k <= 9223372036854775807) (hv : allowM t p s L R k a b err out aux = true) (he : err ≠ 0) : Calls Tryd.prog 19 #[.pointer (some ⟨g, 0, none⟩), .agg #[.int .i64 k, .int .i64 a, .int .i64 b], .agg #[.int .i64 err, .int .i64 out, .int .i64 aux]] w fun e w' => e = .returned (.bool true) /\ RMod w' g base Z t p s (L) (R) /\ Turns (fun i => i = g) w w' := by
 have HKL := hidp hk
 clear hk
 have HAL := hidp ha
 have HBL := hidp hb
 clear ha hb
 have HGL := hidp h.lt
 have HV := hidp hv
 have q0 : (err != 0) = true := by simpa using he
 clear hv he
 have HB := hidp (Bnew (Bnew (B0 w) (.cells #[.int .i64 k, .int .i64 a, .int .i64 b] 29)) (.cells #[.int .i64 err, .int .i64 out, .int .i64 aux] 32))
 have HM := hidp (h.keep HB.out)
 have HX := hidp ((Held.new w 29 #[.int .i64 k, .int .i64 a, .int .i64 b]).alloc (.cells #[.int .i64 err, .int .i64 out, .int .i64 aux] 32))
 have HY := hidp (Held.new2 w (.cells #[.int .i64 k, .int .i64 a, .int .i64 b] 29) 32 #[.int .i64 err, .int .i64 out, .int .i64 aux])
 have HN := hidp hn
 obtain ⟨A, c, hx, ho⟩ := h.ex
 have HG := hidp (hx.keep HB.out)
 have HO := hidp (own_below ho HB.out)
 have hcv := own_caps3 ho
 clear hx ho h hn
 obtain ⟨x0, x1, x2⟩ := HX.out.three
 obtain ⟨y0, y1, y2⟩ := HY.out.three
 obtain ⟨m0, m1, m2, m3⟩ := mod_cells HG.out
 go_enter Tryd.func19, Tryd.ntmps19
 go_wp2_with fail
 refine (r26Allow_c HM.out HN.out k a b err out aux HKL.out HAL.out HBL.out).mono ?_; rintro e w1 ⟨rfl, hb⟩; rw [HV.out]
 clear x0 x1 x2 y0 y1 y2 m0 m1 m2 m3
 replace HX := hidp (HX.out.keep hb)
 replace HY := hidp (HY.out.keep hb)
 replace HG := hidp (HG.out.keep hb)
 replace HO := hidp (own_below HO.out hb)
 replace HM := hidp (HM.out.keep hb)
 replace HB := hidp (Bgo HB.out hb)
 clear hb
 obtain ⟨x0, x1, x2⟩ := HX.out.three
 obtain ⟨y0, y1, y2⟩ := HY.out.three
 obtain ⟨m0, m1, m2, m3⟩ := mod_cells HG.out
 go_wp2_with fail
 go_ret
 exact ⟨rfl, HM.out, Turns.of_below HB.out _⟩

set_option maxHeartbeats 6400000 in
theorem r26Apply_6 {w : World} {g base : Nat} {Z : Nat -> Prop} {t p s : Int} {L : List (Int × Int)} {R : Nat -> Int} (h : RMod w g base Z t p s L R) (hn : L.length <= 90000) (a b out aux : Int) (ha : -9223372036854775808 <= a /\ a <= 9223372036854775807) (hb : -9223372036854775808 <= b /\ b <= 9223372036854775807) (hv : allowM t p s L R 6 a b 0 out aux = true) (i : Int) (hi : mAt L a = i) : Calls Tryd.prog 19 #[.pointer (some ⟨g, 0, none⟩), .agg #[.int .i64 6, .int .i64 a, .int .i64 b], .agg #[.int .i64 0, .int .i64 out, .int .i64 aux]] w fun e w' => e = .returned (.bool true) /\ RMod w' g base Z t p s (L) (R) /\ Turns (fun i => i = g) w w' := by
 have HKL : Hid (-9223372036854775808 <= (6 : Int) /\ (6 : Int) <= 9223372036854775807) := hidp (by omega)
 have HAL := hidp ha
 have HBL := hidp hb
 clear ha hb
 have HGL := hidp h.lt
 have HV := hidp hv
 have HI := hidp hi
 clear hv hi
 have HB := hidp (Bnew (Bnew (B0 w) (.cells #[.int .i64 6, .int .i64 a, .int .i64 b] 29)) (.cells #[.int .i64 0, .int .i64 out, .int .i64 aux] 32))
 have HM := hidp (h.keep HB.out)
 have HX := hidp ((Held.new w 29 #[.int .i64 6, .int .i64 a, .int .i64 b]).alloc (.cells #[.int .i64 0, .int .i64 out, .int .i64 aux] 32))
 have HY := hidp (Held.new2 w (.cells #[.int .i64 6, .int .i64 a, .int .i64 b] 29) 32 #[.int .i64 0, .int .i64 out, .int .i64 aux])
 have HN := hidp hn
 obtain ⟨A, c, hx, ho⟩ := h.ex
 have HG := hidp (hx.keep HB.out)
 have HO := hidp (own_below ho HB.out)
 have hcv := own_caps3 ho
 clear hx ho h hn
 obtain ⟨x0, x1, x2⟩ := HX.out.three
 obtain ⟨y0, y1, y2⟩ := HY.out.three
 obtain ⟨m0, m1, m2, m3⟩ := mod_cells HG.out
 go_enter Tryd.func19, Tryd.ntmps19
 go_wp2_with fail
 refine (r26Allow_c HM.out HN.out 6 a b 0 out aux HKL.out HAL.out HBL.out).mono ?_; rintro e w1 ⟨rfl, hb⟩; rw [HV.out]
 clear x0 x1 x2 y0 y1 y2 m0 m1 m2 m3
 replace HX := hidp (HX.out.keep hb)
 replace HY := hidp (HY.out.keep hb)
 replace HG := hidp (HG.out.keep hb)
 replace HO := hidp (own_below HO.out hb)
 replace HM := hidp (HM.out.keep hb)
 replace HB := hidp (Bgo HB.out hb)
 clear hb
 obtain ⟨x0, x1, x2⟩ := HX.out.three
 obtain ⟨y0, y1, y2⟩ := HY.out.three
 obtain ⟨m0, m1, m2, m3⟩ := mod_cells HG.out
 go_wp2_with fail
 refine (r26At_c HM.out HN.out a).mono ?_; rintro e w1 ⟨rfl, rfl⟩; rw [HI.out]
 go_wp2_with fail
 go_ret
 exact ⟨rfl, HM.out, Turns.of_below HB.out _⟩

set_option maxHeartbeats 6400000 in
theorem r26Apply_7 {w : World} {g base : Nat} {Z : Nat -> Prop} {t p s : Int} {L : List (Int × Int)} {R : Nat -> Int} (h : RMod w g base Z t p s L R) (hn : L.length <= 90000) (a b out aux : Int) (ha : -9223372036854775808 <= a /\ a <= 9223372036854775807) (hb : -9223372036854775808 <= b /\ b <= 9223372036854775807) (hv : allowM t p s L R 7 a b 0 out aux = true) (i : Int) (hi : mAt L a = i) : Calls Tryd.prog 19 #[.pointer (some ⟨g, 0, none⟩), .agg #[.int .i64 7, .int .i64 a, .int .i64 b], .agg #[.int .i64 0, .int .i64 out, .int .i64 aux]] w fun e w' => e = .returned (.bool true) /\ RMod w' g base Z t p s (L) (R) /\ Turns (fun i => i = g) w w' := by
 have HKL : Hid (-9223372036854775808 <= (7 : Int) /\ (7 : Int) <= 9223372036854775807) := hidp (by omega)
 have HAL := hidp ha
 have HBL := hidp hb
 clear ha hb
 have HGL := hidp h.lt
 have HV := hidp hv
 have HI := hidp hi
 clear hv hi
 have HB := hidp (Bnew (Bnew (B0 w) (.cells #[.int .i64 7, .int .i64 a, .int .i64 b] 29)) (.cells #[.int .i64 0, .int .i64 out, .int .i64 aux] 32))
 have HM := hidp (h.keep HB.out)
 have HX := hidp ((Held.new w 29 #[.int .i64 7, .int .i64 a, .int .i64 b]).alloc (.cells #[.int .i64 0, .int .i64 out, .int .i64 aux] 32))
 have HY := hidp (Held.new2 w (.cells #[.int .i64 7, .int .i64 a, .int .i64 b] 29) 32 #[.int .i64 0, .int .i64 out, .int .i64 aux])
 have HN := hidp hn
 obtain ⟨A, c, hx, ho⟩ := h.ex
 have HG := hidp (hx.keep HB.out)
 have HO := hidp (own_below ho HB.out)
 have hcv := own_caps3 ho
 clear hx ho h hn
 obtain ⟨x0, x1, x2⟩ := HX.out.three
 obtain ⟨y0, y1, y2⟩ := HY.out.three
 obtain ⟨m0, m1, m2, m3⟩ := mod_cells HG.out
 go_enter Tryd.func19, Tryd.ntmps19
 go_wp2_with fail
 refine (r26Allow_c HM.out HN.out 7 a b 0 out aux HKL.out HAL.out HBL.out).mono ?_; rintro e w1 ⟨rfl, hb⟩; rw [HV.out]
 clear x0 x1 x2 y0 y1 y2 m0 m1 m2 m3
 replace HX := hidp (HX.out.keep hb)
 replace HY := hidp (HY.out.keep hb)
 replace HG := hidp (HG.out.keep hb)
 replace HO := hidp (own_below HO.out hb)
 replace HM := hidp (HM.out.keep hb)
 replace HB := hidp (Bgo HB.out hb)
 clear hb
 obtain ⟨x0, x1, x2⟩ := HX.out.three
 obtain ⟨y0, y1, y2⟩ := HY.out.three
 obtain ⟨m0, m1, m2, m3⟩ := mod_cells HG.out
 go_wp2_with fail
 refine (r26At_c HM.out HN.out a).mono ?_; rintro e w1 ⟨rfl, rfl⟩; rw [HI.out]
 go_wp2_with fail
 go_ret
 exact ⟨rfl, HM.out, Turns.of_below HB.out _⟩

set_option maxHeartbeats 6400000 in
theorem r26Apply_8 {w : World} {g base : Nat} {Z : Nat -> Prop} {t p s : Int} {L : List (Int × Int)} {R : Nat -> Int} (h : RMod w g base Z t p s L R) (hn : L.length <= 90000) (a b out aux : Int) (ha : -9223372036854775808 <= a /\ a <= 9223372036854775807) (hb : -9223372036854775808 <= b /\ b <= 9223372036854775807) (hv : allowM t p s L R 8 a b 0 out aux = true) (i : Int) (hi : mAt L a = i) : Calls Tryd.prog 19 #[.pointer (some ⟨g, 0, none⟩), .agg #[.int .i64 8, .int .i64 a, .int .i64 b], .agg #[.int .i64 0, .int .i64 out, .int .i64 aux]] w fun e w' => e = .returned (.bool true) /\ RMod w' g base Z t p s (L) (R) /\ Turns (fun i => i = g) w w' := by
 have HKL : Hid (-9223372036854775808 <= (8 : Int) /\ (8 : Int) <= 9223372036854775807) := hidp (by omega)
 have HAL := hidp ha
 have HBL := hidp hb
 clear ha hb
 have HGL := hidp h.lt
 have HV := hidp hv
 have HI := hidp hi
 clear hv hi
 have HB := hidp (Bnew (Bnew (B0 w) (.cells #[.int .i64 8, .int .i64 a, .int .i64 b] 29)) (.cells #[.int .i64 0, .int .i64 out, .int .i64 aux] 32))
 have HM := hidp (h.keep HB.out)
 have HX := hidp ((Held.new w 29 #[.int .i64 8, .int .i64 a, .int .i64 b]).alloc (.cells #[.int .i64 0, .int .i64 out, .int .i64 aux] 32))
 have HY := hidp (Held.new2 w (.cells #[.int .i64 8, .int .i64 a, .int .i64 b] 29) 32 #[.int .i64 0, .int .i64 out, .int .i64 aux])
 have HN := hidp hn
 obtain ⟨A, c, hx, ho⟩ := h.ex
 have HG := hidp (hx.keep HB.out)
 have HO := hidp (own_below ho HB.out)
 have hcv := own_caps3 ho
 clear hx ho h hn
 obtain ⟨x0, x1, x2⟩ := HX.out.three
 obtain ⟨y0, y1, y2⟩ := HY.out.three
 obtain ⟨m0, m1, m2, m3⟩ := mod_cells HG.out
 go_enter Tryd.func19, Tryd.ntmps19
 go_wp2_with fail
 refine (r26Allow_c HM.out HN.out 8 a b 0 out aux HKL.out HAL.out HBL.out).mono ?_; rintro e w1 ⟨rfl, hb⟩; rw [HV.out]
 clear x0 x1 x2 y0 y1 y2 m0 m1 m2 m3
 replace HX := hidp (HX.out.keep hb)
 replace HY := hidp (HY.out.keep hb)
 replace HG := hidp (HG.out.keep hb)
 replace HO := hidp (own_below HO.out hb)
 replace HM := hidp (HM.out.keep hb)
 replace HB := hidp (Bgo HB.out hb)
 clear hb
 obtain ⟨x0, x1, x2⟩ := HX.out.three
 obtain ⟨y0, y1, y2⟩ := HY.out.three
 obtain ⟨m0, m1, m2, m3⟩ := mod_cells HG.out
 go_wp2_with fail
 refine (r26At_c HM.out HN.out a).mono ?_; rintro e w1 ⟨rfl, rfl⟩; rw [HI.out]
 go_wp2_with fail
 go_ret
 exact ⟨rfl, HM.out, Turns.of_below HB.out _⟩

set_option maxHeartbeats 6400000 in
theorem r26Apply_9 {w : World} {g base : Nat} {Z : Nat -> Prop} {t p s : Int} {L : List (Int × Int)} {R : Nat -> Int} (h : RMod w g base Z t p s L R) (hn : L.length <= 90000) (a b out aux : Int) (ha : -9223372036854775808 <= a /\ a <= 9223372036854775807) (hb : -9223372036854775808 <= b /\ b <= 9223372036854775807) (hv : allowM t p s L R 9 a b 0 out aux = true) (i : Int) (hi : mAt L a = i) : Calls Tryd.prog 19 #[.pointer (some ⟨g, 0, none⟩), .agg #[.int .i64 9, .int .i64 a, .int .i64 b], .agg #[.int .i64 0, .int .i64 out, .int .i64 aux]] w fun e w' => e = .returned (.bool true) /\ RMod w' g base Z t p s (L) (R) /\ Turns (fun i => i = g) w w' := by
 have HKL : Hid (-9223372036854775808 <= (9 : Int) /\ (9 : Int) <= 9223372036854775807) := hidp (by omega)
 have HAL := hidp ha
 have HBL := hidp hb
 clear ha hb
 have HGL := hidp h.lt
 have HV := hidp hv
 have HI := hidp hi
 clear hv hi
 have HB := hidp (Bnew (Bnew (B0 w) (.cells #[.int .i64 9, .int .i64 a, .int .i64 b] 29)) (.cells #[.int .i64 0, .int .i64 out, .int .i64 aux] 32))
 have HM := hidp (h.keep HB.out)
 have HX := hidp ((Held.new w 29 #[.int .i64 9, .int .i64 a, .int .i64 b]).alloc (.cells #[.int .i64 0, .int .i64 out, .int .i64 aux] 32))
 have HY := hidp (Held.new2 w (.cells #[.int .i64 9, .int .i64 a, .int .i64 b] 29) 32 #[.int .i64 0, .int .i64 out, .int .i64 aux])
 have HN := hidp hn
 obtain ⟨A, c, hx, ho⟩ := h.ex
 have HG := hidp (hx.keep HB.out)
 have HO := hidp (own_below ho HB.out)
 have hcv := own_caps3 ho
 clear hx ho h hn
 obtain ⟨x0, x1, x2⟩ := HX.out.three
 obtain ⟨y0, y1, y2⟩ := HY.out.three
 obtain ⟨m0, m1, m2, m3⟩ := mod_cells HG.out
 go_enter Tryd.func19, Tryd.ntmps19
 go_wp2_with fail
 refine (r26Allow_c HM.out HN.out 9 a b 0 out aux HKL.out HAL.out HBL.out).mono ?_; rintro e w1 ⟨rfl, hb⟩; rw [HV.out]
 clear x0 x1 x2 y0 y1 y2 m0 m1 m2 m3
 replace HX := hidp (HX.out.keep hb)
 replace HY := hidp (HY.out.keep hb)
 replace HG := hidp (HG.out.keep hb)
 replace HO := hidp (own_below HO.out hb)
 replace HM := hidp (HM.out.keep hb)
 replace HB := hidp (Bgo HB.out hb)
 clear hb
 obtain ⟨x0, x1, x2⟩ := HX.out.three
 obtain ⟨y0, y1, y2⟩ := HY.out.three
 obtain ⟨m0, m1, m2, m3⟩ := mod_cells HG.out
 go_wp2_with fail
 refine (r26At_c HM.out HN.out a).mono ?_; rintro e w1 ⟨rfl, rfl⟩; rw [HI.out]
 go_wp2_with fail
 go_ret
 exact ⟨rfl, HM.out, Turns.of_below HB.out _⟩

set_option maxHeartbeats 6400000 in
theorem r26Apply_1 {w : World} {g base : Nat} {Z : Nat -> Prop} {t p s : Int} {L : List (Int × Int)} {R : Nat -> Int} (h : RMod w g base Z t p s L R) (hn : L.length <= 90000) (a b out aux : Int) (ha : -9223372036854775808 <= a /\ a <= 9223372036854775807) (hb : -9223372036854775808 <= b /\ b <= 9223372036854775807) (hv : allowM t p s L R 1 a b 0 out aux = true) (i : Int) (hi : mAt L a = i) : Calls Tryd.prog 19 #[.pointer (some ⟨g, 0, none⟩), .agg #[.int .i64 1, .int .i64 a, .int .i64 b], .agg #[.int .i64 0, .int .i64 out, .int .i64 aux]] w fun e w' => e = .returned (.bool true) /\ RMod w' g base Z t p s (addB L (out, aux)) (R) /\ Turns (fun i => i = g) w w' := by
 have HKL : Hid (-9223372036854775808 <= (1 : Int) /\ (1 : Int) <= 9223372036854775807) := hidp (by omega)
 have HAL := hidp ha
 have HBL := hidp hb
 clear ha hb
 have HGL := hidp h.lt
 have HV := hidp hv
 have HI := hidp hi
 clear hv hi
 have HIN := hidp (freeM_ins (allow1 HV.out).1)
 have HB := hidp (Bnew (Bnew (B0 w) (.cells #[.int .i64 1, .int .i64 a, .int .i64 b] 29)) (.cells #[.int .i64 0, .int .i64 out, .int .i64 aux] 32))
 have HM := hidp (h.keep HB.out)
 have HX := hidp ((Held.new w 29 #[.int .i64 1, .int .i64 a, .int .i64 b]).alloc (.cells #[.int .i64 0, .int .i64 out, .int .i64 aux] 32))
 have HY := hidp (Held.new2 w (.cells #[.int .i64 1, .int .i64 a, .int .i64 b] 29) 32 #[.int .i64 0, .int .i64 out, .int .i64 aux])
 have HN := hidp hn
 obtain ⟨A, c, hx, ho⟩ := h.ex
 have HG := hidp (hx.keep HB.out)
 have HO := hidp (own_below ho HB.out)
 have hcv := own_caps3 ho
 clear hx ho h hn
 obtain ⟨x0, x1, x2⟩ := HX.out.three
 obtain ⟨y0, y1, y2⟩ := HY.out.three
 obtain ⟨m0, m1, m2, m3⟩ := mod_cells HG.out
 go_enter Tryd.func19, Tryd.ntmps19
 go_wp2_with fail
 refine (r26Allow_c HM.out HN.out 1 a b 0 out aux HKL.out HAL.out HBL.out).mono ?_; rintro e w1 ⟨rfl, hb⟩; rw [HV.out]
 clear x0 x1 x2 y0 y1 y2 m0 m1 m2 m3
 replace HX := hidp (HX.out.keep hb)
 replace HY := hidp (HY.out.keep hb)
 replace HG := hidp (HG.out.keep hb)
 replace HO := hidp (own_below HO.out hb)
 replace HM := hidp (HM.out.keep hb)
 replace HB := hidp (Bgo HB.out hb)
 clear hb
 obtain ⟨x0, x1, x2⟩ := HX.out.three
 obtain ⟨y0, y1, y2⟩ := HY.out.three
 obtain ⟨m0, m1, m2, m3⟩ := mod_cells HG.out
 go_wp2_with fail
 refine (r26At_c HM.out HN.out a).mono ?_; rintro e w1 ⟨rfl, rfl⟩; rw [HI.out]
 go_wp2_with fail
 refine (r26Add_c HM.out HN.out out aux HIN.out).mono ?_; rintro e w1 ⟨rfl, hm1, ht⟩
 clear x0 x1 x2 y0 y1 y2 m0 m1 m2 m3
 replace HX := hidp (ht.held HX.out (by have := HGL.out; omega))
 replace HY := hidp (ht.held HY.out (by have := HGL.out; omega))
 have HT := hidp ((Turns.of_below HB.out (fun i => i = g)).trans ht)
 have HM1 := hidp hm1
 clear hm1 ht
 obtain ⟨x0, x1, x2⟩ := HX.out.three
 obtain ⟨y0, y1, y2⟩ := HY.out.three
 go_wp2_with fail
 go_ret
 exact ⟨rfl, HM1.out, HT.out⟩

set_option maxHeartbeats 6400000 in
theorem r26Apply_2 {w : World} {g base : Nat} {Z : Nat -> Prop} {t p s : Int} {L : List (Int × Int)} {R : Nat -> Int} (h : RMod w g base Z t p s L R) (hn : L.length <= 90000) (a b out aux : Int) (ha : -9223372036854775808 <= a /\ a <= 9223372036854775807) (hb : -9223372036854775808 <= b /\ b <= 9223372036854775807) (hv : allowM t p s L R 2 a b 0 out aux = true) (i : Nat) (hi : mAt L a = (i : Int)) : Calls Tryd.prog 19 #[.pointer (some ⟨g, 0, none⟩), .agg #[.int .i64 2, .int .i64 a, .int .i64 b], .agg #[.int .i64 0, .int .i64 out, .int .i64 aux]] w fun e w' => e = .returned (.bool true) /\ RMod w' g base Z t p s (L.eraseIdx i) (R) /\ Turns (fun i => i = g) w w' := by
 have HKL : Hid (-9223372036854775808 <= (2 : Int) /\ (2 : Int) <= 9223372036854775807) := hidp (by omega)
 have HAL := hidp ha
 have HBL := hidp hb
 clear ha hb
 have HGL := hidp h.lt
 have HV := hidp hv
 have HI := hidp hi
 clear hv hi
 have HB := hidp (Bnew (Bnew (B0 w) (.cells #[.int .i64 2, .int .i64 a, .int .i64 b] 29)) (.cells #[.int .i64 0, .int .i64 out, .int .i64 aux] 32))
 have HM := hidp (h.keep HB.out)
 have HX := hidp ((Held.new w 29 #[.int .i64 2, .int .i64 a, .int .i64 b]).alloc (.cells #[.int .i64 0, .int .i64 out, .int .i64 aux] 32))
 have HY := hidp (Held.new2 w (.cells #[.int .i64 2, .int .i64 a, .int .i64 b] 29) 32 #[.int .i64 0, .int .i64 out, .int .i64 aux])
 have HN := hidp hn
 obtain ⟨A, c, hx, ho⟩ := h.ex
 have HG := hidp (hx.keep HB.out)
 have HO := hidp (own_below ho HB.out)
 have hcv := own_caps3 ho
 clear hx ho h hn
 obtain ⟨x0, x1, x2⟩ := HX.out.three
 obtain ⟨y0, y1, y2⟩ := HY.out.three
 obtain ⟨m0, m1, m2, m3⟩ := mod_cells HG.out
 go_enter Tryd.func19, Tryd.ntmps19
 go_wp2_with fail
 refine (r26Allow_c HM.out HN.out 2 a b 0 out aux HKL.out HAL.out HBL.out).mono ?_; rintro e w1 ⟨rfl, hb⟩; rw [HV.out]
 clear x0 x1 x2 y0 y1 y2 m0 m1 m2 m3
 replace HX := hidp (HX.out.keep hb)
 replace HY := hidp (HY.out.keep hb)
 replace HG := hidp (HG.out.keep hb)
 replace HO := hidp (own_below HO.out hb)
 replace HM := hidp (HM.out.keep hb)
 replace HB := hidp (Bgo HB.out hb)
 clear hb
 obtain ⟨x0, x1, x2⟩ := HX.out.three
 obtain ⟨y0, y1, y2⟩ := HY.out.three
 obtain ⟨m0, m1, m2, m3⟩ := mod_cells HG.out
 go_wp2_with fail
 refine (r26At_c HM.out HN.out a).mono ?_; rintro e w1 ⟨rfl, rfl⟩; rw [HI.out]
 go_wp2_with fail
 refine (r26Drop_c HM.out HN.out i).mono ?_; rintro e w1 ⟨rfl, hm1, ht⟩
 clear x0 x1 x2 y0 y1 y2 m0 m1 m2 m3
 replace HX := hidp (ht.held HX.out (by have := HGL.out; omega))
 replace HY := hidp (ht.held HY.out (by have := HGL.out; omega))
 have HT := hidp ((Turns.of_below HB.out (fun i => i = g)).trans ht)
 have HM1 := hidp hm1
 clear hm1 ht
 obtain ⟨x0, x1, x2⟩ := HX.out.three
 obtain ⟨y0, y1, y2⟩ := HY.out.three
 go_wp2_with fail
 go_ret
 exact ⟨rfl, HM1.out, HT.out⟩
end
end Go.Proofs.YtedakmhffjhfnaaDoor
