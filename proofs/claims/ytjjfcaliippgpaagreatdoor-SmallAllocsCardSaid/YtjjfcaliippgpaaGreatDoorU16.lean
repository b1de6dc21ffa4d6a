/-
  What the document's answer of layer 17 does to the pockets of one thread: put there.
-/
import Derived.Test.YtjjfcaliippgpaaGreatDoorU01
import Derived.Test.YtjjfcaliippgpaaGreatDoorU15
import Derived.Test.YtjjfcaliippgpaaGreatDoorU06
import Derived.ArgAppend
import Derived.Test.YtjjfcaliippgpaaGreatDoorU05
import Derived.Test.YtjjfcaliippgpaaGreatDoorU13
import Derived.Test.YtjjfcaliippgpaaGreatDoorU07
import Derived.Lib.SliceRun
import Derived.Test.YtjjfcaliippgpaaGreatDoorU04
namespace Go.Proofs.YtjjfcaliippgpaaGreatDoor
open Go.ChangeShapes Go.WideShapes Go.ChangeAt Go.RowKit Go.Maps
set_option linter.unusedVariables false
set_option linter.unusedSimpArgs false
set_option maxRecDepth 100000
section
theorem held_grownP {w w' : World} {row : Option Nat} {g : Nat} {t : TypeId} {cs : Array Value} (h : Held w g t cs) (hg : w.grownBy w' row) (hr : row ≠ some g) : Held w' g t cs := (hg.block g h.lt (fun e => hr e.symm)).trans h
set_option maxHeartbeats 6400000 in
theorem rPush_yes (U : Nat -> Sl) (Z : Nat -> List Int) (k : Nat) (a : Int) (ha : -9223372036854775808 <= a /\ a <= 9223372036854775807) (hk : k < 9) (h3 : (Z k).length <= 3) (w : World) (h : PkV w U Z) :
    Calls Tryz.prog 47 #[.agg (pkC U), .int .i64 (k : Int), .int .i64 a] w fun e w' => ∃ x : Sl, e = .returned (.tuple #[.agg (pkC (updF U k x)), .bool true]) /\ (∀ ad, x.a = some ad -> w.heap.size <= ad.block) /\ PkV w' (updF U k x) (updF Z k (Z k ++ [a])) /\ Below w.heap.size w w' := by
  have HG := hidp (((Held.new w 36 (pkC U)).alloc (.cells #[.slice none 0 0, .slice none 0 0, .slice none 0 0, .slice none 0 0, .slice none 0 0, .slice none 0 0, .slice none 0 0, .slice none 0 0, .slice none 0 0] 36)).alloc (.cells #[] 2))
  have HR : Hid (Held (((w.alloc (.cells (pkC U) 36)).alloc (.cells #[.slice none 0 0, .slice none 0 0, .slice none 0 0, .slice none 0 0, .slice none 0 0, .slice none 0 0, .slice none 0 0, .slice none 0 0, .slice none 0 0] 36)).alloc (.cells #[] 2)) (w.heap.size + 1) 36 (pkC zeroU)) := hidp ((Held.new2 w (.cells (pkC U) 36) 36 #[.slice none 0 0, .slice none 0 0, .slice none 0 0, .slice none 0 0, .slice none 0 0, .slice none 0 0, .slice none 0 0, .slice none 0 0, .slice none 0 0]).alloc (.cells #[] 2))
  have HB := hidp (Bnew (Bnew (Bnew (B0 w) (.cells (pkC U) 36)) (.cells #[.slice none 0 0, .slice none 0 0, .slice none 0 0, .slice none 0 0, .slice none 0 0, .slice none 0 0, .slice none 0 0, .slice none 0 0, .slice none 0 0] 36)) (.cells #[] 2))
  have HO : Hid ((((w.alloc (.cells (pkC U) 36)).alloc (.cells #[.slice none 0 0, .slice none 0 0, .slice none 0 0, .slice none 0 0, .slice none 0 0, .slice none 0 0, .slice none 0 0, .slice none 0 0, .slice none 0 0] 36)).alloc (.cells #[] 2)).ownsRow (w.heap.size + 2) 2 1 (.slice (some ⟨w.heap.size + 2, 0, none⟩) 0 0) 0 []) := hidp (by
    have := World.ownsRow_lit (base := w.heap.size + 2) (e := 2) (size := 1) ((w.alloc (.cells (pkC U) 36)).alloc (.cells #[.slice none 0 0, .slice none 0 0, .slice none 0 0, .slice none 0 0, .slice none 0 0, .slice none 0 0, .slice none 0 0, .slice none 0 0, .slice none 0 0] 36)) #[] 0 (by simp) (by unfold maxLen; omega) rfl
    simpa using this)
  have HP := hidp h
  have HC1 : Hid (((w.alloc (.cells (pkC U) 36)).alloc (.cells #[.slice none 0 0, .slice none 0 0, .slice none 0 0, .slice none 0 0, .slice none 0 0, .slice none 0 0, .slice none 0 0, .slice none 0 0, .slice none 0 0] 36)).cell? ⟨w.heap.size, k, none⟩ = some (U k).v) := hidp (((Held.new w 36 (pkC U)).alloc (.cells #[.slice none 0 0, .slice none 0 0, .slice none 0 0, .slice none 0 0, .slice none 0 0, .slice none 0 0, .slice none 0 0, .slice none 0 0, .slice none 0 0] 36)).pk hk)
  have HCA := hidp (HG.out.pk hk)
  obtain ⟨A, c, hu, hlc, hcm, hbd, hno, hcl⟩ := h k hk
  obtain ⟨n, hn⟩ : ∃ n, (Z k).length = n := ⟨_, rfl⟩
  rw [hn] at hu hlc h3
  rw [hu] at HC1 HCA
  have HN := hidp hn
  have HNO : Hid (A = none -> n = 0 /\ c = 0) := hidp (fun e => ⟨by rw [<- hn, (hno e).1]; rfl, (hno e).2⟩)
  have HCL := hidp hcl
  have HBD := hidp hbd
  obtain ⟨i0, hi0, hz0, hz1, hz2⟩ := info_parts longInfo
  have t0 : decide ((k : Int) < 0) = false := decide_eq_false (by omega)
  have t1 : decide (8 < (k : Int)) = false := decide_eq_false (by omega)
  have t1n : decide (8 < k) = false := decide_eq_false (by omega)
  have t2 : decide ((3 : Int) < (n : Int)) = false := decide_eq_false (by omega)
  have t2n : decide (3 < n) = false := decide_eq_false (by omega)
  have hc1 := HC1.out
  have hca := HCA.out
  clear h hu hn hbd hcl hno HC1 HCA
  go_enter Tryz.func47, Tryz.ntmps47
  go_wp2_with (first
    | (at_builtin
       refine wpList_append_opt rfl _ _ 34 rfl (w.heap.size + 2) 2 i0 (.int .i64 0) 1 8 Tryz.underlying34 hi0 hz0 hz1 hz2 rfl (by decide) _ _ _ rfl HO.out A n c (lgVs (Z k)) rfl HNO.out ?c0 ?c1 ?c2 ?c3 ?c4 ?c5 ?_
       case c0 => rw [lgVs_len, HN.out]; omega
       case c1 => intro ad hA j y hy; obtain ⟨z, hz, rfl⟩ := lgVs_get hy; exact (HB.out.cell (p := ad.add j) (by rw [block_of_add]; exact (HCL.out ad hA).1 (fun e => by rw [e] at hz; simp at hz))).trans ((HCL.out ad hA).2 j z hz)
       case c2 => intro y hy; obtain ⟨j, hj⟩ := List.mem_iff_getElem?.1 hy; obtain ⟨z, _, rfl⟩ := lgVs_get hj; simp [Value.oneCell']
       case c3 => unfold maxLen; omega
       case c4 => omega
       case c5 => simp
       intro u6 w6 hown6 hgrow
       obtain ⟨A6, c6, hu6⟩ := own_slice hown6
       subst hu6
       have hcc6 := own_caps_any hown6
       have HO6 : Hid (w6.ownsRow (w.heap.size + 2) 2 1 (.slice A6 n c6) n (lgVs (Z k))) := hidp (by rw [Nat.zero_add] at hown6; exact hown6)
       have hnb : ∀ j, (Value.slice (some ⟨w.heap.size + 2, 0, none⟩) 0 0).ownBlock = some j -> w.heap.size + 2 <= j := fun j hj => (HO.out.lt j hj).1
       have HB6 := hidp (HB.out.grown hgrow HB.out.size (fun j hj => by have := hnb j hj; omega))
       have HS6 : Hid (w.heap.size + 2 <= w6.heap.size) := hidp (by have h1 := hgrow.size; simp at h1; omega)
       have HG6 := hidp (held_grownP HG.out hgrow (fun e => by have := hnb _ e; omega))
       have HR6 := hidp (held_grownP HR.out hgrow (fun e => by have := hnb _ e; omega))
       clear hown6 hgrow hnb HO HB HG HR HCL hc1 hca)
    | (at_builtin
       refine wpList_append_own _ rfl _ _ 34 rfl (w.heap.size + 2) 2 i0 (.int .i64 0) 1 8 Tryz.underlying34 hi0 hz0 hz1 hz2 rfl (by decide) _ _ _ rfl (HO6.out.alloc _) ⟨_, 0, none⟩ 1 1 [.int .i64 a] rfl rfl ?c1 ?c2 ?c3 ?c4 ?c5 ?_
       case c1 => intro j y hy; rcases j with _ | j; (· simp at hy; subst hy; simp [Addr.add]); (· simp at hy)
       case c2 => simp [Value.oneCell']
       case c3 => unfold maxLen; omega
       case c4 => omega
       case c5 => have := HS6.out; simp; omega
       intro u7 w7 hown7 hgrow hat7
       obtain ⟨A7, c7, hu7⟩ := own_slice hown7
       subst hu7
       have hnb : ∀ j, (Value.slice A6 n c6).ownBlock = some j -> w.heap.size + 2 <= j := fun j hj => (HO6.out.lt j hj).1
       have HO7 : Hid (w7.ownsRow (w.heap.size + 2) 2 1 (.slice A7 (n + 1) c7) (n + 1) (lgVs (Z k ++ [a]))) := hidp (by unfold lgVs at hown7 ⊢; rw [List.map_append]; exact hown7)
       have HB7 := hidp ((Bnew HB6.out (.cells #[.int .i64 a] 2)).grown hgrow (by have := HB6.out.size; simp; omega) (fun j hj => by have := hnb j hj; omega))
       have HG7 := hidp (held_grownP (HG6.out.alloc (.cells #[.int .i64 a] 2)) hgrow (fun e => by have := hnb _ e; omega))
       have HR7 := hidp (held_grownP (HR6.out.alloc (.cells #[.int .i64 a] 2)) hgrow (fun e => by have := hnb _ e; omega))
       have HF7 : Hid (∀ ad, A7 = some ad -> w.heap.size <= ad.block) := hidp (fun ad e => by
         subst e
         have := (HO7.out.lt ad.block (by unfold Value.ownBlock; rfl)).1
         omega)
       clear hown7 hgrow hat7 hnb HO6 HB6 HG6 HR6
       have c0 := HG7.out.pk hk
       have g0 := HG7.out.thawed k
       obtain ⟨U2, hU2⟩ : ∃ U2, updF U k ⟨A7, n + 1, c7⟩ = U2 := ⟨_, rfl⟩
       have HU2 := hidp hU2
       have HG8 : Hid (Held (w7.setCell ⟨w.heap.size, k, none⟩ (.slice A7 (n + 1) c7)) w.heap.size 36 (pkC U2)) := hidp (by rw [<- hU2]; exact HG7.out.putP hk ⟨A7, n + 1, c7⟩)
       have HR8 : Hid (Held (w7.setCell ⟨w.heap.size, k, none⟩ (.slice A7 (n + 1) c7)) (w.heap.size + 1) 36 (pkC zeroU)) := hidp (HR7.out.far (p := ⟨w.heap.size, k, none⟩) (by show w.heap.size + 1 ≠ w.heap.size; omega) _)
       clear hU2
       obtain ⟨x0, x1, x2, x3, x4, x5, x6, x7, x8⟩ := HG8.out.nineP
       obtain ⟨z0, z1, z2, z3, z4, z5, z6, z7, z8⟩ := HR8.out.nineP
       obtain ⟨f0, f1, f2, f3, f4, f5, f6, f7, f8⟩ := HR8.out.thawP)
    | fail)
  obtain ⟨WF, hWF⟩ : ∃ WF, setP (w7.setCell ⟨w.heap.size, k, none⟩ (.slice A7 (n + 1) c7)) (w.heap.size + 1) U2 = WF := ⟨_, rfl⟩
  have zz := Held.setP HR8.out U2
  have hBF := below_setP (g := w.heap.size + 1) (Bput HB7.out (p := ⟨w.heap.size, k, none⟩) (Nat.le_refl _) (.slice A7 (n + 1) c7)) (by omega) U2
  have hOF : (setP (w7.setCell ⟨w.heap.size, k, none⟩ (.slice A7 (n + 1) c7)) (w.heap.size + 1) U2).ownsRow (w.heap.size + 2) 2 1 (.slice A7 (n + 1) c7) (n + 1) (lgVs (Z k ++ [a])) := own_kept HO7.out (fun j hj => by
    have := (HO7.out.lt j hj).1
    rw [heap_setP (by omega), Below.heap_setCell _ _ _ _ (by show j ≠ w.heap.size; omega)])
  rw [hWF] at zz hBF hOF
  unfold setP at hWF
  rw [hWF]
  obtain ⟨y0, y1, y2, y3, y4, y5, y6, y7, y8⟩ := zz.nineP
  clear x0 x1 x2 x3 x4 x5 x6 x7 x8 z0 z1 z2 z3 z4 z5 z6 z7 z8 f0 f1 f2 f3 f4 f5 f6 f7 f8
  refine bodyPost_ret (v := .tuple #[.agg (pkC U2), .bool true]) (by simp [results, Tryz.results47, go_sem, y0, y1, y2, y3, y4, y5, y6, y7, y8]) rfl ⟨⟨A7, n + 1, c7⟩, by rw [HU2.out], HF7.out, fun j hj => ?_, hBF⟩
  by_cases e : j = k
  · subst e
    rw [updF_same, updF_same]
    have hl : (Z j ++ [a]).length = n + 1 := by rw [List.length_append, HN.out]; rfl
    refine longs_of_own (base := w.heap.size + 2) (by rw [hl]; exact hOF) (fun z hz => ?_)
    rcases List.mem_append.1 hz with hz | hz
    · exact HBD.out z hz
    · rw [List.mem_singleton] at hz; subst hz; exact ha
  · rw [updF_other _ _ e, updF_other _ _ e]
    exact (HP.out j hj).below hBF
end
section
theorem slotI_pos {k : Int} (h : 0 <= k /\ k <= 8) : 0 < slotI k := by
 obtain ⟨k, rfl⟩ := Int.eq_ofNat_of_zero_le h.1
 rw [slotI_nat]
 have hk : k < 9 := by omega
 match k, hk with
 | 0, _ | 1, _ | 2, _ | 3, _ | 4, _ | 5, _ | 6, _ | 7, _ | 8, _ => decide
theorem pkIsClass_c (k : Int) (h0 : -9223372036854775808 <= k) (h1 : k <= 9223372036854775807) (b : Bool) (hb : b = true ↔ 0 <= k /\ k <= 8) (w : World) (hT : SlotsLaid w) :
  Calls Tryz.prog 129 #[.int .i64 k] w fun e w' => e = .returned (.bool b) /\ w = w' := by
 have HT := hidp hT
 obtain ⟨n, hn⟩ : ∃ n, slotI k = n := ⟨_, rfl⟩
 have hB : b = decide (0 < (n : Int)) := by
  rw [<- hn, Bool.eq_iff_iff, hb, decide_eq_true_eq]
  constructor
  ·intro h; have := slotI_pos h; omega
  ·intro h
   by_cases a : 0 <= k /\ k <= 8
   ·exact a
   ·rw [slotI_out (by omega)] at h; omega
 subst hB
 clear hT hb
 have HN := hidp hn
 clear hn
 go_enter Tryz.func129, Tryz.ntmps129
 go_wp2_with fail
 refine (clSlots_c k h0 h1 _ HT.out).mono ?_
 rintro e w1 ⟨rfl, rfl⟩
 rw [HN.out]
 go_wp2
 go_ret
 exact ⟨by simp, rfl⟩
theorem pkClip_c (A : Option Addr) (n c : Nat) (hnc : n <= c) (hcm : c <= maxLen) (hno : A = none -> n = 0 /\ c = 0) (w : World) :
  Calls Tryz.prog 136 #[.slice A n c] w fun e w' => e = .returned (.slice A n n) /\ w = w' := by
 have hc2 : c <= 9223372036854775807 := by unfold maxLen at hcm; omega
 go_enter Tryz.func136, Tryz.ntmps136
 cases A with
 | none =>
  obtain ⟨rfl, rfl⟩ := hno rfl
  go_wp2
  go_ret
  exact ⟨rfl, rfl⟩
 | some ad =>
  go_wp2
  go_ret
  exact ⟨rfl, rfl⟩

theorem pkLast_c (U : Nat -> Sl) (Z : Nat -> List Int) (k : Int) (h0 : -9223372036854775808 <= k) (h1 : k <= 9223372036854775807) (w : World) (hT : SlotsLaid w) (h : PkV w U Z) :
  Calls Tryz.prog 94 #[.agg (pkC U), .int .i64 k] w fun e w' => e = .returned (lastV (lastP Z k)) /\ Below w.heap.size w w' := by
 have HG := hidp (Held.new w 36 (pkC U))
 have HB := hidp (Bnew (B0 w) (.cells (pkC U) 36))
 have HP := hidp h
 have HT := hidp hT
 clear h hT
 by_cases hk : 0 <= k /\ k <= 8
 ·obtain ⟨k, rfl⟩ := Int.eq_ofNat_of_zero_le hk.1
  have hk9 : k < 9 := by omega
  rw [lastP_in hk9]
  obtain ⟨A, c, hu, hlc, hcm, _, hno, hcl⟩ := HP.out k hk9
  have hc := HG.out.pk hk9
  rw [hu] at hc
  clear hu
  rcases List.eq_nil_or_concat (Z k) with hz | ⟨ys, a, hz⟩
  ·rw [hz] at hc hlc ⊢
   have t2 : ((([] : List Int).length : Int) == 0) = true := rfl
   go_enter Tryz.func94, Tryz.ntmps94
   go_wp2_with fail
   refine (pkIsClass_c (k : Int) (by omega) (by omega) true (by simp; try omega) _ (HT.out.below HB.out)).mono ?_
   rintro e w1 ⟨rfl, rfl⟩
   go_wp2
   go_ret2
   exact ⟨rfl, HB.out⟩
  ·rw [hz] at hc hlc hcl hno ⊢
   obtain ⟨n, hn⟩ : ∃ n, ys.length = n := ⟨_, rfl⟩
   have hl : (ys.concat a).length = n + 1 := by rw [List.length_concat, hn]
   have hg : (ys.concat a).getLast? = some a := by rw [List.concat_eq_append]; simp
   have hx : (ys.concat a)[n]? = some a := by rw [List.concat_eq_append, <- hn]; simp
   rw [hl] at hc hlc
   rw [hg]
   cases A with
   | none => exact absurd (hno rfl).1 (by rw [List.concat_eq_append]; simp)
   | some ad =>
    have hb := (hcl ad rfl).1 (by rw [List.concat_eq_append]; simp)
    have hc2 := ((hcl ad rfl).2 n a hx)
    have hc3 : (w.alloc (.cells (pkC U) 36)).cell? (ad.add n) = some (.int .i64 a) := ((Bnew (B0 w) (.cells (pkC U) 36)).cell (p := ad.add n) (by rw [block_of_add]; exact hb)).trans hc2
    have t2 : (((n + 1 : Nat) : Int) == 0) = false := by rw [beq_eq_false_iff_ne]; omega
    have t3 : ((n + 1 : Nat) : Int) - 1 = (n : Int) := by omega
    have hn9 : n + 1 <= 9223372036854775807 := by unfold maxLen at hcm; omega
    clear hcl hno hz hl hg hx hn hc2
    go_enter Tryz.func94, Tryz.ntmps94
    go_wp2_with fail
    refine (pkIsClass_c (k : Int) (by omega) (by omega) true (by simp; try omega) _ (HT.out.below HB.out)).mono ?_
    rintro e w1 ⟨rfl, rfl⟩
    go_wp2_with fail
    go_region
    go_wp2
    go_ret2
    exact ⟨rfl, Bgo HB.out (Bdrew (B0 _))⟩
 ·rw [lastP_out (by omega)]
  go_enter Tryz.func94, Tryz.ntmps94
  go_wp2_with fail
  refine (pkIsClass_c k (by omega) (by omega) false (by simp; try omega) _ (HT.out.below HB.out)).mono ?_
  rintro e w1 ⟨rfl, rfl⟩
  go_wp2
  go_ret2
  exact ⟨rfl, HB.out⟩

set_option maxHeartbeats 6400000 in
theorem pkPush_yes (U : Nat -> Sl) (Z : Nat -> List Int) (k : Nat) (a : Int) (ha : -9223372036854775808 <= a /\ a <= 9223372036854775807) (hk : k < 9) (h3 : (Z k).length <= 3) (w : World) (hT : SlotsLaid w) (h : PkV w U Z) :
    Calls Tryz.prog 103 #[.agg (pkC U), .int .i64 (k : Int), .int .i64 a] w fun e w' => ∃ x : Sl, e = .returned (.tuple #[.agg (pkC (updF U k x)), .bool true]) /\ (∀ ad, x.a = some ad -> w.heap.size <= ad.block) /\ PkV w' (updF U k x) (updF Z k (Z k ++ [a])) /\ Below w.heap.size w w' := by
  have HG := hidp ((Held.new w 36 (pkC U)).alloc (.cells #[.slice none 0 0, .slice none 0 0, .slice none 0 0, .slice none 0 0, .slice none 0 0, .slice none 0 0, .slice none 0 0, .slice none 0 0, .slice none 0 0] 36))
  have HR : Hid (Held ((w.alloc (.cells (pkC U) 36)).alloc (.cells #[.slice none 0 0, .slice none 0 0, .slice none 0 0, .slice none 0 0, .slice none 0 0, .slice none 0 0, .slice none 0 0, .slice none 0 0, .slice none 0 0] 36)) (w.heap.size + 1) 36 (pkC zeroU)) := hidp (Held.new2 w (.cells (pkC U) 36) 36 #[.slice none 0 0, .slice none 0 0, .slice none 0 0, .slice none 0 0, .slice none 0 0, .slice none 0 0, .slice none 0 0, .slice none 0 0, .slice none 0 0])
  have HB := hidp (Bnew (Bnew (B0 w) (.cells (pkC U) 36)) (.cells #[.slice none 0 0, .slice none 0 0, .slice none 0 0, .slice none 0 0, .slice none 0 0, .slice none 0 0, .slice none 0 0, .slice none 0 0, .slice none 0 0] 36))
  have HP := hidp h
  have HT := hidp hT
  have hc1 := HG.out.pk hk
  obtain ⟨A, c, hu, hlc, hcm, hbd, hno, hcl⟩ := h k hk
  obtain ⟨n, hn⟩ : ∃ n, (Z k).length = n := ⟨_, rfl⟩
  rw [hn] at hu hlc h3
  rw [hu] at hc1
  have HN := hidp hn
  have HNO : Hid (A = none -> n = 0 /\ c = 0) := hidp (fun e => ⟨by rw [<- hn, (hno e).1]; rfl, (hno e).2⟩)
  have HCL := hidp hcl
  have HBD := hidp hbd
  obtain ⟨i0, hi0, hz0, hz1, hz2⟩ := info_parts longInfo
  have t2 : decide ((4 : Int) <= (n : Int)) = false := decide_eq_false (by omega)
  have t2n : decide (4 <= n) = false := decide_eq_false (by omega)
  clear h hT hu hn hbd hcl hno
  go_enter Tryz.func103, Tryz.ntmps103
  go_wp2_with fail
  refine (pkIsClass_c (k : Int) (by omega) (by omega) true (by simp; try omega) _ (HT.out.below HB.out)).mono ?_
  rintro e w1 ⟨rfl, rfl⟩
  go_wp2_with fail
  refine (pkClip_c A n c hlc hcm HNO.out _).mono ?_
  rintro e w1 ⟨rfl, rfl⟩
  go_wp2_with (first
    | (at_builtin
       refine wpList_append_grows _ rfl _ _ 34 rfl 2 i0 (.int .i64 0) 1 8 Tryz.underlying34 hi0 hz0 hz1 hz2 rfl (by decide) A n n (lgVs (Z k)) rfl ?d0 ?d1 ?d2 ⟨_, 0, none⟩ 1 1 [.int .i64 a] rfl rfl ?c1 ?c2 ?c3 ?c4 ?c5 ?_
       case d0 => intro e; exact ⟨(HNO.out e).1, (HNO.out e).1⟩
       case d1 => rw [lgVs_len, HN.out]; omega
       case d2 => intro ad hA j y hy; obtain ⟨z, hz, rfl⟩ := lgVs_get hy; exact ((Bnew HB.out (.cells #[.int .i64 a] 2)).cell (p := ad.add j) (by rw [block_of_add]; exact (HCL.out ad hA).1 (fun e => by rw [e] at hz; simp at hz))).trans ((HCL.out ad hA).2 j z hz)
       case c1 => intro j y hy; rcases j with _ | j; (· simp at hy; subst hy; have h9 := (Held.new ((w.alloc (.cells (pkC U) 36)).alloc (.cells #[.slice none 0 0, .slice none 0 0, .slice none 0 0, .slice none 0 0, .slice none 0 0, .slice none 0 0, .slice none 0 0, .slice none 0 0, .slice none 0 0] 36)) 2 #[.int .i64 a]).cell 0; simpa [Addr.add] using h9); (· simp at hy)
       case c2 => simp [Value.oneCell']
       case c3 => omega
       case c4 => unfold maxLen; omega
       case c5 => omega
       intro u7 w7 hown7 hgrow
       have HO7 : Hid (w7.ownsRow (w.heap.size + 3) 2 1 u7 (n + 1) (lgVs (Z k ++ [a]))) := hidp (by
         have : ((w.alloc (.cells (pkC U) 36)).alloc (.cells #[.slice none 0 0, .slice none 0 0, .slice none 0 0, .slice none 0 0, .slice none 0 0, .slice none 0 0, .slice none 0 0, .slice none 0 0, .slice none 0 0] 36)).heap.size + 1 = w.heap.size + 3 := by simp
         unfold lgVs at hown7 ⊢
         rw [List.map_append]
         simpa using hown7)
       obtain ⟨A7, c7, hu7⟩ := own_slice HO7.out
       subst hu7
       have HF7 : Hid (∀ ad, A7 = some ad -> w.heap.size <= ad.block) := hidp (fun ad e => by
         subst e
         have := (HO7.out.lt ad.block (by unfold Value.ownBlock; rfl)).1
         omega)
       have HB7 := hidp ((Bnew HB.out (.cells #[.int .i64 a] 2)).grown hgrow (by have := HB.out.size; simp; omega) (fun j hj => by cases hj))
       have HG7 := hidp (held_grownP (HG.out.alloc (.cells #[.int .i64 a] 2)) hgrow (fun e => by cases e))
       have HR7 := hidp (held_grownP (HR.out.alloc (.cells #[.int .i64 a] 2)) hgrow (fun e => by cases e))
       clear hown7 hgrow HB HG HR HCL hc1
       have c0 := HG7.out.pk hk
       have g0 := HG7.out.thawed k
       obtain ⟨U2, hU2⟩ : ∃ U2, updF U k ⟨A7, n + 1, c7⟩ = U2 := ⟨_, rfl⟩
       have HU2 := hidp hU2
       have HG8 : Hid (Held (w7.setCell ⟨w.heap.size, k, none⟩ (.slice A7 (n + 1) c7)) w.heap.size 36 (pkC U2)) := hidp (by rw [<- hU2]; exact HG7.out.putP hk ⟨A7, n + 1, c7⟩)
       have HR8 : Hid (Held (w7.setCell ⟨w.heap.size, k, none⟩ (.slice A7 (n + 1) c7)) (w.heap.size + 1) 36 (pkC zeroU)) := hidp (HR7.out.far (p := ⟨w.heap.size, k, none⟩) (by show w.heap.size + 1 ≠ w.heap.size; omega) _)
       clear hU2
       obtain ⟨x0, x1, x2, x3, x4, x5, x6, x7, x8⟩ := HG8.out.nineP
       obtain ⟨z0, z1, z2, z3, z4, z5, z6, z7, z8⟩ := HR8.out.nineP
       obtain ⟨f0, f1, f2, f3, f4, f5, f6, f7, f8⟩ := HR8.out.thawP)
    | fail)
  obtain ⟨WF, hWF⟩ : ∃ WF, setP (w7.setCell ⟨w.heap.size, k, none⟩ (.slice A7 (n + 1) c7)) (w.heap.size + 1) U2 = WF := ⟨_, rfl⟩
  have zz := Held.setP HR8.out U2
  have hBF := below_setP (g := w.heap.size + 1) (Bput HB7.out (p := ⟨w.heap.size, k, none⟩) (Nat.le_refl _) (.slice A7 (n + 1) c7)) (by omega) U2
  have hOF : (setP (w7.setCell ⟨w.heap.size, k, none⟩ (.slice A7 (n + 1) c7)) (w.heap.size + 1) U2).ownsRow (w.heap.size + 3) 2 1 (.slice A7 (n + 1) c7) (n + 1) (lgVs (Z k ++ [a])) := own_kept HO7.out (fun j hj => by
    have := (HO7.out.lt j hj).1
    rw [heap_setP (by omega), Below.heap_setCell _ _ _ _ (by show j ≠ w.heap.size; omega)])
  rw [hWF] at zz hBF hOF
  unfold setP at hWF
  rw [hWF]
  obtain ⟨y0, y1, y2, y3, y4, y5, y6, y7, y8⟩ := zz.nineP
  clear x0 x1 x2 x3 x4 x5 x6 x7 x8 z0 z1 z2 z3 z4 z5 z6 z7 z8 f0 f1 f2 f3 f4 f5 f6 f7 f8
  refine bodyPost_ret (v := .tuple #[.agg (pkC U2), .bool true]) (by simp [results, Tryz.results103, go_sem, y0, y1, y2, y3, y4, y5, y6, y7, y8]) rfl ⟨⟨A7, n + 1, c7⟩, by rw [HU2.out], HF7.out, fun j hj => ?_, hBF⟩
  by_cases e : j = k
  · subst e
    rw [updF_same, updF_same]
    have hl : (Z j ++ [a]).length = n + 1 := by rw [List.length_append, HN.out]; rfl
    refine longs_of_own (base := w.heap.size + 3) (by rw [hl]; exact hOF) (fun z hz => ?_)
    rcases List.mem_append.1 hz with hz | hz
    · exact HBD.out z hz
    · rw [List.mem_singleton] at hz; subst hz; exact ha
  · rw [updF_other _ _ e, updF_other _ _ e]
    exact (HP.out j hj).below hBF
end
section
theorem CloneLongs_c (A : Option Addr) (n c : Nat) (xs : List Value) (hl : xs.length = n * 1) (hmx : n * 8 <= 140737488355328) (h1 : ∀ u ∈ xs, u.oneCell' = true) (w : World)
    (hA : 0 < n -> ∃ ad, A = some ad /\ ∀ j u, xs[j]? = some u -> w.cell? (ad.add j) = some u) :
    Calls Tryz.prog 110 #[.slice A n c] w fun e w' => ∃ v, e = .returned v /\ w'.ownsRow w.heap.size 2 1 v n xs /\ Below w.heap.size w w' := by
  have q22 : ∀ (w : World) (a : Option Addr) (n c n' c' : Nat), (binOp .eql 34 (.slice a n c) (.slice none n' c')).run Tryz.prog w = .ok (.bool a.isNone) w := fun w a n c n' c' => Lib.run_eql_slice_nil w _ _ a n c n' c' Tryz.underlying34
  cases A with
  | none =>
    have hn : n = 0 := by
      rcases Nat.eq_zero_or_pos n with h | h
      · exact h
      · obtain ⟨ad, h2, _⟩ := hA h
        cases h2
    subst hn
    have hx : xs = [] := List.eq_nil_of_length_eq_zero (by omega)
    subst hx
    go_enter Tryz.func110, Tryz.ntmps110
    go_wp2
    go_ret
    exact ⟨_, rfl, World.ownsRow_nil _ _ _ _, B0 _⟩
  | some ad =>
    obtain ⟨i0, hi, hz0, hz1, hz2⟩ := info_parts longInfo
    have HC : Hid (∀ j u, xs[j]? = some u -> w.cell? (ad.add j) = some u) := hidp (fun j u hu => by
      rcases Nat.eq_zero_or_pos n with h | h
      · have hx : xs = [] := List.eq_nil_of_length_eq_zero (by simp [hl, h])
        subst hx
        cases hu
      · obtain ⟨ad', h2, h3⟩ := hA h
        injection h2 with h2
        subst h2
        exact h3 j u hu)
    clear hA
    go_enter Tryz.func110, Tryz.ntmps110
    go_wp2_with (at_builtin
                 refine wpList_append_own _ rfl _ _ 34 rfl w.heap.size 2 i0 (.int .i64 0) 1 8 Tryz.underlying34 hi hz0 hz1 hz2 rfl (by decide) _ 0 [] rfl (World.ownsRow_made w #[] 0 (Nat.le_refl _) (Nat.zero_le _) (by simp)) ad n c xs rfl ?c1 ?c2 ?c3 ?c4 ?c5 ?c6 ?_)
    case c1 => exact hl
    case c2 => exact fun j u hj => Lib.cell?_alloc_some _ (HC.out j u hj)
    case c3 => exact h1
    case c4 => rw [Nat.zero_add]; unfold maxLen; omega
    case c5 => rw [Nat.zero_add]; exact hmx
    case c6 => simp
    intro v' w1 hown hgrow hnil
    have HB := hidp (((Below.refl _ w).alloc (Nat.le_refl _) (.cells #[] 2)).grown hgrow (by simp) (by intro k hk; simp [Value.ownBlock] at hk; omega))
    have HO := hidp hown
    clear hgrow hown hnil
    go_wp2
    go_ret
    exact ⟨_, rfl, by simpa using HO.out, HB.out⟩
theorem lgVs_one (l : List Int) : ∀ u ∈ lgVs l, u.oneCell' = true := fun y hy => by
 obtain ⟨j, hj⟩ := List.mem_iff_getElem?.1 hy
 obtain ⟨z, _, rfl⟩ := lgVs_get hj
 simp [Value.oneCell']

theorem pkPop_no (U : Nat -> Sl) (Z : Nat -> List Int) (k : Int) (h0 : -9223372036854775808 <= k) (h1 : k <= 9223372036854775807) (w : World) (hT : SlotsLaid w) (h : PkV w U Z) (hn : lastP Z k = none) :
  Calls Tryz.prog 75 #[.agg (pkC U), .int .i64 k] w fun e w' => e = .returned (.tuple #[.int .i64 0, .agg (pkC U), .bool false]) /\ Below w.heap.size w w' := by
 have HG := hidp ((Held.new w 36 (pkC U)).alloc (.cells #[.slice none 0 0, .slice none 0 0, .slice none 0 0, .slice none 0 0, .slice none 0 0, .slice none 0 0, .slice none 0 0, .slice none 0 0, .slice none 0 0] 36))
 have HR := hidp (Held.new2 w (.cells (pkC U) 36) 36 #[.slice none 0 0, .slice none 0 0, .slice none 0 0, .slice none 0 0, .slice none 0 0, .slice none 0 0, .slice none 0 0, .slice none 0 0, .slice none 0 0])
 have HB := hidp (Bnew (Bnew (B0 w) (.cells (pkC U) 36)) (.cells #[.slice none 0 0, .slice none 0 0, .slice none 0 0, .slice none 0 0, .slice none 0 0, .slice none 0 0, .slice none 0 0, .slice none 0 0, .slice none 0 0] 36))
 have HP := hidp h
 have HT := hidp hT
 have HN := hidp hn
 clear h hn hT
 obtain ⟨x0, x1, x2, x3, x4, x5, x6, x7, x8⟩ := HG.out.nineP
 go_enter Tryz.func75, Tryz.ntmps75
 go_wp2_with fail
 refine (pkLast_c U Z k h0 h1 _ (HT.out.below HB.out) (HP.out.below HB.out)).mono ?_
 rintro e w2 ⟨rfl, hb⟩
 rw [HN.out, show lastV none = .tuple #[.int .i64 0, .bool false] from rfl]
 replace HG := hidp (HG.out.keep hb)
 replace HR : Hid (Held w2 (w.heap.size + 1) 36 (pkC zeroU)) := hidp (HR.out.keep hb)
 replace HB := hidp (Bgo HB.out hb)
 clear hb x0 x1 x2 x3 x4 x5 x6 x7 x8
 obtain ⟨x0, x1, x2, x3, x4, x5, x6, x7, x8⟩ := HG.out.nineP
 obtain ⟨z0, z1, z2, z3, z4, z5, z6, z7, z8⟩ := HR.out.nineP
 obtain ⟨f0, f1, f2, f3, f4, f5, f6, f7, f8⟩ := HR.out.thawP
 go_wp2_with fail
 go_region
 obtain ⟨WF, hWF⟩ : ∃ WF, setP w2 (w.heap.size + 1) U = WF := ⟨_, rfl⟩
 have zz := Held.setP HR.out U
 have hBF := below_setP (g := w.heap.size + 1) HB.out (by omega) U
 rw [hWF] at zz hBF
 unfold setP at hWF
 rw [hWF]
 replace zz := zz.keep (Bdrew (B0 _))
 replace hBF := Bgo hBF (Bdrew (B0 _))
 obtain ⟨y0, y1, y2, y3, y4, y5, y6, y7, y8⟩ := zz.nineP
 clear x0 x1 x2 x3 x4 x5 x6 x7 x8 z0 z1 z2 z3 z4 z5 z6 z7 z8 f0 f1 f2 f3 f4 f5 f6 f7 f8
 go_wp2
 exact bodyPost_ret (v := .tuple #[.int .i64 0, .agg (pkC U), .bool false]) (by simp [results, Tryz.results75, go_sem, y0, y1, y2, y3, y4, y5, y6, y7, y8]) rfl ⟨rfl, hBF⟩
end
section
set_option maxHeartbeats 6400000 in
theorem pkPop_yes (U : Nat -> Sl) (Z : Nat -> List Int) (k : Nat) (ys : List Int) (a : Int) (hk : k < 9) (hz : Z k = ys ++ [a]) (h4 : ys.length <= 1000000) (w : World) (hT : SlotsLaid w) (h : PkV w U Z) :
  Calls Tryz.prog 75 #[.agg (pkC U), .int .i64 (k : Int)] w fun e w' => ∃ x : Sl, e = .returned (.tuple #[.int .i64 a, .agg (pkC (updF U k x)), .bool true]) /\ (∀ ad, x.a = some ad -> w.heap.size <= ad.block) /\ PkV w' (updF U k x) (updF Z k ys) /\ Below w.heap.size w w' := by
 have HG := hidp ((Held.new w 36 (pkC U)).alloc (.cells #[.slice none 0 0, .slice none 0 0, .slice none 0 0, .slice none 0 0, .slice none 0 0, .slice none 0 0, .slice none 0 0, .slice none 0 0, .slice none 0 0] 36))
 have HR := hidp (Held.new2 w (.cells (pkC U) 36) 36 #[.slice none 0 0, .slice none 0 0, .slice none 0 0, .slice none 0 0, .slice none 0 0, .slice none 0 0, .slice none 0 0, .slice none 0 0, .slice none 0 0])
 have HB := hidp (Bnew (Bnew (B0 w) (.cells (pkC U) 36)) (.cells #[.slice none 0 0, .slice none 0 0, .slice none 0 0, .slice none 0 0, .slice none 0 0, .slice none 0 0, .slice none 0 0, .slice none 0 0, .slice none 0 0] 36))
 have HP := hidp h
 have HT := hidp hT
 have HN : Hid (lastP Z (k : Int) = some a) := hidp (by rw [lastP_in hk, hz]; simp)
 obtain ⟨A, c, hu, hlc, hcm, hbd, hno, hcl⟩ := h k hk
 obtain ⟨n, hn⟩ : ∃ n, ys.length = n := ⟨_, rfl⟩
 have hl : (Z k).length = n + 1 := by rw [hz, List.length_append, hn]; rfl
 rw [hl] at hu hlc
 rw [hn] at h4
 have HYL := hidp hn
 obtain ⟨x, hx⟩ : ∃ x, U k = x := ⟨_, rfl⟩
 rw [hx] at hu
 obtain ⟨xa, xn, xc⟩ := x
 injection hu with e1 e2 e3
 have e1 : xa = A := e1
 have e2 : xn = n + 1 := e2
 have e3 : xc = c := e3
 subst e1 e2 e3
 have HX := hidp hx
 have hxa : xa ≠ none := fun e => absurd (hno e).1 (by rw [hz]; simp)
 have hn9 : n + 1 <= 9223372036854775807 := by unfold maxLen at hcm; omega
 obtain ⟨ad, rfl⟩ : ∃ ad, xa = some ad := by cases xa with | none => exact absurd rfl hxa | some ad => exact ⟨ad, rfl⟩
 have HYB : Hid (∀ z ∈ ys, -9223372036854775808 <= z /\ z <= 9223372036854775807) := hidp (fun z hz2 => hbd z (by rw [hz]; exact List.mem_append_left _ hz2))
 have HYC : Hid (∀ w', Below w.heap.size w w' -> ∀ j u, (lgVs ys)[j]? = some u -> w'.cell? (ad.add j) = some u) := hidp (fun w' hb j u hu => by
  obtain ⟨z, hz2, rfl⟩ := lgVs_get hu
  have h1 := (hcl ad rfl).1 (by rw [hz]; simp)
  refine (hb.cell (p := ad.add j) (by rw [block_of_add]; exact h1)).trans ((hcl ad rfl).2 j z ?_)
  rw [hz, List.getElem?_append_left (by
   rcases Nat.lt_or_ge j ys.length with h1 | h1
   ·exact h1
   ·rw [List.getElem?_eq_none h1] at hz2; cases hz2)]
  exact hz2)
 have hki : (k : Int) < 9 := by omega
 have hxc : n + 1 <= xc := hlc
 have t3 : ((n + 1 : Nat) : Int) - 1 = (n : Int) := by omega
 have t4 : IntKind.i64.wrap (n : Int) = (n : Int) := i64_same (by omega) (by omega)
 have t5 : 0 <= (n : Int) /\ (n : Int) <= (xc : Int) := ⟨by omega, by omega⟩
 have h0 : -9223372036854775808 <= (k : Int) := by omega
 have h1 : (k : Int) <= 9223372036854775807 := by omega
 clear h hT hz hl hx hbd hno hcl hn hxa
 obtain ⟨x0, x1, x2, x3, x4, x5, x6, x7, x8⟩ := HG.out.nineP
 go_enter Tryz.func75, Tryz.ntmps75
 go_wp2_with fail
 refine (pkLast_c U Z k h0 h1 _ (HT.out.below HB.out) (HP.out.below HB.out)).mono ?_
 rintro e w2 ⟨rfl, hb⟩
 rw [HN.out, show lastV (some a) = .tuple #[.int .i64 a, .bool true] from rfl]
 replace HG := hidp (HG.out.keep hb)
 replace HR : Hid (Held w2 (w.heap.size + 1) 36 (pkC zeroU)) := hidp (HR.out.keep hb)
 replace HB := hidp (Bgo HB.out hb)
 clear hb x0 x1 x2 x3 x4 x5 x6 x7 x8
 have HLT : Hid (w.heap.size < w2.drew.heap.size) := hidp HG.out.lt
 have HLT2 : Hid (w.heap.size + 1 < w2.drew.heap.size) := hidp HR.out.lt
 have c0 := HG.out.pk hk
 rw [HX.out] at c0
 go_wp2_with fail
 refine wp_region_held_drew (S := (fun _ => True)) (by kernel_rfl) ?_ (fun hHeld => ?_)
 ·trivial
 refine tkz 0 ?_
 refine tkz 1 ?_
 refine tkz 2 ?_
 refine tkz 4 ?_
 refine tkz 5 ?_
 refine wpAnyH_ready (rs := [3, 6]) (by kernel_rfl) (by simp) ?_
 refine AllReadyH.cons (o := _) rfl (fun K hK => ?_) (AllReadyH.cons (o := _) rfl (fun K hK => ?_) AllReadyH.nil)
 ·go_simp
  refine hK.out _ _ ?_ (fun hHeld => ?_)
  ·(try dsimp only)
   all_goals trivial
  clear hK K
  (try simp only [Act.put, gA, gB, gC, sA, sB, sC])
  refine rdz 6 fun K hK => ?_
  go_simp
  skip
  refine hK.out _ _ ?_ (fun hHeld => ?_)
  ·(try dsimp only)
   all_goals trivial
  clear hK K
  (try simp only [Act.put, gA, gB, gC, sA, sB, sC])
  refine tkz 7 ?_
  refine tkz 8 ?_
  refine tkz 9 ?_
  refine rdz 10 fun K hK => ?_
  go_simp
  refine (CloneLongs_c (some ad) n xc (lgVs ys) (by rw [lgVs_len, HYL.out]; omega) (by omega) (lgVs_one ys) _ (fun _ => ⟨ad, rfl, HYC.out _ (Bgo HB.out (Bdrew (B0 _)))⟩)).mono ?_
  rintro e w7 ⟨v7, rfl, hown, hb⟩
  obtain ⟨A7, c7, hu7⟩ := own_slice hown
  subst hu7
  have HO := hidp hown
  replace HG := hidp ((HG.out.keep (Bdrew (B0 _))).keep hb)
  replace HR := hidp ((HR.out.keep (Bdrew (B0 _))).keep hb)
  have HSZ : Hid (w.heap.size <= w2.drew.heap.size) := hidp (Bgo HB.out (Bdrew (B0 _))).size
  replace HB := hidp (Bgo (Bgo HB.out (Bdrew (B0 _))) hb)
  clear hb hown c0
  refine hK.out _ _ ?_ (fun hHeld => ?_)
  ·(try dsimp only)
   all_goals trivial
  clear hK K
  (try simp only [Act.put, gA, gB, gC, sA, sB, sC])
  refine tkz 11 ?_
  refine rdz 12 fun K hK => ?_
  have c0 := HG.out.pk hk
  rw [HX.out] at c0
  have f0 := HG.out.thawed k
  go_simp
  refine hK.out _ _ ?_ (fun hHeld => ?_)
  ·(try dsimp only)
   all_goals trivial
  clear hK K
  (try simp only [Act.put, gA, gB, gC, sA, sB, sC])
  refine dnz ?_
  obtain ⟨WF, hWF⟩ : ∃ WF, w7.setCell ⟨w.heap.size, k, none⟩ (.slice A7 n c7) = WF := ⟨_, rfl⟩
  have zz : Held (w7.setCell ⟨w.heap.size, k, none⟩ (.slice A7 n c7)) _ _ (pkC (updF U k ⟨A7, n, c7⟩)) := HG.out.putP hk ⟨A7, n, c7⟩
  have hBF := Bput HB.out (p := ⟨w.heap.size, k, none⟩) (Nat.le_refl _) (.slice A7 n c7)
  have hR2 := HR.out.far (p := ⟨w.heap.size, k, none⟩) (by show w.heap.size + 1 ≠ w.heap.size; omega) (.slice A7 n c7)
  have hO2 : (w7.setCell ⟨w.heap.size, k, none⟩ (.slice A7 n c7)).ownsRow w2.drew.heap.size 2 1 (.slice A7 n c7) n (lgVs ys) := own_kept HO.out (fun j hj => by
   have h1 := (HO.out.lt j hj).1
   have h2 := HSZ.out
   have h3 : w.heap.size < w2.drew.heap.size := HLT.out
   rw [Below.heap_setCell _ _ _ _ (by show j ≠ w.heap.size; omega)])
  rw [hWF] at zz hBF hR2 hO2
  rw [hWF]
  clear hWF c0 f0 HG HR HB HO
  have HG := hidp zz
  have HR := hidp hR2
  have HB := hidp hBF
  have HO := hidp hO2
  have HF : Hid (∀ ad, A7 = some ad -> w.heap.size <= ad.block) := hidp (fun ad e => by
   subst e
   have := (HO.out.lt ad.block (by unfold Value.ownBlock; rfl)).1
   have := HSZ.out
   omega)
  clear zz hBF hR2 hO2
  obtain ⟨U2, hU2⟩ : ∃ U2, updF U k ⟨A7, n, c7⟩ = U2 := ⟨_, rfl⟩
  have HU2 := hidp hU2
  rw [hU2] at HG
  clear hU2
  obtain ⟨x0, x1, x2, x3, x4, x5, x6, x7, x8⟩ := HG.out.nineP
  obtain ⟨z0, z1, z2, z3, z4, z5, z6, z7, z8⟩ := HR.out.nineP
  obtain ⟨f0, f1, f2, f3, f4, f5, f6, f7, f8⟩ := HR.out.thawP
  go_wp2_with fail
  go_region
  obtain ⟨WF2, hWF⟩ : ∃ WF2, setP WF (w.heap.size + 1) U2 = WF2 := ⟨_, rfl⟩
  have zz := Held.setP HR.out U2
  have hBF := below_setP (g := w.heap.size + 1) HB.out (by omega) U2
  have hOF : (setP WF (w.heap.size + 1) U2).ownsRow w2.drew.heap.size 2 1 (.slice A7 n c7) n (lgVs ys) := own_kept HO.out (fun j hj => by
   have h1 := (HO.out.lt j hj).1
   have h2 : w.heap.size + 1 < w2.drew.heap.size := HLT2.out
   rw [heap_setP (by omega)])
  rw [hWF] at zz hBF hOF
  unfold setP at hWF
  rw [hWF]
  replace zz := zz.keep (Bdrew (B0 _))
  replace hBF := Bgo hBF (Bdrew (B0 _))
  replace hOF := own_below hOF (Bdrew (B0 _))
  obtain ⟨y0, y1, y2, y3, y4, y5, y6, y7, y8⟩ := zz.nineP
  clear x0 x1 x2 x3 x4 x5 x6 x7 x8 z0 z1 z2 z3 z4 z5 z6 z7 z8 f0 f1 f2 f3 f4 f5 f6 f7 f8
  go_wp2
  refine bodyPost_ret (v := .tuple #[.int .i64 a, .agg (pkC U2), .bool true]) (by simp [results, Tryz.results75, go_sem, y0, y1, y2, y3, y4, y5, y6, y7, y8]) rfl ⟨⟨A7, n, c7⟩, by rw [HU2.out], HF.out, fun j hj => ?_, hBF⟩
  by_cases e : j = k
  ·subst e
   rw [updF_same, updF_same]
   exact longs_of_own (base := w2.drew.heap.size) (by rw [HYL.out]; exact hOF) HYB.out
  ·rw [updF_other _ _ e, updF_other _ _ e]
   exact (HP.out j hj).below hBF
 ·go_simp
  refine hK.out _ _ ?_ (fun hHeld => ?_)
  ·(try dsimp only)
   all_goals trivial
  clear hK K
  (try simp only [Act.put, gA, gB, gC, sA, sB, sC])
  refine tkz 7 ?_
  refine tkz 8 ?_
  refine rdz 3 fun K hK => ?_
  go_simp
  skip
  refine hK.out _ _ ?_ (fun hHeld => ?_)
  ·(try dsimp only)
   all_goals trivial
  clear hK K
  (try simp only [Act.put, gA, gB, gC, sA, sB, sC])
  refine tkz 9 ?_
  refine rdz 10 fun K hK => ?_
  go_simp
  refine (CloneLongs_c (some ad) n xc (lgVs ys) (by rw [lgVs_len, HYL.out]; omega) (by omega) (lgVs_one ys) _ (fun _ => ⟨ad, rfl, HYC.out _ (Bgo HB.out (Bdrew (B0 _)))⟩)).mono ?_
  rintro e w7 ⟨v7, rfl, hown, hb⟩
  obtain ⟨A7, c7, hu7⟩ := own_slice hown
  subst hu7
  have HO := hidp hown
  replace HG := hidp ((HG.out.keep (Bdrew (B0 _))).keep hb)
  replace HR := hidp ((HR.out.keep (Bdrew (B0 _))).keep hb)
  have HSZ : Hid (w.heap.size <= w2.drew.heap.size) := hidp (Bgo HB.out (Bdrew (B0 _))).size
  replace HB := hidp (Bgo (Bgo HB.out (Bdrew (B0 _))) hb)
  clear hb hown c0
  refine hK.out _ _ ?_ (fun hHeld => ?_)
  ·(try dsimp only)
   all_goals trivial
  clear hK K
  (try simp only [Act.put, gA, gB, gC, sA, sB, sC])
  refine tkz 11 ?_
  refine rdz 12 fun K hK => ?_
  have c0 := HG.out.pk hk
  rw [HX.out] at c0
  have f0 := HG.out.thawed k
  go_simp
  refine hK.out _ _ ?_ (fun hHeld => ?_)
  ·(try dsimp only)
   all_goals trivial
  clear hK K
  (try simp only [Act.put, gA, gB, gC, sA, sB, sC])
  refine dnz ?_
  obtain ⟨WF, hWF⟩ : ∃ WF, w7.setCell ⟨w.heap.size, k, none⟩ (.slice A7 n c7) = WF := ⟨_, rfl⟩
  have zz : Held (w7.setCell ⟨w.heap.size, k, none⟩ (.slice A7 n c7)) _ _ (pkC (updF U k ⟨A7, n, c7⟩)) := HG.out.putP hk ⟨A7, n, c7⟩
  have hBF := Bput HB.out (p := ⟨w.heap.size, k, none⟩) (Nat.le_refl _) (.slice A7 n c7)
  have hR2 := HR.out.far (p := ⟨w.heap.size, k, none⟩) (by show w.heap.size + 1 ≠ w.heap.size; omega) (.slice A7 n c7)
  have hO2 : (w7.setCell ⟨w.heap.size, k, none⟩ (.slice A7 n c7)).ownsRow w2.drew.heap.size 2 1 (.slice A7 n c7) n (lgVs ys) := own_kept HO.out (fun j hj => by
   have h1 := (HO.out.lt j hj).1
   have h2 := HSZ.out
   have h3 : w.heap.size < w2.drew.heap.size := HLT.out
   rw [Below.heap_setCell _ _ _ _ (by show j ≠ w.heap.size; omega)])
  rw [hWF] at zz hBF hR2 hO2
  rw [hWF]
  clear hWF c0 f0 HG HR HB HO
  have HG := hidp zz
  have HR := hidp hR2
  have HB := hidp hBF
  have HO := hidp hO2
  have HF : Hid (∀ ad, A7 = some ad -> w.heap.size <= ad.block) := hidp (fun ad e => by
   subst e
   have := (HO.out.lt ad.block (by unfold Value.ownBlock; rfl)).1
   have := HSZ.out
   omega)
  clear zz hBF hR2 hO2
  obtain ⟨U2, hU2⟩ : ∃ U2, updF U k ⟨A7, n, c7⟩ = U2 := ⟨_, rfl⟩
  have HU2 := hidp hU2
  rw [hU2] at HG
  clear hU2
  obtain ⟨x0, x1, x2, x3, x4, x5, x6, x7, x8⟩ := HG.out.nineP
  obtain ⟨z0, z1, z2, z3, z4, z5, z6, z7, z8⟩ := HR.out.nineP
  obtain ⟨f0, f1, f2, f3, f4, f5, f6, f7, f8⟩ := HR.out.thawP
  go_wp2_with fail
  go_region
  obtain ⟨WF2, hWF⟩ : ∃ WF2, setP WF (w.heap.size + 1) U2 = WF2 := ⟨_, rfl⟩
  have zz := Held.setP HR.out U2
  have hBF := below_setP (g := w.heap.size + 1) HB.out (by omega) U2
  have hOF : (setP WF (w.heap.size + 1) U2).ownsRow w2.drew.heap.size 2 1 (.slice A7 n c7) n (lgVs ys) := own_kept HO.out (fun j hj => by
   have h1 := (HO.out.lt j hj).1
   have h2 : w.heap.size + 1 < w2.drew.heap.size := HLT2.out
   rw [heap_setP (by omega)])
  rw [hWF] at zz hBF hOF
  unfold setP at hWF
  rw [hWF]
  replace zz := zz.keep (Bdrew (B0 _))
  replace hBF := Bgo hBF (Bdrew (B0 _))
  replace hOF := own_below hOF (Bdrew (B0 _))
  obtain ⟨y0, y1, y2, y3, y4, y5, y6, y7, y8⟩ := zz.nineP
  clear x0 x1 x2 x3 x4 x5 x6 x7 x8 z0 z1 z2 z3 z4 z5 z6 z7 z8 f0 f1 f2 f3 f4 f5 f6 f7 f8
  go_wp2
  refine bodyPost_ret (v := .tuple #[.int .i64 a, .agg (pkC U2), .bool true]) (by simp [results, Tryz.results75, go_sem, y0, y1, y2, y3, y4, y5, y6, y7, y8]) rfl ⟨⟨A7, n, c7⟩, by rw [HU2.out], HF.out, fun j hj => ?_, hBF⟩
  by_cases e : j = k
  ·subst e
   rw [updF_same, updF_same]
   exact longs_of_own (base := w2.drew.heap.size) (by rw [HYL.out]; exact hOF) HYB.out
  ·rw [updF_other _ _ e, updF_other _ _ e]
   exact (HP.out j hj).below hBF
end
section
section
variable {O : Ob} {w w0 : World} {A Q G : Nat -> Prop} {g b : Nat} {t q s : Int} {U : Nat -> Sl} {Z : Nat -> List Int} {st : Vst}

set_option maxHeartbeats 3200000 in
theorem smKeep_yes (k : Nat) (hk : k < 9) (p i a : Int) (ha : atI t q s (k : Int) p i = a) (hab : -9223372036854775808 <= a /\ a <= 9223372036854775807) (h3 : (Z k).length <= 3) (hT : SlotsLaid w) (h : Hnd O w0 A Q G w g b t q s U Z st w) :
  Calls Tryz.prog 62 #[.pointer (some ⟨g, 0, none⟩), .int .i64 (k : Int), .int .i64 p, .int .i64 i] w fun e w' => e = .returned (.bool true) /\ ∃ x : Sl, (∀ ad, x.a = some ad -> w.heap.size <= ad.block) /\ Turns (fun i => i = g) w w' /\ Hnd O w0 A Q G w g b t q s (updF U k x) (updF Z k (Z k ++ [a])) st w' := by
 have HN := hidp h
 have HT := hidp hT
 have HA := hidp ha
 have HB := hidp (B0 w)
 clear h hT ha
 obtain ⟨x0, x1, x2, x3⟩ := HN.out.held.hd4
 obtain ⟨u0, u1, u2, u3, u4, u5, u6, u7, u8⟩ := HN.out.held.hdU
 go_enter Tryz.func62, Tryz.ntmps62
 go_wp2_with fail
 refine (adAt_c t q s (k : Int) p i (by omega) (by omega) _ HT.out).mono ?_
 rintro e w2 ⟨rfl, hb⟩
 rw [HA.out]
 replace HN := hidp (HN.out.keep hb)
 replace HB := hidp (Bgo HB.out hb)
 clear hb
 clear x0 x1 x2 x3 u0 u1 u2 u3 u4 u5 u6 u7 u8
 obtain ⟨x0, x1, x2, x3⟩ := HN.out.held.hd4
 obtain ⟨u0, u1, u2, u3, u4, u5, u6, u7, u8⟩ := HN.out.held.hdU
 go_wp2_with fail
 refine (pkPush_yes U Z k a hab hk h3 _ (HT.out.below HB.out) HN.out.p.pk).mono ?_
 rintro e w3 ⟨x, rfl, hx, hV, hb⟩
 have HNT := hidp (HN.out.turn hb hV (fun i hi => hi.turn_new hx))
 have HX := hidp (fun ad (e : x.a = some ad) => Nat.le_trans HB.out.size (hx ad e))
 have HTU := hidp (fun V => Turns.setH (F := fun i => i = g) (Turns.of_below (Bgo HB.out hb) _) rfl V)
 replace HN := hidp (HN.out.keep hb)
 obtain ⟨U2, hU2⟩ : ∃ U2, (updF U k x) = U2 := ⟨_, rfl⟩
 have HU2 := hidp hU2
 rw [hU2] at HNT ⊢
 clear hb hx hV hU2 HB HT HA
 clear x0 x1 x2 x3 u0 u1 u2 u3 u4 u5 u6 u7 u8
 obtain ⟨x0, x1, x2, x3⟩ := HN.out.held.hd4
 obtain ⟨u0, u1, u2, u3, u4, u5, u6, u7, u8⟩ := HN.out.held.hdU
 obtain ⟨f0, f1, f2, f3, f4, f5, f6, f7, f8⟩ := HN.out.held.hdF
 have HN4 := hidp (HN.out.keep (Bnew (B0 _) (.cells (pkC U2) 36)))
 obtain ⟨y0, y1, y2, y3, y4, y5, y6, y7, y8⟩ := HN4.out.held.hdU
 obtain ⟨e0, e1, e2, e3, e4, e5, e6, e7, e8⟩ := HN4.out.held.hdF
 have hgl := HN.out.held.lt
 go_wp2_with fail
 obtain ⟨WF, hWF⟩ : ∃ WF, setH w3 g U2 = WF := ⟨_, rfl⟩
 have HTW := hidp (HTU.out U2)
 rw [hWF] at HNT HTW
 unfold setH at hWF
 rw [hWF]
 replace HTW := hidp (HTW.out.trans (Turns.of_below (Bnew (B0 _) (.cells (pkC U2) 36)) _))
 clear hWF f0 f1 f2 f3 f4 f5 f6 f7 f8 x0 x1 x2 x3 u0 u1 u2 u3 u4 u5 u6 u7 u8 y0 y1 y2 y3 y4 y5 y6 y7 y8 e0 e1 e2 e3 e4 e5 e6 e7 e8 hgl HN HN4
 go_wp2
 go_ret
 exact ⟨rfl, x, HX.out, HTW.out, by rw [HU2.out]; exact HNT.out.keep (Bnew (B0 _) _)⟩

set_option maxHeartbeats 3200000 in
theorem smPop_no (k : Int) (k0 : -9223372036854775808 <= k) (k1 : k <= 9223372036854775807) (hn : lastP Z k = none) (hT : SlotsLaid w) (h : Hnd O w0 A Q G w g b t q s U Z st w) :
  Calls Tryz.prog 37 #[.pointer (some ⟨g, 0, none⟩), .int .i64 k] w fun e w' => e = .returned (.tuple #[.int .i64 0, .bool false]) /\ Hnd O w0 A Q G w g b t q s U Z st w' := by
 have HN := hidp h
 have HT := hidp hT
 have HL := hidp hn
 clear h hT hn
 obtain ⟨x0, x1, x2, x3⟩ := HN.out.held.hd4
 obtain ⟨u0, u1, u2, u3, u4, u5, u6, u7, u8⟩ := HN.out.held.hdU
 go_enter Tryz.func37, Tryz.ntmps37
 go_wp2_with fail
 refine (pkPop_no U Z k k0 k1 _ HT.out HN.out.p.pk HL.out).mono ?_
 rintro e w3 ⟨rfl, hb⟩
 replace HN := hidp (HN.out.keep hb)
 clear hb
 clear x0 x1 x2 x3 u0 u1 u2 u3 u4 u5 u6 u7 u8
 obtain ⟨x0, x1, x2, x3⟩ := HN.out.held.hd4
 obtain ⟨u0, u1, u2, u3, u4, u5, u6, u7, u8⟩ := HN.out.held.hdU
 go_wp2
 go_ret2
 exact ⟨rfl, HN.out.keep (Bnew (B0 _) _)⟩
end
section
variable {base b n : Nat} {wh : Bool} {K : Nat -> Option Nat} {st : Vst} {w w0 : World} {A Q G : Nat -> Prop} {g : Nat} {t q s : Int} {U : Nat -> Sl} {Z : Nat -> List Int}
set_option maxHeartbeats 6400000 in
theorem smPop_yes (hn : n < 2 ^ 40) (k : Nat) (hk : k < 9) (ys : List Int) (a : Int) (hz : Z k = ys ++ [a]) (h4 : ys.length <= 1000000) (hs : spotB t q s a = true) (hr : slotB t q s (k : Int) (spotO t q s a) = true) (p : Int) (i : Nat) (hp : spotP t q s a = p) (hi : slotR t q s (k : Int) (spotO t q s a) = (i : Int)) (hi32 : i < 32)
  (hT : SlotsLaid w0) (hA : ¬ A 0) (h : Hnd (vOb base b n wh K) w0 A Q G w g b t q s U Z st w) :
  Calls Tryz.prog 37 #[.pointer (some ⟨g, 0, none⟩), .int .i64 (k : Int)] w fun e w' => e = .returned (.tuple #[.int .i64 a, .bool true]) /\ ∃ x : Sl, (∀ ad, x.a = some ad -> w.heap.size <= ad.block) /\
   Hnd (vOb base b n wh K) w0 A Q G w g b t q s (updF U k x) (updF Z k ys) (putS n (getS n K st (pageI t q s p 4)) (pageI t q s p 4) (getV n K st (pageI t q s p 4) ||| 2 ^ i)) w' := by
 have HN := hidp h
 have HT := hidp hT
 have HZ := hidp hz
 have HS := hidp hs
 have HR := hidp hr
 have HP := hidp hp
 have HI := hidp hi
 have hab : -9223372036854775808 <= a /\ a <= 9223372036854775807 := by
  have := spot_parts hs
  omega
 clear h hT hz hs hr hp hi
 obtain ⟨x0, x1, x2, x3⟩ := HN.out.held.hd4
 obtain ⟨u0, u1, u2, u3, u4, u5, u6, u7, u8⟩ := HN.out.held.hdU
 go_enter Tryz.func37, Tryz.ntmps37
 go_wp2_with fail
 refine (pkPop_yes U Z k ys a hk HZ.out h4 _ (HT.out.at_ hA HN.out.at_) HN.out.p.pk).mono ?_
 rintro e w3 ⟨x, rfl, hx, hV, hb⟩
 have HNT := hidp (HN.out.turn hb hV (fun i hi => hi.turn_new hx))
 have HX := hidp hx
 replace HN := hidp (HN.out.keep hb)
 obtain ⟨U2, hU2⟩ : ∃ U2, updF U k x = U2 := ⟨_, rfl⟩
 have HU2 := hidp hU2
 rw [hU2] at HNT ⊢
 clear hb hx hV hU2 HZ
 clear x0 x1 x2 x3 u0 u1 u2 u3 u4 u5 u6 u7 u8
 obtain ⟨x0, x1, x2, x3⟩ := HN.out.held.hd4
 obtain ⟨u0, u1, u2, u3, u4, u5, u6, u7, u8⟩ := HN.out.held.hdU
 obtain ⟨f0, f1, f2, f3, f4, f5, f6, f7, f8⟩ := HN.out.held.hdF
 have HN4 := hidp (HN.out.keep (Bnew (B0 _) (.cells (pkC U2) 36)))
 obtain ⟨y0, y1, y2, y3, y4, y5, y6, y7, y8⟩ := HN4.out.held.hdU
 obtain ⟨e0, e1, e2, e3, e4, e5, e6, e7, e8⟩ := HN4.out.held.hdF
 have hgl := HN.out.held.lt
 go_wp2_with fail
 obtain ⟨WF, hWF⟩ : ∃ WF, setH w3 g U2 = WF := ⟨_, rfl⟩
 rw [hWF] at HNT
 unfold setH at hWF
 rw [hWF]
 replace HNT := hidp (HNT.out.keep (Bnew (B0 _) (.cells (pkC U2) 36)))
 clear hWF f0 f1 f2 f3 f4 f5 f6 f7 f8 x0 x1 x2 x3 u0 u1 u2 u3 u4 u5 u6 u7 u8 y0 y1 y2 y3 y4 y5 y6 y7 y8 e0 e1 e2 e3 e4 e5 e6 e7 e8 hgl HN HN4
 generalize hw4 : WF.alloc (.cells (pkC U2) 36) = w4 at *
 clear hw4
 refine (smSlotAt_c k hk a hab.1 hab.2 HS.out HR.out _ (HT.out.at_ hA HNT.out.at_) HNT.out.held).mono ?_
 rintro e w5 ⟨rfl, hb⟩
 rw [HP.out, HI.out]
 replace HNT := hidp (HNT.out.keep hb)
 clear hb
 go_wp2_with fail
 refine (smLive_c hn p i hi32 HG.hand HNT.out.held HNT.out.at_).mono ?_
 rintro e w6 ⟨rfl, h1, h2⟩
 replace HNT := hidp (HNT.out.call h1 h2)
 clear h1 h2
 go_wp2
 go_ret2
 exact ⟨rfl, x, HX.out, by rw [HU2.out]; exact HNT.out⟩

end
end
end Go.Proofs.YtjjfcaliippgpaaGreatDoor

namespace Go.Proofs.YtjjfcaliippgpaaGreatDoor
open Go.ChangeShapes Go.WideShapes Go.ChangeAt Go.RowKit Go.Maps
set_option linter.unusedVariables false
section
def SeqCap (P : Program) (gf : Nat) (cap : Array Value) (enc : Nat -> Array Value) (can : Nat -> Bool) (next : Nat -> Nat) (R : World -> Prop) : Prop :=
 ∀ (l : Nat) (J : Nat -> (Nat -> Prop) -> World -> Prop) (Jx : World -> Prop) (W : World) (F0 : Nat -> Prop), R W ->
  (∀ pos F A B, J pos F A -> Below A.heap.size A B -> J pos F B) -> (∀ A B, Jx A -> Below A.heap.size A B -> Jx B) ->
  (∀ pos F A, J pos F A -> R A) -> (∀ pos F A, J pos F A -> ∀ i, F i -> i < A.heap.size) ->
  (∀ pos F A, J pos F A -> W.heap.size <= A.heap.size -> can pos = true -> YieldAt Fence.wide 0 P l (enc pos) A fun e B =>
   (e = .returned (.bool true) /\ ∃ F', J (next pos) F' B /\ A.heap.size <= B.heap.size /\ (∀ k, W.heap.size <= k -> k < A.heap.size -> ¬ F k -> B.heap[k]? = A.heap[k]?) /\ ∀ i, F' i -> F i \/ A.heap.size <= i) \/
   (e = .returned (.bool false) /\ Jx B)) ->
  J 0 F0 W ->
  CallsIn Fence.wide 0 P gf (#[.func (.yield l) #[] #[]] ++ cap) W fun e B => (∃ v, e = .returned v) /\ ((∃ pos F, J pos F B /\ can pos = false) \/ Jx B)

theorem wp_seq_cap {P : Program} {g : Operand} {ps : Array Tmp} {assign body : Code} {Q : Exit -> Act -> World -> Prop} {a : Act} {w : World} {gf : Nat} {cap : Array Value}
  (hg : a.eval g = .func (.func gf) #[] cap) (eg : ∀ args w, (callFunc gf args).run P w = .ok (.enter gf args) w)
  {enc : Nat -> Array Value} {can : Nat -> Bool} {next : Nat -> Nat} {R : World -> Prop} (hseq : SeqCap P gf cap enc can next R) (hb0 : R w) (hRB : ∀ A B, R A -> Below A.heap.size A B -> R B) (hps : ∀ pos, (enc pos).size = ps.size)
  (I : Nat -> (Nat -> Prop) -> World -> Prop) (Ix : Code -> World -> Prop)
  (hI : ∀ pos F A B, I pos F A -> Mild w.heap.size A B -> I pos F B) (hIx : ∀ c A B, Ix c A -> Mild w.heap.size A B -> Ix c B)
  (hIB : ∀ pos F A, I pos F A -> R A) (hIF : ∀ pos F A, I pos F A -> ∀ i, F i -> ∃ o, A.heap[i]? = some o /\ o.isCells = true)
  {F0 : Nat -> Prop} (h0 : I 0 F0 w)
  (hround : ∀ (l pos : Nat) (F : Nat -> Prop) (A : World), can pos = true -> I pos F A -> w.heap.size <= A.heap.size ->
   assign.wpIn (inR l) 0 P (Exit.then (RoundGo w.heap.size P l body (seqPost I Ix (next pos) F A.heap.size) A) (fun _ _ _ => False))
    { tmps := (ps.zip (enc pos)).foldl (fun t (p, v) => t.setIfInBounds p v) a.tmps, defers := [] } A)
  (hdone : ∀ (D pos : Nat) (F : Nat -> Prop) (A : World), w.heap.size <= D -> can pos = false -> I pos F A -> A.heap[D]? = some (.deferred (some [])) -> Q .normal { a with defers := mark D :: a.defers } A)
  (hstop : ∀ (D : Nat) (c : Code) (A : World), w.heap.size <= D -> Ix c A -> A.heap[D]? = some (.deferred (some [])) -> c.wp P Q { a with defers := mark D :: a.defers } A) :
  (Code.rangeFunc g ps assign body).wp P Q a w := by
 refine (wpIn_wide (n := 1)).1 (wpIn_rangeFunc ?_)
 intro fn hfn
 obtain ⟨rec, hrec⟩ : ∃ rec : LoopState -> Option Code -> Loop, rec = fun st pe => { state := st, pending := pe, fn, tmps := a.tmps, params := ps, assign, body, defers := w.heap.size } := ⟨_, rfl⟩
 obtain ⟨W1, hW1⟩ : ∃ W1, (w.alloc (.deferred (some []))).alloc (.loop (rec .ready none)) = W1 := ⟨_, rfl⟩
 have hbw : Below w.heap.size w W1 := by rw [<- hW1]; exact Bnew (Bnew (B0 w) _) _
 have hs1 : W1.heap.size = w.heap.size + 2 := by rw [<- hW1]; simp
 have hL1 : W1.heap[w.heap.size + 1]? = some (.loop (rec .ready none)) := by
  have := heap_alloc_new (w.alloc (.deferred (some []))) (.loop (rec .ready none))
  rw [hW1] at this; simpa using this
 have hK1 : W1.heap[w.heap.size]? = some (.deferred (some [])) := by
  rw [<- hW1]; exact (Below.heap_alloc _ _ _ (by simp)).trans (heap_alloc_new w _)
 refine ⟨w.heap.size + 1, [mark w.heap.size], W1, { target := .fn (.func gf) cap, args := #[.func (.yield (w.heap.size + 1)) #[] #[]] }, W1, gf, #[.func (.yield (w.heap.size + 1)) #[] #[]] ++ cap, W1, ?_, ?_, ?_, ?_, fun _ => Nat.le_refl _, ?_⟩
 ·rw [<- hW1, hrec]; exact run_enterLoop_outer _ _ _ _ _
 ·simp only [resolve, hg]
  simp [go_sem]
 ·intro f' hf'; exact trivial
 ·simp [invoke, go_sem, eg]
 ·have keepRow : ∀ {A B : World} {k : Nat} {o : Obj}, Below A.heap.size A B -> A.heap[k]? = some o -> B.heap[k]? = some o := fun hb hk => (hb.block _ (Array.getElem?_eq_some_iff.1 hk).1).trans hk
  refine (hseq (w.heap.size + 1)
   (fun pos F A => I pos F A /\ w.heap.size <= A.heap.size /\ A.heap[w.heap.size + 1]? = some (.loop (rec .ready none)) /\ A.heap[w.heap.size]? = some (.deferred (some [])))
   (fun A => ∃ c, Ix c A /\ w.heap.size <= A.heap.size /\ A.heap[w.heap.size + 1]? = some (.loop (rec .done (some c))) /\ A.heap[w.heap.size]? = some (.deferred (some [])))
   W1 F0 (hRB _ _ hb0 hbw)
   (fun pos F A B h hb => ⟨hI pos F A B h.1 (Mild.of_below h.2.1 hb), Nat.le_trans h.2.1 hb.size, keepRow hb h.2.2.1, keepRow hb h.2.2.2⟩)
   (fun A B h hb => by obtain ⟨c, h1, h2, h3, h4⟩ := h; exact ⟨c, hIx c A B h1 (Mild.of_below h2 hb), Nat.le_trans h2 hb.size, keepRow hb h3, keepRow hb h4⟩)
   (fun pos F A h => hIB pos F A h.1)
   (fun pos F A h i hi => by obtain ⟨o, ho, _⟩ := hIF pos F A h.1 i hi; exact (Array.getElem?_eq_some_iff.1 ho).1)
   ?_ ⟨hI 0 F0 w W1 h0 (Mild.of_below (Nat.le_refl _) hbw), hbw.size, hL1, hK1⟩).mono ?_
  ·rintro pos F A ⟨hi, hsz, hl, hk⟩ hsA hc
   have hlt : w.heap.size + 1 < A.heap.size := (Array.getElem?_eq_some_iff.1 hl).1
   have hy := run_yield (P := P) (args := enc pos) hl (by rw [hrec]; exact hps pos)
   rw [hrec] at hy
   have hFl : ¬ F (w.heap.size + 1) := fun hf => by obtain ⟨o, ho, hoc⟩ := hIF pos F A hi _ hf; rw [hl] at ho; cases ho; cases hoc
   have hFk : ¬ F w.heap.size := fun hf => by obtain ⟨o, ho, hoc⟩ := hIF pos F A hi _ hf; rw [hk] at ho; cases ho; cases hoc
   refine ⟨fn, _, assign, body, hy, roundIn_of_wpIn hfn (wpIn_mono (hround _ pos F A hc hi hsz) ?_)⟩
   rintro e a₁ A₁ hg1
   cases e with
   | normal =>
    obtain ⟨hbA, hgo⟩ := hg1
    have hl1 := keepRow hbA hl
    have hk1 := keepRow hbA hk
    have hlt1 : w.heap.size + 1 < A₁.heap.size := (Array.getElem?_eq_some_iff.1 hl1).1
    refine ⟨_, run_beginRound hl1 (by rw [hrec]), ?_⟩
    obtain ⟨A₂, hA₂⟩ : ∃ A₂, A₁.putObj (w.heap.size + 1) (.loop { rec .ready none with state := .busy }) = A₂ := ⟨_, rfl⟩
    have hl2 : A₂.heap[w.heap.size + 1]? = some (.loop { rec .ready none with state := .busy }) := by rw [<- hA₂]; exact World.putObj_heap_same hlt1
    have hk2 : A₂.heap[w.heap.size]? = some (.deferred (some [])) := by rw [<- hA₂]; exact (World.putObj_heap_other (by omega)).trans hk1
    have hM2 : Mild w.heap.size A₁ A₂ := by rw [<- hA₂]; exact Mild.put _ (by omega) hl1 rfl
    have hs2 : A₂.heap.size = A₁.heap.size := by rw [<- hA₂]; simp
    have hrows : ∀ k, W1.heap.size <= k -> k < A.heap.size -> A₂.heap[k]? = A.heap[k]? := fun k h1 h2 => by
     rw [<- hA₂]; exact (World.putObj_heap_other (by omega)).trans (hbA.block k h2)
    rw [hA₂]
    refine wpIn_mono (hgo A₂ hM2 hs2) ?_
    have fin : ∀ (jump : Option Code) (B : World), Turns F A₂ B -> (Instr.endRound (w.heap.size + 1) jump).run P B = .ok (.bool jump.isNone) (B.putObj (w.heap.size + 1) (.loop (rec (if jump.isNone then .ready else .done) jump))) /\
      Mild w.heap.size B (B.putObj (w.heap.size + 1) (.loop (rec (if jump.isNone then .ready else .done) jump))) /\
      (B.putObj (w.heap.size + 1) (.loop (rec (if jump.isNone then .ready else .done) jump))).heap[w.heap.size + 1]? = some (.loop (rec (if jump.isNone then .ready else .done) jump)) /\
      (B.putObj (w.heap.size + 1) (.loop (rec (if jump.isNone then .ready else .done) jump))).heap[w.heap.size]? = some (.deferred (some [])) := fun jump B hT => by
     have hl3 := (hT.block _ (Array.getElem?_eq_some_iff.1 hl2).1 hFl).trans hl2
     have hk3 := (hT.block _ (Array.getElem?_eq_some_iff.1 hk2).1 hFk).trans hk2
     have := run_endRound (P := P) jump hl3
     rw [hrec] at this ⊢
     exact ⟨this, Mild.put _ (by omega) hl3 rfl, World.putObj_heap_same (Array.getElem?_eq_some_iff.1 hl3).1, (World.putObj_heap_other (by omega)).trans hk3⟩
    rintro e a3 B hp
    cases e with
    | normal =>
     obtain ⟨hT, F', hi3, hF'⟩ := hp
     obtain ⟨hr, hm, hl4, hk4⟩ := fin none B hT
     have hsB : A.heap.size <= B.heap.size := by have := hT.size; have := hbA.size; omega
     refine ⟨_, _, hr, .inl ⟨rfl, F', ⟨hI _ _ _ _ hi3 hm, ?_, hl4, hk4⟩, by simpa using hsB, fun k h1 h2 hf => ?_, hF'⟩⟩
     ·have := hm.size; omega
     ·rw [World.putObj_heap_other (by omega), hT.block k (by have := hbA.size; omega) hf]; exact hrows k h1 h2
    | ret =>
     obtain ⟨hT, hx⟩ := hp
     obtain ⟨hr, hm, hl4, hk4⟩ := fin (some .ret) B hT
     exact ⟨_, _, hr, .inr ⟨rfl, .ret, hIx _ _ _ hx hm, by have := hm.size; have := hT.size; have := hbA.size; omega, hl4, hk4⟩⟩
    | exit id =>
     obtain ⟨hT, hx⟩ := hp
     obtain ⟨hr, hm, hl4, hk4⟩ := fin (some (.exit id)) B hT
     exact ⟨_, _, hr, .inr ⟨rfl, .exit id, hIx _ _ _ hx hm, by have := hm.size; have := hT.size; have := hbA.size; omega, hl4, hk4⟩⟩
    | goto t =>
     obtain ⟨hT, hx⟩ := hp
     obtain ⟨hr, hm, hl4, hk4⟩ := fin (some (.goto t)) B hT
     exact ⟨_, _, hr, .inr ⟨rfl, .goto t, hIx _ _ _ hx hm, by have := hm.size; have := hT.size; have := hbA.size; omega, hl4, hk4⟩⟩
    | panic ch => exact hp.elim
    | outgrown => exact hp.elim
   | exit id => exact hg1.elim
   | goto t => exact hg1.elim
   | ret => exact hg1.elim
   | panic ch => exact hg1.elim
   | outgrown => exact hg1.elim
  ·rintro e B ⟨⟨v, rfl⟩, (⟨pos, F, ⟨hi, hsz, hl, hk⟩, hc⟩ | ⟨c, hx, hsz, hl, hk⟩)⟩
   ·have hm : Mild w.heap.size B (B.putObj (w.heap.size + 1) (.loop { rec .ready none with state := .exhausted })) := Mild.put _ (by omega) hl rfl
    exact ⟨none, _, by have := run_endLoop (P := P) hl (by rw [hrec]; simp); rw [hrec] at this ⊢; exact this, hdone _ pos F _ (Nat.le_refl _) hc (hI _ _ _ _ hi hm) ((World.putObj_heap_other (by omega)).trans hk)⟩
   ·have hm : Mild w.heap.size B (B.putObj (w.heap.size + 1) (.loop { rec .done (some c) with state := .exhausted })) := Mild.put _ (by omega) hl rfl
    exact ⟨some c, _, by have := run_endLoop (P := P) hl (by rw [hrec]; simp); rw [hrec] at this ⊢; exact this, wpIn_wide.2 (hstop _ c _ (Nat.le_refl _) (hIx _ _ _ hx hm) ((World.putObj_heap_other (by omega)).trans hk))⟩

def encB (m : Nat) (f : Nat -> Int) (pos : Nat) : Array Value := #[.int .i64 ((m - 1 - pos : Nat) : Int), .int .i64 (f (m - 1 - pos))]
def canB (m pos : Nat) : Bool := decide (pos < m)
def BackAt (A : Option Addr) (m c : Nat) (f : Nat -> Int) (bx : Nat) (w : World) : Prop := w.cell? ⟨bx, 0, none⟩ = some (.slice A m c) /\ ∀ i, i < m -> ∃ ad, A = some ad /\ w.cell? (ad.add i) = some (.int .i64 (f i))
section
attribute [local go_sem] Oper.semAt_some
set_option maxHeartbeats 1600000 in
theorem backward_seq (A : Option Addr) (m c : Nat) (hmc : m <= c) (hcm : c <= maxLen) (f : Nat -> Int) (bx : Nat) :
  SeqCap Tryz.prog 116 #[.pointer (some ⟨bx, 0, none⟩)] (encB m f) (canB m) (· + 1) (BackAt A m c f bx) := by
 intro l J Jx W F0 hW hJ hJx hJB hJF hY h0
 refine callsIn_of_wp Tryz.func116 rfl trivial ?_ rfl
 simp only [Tryz.ntmps116, List.size_toArray, List.length_cons, List.length_nil, Nat.reduceAdd, Nat.reduceSub, Array.replicate_succ, Array.replicate_zero, List.push_toArray, List.append_toArray, List.nil_append, List.cons_append]
 have HJ0 := hidp h0
 have HJ := hidp hJ
 have HJX := hidp hJx
 have HJB := hidp hJB
 have HJF := hidp hJF
 have HY := hidp hY
 have HW := hidp hW
 have hc2 : c <= 9223372036854775807 := by unfold maxLen at hcm; omega
 have b0 := HW.out.1
 clear hJ hJx hJB hJF hY h0 hW
 gi_wp2_with fail
 gi_loopw [3] (fun u wr => ∃ (pos : Nat) (F : Nat -> Prop), u = .int .i64 ((m : Int) - 1 - (pos : Int)) /\ pos <= m /\ Hid (J pos F wr) /\ Hid (W.heap.size <= wr.heap.size)) (fun u _ => (intOf u + 1).toNat)
 case atStart => exact ⟨0, F0, by simp, by omega, HJ0, hidp (Nat.le_refl _)⟩
 case round =>
  clear HJ0 b0
  obtain ⟨pos, F, rfl, hpos, HJS, HSZ⟩ := hrel
  have HBW := hidp (HJB.out _ _ _ HJS.out)
  have b0 := HBW.out.1
  by_cases hlt : pos < m
  ·obtain ⟨k, hk⟩ : ∃ k, m - 1 - pos = k := ⟨_, rfl⟩
   have hk2 : (m : Int) - 1 - (pos : Int) = (k : Int) := by omega
   obtain ⟨ad, hA, c0⟩ := HBW.out.2 k (by omega)
   subst hA
   have HEN : Hid (encB m f pos = #[.int .i64 (k : Int), .int .i64 (f k)]) := hidp (by unfold encB; rw [hk])
   obtain ⟨fn, tmps, assign, body, hy, hR⟩ := HY.out pos F _ HJS.out HSZ.out (decide_eq_true hlt)
   rw [HEN.out] at hy
   have HRR := hidp hR
   have HK := hidp hk
   rw [hk2]
   have hkm : k < m := by omega
   clear hR hk
   gi_wp2_with fail
   refine ⟨rfl, HRR.out.mono ?_⟩
   rintro e W3 (⟨rfl, F', hJ3, hsz3, hk3, hF3⟩ | ⟨rfl, hx⟩)
   ·have HJ3 := hidp hJ3
    have HS3 : Hid (W.heap.size <= W3.heap.size) := hidp (Nat.le_trans HSZ.out hsz3)
    clear hJ3 hk3 hF3 hsz3 HRR HY HJ HJX HJB hy c0 b0
    gi_wp2
    go_roundw
    case rel => exact ⟨pos + 1, F', by have := HK.out; go_num, by omega, HJ3, HS3⟩
    case measure => simp [intOf] <;> omega
   ·have HX := hidp hx
    clear hx HY HJ HJX HJB HRR hy c0 b0
    gi_wp2
    refine bodyPost_ret (results_none rfl _ _ _) rfl ?_
    exact ⟨⟨_, rfl⟩, .inr HX.out⟩
  ·obtain rfl : pos = m := by omega
   gi_wp2
   go_end0
   exact ⟨⟨_, rfl⟩, .inl ⟨pos, F, HJS.out, decide_eq_false (by omega)⟩⟩
end
theorem smBack_c (A : Option Addr) (m c : Nat) (w : World) : Calls Tryz.prog 79 #[.slice A m c] w fun e w' => e = .returned (.func (.func 116) #[] #[.pointer (some ⟨w.heap.size, 0, none⟩)]) /\ w' = w.alloc (.cells #[.slice A m c] 42) := by
 go_enter Tryz.func79, Tryz.ntmps79
 go_wp2
 go_ret
 exact ⟨rfl, rfl⟩
end
end Go.Proofs.YtjjfcaliippgpaaGreatDoor

namespace Go.Proofs.YtjjfcaliippgpaaGreatDoor
open Go.ChangeShapes Go.WideShapes Go.ChangeAt Go.RowKit Go.Maps
set_option linter.unusedVariables false
set_option linter.unusedSimpArgs false
set_option maxRecDepth 100000
section
section
variable {W w WF : World} {O1 O2 : Ob} {A B G : Nat -> Prop} {s1 s2 : Vst} {g g2 : Nat} {t : TypeId} {cs : Array Value} {a0 a1 a2 a3 c0 c1 c2 c3 : Value}
end
theorem own_held {w : World} {base g n c : Nat} {l : List Nat} (h : w.ownsRow base 3 1 (.slice (some ⟨g, 0, none⟩) n c) n (ntVs l)) (hl : l.length = n) :
  ∃ cs, Held w g 3 cs /\ n <= c /\ c <= 9223372036854775807 /\ ∀ (w : World), Held w g 3 cs -> ∀ i, i < n -> w.cell? ⟨g, i, none⟩ = some (.int .i64 ((l.getD i 0 : Nat) : Int)) := by
 rcases h.2 with ⟨h1, _⟩ | ⟨g', cap, cur, h1, hb, hg, hnc, hcm, hcs, ht⟩
 ·cases h1
 ·injection h1 with h1 h2 h3
  injection h1 with h1
  injection h1 with h1 _
  subst h1 h3
  refine ⟨cur, hg, hnc, by unfold maxLen at hcm; omega, fun w' hh i hi => ?_⟩
  have e : cur[i]? = some (Value.int .i64 ((l.getD i 0 : Nat) : Int)) := by
   have h4 : (cur.toList.take (n * 1))[i]? = (ntVs l)[i]? := by rw [ht]
   rw [List.getElem?_take, if_pos (by omega)] at h4
   rw [<- Array.getElem?_toList, h4]
   unfold ntVs
   simp [List.getD, List.getElem?_eq_getElem (show i < l.length by omega)]
  rw [hh.cell i, e]
section
variable {H : AuH} {n c : Nat} {K : Nat -> Option Nat} {st : Vst}
end
end
end Go.Proofs.YtjjfcaliippgpaaGreatDoor
