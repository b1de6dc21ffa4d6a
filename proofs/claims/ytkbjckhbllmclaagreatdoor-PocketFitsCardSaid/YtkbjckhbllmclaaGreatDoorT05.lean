/-
  What the bytes of pages are. Written by audit/gen_parts.py.
-/
import Derived.Test.YtkbjckhbllmclaaGreatDoorT04
import Derived.Deep.AppendLies
namespace Go.Proofs.YtkbjckhbllmclaaGreatDoor
open Go.ChangeShapes Go.WideShapes Go.ChangeAt Go.RowKit Go.Shelf
set_option linter.unusedVariables false
set_option linter.unusedSimpArgs false
section
def ptVs (l : List (Int × Int × Int)) : List Value := l.flatMap fun x => [.int .i64 x.1, .int .i64 x.2.1, .int .i64 x.2.2]
theorem ptVs_len (l : List (Int × Int × Int)) : (ptVs l).length = l.length * 3 := by unfold ptVs; induction l with
  | nil => rfl
  | cons x l ih => rw [List.flatMap_cons, List.length_append, ih]; simp; omega
theorem ptVs_app (l m : List (Int × Int × Int)) : ptVs (l ++ m) = ptVs l ++ ptVs m := by unfold ptVs; rw [List.flatMap_append]
theorem ptVs_one (x : Int × Int × Int) : ptVs [x] = [.int .i64 x.1, .int .i64 x.2.1, .int .i64 x.2.2] := by simp [ptVs]
theorem partInfo : (Tryz.prog.info? 43).map (fun i => (i.zero, i.size, i.bytes)) = some (some (.agg #[.int .i64 0, .int .i64 0, .int .i64 0]), 3, 24) := by kernel_rfl

namespace AuH
variable (H : AuH)
def pg : Nat := 2 ^ H.s
def first (q : Nat) : Int := ((q : Int) + 1) * (H.pg : Int)
def zs (q : Nat) : Nat := sizeN (H.s : Int) (H.Cl q)
def sl (q : Nat) : Nat := slotI (H.Cl q)
def slotPart (q i : Nat) : Int × Int × Int := ((slotKd (H.cel q 5) (H.cel q 4) i : Nat), H.first q + (i : Int) * (H.zs q : Int), (H.zs q : Int))
def slotsTo (q k : Nat) : List (Int × Int × Int) := (List.range k).map (H.slotPart q)
def slack (q : Nat) : List (Int × Int × Int) := if H.sl q * H.zs q < H.pg then [(5, H.first q + ((H.sl q * H.zs q : Nat) : Int), (H.pg : Int) - ((H.sl q * H.zs q : Nat) : Int))] else []
def partsAt (q : Nat) : List (Int × Int × Int) :=
  if H.K q = 1 then [(1, H.first q, (H.ln q : Int) * (H.pg : Int))] else if H.K q = 2 then [(2, H.first q, (H.ln q : Int) * (H.pg : Int))]
  else if H.K q = 3 then H.slotsTo q (H.sl q) ++ H.slack q else []
def parts : List (Int × Int × Int) := catTo H.partsAt H.p
variable {H}
theorem slotsTo_succ (q k : Nat) : H.slotsTo q (k + 1) = H.slotsTo q k ++ [H.slotPart q k] := by unfold slotsTo; rw [List.range_succ, List.map_append]; rfl
theorem slotsTo_len (q k : Nat) : (H.slotsTo q k).length = k := by unfold slotsTo; simp
theorem partsAt_no {q : Nat} (h : H.K q = 0) : H.partsAt q = [] := by unfold partsAt; rw [if_neg (by omega), if_neg (by omega), if_neg (by omega)]
theorem partsAt_len (q : Nat) : (H.partsAt q).length ≤ 33 := by
  unfold partsAt
  split
  · simp
  · split
    · simp
    · split
      · rw [List.length_append, slotsTo_len]
        have := slotI_le (H.Cl q)
        unfold slack sl
        split <;> simp <;> omega
      · simp
theorem parts_len : ∀ x, (catTo H.partsAt x).length ≤ x * 33
  | 0 => by simp [catTo]
  | x + 1 => by
    have h1 := parts_len x
    have h2 := partsAt_len (H := H) x
    show (catTo H.partsAt x ++ H.partsAt x).length ≤ _
    rw [List.length_append]
    omega
end AuH
theorem pg_le {H : AuH} {n c : Nat} (HV : HeapV H n c) : 1024 ≤ H.pg ∧ H.pg ≤ 1048576 ∧ H.pg = pageS H.s ∧ pageN H.t H.p H.s = H.pg := by
  obtain ⟨g, q, h1, h2, h3, h4, h5, h6, h7, h8, h9, h10, h11⟩ := right_nums HV.right
  have e : H.pg = g := by unfold AuH.pg; rw [h8, Int.toNat_natCast]
  rw [e]
  exact ⟨h6, h7, by rw [pageS_yes ⟨h9, h10⟩]; exact h8, h1⟩
theorem first_eq {H : AuH} {n c : Nat} (HV : HeapV H n c) {q : Nat} (hq : q < H.p) : addrI H.t H.p H.s q 0 = H.first q ∧ addrB H.t H.p H.s q 0 = true ∧ 1024 ≤ H.first q ∧ H.first q ≤ 1075838976 := by
  have hg := pg_le HV
  have hB : addrB H.t H.p H.s q 0 = true := by unfold addrB; rw [HV.right, hg.2.2.2, Bool.true_and, decide_eq_true_iff]; omega
  have hA : addrI H.t H.p H.s q 0 = ((q : Int) + 1) * (H.pg : Int) + 0 := by unfold addrI; rw [if_pos hB, hg.2.2.2]
  have hY := addr_yes hB
  rw [hA, Int.add_zero] at hY
  exact ⟨by rw [hA, Int.add_zero]; rfl, hB, hY.2.2.2.2.1, hY.2.2.2.2.2⟩


set_option maxHeartbeats 1600000 in
theorem auPages_c {H : AuH} {n c : Nat} (HV : HeapV H n c) (ad : Addr) (kind : Int) (q m : Nat) (hq : q < H.p) (hm : m ≤ 1024) (w : World) :
    Calls Tryz.prog 30 #[hpV H ad n c, .int .i64 kind, .int .i64 (q : Int), .int .i64 (m : Int)] w fun e w' => e = .returned (.agg #[.int .i64 kind, .int .i64 (H.first q), .int .i64 ((m : Int) * (H.pg : Int))]) ∧ Below w.heap.size w w' := by
  have hs := HV.nums
  have hf := first_eq HV hq
  have hg := pg_le HV
  have HOF : Hid (∀ W, Calls Tryz.prog 51 #[.agg #[.int .i64 (H.t : Int), .int .i64 (H.p : Int), .int .i64 (H.s : Int)], .int .i64 (q : Int), .int .i64 0] W fun e w' => e = .returned (.tuple #[.int .i64 (H.first q), .bool true]) ∧ Below W.heap.size W w') := hidp (fun W => by
    have := adOf_c H.t H.p H.s q 0 W
    rwa [hf.1, hf.2.1] at this)
  have hmg : m * H.pg ≤ 1024 * 1048576 := Nat.mul_le_mul hm hg.2.1
  have e1 : (m : Int) * 2 ^ H.s = (m : Int) * (H.pg : Int) := by unfold AuH.pg; push_cast; rfl
  have e2 : IntKind.i64.wrap ((m : Int) * (H.pg : Int)) = (m : Int) * (H.pg : Int) := by
    have hc : ((m * H.pg : Nat) : Int) = (m : Int) * (H.pg : Int) := by push_cast; rfl
    rw [← hc]
    generalize m * H.pg = x at *
    exact i64_same (by omega) (by omega)
  have e3 : IntKind.i64.wrap ((m : Int) * 2 ^ H.s) = (m : Int) * (H.pg : Int) := by rw [e1, e2]
  have q0 : decide ((H.s : Int) < 0) = false := decide_eq_false (by omega)
  have q1 : decide ((64 : Int) ≤ H.s) = false := decide_eq_false (by omega)
  have hx := (Held.new w 51 #[.int .i64 (H.t : Int), .int .i64 (H.p : Int), .int .i64 (H.s : Int), .slice (some ad) n c]).alloc (.cells #[.int .i64 0, .int .i64 0, .int .i64 0] 43)
  obtain ⟨c0, c1, c2, c3⟩ := hx.four
  have HX := hidp hx
  have HP2 := hidp (Held.new2 w (.cells #[.int .i64 (H.t : Int), .int .i64 (H.p : Int), .int .i64 (H.s : Int), .slice (some ad) n c] 51) 43 #[.int .i64 0, .int .i64 0, .int .i64 0])
  have HBW := hidp (Bnew (Bnew (B0 w) (.cells #[.int .i64 (H.t : Int), .int .i64 (H.p : Int), .int .i64 (H.s : Int), .slice (some ad) n c] 51)) (.cells #[.int .i64 0, .int .i64 0, .int .i64 0] 43))
  generalize H.first q = fq at *
  clear hx hf hg hmg e1 e2
  unfold hpV
  go_enter Tryz.func30, Tryz.ntmps30
  go_wp2_with (first
    | (go_at_call 51; refine (HOF.out _).mono ?_; rintro e w2 ⟨rfl, hb2⟩; have HB2 := hidp (Bgo HBW.out hb2); have HX2 := hidp (HX.out.keep hb2); have HP22 := hidp (HP2.out.keep hb2); clear hb2 c0 c1 c2 c3; obtain ⟨c0, c1, c2, c3⟩ := HX2.out.four; obtain ⟨d0, d1, d2⟩ := HP22.out.three; have f0 := HP22.out.thawed 0; have f1 := HP22.out.thawed 1; have f2 := HP22.out.thawed 2)
    | fail)
  have z := ((HP22.out.put 0 (.int .i64 kind)).put 1 (.int .i64 fq)).put 2 (.int .i64 ((m : Int) * (H.pg : Int)))
  obtain ⟨y0, y1, y2⟩ := z.three
  refine bodyPost_ret (v := .agg #[.int .i64 kind, .int .i64 fq, .int .i64 ((m : Int) * (H.pg : Int))]) (by simp [results, Tryz.results30, go_sem, y0, y1, y2]) rfl ⟨rfl, ?_⟩
  exact Bput (Bput (Bput HB2.out (by simp) _) (by simp) _) (by simp) _


theorem held_grown {w w' : World} {row : Option Nat} {g : Nat} {t : TypeId} {cs : Array Value} (h : Held w g t cs) (hg : w.grownBy w' row) (hr : row ≠ some g) : Held w' g t cs := (hg.block g h.lt (fun e => hr e.symm)).trans h
theorem turns_grown {F : Nat → Prop} {W w w' : World} {row : Option Nat} (h : Turns F W w) (hg : w.grownBy w' row) (hr : ∀ i, row = some i → F i ∨ W.heap.size ≤ i) : Turns F W w' :=
  Turns.more_new (F := fun i => row = some i) ⟨hg.os, hg.tape, hg.output, hg.size, fun i hi hf => hg.block i hi (fun e => hf e.symm)⟩ h.size h hr
set_option maxHeartbeats 6400000 in
set_option maxRecDepth 100000 in
theorem auAddSlots_c {H : AuH} {n c : Nat} (HV : HeapV H n c) (ad : Addr) {q : Nat} (hq : q < H.p) (hk : H.K q = 3) (base nl : Nat) (v : Value) (l : List (Int × Int × Int)) (hll : l.length = nl) (hnl : nl ≤ 100000) (w : World) (hv : IsVals w ad n H.V) (hT : SlotsLaid w) (hb0 : base ≤ w.heap.size) (hown : w.ownsRow base 43 3 v nl (ptVs l)) :
    Calls Tryz.prog 31 #[hpV H ad n c, v, .int .i64 (q : Int), .int .i64 (H.Cl q)] w fun e w' => ∃ u, e = .returned u ∧ w'.ownsRow base 43 3 u (l ++ H.partsAt q).length (ptVs (l ++ H.partsAt q)) ∧ Turns (fun i => v.ownBlock = some i) w w' ∧ (∀ g, u.ownBlock = some g → v.ownBlock = some g ∨ w.heap.size ≤ g) := by
  have HVL := hidp hv
  have HTL := hidp hT
  have hs := HV.nums
  have hg := pg_le HV
  have hf := first_eq HV hq
  have hkc := H.K_cases q
  have hcl : 0 ≤ H.Cl q ∧ H.Cl q ≤ 8 := by omega
  have hfit : slotI (H.Cl q) * sizeN (H.s : Int) (H.Cl q) ≤ H.pg := by
    obtain ⟨kc, hkc2⟩ : ∃ kc : Nat, H.Cl q = kc := ⟨(H.Cl q).toNat, by omega⟩
    have := (size_facts (s := (H.s : Int)) (by omega) (k := kc) (by omega)).2.2.1
    rw [hg.2.2.1, hkc2, slotI_nat, Nat.mul_comm]
    exact this
  have hz16 : sizeN (H.s : Int) (H.Cl q) ≤ 1048576 := sizeN_le _ _
  have hpa : H.partsAt q = H.slotsTo q (H.sl q) ++ H.slack q := by unfold AuH.partsAt; rw [if_neg (by omega), if_neg (by omega), if_pos hk]
  have hs32 := slotI_le (H.Cl q)
  have HSZ := hidp (fun W hT => clSize_c (H.s : Int) (H.Cl q) (by omega) (by omega) W hT)
  have HSN := hidp (fun W hT => clSlots_c (H.Cl q) (by omega) (by omega) W hT)
  have HPG := hidp (fun W => auPages_c HV ad 5 q 1 hq (by omega) W)
  have hslk : H.slack q = if H.sl q * H.zs q < H.pg then [(5, H.first q + ((H.sl q * H.zs q : Nat) : Int), (H.pg : Int) - ((H.sl q * H.zs q : Nat) : Int))] else [] := rfl
  have hsp : ∀ i : Nat, H.slotPart q i = (((slotKd (H.cel q 5) (H.cel q 4) i : Nat) : Int), H.first q + (i : Int) * (H.zs q : Int), (H.zs q : Int)) := fun i => rfl
  have hsl : H.sl q = slotI (H.Cl q) := rfl
  have hzs : H.zs q = sizeN (H.s : Int) (H.Cl q) := rfl
  rw [hsl, hzs] at hslk
  rw [hsl] at hpa
  rw [hzs] at hsp
  clear hsl hzs
  obtain ⟨tk, htk⟩ : ∃ tk, H.cel q 5 = tk := ⟨_, rfl⟩
  obtain ⟨sv, hsv⟩ : ∃ sv, H.cel q 4 = sv := ⟨_, rfl⟩
  have HET := hidp htk
  have HES := hidp hsv
  have ht32 := HV.cel_lt hq (show 5 < 6 by omega)
  have hs32' := HV.cel_lt hq (show 4 < 6 by omega)
  rw [htk] at ht32
  rw [hsv] at hs32'
  rw [htk, hsv] at hsp
  have HPA := hidp hpa
  have HSK := hidp hslk
  have HSP := hidp hsp
  have hfq := hf.2.2
  obtain ⟨fq, hfqq⟩ : ∃ fq, H.first q = fq := ⟨_, rfl⟩
  rw [hfqq] at hfq HPG HSK HSP
  obtain ⟨pg, hpg⟩ : ∃ pg, H.pg = pg := ⟨_, rfl⟩
  rw [hpg] at hg hfit HPG HSK
  rw [show ((1 : Nat) : Int) * (pg : Int) = (pg : Int) by omega] at HPG
  generalize slotI (H.Cl q) = m at *
  generalize sizeN (H.s : Int) (H.Cl q) = z at *
  obtain ⟨j0, hjn, hjz0, hjz1, hjz2⟩ := info_parts partInfo
  have hpgb := hg.2.1
  have hx := Held.new w 51 #[.int .i64 (H.t : Int), .int .i64 (H.p : Int), .int .i64 (H.s : Int), .slice (some ad) n c]
  obtain ⟨c0, c1, c2, c3⟩ := hx.four
  have HX0 := hidp hx
  have HBW := hidp (Bnew (B0 w) (.cells #[.int .i64 (H.t : Int), .int .i64 (H.p : Int), .int .i64 (H.s : Int), .slice (some ad) n c] 51))
  have HOW := hidp hown
  have HVB : Hid (∀ g, v.ownBlock = some g → g < w.heap.size) := hidp (fun g h => (hown.lt g h).2)
  have HLL := hidp hll
  have HBS := hidp hb0
  generalize H.Cl q = cl at *
  clear hx hv hT hown hpa hslk hsp hf hkc hk hfqq hpg htk hsv hs hg hll hcl
  unfold hpV
  go_enter Tryz.func31, Tryz.ntmps31
  go_wp2_with (first
    | (go_at_call 30; refine (HPG.out _).mono ?_; rintro e w2 ⟨rfl, hb2⟩; have HB2 := hidp (Bgo HBW.out hb2); have HX2 := hidp (HX0.out.keep hb2); clear hb2; obtain ⟨gl, hgl⟩ : ∃ gl, w2.heap.size = gl := ⟨_, rfl⟩; have HGL0 := hidp hgl; have HX3 := hidp (HX2.out.alloc (.cells #[.int .i64 5, .int .i64 fq, .int .i64 (pg : Int)] 43)); have HB3 := hidp (Bnew HB2.out (.cells #[.int .i64 5, .int .i64 fq, .int .i64 (pg : Int)] 43)); have HN3 := hidp (Held.new w2 43 #[.int .i64 5, .int .i64 fq, .int .i64 (pg : Int)]); clear c0 c1 c2 c3 hgl; obtain ⟨c0, c1, c2, c3⟩ := HX3.out.four)
    | (go_at_call 22; refine (HSZ.out _ (HTL.out.below HB3.out)).mono ?_; rintro e w4 ⟨rfl, hb4⟩; have HB4 := hidp (Bgo HB3.out hb4); have HX4 := hidp (HX3.out.keep hb4); have HN4 := hidp (HN3.out.keep hb4); clear hb4 c0 c1 c2 c3; obtain ⟨c0, c1, c2, c3⟩ := HX4.out.four)
    | fail)
  refine wp_region_held_drew (S := (fun w' => w'.cell? ⟨w.heap.size, 0, none⟩ = some (.int .i64 (H.t : Int)) ∧ w'.cell? ⟨w.heap.size, 1, none⟩ = some (.int .i64 (H.p : Int)) ∧ w'.cell? ⟨w.heap.size, 2, none⟩ = some (.int .i64 (H.s : Int)) ∧ w'.cell? ⟨w.heap.size, 3, none⟩ = some (.slice (some ad) n c))) (by kernel_rfl) ?_ (fun hHeld => ?_)
  · (try dsimp only)
    first | exact HX4.out.drew.four | exact HX5.out.four | exact HX6.out.four | exact hHeld
  refine tkz 0 ?_
  refine tkz 1 ?_
  refine tkz 3 ?_
  refine tkz 4 ?_
  refine wpAnyH_ready (rs := [2]) (by kernel_rfl) (by simp) ?_
  refine AllReadyH.cons (o := _) rfl (fun K hK => ?_) AllReadyH.nil
  go_simp
  (go_at_call 49; refine (auAt_Taken_c HV ad hq _ (HVL.out.below HB4.out).drew).mono ?_; rintro e w5 ⟨rfl, hb5⟩; rw [HET.out]; have HB5 := hidp (Bgo (Bdrew HB4.out) hb5); have HX5 := hidp (HX4.out.drew.keep hb5); have HN5 := hidp (HN4.out.drew.keep hb5); clear hb5)
  refine hK.out _ _ ?_ (fun hHeld => ?_)
  · (try dsimp only)
    first | exact HX4.out.drew.four | exact HX5.out.four | exact HX6.out.four | exact hHeld
  clear hK K
  (try simp only [Act.put, gA, gB, gC, sA, sB, sC])
  refine wpAnyH_ready (rs := [5]) (by kernel_rfl) (by simp) ?_
  refine AllReadyH.cons (o := _) rfl (fun K hK => ?_) AllReadyH.nil
  go_simp
  (go_at_call 49; refine (auAt_Slots_c HV ad hq _ (HVL.out.below HB5.out)).mono ?_; rintro e w6 ⟨rfl, hb6⟩; rw [HES.out]; have HB6 := hidp (Bgo HB5.out hb6); have HX6 := hidp (HX5.out.keep hb6); have HN6 := hidp (HN5.out.keep hb6); clear hb6)
  refine hK.out _ _ ?_ (fun hHeld => ?_)
  · (try dsimp only)
    first | exact HX4.out.drew.four | exact HX5.out.four | exact HX6.out.four | exact hHeld
  clear hK K
  (try simp only [Act.put, gA, gB, gC, sA, sB, sC])
  refine tkz 6 ?_
  refine tkz 7 ?_
  refine wpAnyH_done (by kernel_rfl) ?_ _
  go_wp2_with (first
    | (go_at_call 27; refine (HSN.out _ (HTL.out.below HB6.out)).mono ?_; rintro e w7 ⟨rfl, rfl⟩)
    | fail)
  have HGL : Hid (w.heap.size < gl) := hidp (by have := HX2.out.lt; have := HGL0.out; omega)
  rw [HGL0.out] at HN6 ⊢
  have HNI : Hid (Held w6 gl 43 #[.int .i64 5, .int .i64 fq, .int .i64 (pg : Int)]) := HN6
  have HOI : Hid (w6.ownsRow base 43 3 v (nl + 0) (ptVs (l ++ H.slotsTo q 0))) := hidp (by have := own_below HOW.out HB6.out; rw [show H.slotsTo q 0 = [] from rfl, List.append_nil]; exact this)
  clear c0 c1 c2 c3 HX0 HX2 HX3 HX4 HX5 HB2 HB3 HB4 HB5 HBW HN3 HN4 HN5 HN6 HGL0 HSZ HSN HPG
  go_loopw [1, 30] (fun u1 u30 wr => ∃ (i : Nat) (y r : Int), i ≤ m ∧ u30 = .int .i64 (i : Int) ∧ y = fq + ((i * z : Nat) : Int) ∧ r = (pg : Int) - ((i * z : Nat) : Int) ∧ Hid (wr.ownsRow base 43 3 u1 (nl + i) (ptVs (l ++ H.slotsTo q i))) ∧ Hid (Turns (fun i => v.ownBlock = some i) w wr) ∧ Hid (∀ g, u1.ownBlock = some g → v.ownBlock = some g ∨ gl < g) ∧ Hid (Held wr w.heap.size 51 #[.int .i64 (H.t : Int), .int .i64 (H.p : Int), .int .i64 (H.s : Int), .slice (some ad) n c]) ∧ Hid (Held wr gl 43 #[.int .i64 5, .int .i64 y, .int .i64 r])) (fun _ u30 _ => m - (intOf u30).toNat)
  case atStart => exact ⟨0, fq, pg, by omega, rfl, by simp, by simp, HOI, hidp (Turns.of_below HB6.out _), hidp (fun g h => .inl h), HX6, HNI⟩
  case round =>
    clear HOI HNI HX6 HB6
    obtain ⟨i, y, r, hi, rfl, hy, hr, HO, HT, HL, HX, HNL⟩ := hrel
    have hiz : i * z ≤ m * z := Nat.mul_le_mul_right z hi
    by_cases hlt : i < m
    · have t0 : decide ((i : Int) < m) = true := decide_eq_true (by omega)
      have hiz1 : (i + 1) * z ≤ m * z := Nat.mul_le_mul_right z hlt
      rw [Nat.succ_mul] at hiz1
      have HIZ : Hid ((((i + 1) * z : Nat) : Int) = ((i * z : Nat) : Int) + (z : Int)) := hidp (by rw [Nat.succ_mul]; push_cast; rfl)
      obtain ⟨kd, hkd⟩ : ∃ kd, slotKd tk sv i = kd := ⟨_, rfl⟩
      have HKD : Hid (∀ W : World, Calls Tryz.prog 54 #[.int .u32 (tk : Int), .int .u32 (sv : Int), .int .i64 (i : Int)] W fun e w' => e = .returned (.int .i64 (kd : Int)) ∧ W = w') := hidp (fun W => by have := auSlotKind_c tk sv i ht32 hs32' (by omega) W; rwa [hkd] at this)
      have HSN1 : Hid (ptVs (l ++ H.slotsTo q (i + 1)) = ptVs (l ++ H.slotsTo q i) ++ [.int .i64 (kd : Int), .int .i64 y, .int .i64 (z : Int)]) := hidp (by
        rw [AuH.slotsTo_succ, ← List.append_assoc, ptVs_app, HSP.out i, ptVs_one, hkd, hy]
        push_cast
        rfl)
      have hyb : 1024 ≤ y ∧ y ≤ 1077000000 := by omega
      have hrb : 0 ≤ r ∧ r ≤ 1048576 := by omega
      have HYR : Hid (y + (z : Int) = fq + (((i + 1) * z : Nat) : Int) ∧ r - (z : Int) = (pg : Int) - (((i + 1) * z : Nat) : Int)) := hidp (by rw [HIZ.out]; omega)
      have sw1 : IntKind.i64.wrap (y + (z : Int)) = y + (z : Int) := i64_same (by omega) (by omega)
      have sw2 : IntKind.i64.wrap (r - (z : Int)) = r - (z : Int) := i64_same (by omega) (by omega)
      obtain ⟨d0, d1, d2⟩ := HNL.out.three
      have hlb := HOW.out.lt
      clear hkd hy hr hiz hiz1
      go_wp2_with fail
      refine wp_region_held_drew (S := (fun w' => w'.cell? ⟨gl, 1, none⟩ = some (.int .i64 y))) (by kernel_rfl) ?_ (fun hHeld => ?_)
      · (try dsimp only)
        first | exact HNL.out.three.2.1 | exact (HNL.out.alloc (.cells #[.int .i64 (kd : Int), .int .i64 y, .int .i64 (z : Int)] 43)).drew.three.2.1 | exact HN7.out.three.2.1 | exact hHeld
      refine tkz 0 ?_
      refine tkz 1 ?_
      refine tkz 2 ?_
      refine tkz 3 ?_
      refine tkz 5 ?_
      refine tkz 6 ?_
      refine tkz 7 ?_
      refine wpAnyH_ready (rs := [4]) (by kernel_rfl) (by simp) ?_
      refine AllReadyH.cons (o := _) rfl (fun K hK => ?_) AllReadyH.nil
      go_simp
      (go_at_call 54; refine (HKD.out _).mono ?_; rintro e w7 ⟨rfl, rfl⟩)
      refine hK.out _ _ ?_ (fun hHeld => ?_)
      · (try dsimp only)
        first | exact HNL.out.three.2.1 | exact (HNL.out.alloc (.cells #[.int .i64 (kd : Int), .int .i64 y, .int .i64 (z : Int)] 43)).drew.three.2.1 | exact HN7.out.three.2.1 | exact hHeld
      clear hK K
      (try simp only [Act.put, gA, gB, gC, sA, sB, sC])
      refine tkz 8 ?_
      refine wpAnyH_ready (rs := [9]) (by kernel_rfl) (by simp) ?_
      refine AllReadyH.cons (o := _) rfl (fun K hK => ?_) AllReadyH.nil
      go_simp
      skip
      refine hK.out _ _ ?_ (fun hHeld => ?_)
      · (try dsimp only)
        first | exact HNL.out.three.2.1 | exact (HNL.out.alloc (.cells #[.int .i64 (kd : Int), .int .i64 y, .int .i64 (z : Int)] 43)).drew.three.2.1 | exact HN7.out.three.2.1 | exact hHeld
      clear hK K
      (try simp only [Act.put, gA, gB, gC, sA, sB, sC])
      refine wpAnyH_ready (rs := [10]) (by kernel_rfl) (by simp) ?_
      refine AllReadyH.cons (o := _) rfl (fun K hK => ?_) AllReadyH.nil
      (refine step_append_lies _ (by rfl) _ _ 37 (by rfl) base 43 j0 (.agg #[.int .i64 0, .int .i64 0, .int .i64 0]) 3 24 Tryz.underlying37 hjn hjz0 hjz1 hjz2 rfl (by decide) u1 (nl + i) (ptVs (l ++ H.slotsTo q i)) (by rfl) ((own_below HO.out (Bdrew (B0 _))).alloc _) ⟨_, 0, none⟩ 1 1 [.int .i64 (kd : Int), .int .i64 y, .int .i64 (z : Int)] (by rfl) rfl (fun jj yy hyy => World.news_of_block (w := wr.alloc (.cells #[.int .i64 (kd : Int), .int .i64 y, .int .i64 (z : Int)] 43)) (heap_alloc_new wr _) jj yy (by simpa using hyy)) (by simp [Value.oneCell']) (by omega) (by unfold maxLen; omega) (by omega) (by have := HT.out.size; simp; omega) _ rfl ?_; intro g cap w8 hown8 hgrow8 hat8 hlt8; have HO8 := hidp hown8; have HGR := hidp hgrow8; have HAT := hidp hat8; have HN7 := hidp (held_grown (HNL.out.alloc (.cells #[.int .i64 (kd : Int), .int .i64 y, .int .i64 (z : Int)] 43)).drew hgrow8 (fun e => by rcases HL.out _ e with h | h; (have := HVB.out _ h; have := HGL.out; omega); omega)); have HX7 := hidp (held_grown (HX.out.alloc (.cells #[.int .i64 (kd : Int), .int .i64 y, .int .i64 (z : Int)] 43)).drew hgrow8 (fun e => by rcases HL.out _ e with h | h; (have := HVB.out _ h; omega); (have := HGL.out; omega))); clear hown8 hgrow8 hat8 hlt8)
      refine hK.out _ _ ?_ (fun hHeld => ?_)
      · (try dsimp only)
        first | exact HNL.out.three.2.1 | exact (HNL.out.alloc (.cells #[.int .i64 (kd : Int), .int .i64 y, .int .i64 (z : Int)] 43)).drew.three.2.1 | exact HN7.out.three.2.1 | exact hHeld
      clear hK K
      (try simp only [Act.put, gA, gB, gC, sA, sB, sC])
      refine tkz 11 ?_
      refine wpAnyH_done (by kernel_rfl) ?_ _
      obtain ⟨d0, d1, d2⟩ := HN7.out.three
      have f1 := HN7.out.thawed 1
      have f2 := HN7.out.thawed 2
      have HGN : Hid (v.ownBlock = some g ∨ gl < g) := hidp (by
        rcases HAT.out with h | h
        · exact HL.out g h
        · have := HNL.out.lt; simp at h; omega)
      have HT8 := hidp (turns_grown (F := fun i => v.ownBlock = some i) (HT.out.alloc (.cells #[.int .i64 (kd : Int), .int .i64 y, .int .i64 (z : Int)] 43)).drew HGR.out (fun x hx => (HL.out x hx).imp id (fun h => by have := HGL.out; omega)))
      have HO9 : Hid (∀ a b : Value, ((w8.setCell ⟨gl, 1, none⟩ a).setCell ⟨gl, 2, none⟩ b).ownsRow base 43 3 (.slice (some ⟨g, 0, none⟩) (nl + i + 1) cap) (nl + (i + 1)) (ptVs (l ++ H.slotsTo q (i + 1)))) := hidp (fun a b => by
        rw [HSN1.out]
        refine own_kept HO8.out (fun gg hgg => ?_)
        have hgg : g = gg := by simpa [Value.ownBlock] using hgg
        subst hgg
        have hne : g ≠ gl := by
          rcases HGN.out with h | h
          · have := HVB.out _ h; have := HGL.out; omega
          · omega
        exact (Below.heap_setCell _ _ _ _ hne).trans (Below.heap_setCell _ _ _ _ hne))
      clear HO8 HGR HAT HO HT HL hlb
      go_wp2_with fail
      go_roundw
      case rel => exact ⟨i + 1, y + (z : Int), r - (z : Int), by omega, by go_num, HYR.out.1, HYR.out.2, hidp (HO9.out _ _), hidp ((HT8.out.put_new (p := ⟨gl, 1, none⟩) (by have := HGL.out; simp; omega) _).put_new (p := ⟨gl, 2, none⟩) (by have := HGL.out; simp; omega) _), hidp (fun gg hgg => by
          have hgg : g = gg := by simpa [Value.ownBlock] using hgg
          subst hgg; exact HGN.out), hidp ((HX7.out.far (p := ⟨gl, 1, none⟩) (by have := HGL.out; simp; omega) _).far (p := ⟨gl, 2, none⟩) (by have := HGL.out; simp; omega) _), hidp ((HN7.out.put 1 _).put 2 _)⟩
      case measure => simp [intOf]; omega
    · have him : i = m := by omega
      have t0 : decide ((i : Int) < m) = false := decide_eq_false (by omega)
      have HIM := hidp him
      obtain ⟨d0, d1, d2⟩ := HNL.out.three
      have hfin : ∀ gg, u1.ownBlock = some gg → v.ownBlock = some gg ∨ w.heap.size ≤ gg := fun gg h => (HL.out gg h).imp id (fun h => by have := HGL.out; omega)
      have HFIN := hidp hfin
      have HOM : Hid (wr.ownsRow base 43 3 u1 (nl + i) (ptVs (l ++ H.slotsTo q m))) := hidp (by rw [show H.slotsTo q m = H.slotsTo q i by rw [him]]; exact HO.out)
      by_cases hsl : m * z < pg
      · have hrp : decide ((0 : Int) < r) = true := decide_eq_true (by rw [hr, him]; omega)
        have HPB : Hid (H.partsAt q = H.slotsTo q m ++ [(5, y, r)]) := hidp (by rw [HPA.out, HSK.out, if_pos hsl, hy, hr, him])
        have hlb := HT.out.size
        have hbs := HBS.out
        clear him hsl hy hr hiz hfin HPA HSK HIM
        go_wp2_with (first
          | (at_builtin
             refine wpList_append_lies _ rfl _ _ 37 rfl base 43 j0 (.agg #[.int .i64 0, .int .i64 0, .int .i64 0]) 3 24 Tryz.underlying37 hjn hjz0 hjz1 hjz2 rfl (by decide) u1 (nl + i) (ptVs (l ++ H.slotsTo q m)) rfl (HOM.out.alloc _) ⟨_, 0, none⟩ 1 1 [.int .i64 5, .int .i64 y, .int .i64 r] rfl rfl ?c1 ?c2 (by omega) ?c3 ?c4 ?c5 _ rfl ?_
             case c1 => exact fun jj yy hyy => World.news_of_block (w := wr.alloc (.cells #[.int .i64 5, .int .i64 y, .int .i64 r] 43)) (heap_alloc_new wr _) jj yy (by simpa using hyy)
             case c2 => simp [Value.oneCell']
             case c3 => unfold maxLen; omega
             case c4 => omega
             case c5 => simp; omega
             intro g cap w8 hown8 hgrow8 hat8 hlt8)
          | fail)
        go_ret
        refine ⟨_, rfl, ?_, turns_grown (HT.out.alloc _) hgrow8 HFIN.out, fun gg hgg => ?_⟩
        · have e : (l ++ H.partsAt q).length = nl + i + 1 := by rw [HPB.out]; simp [AuH.slotsTo_len, HLL.out]; omega
          rw [e, HPB.out, ← List.append_assoc, ptVs_app, ptVs_one]
          exact hown8
        · have hgg : g = gg := by simpa [Value.ownBlock] using hgg
          subst hgg
          rcases hat8 with h | h
          · exact HFIN.out _ h
          · right; simp at h; omega
      · have hrp : decide ((0 : Int) < r) = false := decide_eq_false (by rw [hr, him]; omega)
        have HPB : Hid (H.partsAt q = H.slotsTo q m) := hidp (by rw [HPA.out, HSK.out, if_neg hsl, List.append_nil])
        clear him hsl hy hr hiz hfin HPA HSK
        go_wp2_with fail
        go_ret
        refine ⟨u1, rfl, ?_, HT.out, HFIN.out⟩
        have e : (l ++ H.partsAt q).length = nl + i := by rw [HPB.out, List.length_append, AuH.slotsTo_len, HLL.out, HIM.out]
        rw [e, HPB.out]
        exact HOM.out
end
section
theorem own_down {w : World} {base base' : Nat} {e : TypeId} {size : Nat} {v : Value} {n : Nat} {xs : List Value} (h : w.ownsRow base e size v n xs) (hb : base' ≤ base) : w.ownsRow base' e size v n xs :=
  ⟨h.1, h.2.imp id fun ⟨g, cap, cur, h1, h2, h3⟩ => ⟨g, cap, cur, h1, Nat.le_trans hb h2, h3⟩⟩
theorem own_cells {w : World} {base : Nat} {e : TypeId} {size n : Nat} {v : Value} {xs : List Value} (h : w.ownsRow base e size v n xs) {g : Nat} (hg : v.ownBlock = some g) : ∃ o, w.heap[g]? = some o ∧ o.isCells = true := by
  rcases h.2 with ⟨rfl, _⟩ | ⟨g', cap, cur, rfl, hbg, hg', hr⟩
  · simp [Value.ownBlock] at hg
  · have : g' = g := by simpa [Value.ownBlock] using hg
    subst this
    exact ⟨_, hg', rfl⟩
section
attribute [local go_sem] Oper.semAt_some

set_option maxHeartbeats 12800000 in
set_option maxRecDepth 100000 in
theorem auParts_c {H : AuH} {n c : Nat} (HV : HeapV H n c) (ht : H.Tiled) (ad : Addr) (w : World) (hv : IsVals w ad n H.V) (hT : SlotsLaid w) :
    Calls Tryz.prog 21 #[hpV H ad n c] w fun e w' => ∃ u, e = .returned u ∧ w'.ownsRow w.heap.size 43 3 u H.parts.length (ptVs H.parts) ∧ Below w.heap.size w w' := by
  have HTL := hidp hT
  obtain ⟨j0, hjn, hjz0, hjz1, hjz2⟩ := info_parts partInfo
  have HVL := hidp hv
  have HP : H.p ≤ 1024 := HV.nums.2.2.2.1
  refine calls_of_wp_mark Tryz.func21 rfl ?_
  unfold hpV
  simp only [Tryz.ntmps21, List.size_toArray, List.length_cons, List.length_nil, Nat.reduceAdd, Nat.reduceSub, Array.replicate_succ, Array.replicate_zero, List.push_toArray, List.append_toArray, List.nil_append, List.cons_append]
  have HX0 := hidp ((Held.new w 51 #[.int .i64 (H.t : Int), .int .i64 (H.p : Int), .int .i64 (H.s : Int), .slice (some ad) n c]).alloc (.cells #[.slice none 0 0] 37))
  have HX1 := hidp (Held.new (w.alloc (.cells #[.int .i64 (H.t : Int), .int .i64 (H.p : Int), .int .i64 (H.s : Int), .slice (some ad) n c] 51)) 37 #[.slice none 0 0])
  rw [World.size_alloc] at HX1
  have HBW := hidp (Bnew (Bnew (B0 w) (.cells #[.int .i64 (H.t : Int), .int .i64 (H.p : Int), .int .i64 (H.s : Int), .slice (some ad) n c] 51)) (.cells #[.slice none 0 0] 37))
  go_wp2_with fail
  have HBS : Hid (((w.alloc (.cells #[.int .i64 (H.t : Int), .int .i64 (H.p : Int), .int .i64 (H.s : Int), .slice (some ad) n c] 51)).alloc (.cells #[.slice none 0 0] 37)).heap.size = w.heap.size + 1 + 1) := hidp (by simp)
  generalize (w.alloc (.cells #[.int .i64 (H.t : Int), .int .i64 (H.p : Int), .int .i64 (H.s : Int), .slice (some ad) n c] 51)).alloc (.cells #[.slice none 0 0] 37) = W3 at *
  refine wp_seq (w0 := w) (gf := 29) (bound := #[hpV H ad n c]) (enc := encS H) (can := H.can) (next := H.nx) rfl (enters_of Tryz.func29 (by kernel_rfl) rfl) (auSpans_seq HV ad w HVL.out) HBW.out (fun _ => rfl)
    (fun pos F A => ∃ u, F = (fun i => i = (w.heap.size + 1) ∨ (u : Value).ownBlock = some i) ∧ H.At pos ∧ Held A w.heap.size 51 #[.int .i64 (H.t : Int), .int .i64 (H.p : Int), .int .i64 (H.s : Int), .slice (some ad) n c] ∧ Held A (w.heap.size + 1) 37 #[u] ∧ A.ownsRow (w.heap.size + 1 + 1) 43 3 u (AuH.catTo H.partsAt pos).length (ptVs (AuH.catTo H.partsAt pos)) ∧ Below w.heap.size w A)
    (fun c A => False)
    ?hI ?hIx ?hIB ?hIF (F0 := (fun i => i = (w.heap.size + 1) ∨ (.slice none 0 0 : Value).ownBlock = some i)) ⟨_, rfl, .zero, HX0.out, HX1.out, World.ownsRow_nil _ _ _ _, HBW.out⟩ ?round ?done ?stop
  case hI => rintro pos F A B ⟨u, h1, h2, h4, h5, h6, h7⟩ hm; exact ⟨u, h1, h2, hm.held h4, hm.held h5, hm.own h6, hm.below h7 HBW.out.size⟩
  case hIx => rintro c A B h hm; exact h
  case hIB => rintro pos F A ⟨u, h1, h2, h4, h5, h6, h7⟩; exact h7
  case hIF => rintro pos F A ⟨u, rfl, h2, h4, h5, h6, h7⟩ i (rfl | hi); exact ⟨_, h5, rfl⟩; exact own_cells h6 hi
  case round =>
    rintro l0 pos F A hc ⟨u, rfl, hat, x0, x1, x2, hB⟩ hsz
    unfold encS
    have HAB : Hid ((w.heap.size + 1) < A.heap.size ∧ (∀ g, u.ownBlock = some g → (w.heap.size + 1 + 1) ≤ g ∧ g < A.heap.size)) := hidp ⟨x1.lt, fun g h => x2.lt g h⟩
    gi_wp2_with fail
    refine ⟨Bnew (B0 A) _, fun A2 hM hs => ?_⟩
    have HN := hidp (hM.held (Held.new A 63 #[.int .i64 (H.K pos), .int .i64 (H.ln pos : Int), .int .i64 (H.Cl pos)]))
    have HX0 := hidp (hM.held (x0.alloc (.cells #[.int .i64 (H.K pos), .int .i64 (H.ln pos : Int), .int .i64 (H.Cl pos)] 63)))
    have HG := hidp (hM.held (x1.alloc (.cells #[.int .i64 (H.K pos), .int .i64 (H.ln pos : Int), .int .i64 (H.Cl pos)] 63)))
    have HB := hidp (hM.below (Bnew hB (.cells #[.int .i64 (H.K pos), .int .i64 (H.ln pos : Int), .int .i64 (H.Cl pos)] 63)) HBW.out.size)
    have HO0 := hidp (hM.own (own_below x2 (Bnew (B0 A) (.cells #[.int .i64 (H.K pos), .int .i64 (H.ln pos : Int), .int .i64 (H.Cl pos)] 63))))
    have HAT0 := hidp hat
    have HC := hidp hc
    obtain ⟨hlt, hk0, hle⟩ := (H.can_iff pos).1 hc
    have HLT := hidp hlt
    have HCT := hidp (ht.cat hat hlt (fun q _ h => AuH.partsAt_no (H := H) h))
    have HVR := hidp (HVL.out.below HB.out)
    have HTLR := hidp (HTL.out.below HB.out)
    have HAS : Hid (A.heap.size < A2.heap.size) := hidp (by rw [hs]; simp)
    clear hM x0 x1 x2 hB hat hc hs hsz hle
    have hpl := AuH.parts_len (H := H) pos
    obtain ⟨l, hll⟩ : ∃ l, AuH.catTo H.partsAt pos = l := ⟨_, rfl⟩
    rw [hll] at HO0 HCT hpl
    obtain ⟨nl, hnl⟩ : ∃ nl, l.length = nl := ⟨_, rfl⟩
    have HLN := hidp hnl
    have HO : Hid (A2.ownsRow (w.heap.size + 1 + 1) 43 3 u nl (ptVs l)) := hidp (by have := HO0.out; rwa [hnl] at this)
    rw [hnl] at hpl
    have hnl9 : nl ≤ 100000 := by omega
    clear hll hnl HO0 hpl
    have hkc := H.K_cases pos
    have hp1 : H.K pos = 1 → H.partsAt pos = [(1, H.first pos, (H.ln pos : Int) * (H.pg : Int))] := fun h => by unfold AuH.partsAt; rw [if_pos h]
    have hp2 : H.K pos = 2 → H.partsAt pos = [(2, H.first pos, (H.ln pos : Int) * (H.pg : Int))] := fun h => by unfold AuH.partsAt; rw [if_neg (by omega), if_pos h]
    have hmk := (H.ln_pos pos hk0).2
    have HPG := hidp (fun (k : Int) (W : World) => auPages_c HV ad k pos (H.ln pos) hlt hmk W)
    have HAS2 := hidp (fun (h3 : H.K pos = 3) (W : World) (h4 : IsVals W ad n H.V) (h5 : SlotsLaid W) (h6 : (w.heap.size + 1 + 1) ≤ W.heap.size) (h7 : W.ownsRow (w.heap.size + 1 + 1) 43 3 u nl (ptVs l)) => auAddSlots_c HV ad hlt h3 (w.heap.size + 1 + 1) nl u l HLN.out hnl9 W h4 h5 h6 h7)
    generalize hfq : H.first pos = fq at *
    clear hfq
    generalize hkk : H.K pos = kk at *
    clear hkk
    generalize H.ln pos = m at *
    generalize H.Cl pos = cl at *
    have HS : Hid (∀ w', Turns (fun i => i = (w.heap.size + 1) ∨ (u : Value).ownBlock = some i) A2 w' → (fun w' => w'.cell? ⟨w.heap.size, 0, none⟩ = some (.int .i64 (H.t : Int)) ∧ w'.cell? ⟨w.heap.size, 1, none⟩ = some (.int .i64 (H.p : Int)) ∧ w'.cell? ⟨w.heap.size, 2, none⟩ = some (.int .i64 (H.s : Int)) ∧ w'.cell? ⟨w.heap.size, 3, none⟩ = some (.slice (some ad) n c) ∧ w'.cell? ⟨A.heap.size, 0, none⟩ = some (.int .i64 kk) ∧ w'.cell? ⟨A.heap.size, 1, none⟩ = some (.int .i64 (m : Int)) ∧ w'.cell? ⟨A.heap.size, 2, none⟩ = some (.int .i64 cl)) w') := hidp (fun w' hT => by
      have hu : ∀ g, u.ownBlock = some g → (w.heap.size + 1 + 1) ≤ g ∧ g < A.heap.size := HAB.out.2
      have h0 := (hT.held HX0.out (fun h => by rcases h with h | h; (omega); have := (hu _ h).1; omega)).four
      have h2 := (hT.held HN.out (fun h => by rcases h with h | h; (have := HAB.out.1; omega); have := (hu _ h).2; omega)).three
      exact ⟨h0.1, h0.2.1, h0.2.2.1, h0.2.2.2, h2.1, h2.2.1, h2.2.2⟩)
    obtain ⟨c0, c1, c2, c3, d0, d1, d2⟩ := HS.out A2 (T0 _ _)
    obtain ⟨c4, f4⟩ := HG.out.one
    have c4d : A2.drew.cell? ⟨(w.heap.size + 1), 0, none⟩ = some u := c4
    rcases hkc with hk | ⟨hk | hk, hl1, hl2, -⟩ | ⟨hk, hl1, hcl1, hcl2⟩
    · exact absurd hk.1 hk0
    · subst hk
      have HPA := hidp (hp1 rfl)
      clear hp1 hp2 hk0 HAS2
      gi_wp2_with fail
      refine wp_region_round (S := (fun w' => w'.cell? ⟨w.heap.size, 0, none⟩ = some (.int .i64 (H.t : Int)) ∧ w'.cell? ⟨w.heap.size, 1, none⟩ = some (.int .i64 (H.p : Int)) ∧ w'.cell? ⟨w.heap.size, 2, none⟩ = some (.int .i64 (H.s : Int)) ∧ w'.cell? ⟨w.heap.size, 3, none⟩ = some (.slice (some ad) n c) ∧ w'.cell? ⟨A.heap.size, 0, none⟩ = some (.int .i64 1) ∧ w'.cell? ⟨A.heap.size, 1, none⟩ = some (.int .i64 (m : Int)) ∧ w'.cell? ⟨A.heap.size, 2, none⟩ = some (.int .i64 cl))) (by kernel_rfl) (by kernel_rfl) (fun _ _ h => h) ?_ (fun hHeld => ?_)
      · (try dsimp only)
        first | exact HS.out _ (T0 _ A2).drew | exact HS.out _ HT4.out | exact HS.out _ (HT4.out.alloc _) | exact HS.out _ HT8.out | exact HS.out _ (HT8.out.put (p := ⟨(w.heap.size + 1), 0, none⟩) (.inl rfl) _) | exact hHeld
      refine tkz 1 ?_
      refine tkz 2 ?_
      refine tkz 3 ?_
      refine tkz 4 ?_
      refine wpAnyH_ready (rs := [0, 5]) (by kernel_rfl) (by simp) ?_
      refine (AllReadyH.cons (o := _) rfl (fun K hK => ?_) (AllReadyH.cons (o := _) rfl (fun K hK => ?_) AllReadyH.nil))
      · go_simp
        refine hK.out _ _ ?_ (fun hHeld => ?_)
        · (try dsimp only)
          first | exact HS.out _ (T0 _ A2).drew | exact HS.out _ HT4.out | exact HS.out _ (HT4.out.alloc _) | exact HS.out _ HT8.out | exact HS.out _ (HT8.out.put (p := ⟨(w.heap.size + 1), 0, none⟩) (.inl rfl) _) | exact hHeld
        clear hK K
        (try simp only [Act.put, gA, gB, gC, sA, sB, sC])
        refine wpAnyH_ready (rs := [5]) (by kernel_rfl) (by simp) ?_
        refine AllReadyH.cons (o := _) rfl (fun K hK => ?_) AllReadyH.nil
        go_simp
        (go_at_call 30; refine (HPG.out 1 _).mono ?_; rintro e w4 ⟨rfl, hb4⟩; have HT4 := hidp ((T0 (fun i => i = (w.heap.size + 1) ∨ (u : Value).ownBlock = some i) A2).drew.trans (Turns.of_below hb4 _)); have HG4 := hidp (HG.out.drew.keep hb4); have HO4 := hidp (own_below (w := A2.drew) HO.out hb4); clear hb4; have c9 := HG4.out.one.1; have c10 := (HG4.out.alloc (.cells #[.int .i64 1, .int .i64 fq, .int .i64 ((m : Int) * (H.pg : Int))] 43)).one.1)
        refine hK.out _ _ ?_ (fun hHeld => ?_)
        · (try dsimp only)
          first | exact HS.out _ (T0 _ A2).drew | exact HS.out _ HT4.out | exact HS.out _ (HT4.out.alloc _) | exact HS.out _ HT8.out | exact HS.out _ (HT8.out.put (p := ⟨(w.heap.size + 1), 0, none⟩) (.inl rfl) _) | exact hHeld
        clear hK K
        (try simp only [Act.put, gA, gB, gC, sA, sB, sC])
        refine wpAnyH_ready (rs := [6]) (by kernel_rfl) (by simp) ?_
        refine AllReadyH.cons (o := _) rfl (fun K hK => ?_) AllReadyH.nil
        go_simp
        skip
        refine hK.out _ _ ?_ (fun hHeld => ?_)
        · (try dsimp only)
          first | exact HS.out _ (T0 _ A2).drew | exact HS.out _ HT4.out | exact HS.out _ (HT4.out.alloc _) | exact HS.out _ HT8.out | exact HS.out _ (HT8.out.put (p := ⟨(w.heap.size + 1), 0, none⟩) (.inl rfl) _) | exact hHeld
        clear hK K
        (try simp only [Act.put, gA, gB, gC, sA, sB, sC])
        refine wpAnyH_ready (rs := [7]) (by kernel_rfl) (by simp) ?_
        refine AllReadyH.cons (o := _) rfl (fun K hK => ?_) AllReadyH.nil
        (refine step_append_lies _ (by rfl) _ _ 37 (by rfl) (w.heap.size + 1 + 1) 43 j0 (.agg #[.int .i64 0, .int .i64 0, .int .i64 0]) 3 24 Tryz.underlying37 hjn hjz0 hjz1 hjz2 rfl (by decide) u nl (ptVs l) (by rfl) (HO4.out.alloc _) ⟨_, 0, none⟩ 1 1 [.int .i64 1, .int .i64 fq, .int .i64 ((m : Int) * (H.pg : Int))] (by rfl) rfl (fun jj yy hyy => World.news_of_block (w := w4.alloc (.cells #[.int .i64 1, .int .i64 fq, .int .i64 ((m : Int) * (H.pg : Int))] 43)) (heap_alloc_new w4 _) jj yy (by simpa using hyy)) (by simp [Value.oneCell']) (by omega) (by unfold maxLen; omega) (by omega) (by have := HT4.out.size; have := HAB.out.1; have := HAS.out; simp; omega) _ rfl ?_; intro g cap w8 hown8 hgrow8 hat8 hlt8; have HO8 := hidp hown8; have HAT := hidp hat8; have HT8 := hidp (turns_grown (F := (fun i => i = (w.heap.size + 1) ∨ (u : Value).ownBlock = some i)) (HT4.out.alloc (.cells #[.int .i64 1, .int .i64 fq, .int .i64 ((m : Int) * (H.pg : Int))] 43)) hgrow8 (fun i hi => .inl (.inr hi))); have HG8 := hidp (held_grown (HG4.out.alloc (.cells #[.int .i64 1, .int .i64 fq, .int .i64 ((m : Int) * (H.pg : Int))] 43)) hgrow8 (fun e => by have := (HO.out.lt _ e).1; omega)); clear hown8 hgrow8 hat8 hlt8; obtain ⟨c8, f8⟩ := HG8.out.one)
        refine hK.out _ _ ?_ (fun hHeld => ?_)
        · (try dsimp only)
          first | exact HS.out _ (T0 _ A2).drew | exact HS.out _ HT4.out | exact HS.out _ (HT4.out.alloc _) | exact HS.out _ HT8.out | exact HS.out _ (HT8.out.put (p := ⟨(w.heap.size + 1), 0, none⟩) (.inl rfl) _) | exact hHeld
        clear hK K
        (try simp only [Act.put, gA, gB, gC, sA, sB, sC])
        refine wpAnyH_ready (rs := [8]) (by kernel_rfl) (by simp) ?_
        refine AllReadyH.cons (o := _) rfl (fun K hK => ?_) AllReadyH.nil
        go_simp
        skip
        refine hK.out _ _ ?_ (fun hHeld => ?_)
        · (try dsimp only)
          first | exact HS.out _ (T0 _ A2).drew | exact HS.out _ HT4.out | exact HS.out _ (HT4.out.alloc _) | exact HS.out _ HT8.out | exact HS.out _ (HT8.out.put (p := ⟨(w.heap.size + 1), 0, none⟩) (.inl rfl) _) | exact hHeld
        clear hK K
        (try simp only [Act.put, gA, gB, gC, sA, sB, sC])
        refine wpAnyH_done (by kernel_rfl) ?_ _
        gi_wp2
        have HT9 := HT8.out.put (p := ⟨(w.heap.size + 1), 0, none⟩) (.inl rfl) (.slice (some ⟨g, 0, none⟩) (nl + 1) cap)
        have hgn : ((w.heap.size + 1 + 1) ≤ g ∧ g ≠ (w.heap.size + 1)) ∧ (u.ownBlock = some g ∨ A.heap.size ≤ g) := by
          have h1 := (HO8.out.lt g rfl).1
          refine ⟨⟨h1, by omega⟩, ?_⟩
          rcases HAT.out with h | h
          · exact .inl h
          · right; have := HT4.out.size; have := HAS.out; simp at h; omega
        refine ⟨HT9, _, ⟨_, rfl, .step HAT0.out HC.out, HT9.held HX0.out (fun h => by rcases h with h | h; (omega); have := (HO.out.lt _ h).1; omega), HG8.out.put1 _, ?_, HT9.below HB.out (fun i hi => by rcases hi with h | h; (omega); have := (HO.out.lt _ h).1; omega)⟩, fun i hi => ?_⟩
        · rw [HCT.out, List.length_append, ptVs_app, HPA.out, ptVs_one, HLN.out]
          exact own_kept HO8.out (fun gg hgg => by
            have hgg : g = gg := by simpa [Value.ownBlock] using hgg
            subst hgg
            exact Below.heap_setCell _ _ _ _ hgn.1.2)
        · rcases hi with hi | hi
          · exact .inl (.inl hi)
          · have hi : g = i := by simpa [Value.ownBlock] using hi
            subst hi
            exact hgn.2.imp .inr id
      · go_simp
        (go_at_call 30; refine (HPG.out 1 _).mono ?_; rintro e w4 ⟨rfl, hb4⟩; have HT4 := hidp ((T0 (fun i => i = (w.heap.size + 1) ∨ (u : Value).ownBlock = some i) A2).drew.trans (Turns.of_below hb4 _)); have HG4 := hidp (HG.out.drew.keep hb4); have HO4 := hidp (own_below (w := A2.drew) HO.out hb4); clear hb4; have c9 := HG4.out.one.1; have c10 := (HG4.out.alloc (.cells #[.int .i64 1, .int .i64 fq, .int .i64 ((m : Int) * (H.pg : Int))] 43)).one.1)
        refine hK.out _ _ ?_ (fun hHeld => ?_)
        · (try dsimp only)
          first | exact HS.out _ (T0 _ A2).drew | exact HS.out _ HT4.out | exact HS.out _ (HT4.out.alloc _) | exact HS.out _ HT8.out | exact HS.out _ (HT8.out.put (p := ⟨(w.heap.size + 1), 0, none⟩) (.inl rfl) _) | exact hHeld
        clear hK K
        (try simp only [Act.put, gA, gB, gC, sA, sB, sC])
        refine wpAnyH_ready (rs := [0, 6]) (by kernel_rfl) (by simp) ?_
        refine (AllReadyH.cons (o := _) rfl (fun K hK => ?_) (AllReadyH.cons (o := _) rfl (fun K hK => ?_) AllReadyH.nil))
        · go_simp
          refine hK.out _ _ ?_ (fun hHeld => ?_)
          · (try dsimp only)
            first | exact HS.out _ (T0 _ A2).drew | exact HS.out _ HT4.out | exact HS.out _ (HT4.out.alloc _) | exact HS.out _ HT8.out | exact HS.out _ (HT8.out.put (p := ⟨(w.heap.size + 1), 0, none⟩) (.inl rfl) _) | exact hHeld
          clear hK K
          (try simp only [Act.put, gA, gB, gC, sA, sB, sC])
          refine wpAnyH_ready (rs := [6]) (by kernel_rfl) (by simp) ?_
          refine AllReadyH.cons (o := _) rfl (fun K hK => ?_) AllReadyH.nil
          go_simp
          skip
          refine hK.out _ _ ?_ (fun hHeld => ?_)
          · (try dsimp only)
            first | exact HS.out _ (T0 _ A2).drew | exact HS.out _ HT4.out | exact HS.out _ (HT4.out.alloc _) | exact HS.out _ HT8.out | exact HS.out _ (HT8.out.put (p := ⟨(w.heap.size + 1), 0, none⟩) (.inl rfl) _) | exact hHeld
          clear hK K
          (try simp only [Act.put, gA, gB, gC, sA, sB, sC])
          refine wpAnyH_ready (rs := [7]) (by kernel_rfl) (by simp) ?_
          refine AllReadyH.cons (o := _) rfl (fun K hK => ?_) AllReadyH.nil
          (refine step_append_lies _ (by rfl) _ _ 37 (by rfl) (w.heap.size + 1 + 1) 43 j0 (.agg #[.int .i64 0, .int .i64 0, .int .i64 0]) 3 24 Tryz.underlying37 hjn hjz0 hjz1 hjz2 rfl (by decide) u nl (ptVs l) (by rfl) (HO4.out.alloc _) ⟨_, 0, none⟩ 1 1 [.int .i64 1, .int .i64 fq, .int .i64 ((m : Int) * (H.pg : Int))] (by rfl) rfl (fun jj yy hyy => World.news_of_block (w := w4.alloc (.cells #[.int .i64 1, .int .i64 fq, .int .i64 ((m : Int) * (H.pg : Int))] 43)) (heap_alloc_new w4 _) jj yy (by simpa using hyy)) (by simp [Value.oneCell']) (by omega) (by unfold maxLen; omega) (by omega) (by have := HT4.out.size; have := HAB.out.1; have := HAS.out; simp; omega) _ rfl ?_; intro g cap w8 hown8 hgrow8 hat8 hlt8; have HO8 := hidp hown8; have HAT := hidp hat8; have HT8 := hidp (turns_grown (F := (fun i => i = (w.heap.size + 1) ∨ (u : Value).ownBlock = some i)) (HT4.out.alloc (.cells #[.int .i64 1, .int .i64 fq, .int .i64 ((m : Int) * (H.pg : Int))] 43)) hgrow8 (fun i hi => .inl (.inr hi))); have HG8 := hidp (held_grown (HG4.out.alloc (.cells #[.int .i64 1, .int .i64 fq, .int .i64 ((m : Int) * (H.pg : Int))] 43)) hgrow8 (fun e => by have := (HO.out.lt _ e).1; omega)); clear hown8 hgrow8 hat8 hlt8; obtain ⟨c8, f8⟩ := HG8.out.one)
          refine hK.out _ _ ?_ (fun hHeld => ?_)
          · (try dsimp only)
            first | exact HS.out _ (T0 _ A2).drew | exact HS.out _ HT4.out | exact HS.out _ (HT4.out.alloc _) | exact HS.out _ HT8.out | exact HS.out _ (HT8.out.put (p := ⟨(w.heap.size + 1), 0, none⟩) (.inl rfl) _) | exact hHeld
          clear hK K
          (try simp only [Act.put, gA, gB, gC, sA, sB, sC])
          refine wpAnyH_ready (rs := [8]) (by kernel_rfl) (by simp) ?_
          refine AllReadyH.cons (o := _) rfl (fun K hK => ?_) AllReadyH.nil
          go_simp
          skip
          refine hK.out _ _ ?_ (fun hHeld => ?_)
          · (try dsimp only)
            first | exact HS.out _ (T0 _ A2).drew | exact HS.out _ HT4.out | exact HS.out _ (HT4.out.alloc _) | exact HS.out _ HT8.out | exact HS.out _ (HT8.out.put (p := ⟨(w.heap.size + 1), 0, none⟩) (.inl rfl) _) | exact hHeld
          clear hK K
          (try simp only [Act.put, gA, gB, gC, sA, sB, sC])
          refine wpAnyH_done (by kernel_rfl) ?_ _
          gi_wp2
          have HT9 := HT8.out.put (p := ⟨(w.heap.size + 1), 0, none⟩) (.inl rfl) (.slice (some ⟨g, 0, none⟩) (nl + 1) cap)
          have hgn : ((w.heap.size + 1 + 1) ≤ g ∧ g ≠ (w.heap.size + 1)) ∧ (u.ownBlock = some g ∨ A.heap.size ≤ g) := by
            have h1 := (HO8.out.lt g rfl).1
            refine ⟨⟨h1, by omega⟩, ?_⟩
            rcases HAT.out with h | h
            · exact .inl h
            · right; have := HT4.out.size; have := HAS.out; simp at h; omega
          refine ⟨HT9, _, ⟨_, rfl, .step HAT0.out HC.out, HT9.held HX0.out (fun h => by rcases h with h | h; (omega); have := (HO.out.lt _ h).1; omega), HG8.out.put1 _, ?_, HT9.below HB.out (fun i hi => by rcases hi with h | h; (omega); have := (HO.out.lt _ h).1; omega)⟩, fun i hi => ?_⟩
          · rw [HCT.out, List.length_append, ptVs_app, HPA.out, ptVs_one, HLN.out]
            exact own_kept HO8.out (fun gg hgg => by
              have hgg : g = gg := by simpa [Value.ownBlock] using hgg
              subst hgg
              exact Below.heap_setCell _ _ _ _ hgn.1.2)
          · rcases hi with hi | hi
            · exact .inl (.inl hi)
            · have hi : g = i := by simpa [Value.ownBlock] using hi
              subst hi
              exact hgn.2.imp .inr id
        · go_simp
          refine hK.out _ _ ?_ (fun hHeld => ?_)
          · (try dsimp only)
            first | exact HS.out _ (T0 _ A2).drew | exact HS.out _ HT4.out | exact HS.out _ (HT4.out.alloc _) | exact HS.out _ HT8.out | exact HS.out _ (HT8.out.put (p := ⟨(w.heap.size + 1), 0, none⟩) (.inl rfl) _) | exact hHeld
          clear hK K
          (try simp only [Act.put, gA, gB, gC, sA, sB, sC])
          refine wpAnyH_ready (rs := [0]) (by kernel_rfl) (by simp) ?_
          refine AllReadyH.cons (o := _) rfl (fun K hK => ?_) AllReadyH.nil
          go_simp
          skip
          refine hK.out _ _ ?_ (fun hHeld => ?_)
          · (try dsimp only)
            first | exact HS.out _ (T0 _ A2).drew | exact HS.out _ HT4.out | exact HS.out _ (HT4.out.alloc _) | exact HS.out _ HT8.out | exact HS.out _ (HT8.out.put (p := ⟨(w.heap.size + 1), 0, none⟩) (.inl rfl) _) | exact hHeld
          clear hK K
          (try simp only [Act.put, gA, gB, gC, sA, sB, sC])
          refine wpAnyH_ready (rs := [7]) (by kernel_rfl) (by simp) ?_
          refine AllReadyH.cons (o := _) rfl (fun K hK => ?_) AllReadyH.nil
          (refine step_append_lies _ (by rfl) _ _ 37 (by rfl) (w.heap.size + 1 + 1) 43 j0 (.agg #[.int .i64 0, .int .i64 0, .int .i64 0]) 3 24 Tryz.underlying37 hjn hjz0 hjz1 hjz2 rfl (by decide) u nl (ptVs l) (by rfl) (HO4.out.alloc _) ⟨_, 0, none⟩ 1 1 [.int .i64 1, .int .i64 fq, .int .i64 ((m : Int) * (H.pg : Int))] (by rfl) rfl (fun jj yy hyy => World.news_of_block (w := w4.alloc (.cells #[.int .i64 1, .int .i64 fq, .int .i64 ((m : Int) * (H.pg : Int))] 43)) (heap_alloc_new w4 _) jj yy (by simpa using hyy)) (by simp [Value.oneCell']) (by omega) (by unfold maxLen; omega) (by omega) (by have := HT4.out.size; have := HAB.out.1; have := HAS.out; simp; omega) _ rfl ?_; intro g cap w8 hown8 hgrow8 hat8 hlt8; have HO8 := hidp hown8; have HAT := hidp hat8; have HT8 := hidp (turns_grown (F := (fun i => i = (w.heap.size + 1) ∨ (u : Value).ownBlock = some i)) (HT4.out.alloc (.cells #[.int .i64 1, .int .i64 fq, .int .i64 ((m : Int) * (H.pg : Int))] 43)) hgrow8 (fun i hi => .inl (.inr hi))); have HG8 := hidp (held_grown (HG4.out.alloc (.cells #[.int .i64 1, .int .i64 fq, .int .i64 ((m : Int) * (H.pg : Int))] 43)) hgrow8 (fun e => by have := (HO.out.lt _ e).1; omega)); clear hown8 hgrow8 hat8 hlt8; obtain ⟨c8, f8⟩ := HG8.out.one)
          refine hK.out _ _ ?_ (fun hHeld => ?_)
          · (try dsimp only)
            first | exact HS.out _ (T0 _ A2).drew | exact HS.out _ HT4.out | exact HS.out _ (HT4.out.alloc _) | exact HS.out _ HT8.out | exact HS.out _ (HT8.out.put (p := ⟨(w.heap.size + 1), 0, none⟩) (.inl rfl) _) | exact hHeld
          clear hK K
          (try simp only [Act.put, gA, gB, gC, sA, sB, sC])
          refine wpAnyH_ready (rs := [8]) (by kernel_rfl) (by simp) ?_
          refine AllReadyH.cons (o := _) rfl (fun K hK => ?_) AllReadyH.nil
          go_simp
          skip
          refine hK.out _ _ ?_ (fun hHeld => ?_)
          · (try dsimp only)
            first | exact HS.out _ (T0 _ A2).drew | exact HS.out _ HT4.out | exact HS.out _ (HT4.out.alloc _) | exact HS.out _ HT8.out | exact HS.out _ (HT8.out.put (p := ⟨(w.heap.size + 1), 0, none⟩) (.inl rfl) _) | exact hHeld
          clear hK K
          (try simp only [Act.put, gA, gB, gC, sA, sB, sC])
          refine wpAnyH_done (by kernel_rfl) ?_ _
          gi_wp2
          have HT9 := HT8.out.put (p := ⟨(w.heap.size + 1), 0, none⟩) (.inl rfl) (.slice (some ⟨g, 0, none⟩) (nl + 1) cap)
          have hgn : ((w.heap.size + 1 + 1) ≤ g ∧ g ≠ (w.heap.size + 1)) ∧ (u.ownBlock = some g ∨ A.heap.size ≤ g) := by
            have h1 := (HO8.out.lt g rfl).1
            refine ⟨⟨h1, by omega⟩, ?_⟩
            rcases HAT.out with h | h
            · exact .inl h
            · right; have := HT4.out.size; have := HAS.out; simp at h; omega
          refine ⟨HT9, _, ⟨_, rfl, .step HAT0.out HC.out, HT9.held HX0.out (fun h => by rcases h with h | h; (omega); have := (HO.out.lt _ h).1; omega), HG8.out.put1 _, ?_, HT9.below HB.out (fun i hi => by rcases hi with h | h; (omega); have := (HO.out.lt _ h).1; omega)⟩, fun i hi => ?_⟩
          · rw [HCT.out, List.length_append, ptVs_app, HPA.out, ptVs_one, HLN.out]
            exact own_kept HO8.out (fun gg hgg => by
              have hgg : g = gg := by simpa [Value.ownBlock] using hgg
              subst hgg
              exact Below.heap_setCell _ _ _ _ hgn.1.2)
          · rcases hi with hi | hi
            · exact .inl (.inl hi)
            · have hi : g = i := by simpa [Value.ownBlock] using hi
              subst hi
              exact hgn.2.imp .inr id
    · subst hk
      have HPA := hidp (hp2 rfl)
      clear hp1 hp2 hk0 HAS2
      gi_wp2_with fail
      refine wp_region_round (S := (fun w' => w'.cell? ⟨w.heap.size, 0, none⟩ = some (.int .i64 (H.t : Int)) ∧ w'.cell? ⟨w.heap.size, 1, none⟩ = some (.int .i64 (H.p : Int)) ∧ w'.cell? ⟨w.heap.size, 2, none⟩ = some (.int .i64 (H.s : Int)) ∧ w'.cell? ⟨w.heap.size, 3, none⟩ = some (.slice (some ad) n c) ∧ w'.cell? ⟨A.heap.size, 0, none⟩ = some (.int .i64 2) ∧ w'.cell? ⟨A.heap.size, 1, none⟩ = some (.int .i64 (m : Int)) ∧ w'.cell? ⟨A.heap.size, 2, none⟩ = some (.int .i64 cl))) (by kernel_rfl) (by kernel_rfl) (fun _ _ h => h) ?_ (fun hHeld => ?_)
      · (try dsimp only)
        first | exact HS.out _ (T0 _ A2).drew | exact HS.out _ HT4.out | exact HS.out _ (HT4.out.alloc _) | exact HS.out _ HT8.out | exact HS.out _ (HT8.out.put (p := ⟨(w.heap.size + 1), 0, none⟩) (.inl rfl) _) | exact hHeld
      refine tkz 1 ?_
      refine tkz 2 ?_
      refine tkz 3 ?_
      refine tkz 4 ?_
      refine wpAnyH_ready (rs := [0, 5]) (by kernel_rfl) (by simp) ?_
      refine (AllReadyH.cons (o := _) rfl (fun K hK => ?_) (AllReadyH.cons (o := _) rfl (fun K hK => ?_) AllReadyH.nil))
      · go_simp
        refine hK.out _ _ ?_ (fun hHeld => ?_)
        · (try dsimp only)
          first | exact HS.out _ (T0 _ A2).drew | exact HS.out _ HT4.out | exact HS.out _ (HT4.out.alloc _) | exact HS.out _ HT8.out | exact HS.out _ (HT8.out.put (p := ⟨(w.heap.size + 1), 0, none⟩) (.inl rfl) _) | exact hHeld
        clear hK K
        (try simp only [Act.put, gA, gB, gC, sA, sB, sC])
        refine wpAnyH_ready (rs := [5]) (by kernel_rfl) (by simp) ?_
        refine AllReadyH.cons (o := _) rfl (fun K hK => ?_) AllReadyH.nil
        go_simp
        (go_at_call 30; refine (HPG.out 2 _).mono ?_; rintro e w4 ⟨rfl, hb4⟩; have HT4 := hidp ((T0 (fun i => i = (w.heap.size + 1) ∨ (u : Value).ownBlock = some i) A2).drew.trans (Turns.of_below hb4 _)); have HG4 := hidp (HG.out.drew.keep hb4); have HO4 := hidp (own_below (w := A2.drew) HO.out hb4); clear hb4; have c9 := HG4.out.one.1; have c10 := (HG4.out.alloc (.cells #[.int .i64 2, .int .i64 fq, .int .i64 ((m : Int) * (H.pg : Int))] 43)).one.1)
        refine hK.out _ _ ?_ (fun hHeld => ?_)
        · (try dsimp only)
          first | exact HS.out _ (T0 _ A2).drew | exact HS.out _ HT4.out | exact HS.out _ (HT4.out.alloc _) | exact HS.out _ HT8.out | exact HS.out _ (HT8.out.put (p := ⟨(w.heap.size + 1), 0, none⟩) (.inl rfl) _) | exact hHeld
        clear hK K
        (try simp only [Act.put, gA, gB, gC, sA, sB, sC])
        refine wpAnyH_ready (rs := [6]) (by kernel_rfl) (by simp) ?_
        refine AllReadyH.cons (o := _) rfl (fun K hK => ?_) AllReadyH.nil
        go_simp
        skip
        refine hK.out _ _ ?_ (fun hHeld => ?_)
        · (try dsimp only)
          first | exact HS.out _ (T0 _ A2).drew | exact HS.out _ HT4.out | exact HS.out _ (HT4.out.alloc _) | exact HS.out _ HT8.out | exact HS.out _ (HT8.out.put (p := ⟨(w.heap.size + 1), 0, none⟩) (.inl rfl) _) | exact hHeld
        clear hK K
        (try simp only [Act.put, gA, gB, gC, sA, sB, sC])
        refine wpAnyH_ready (rs := [7]) (by kernel_rfl) (by simp) ?_
        refine AllReadyH.cons (o := _) rfl (fun K hK => ?_) AllReadyH.nil
        (refine step_append_lies _ (by rfl) _ _ 37 (by rfl) (w.heap.size + 1 + 1) 43 j0 (.agg #[.int .i64 0, .int .i64 0, .int .i64 0]) 3 24 Tryz.underlying37 hjn hjz0 hjz1 hjz2 rfl (by decide) u nl (ptVs l) (by rfl) (HO4.out.alloc _) ⟨_, 0, none⟩ 1 1 [.int .i64 2, .int .i64 fq, .int .i64 ((m : Int) * (H.pg : Int))] (by rfl) rfl (fun jj yy hyy => World.news_of_block (w := w4.alloc (.cells #[.int .i64 2, .int .i64 fq, .int .i64 ((m : Int) * (H.pg : Int))] 43)) (heap_alloc_new w4 _) jj yy (by simpa using hyy)) (by simp [Value.oneCell']) (by omega) (by unfold maxLen; omega) (by omega) (by have := HT4.out.size; have := HAB.out.1; have := HAS.out; simp; omega) _ rfl ?_; intro g cap w8 hown8 hgrow8 hat8 hlt8; have HO8 := hidp hown8; have HAT := hidp hat8; have HT8 := hidp (turns_grown (F := (fun i => i = (w.heap.size + 1) ∨ (u : Value).ownBlock = some i)) (HT4.out.alloc (.cells #[.int .i64 2, .int .i64 fq, .int .i64 ((m : Int) * (H.pg : Int))] 43)) hgrow8 (fun i hi => .inl (.inr hi))); have HG8 := hidp (held_grown (HG4.out.alloc (.cells #[.int .i64 2, .int .i64 fq, .int .i64 ((m : Int) * (H.pg : Int))] 43)) hgrow8 (fun e => by have := (HO.out.lt _ e).1; omega)); clear hown8 hgrow8 hat8 hlt8; obtain ⟨c8, f8⟩ := HG8.out.one)
        refine hK.out _ _ ?_ (fun hHeld => ?_)
        · (try dsimp only)
          first | exact HS.out _ (T0 _ A2).drew | exact HS.out _ HT4.out | exact HS.out _ (HT4.out.alloc _) | exact HS.out _ HT8.out | exact HS.out _ (HT8.out.put (p := ⟨(w.heap.size + 1), 0, none⟩) (.inl rfl) _) | exact hHeld
        clear hK K
        (try simp only [Act.put, gA, gB, gC, sA, sB, sC])
        refine wpAnyH_ready (rs := [8]) (by kernel_rfl) (by simp) ?_
        refine AllReadyH.cons (o := _) rfl (fun K hK => ?_) AllReadyH.nil
        go_simp
        skip
        refine hK.out _ _ ?_ (fun hHeld => ?_)
        · (try dsimp only)
          first | exact HS.out _ (T0 _ A2).drew | exact HS.out _ HT4.out | exact HS.out _ (HT4.out.alloc _) | exact HS.out _ HT8.out | exact HS.out _ (HT8.out.put (p := ⟨(w.heap.size + 1), 0, none⟩) (.inl rfl) _) | exact hHeld
        clear hK K
        (try simp only [Act.put, gA, gB, gC, sA, sB, sC])
        refine wpAnyH_done (by kernel_rfl) ?_ _
        gi_wp2
        have HT9 := HT8.out.put (p := ⟨(w.heap.size + 1), 0, none⟩) (.inl rfl) (.slice (some ⟨g, 0, none⟩) (nl + 1) cap)
        have hgn : ((w.heap.size + 1 + 1) ≤ g ∧ g ≠ (w.heap.size + 1)) ∧ (u.ownBlock = some g ∨ A.heap.size ≤ g) := by
          have h1 := (HO8.out.lt g rfl).1
          refine ⟨⟨h1, by omega⟩, ?_⟩
          rcases HAT.out with h | h
          · exact .inl h
          · right; have := HT4.out.size; have := HAS.out; simp at h; omega
        refine ⟨HT9, _, ⟨_, rfl, .step HAT0.out HC.out, HT9.held HX0.out (fun h => by rcases h with h | h; (omega); have := (HO.out.lt _ h).1; omega), HG8.out.put1 _, ?_, HT9.below HB.out (fun i hi => by rcases hi with h | h; (omega); have := (HO.out.lt _ h).1; omega)⟩, fun i hi => ?_⟩
        · rw [HCT.out, List.length_append, ptVs_app, HPA.out, ptVs_one, HLN.out]
          exact own_kept HO8.out (fun gg hgg => by
            have hgg : g = gg := by simpa [Value.ownBlock] using hgg
            subst hgg
            exact Below.heap_setCell _ _ _ _ hgn.1.2)
        · rcases hi with hi | hi
          · exact .inl (.inl hi)
          · have hi : g = i := by simpa [Value.ownBlock] using hi
            subst hi
            exact hgn.2.imp .inr id
      · go_simp
        (go_at_call 30; refine (HPG.out 2 _).mono ?_; rintro e w4 ⟨rfl, hb4⟩; have HT4 := hidp ((T0 (fun i => i = (w.heap.size + 1) ∨ (u : Value).ownBlock = some i) A2).drew.trans (Turns.of_below hb4 _)); have HG4 := hidp (HG.out.drew.keep hb4); have HO4 := hidp (own_below (w := A2.drew) HO.out hb4); clear hb4; have c9 := HG4.out.one.1; have c10 := (HG4.out.alloc (.cells #[.int .i64 2, .int .i64 fq, .int .i64 ((m : Int) * (H.pg : Int))] 43)).one.1)
        refine hK.out _ _ ?_ (fun hHeld => ?_)
        · (try dsimp only)
          first | exact HS.out _ (T0 _ A2).drew | exact HS.out _ HT4.out | exact HS.out _ (HT4.out.alloc _) | exact HS.out _ HT8.out | exact HS.out _ (HT8.out.put (p := ⟨(w.heap.size + 1), 0, none⟩) (.inl rfl) _) | exact hHeld
        clear hK K
        (try simp only [Act.put, gA, gB, gC, sA, sB, sC])
        refine wpAnyH_ready (rs := [0, 6]) (by kernel_rfl) (by simp) ?_
        refine (AllReadyH.cons (o := _) rfl (fun K hK => ?_) (AllReadyH.cons (o := _) rfl (fun K hK => ?_) AllReadyH.nil))
        · go_simp
          refine hK.out _ _ ?_ (fun hHeld => ?_)
          · (try dsimp only)
            first | exact HS.out _ (T0 _ A2).drew | exact HS.out _ HT4.out | exact HS.out _ (HT4.out.alloc _) | exact HS.out _ HT8.out | exact HS.out _ (HT8.out.put (p := ⟨(w.heap.size + 1), 0, none⟩) (.inl rfl) _) | exact hHeld
          clear hK K
          (try simp only [Act.put, gA, gB, gC, sA, sB, sC])
          refine wpAnyH_ready (rs := [6]) (by kernel_rfl) (by simp) ?_
          refine AllReadyH.cons (o := _) rfl (fun K hK => ?_) AllReadyH.nil
          go_simp
          skip
          refine hK.out _ _ ?_ (fun hHeld => ?_)
          · (try dsimp only)
            first | exact HS.out _ (T0 _ A2).drew | exact HS.out _ HT4.out | exact HS.out _ (HT4.out.alloc _) | exact HS.out _ HT8.out | exact HS.out _ (HT8.out.put (p := ⟨(w.heap.size + 1), 0, none⟩) (.inl rfl) _) | exact hHeld
          clear hK K
          (try simp only [Act.put, gA, gB, gC, sA, sB, sC])
          refine wpAnyH_ready (rs := [7]) (by kernel_rfl) (by simp) ?_
          refine AllReadyH.cons (o := _) rfl (fun K hK => ?_) AllReadyH.nil
          (refine step_append_lies _ (by rfl) _ _ 37 (by rfl) (w.heap.size + 1 + 1) 43 j0 (.agg #[.int .i64 0, .int .i64 0, .int .i64 0]) 3 24 Tryz.underlying37 hjn hjz0 hjz1 hjz2 rfl (by decide) u nl (ptVs l) (by rfl) (HO4.out.alloc _) ⟨_, 0, none⟩ 1 1 [.int .i64 2, .int .i64 fq, .int .i64 ((m : Int) * (H.pg : Int))] (by rfl) rfl (fun jj yy hyy => World.news_of_block (w := w4.alloc (.cells #[.int .i64 2, .int .i64 fq, .int .i64 ((m : Int) * (H.pg : Int))] 43)) (heap_alloc_new w4 _) jj yy (by simpa using hyy)) (by simp [Value.oneCell']) (by omega) (by unfold maxLen; omega) (by omega) (by have := HT4.out.size; have := HAB.out.1; have := HAS.out; simp; omega) _ rfl ?_; intro g cap w8 hown8 hgrow8 hat8 hlt8; have HO8 := hidp hown8; have HAT := hidp hat8; have HT8 := hidp (turns_grown (F := (fun i => i = (w.heap.size + 1) ∨ (u : Value).ownBlock = some i)) (HT4.out.alloc (.cells #[.int .i64 2, .int .i64 fq, .int .i64 ((m : Int) * (H.pg : Int))] 43)) hgrow8 (fun i hi => .inl (.inr hi))); have HG8 := hidp (held_grown (HG4.out.alloc (.cells #[.int .i64 2, .int .i64 fq, .int .i64 ((m : Int) * (H.pg : Int))] 43)) hgrow8 (fun e => by have := (HO.out.lt _ e).1; omega)); clear hown8 hgrow8 hat8 hlt8; obtain ⟨c8, f8⟩ := HG8.out.one)
          refine hK.out _ _ ?_ (fun hHeld => ?_)
          · (try dsimp only)
            first | exact HS.out _ (T0 _ A2).drew | exact HS.out _ HT4.out | exact HS.out _ (HT4.out.alloc _) | exact HS.out _ HT8.out | exact HS.out _ (HT8.out.put (p := ⟨(w.heap.size + 1), 0, none⟩) (.inl rfl) _) | exact hHeld
          clear hK K
          (try simp only [Act.put, gA, gB, gC, sA, sB, sC])
          refine wpAnyH_ready (rs := [8]) (by kernel_rfl) (by simp) ?_
          refine AllReadyH.cons (o := _) rfl (fun K hK => ?_) AllReadyH.nil
          go_simp
          skip
          refine hK.out _ _ ?_ (fun hHeld => ?_)
          · (try dsimp only)
            first | exact HS.out _ (T0 _ A2).drew | exact HS.out _ HT4.out | exact HS.out _ (HT4.out.alloc _) | exact HS.out _ HT8.out | exact HS.out _ (HT8.out.put (p := ⟨(w.heap.size + 1), 0, none⟩) (.inl rfl) _) | exact hHeld
          clear hK K
          (try simp only [Act.put, gA, gB, gC, sA, sB, sC])
          refine wpAnyH_done (by kernel_rfl) ?_ _
          gi_wp2
          have HT9 := HT8.out.put (p := ⟨(w.heap.size + 1), 0, none⟩) (.inl rfl) (.slice (some ⟨g, 0, none⟩) (nl + 1) cap)
          have hgn : ((w.heap.size + 1 + 1) ≤ g ∧ g ≠ (w.heap.size + 1)) ∧ (u.ownBlock = some g ∨ A.heap.size ≤ g) := by
            have h1 := (HO8.out.lt g rfl).1
            refine ⟨⟨h1, by omega⟩, ?_⟩
            rcases HAT.out with h | h
            · exact .inl h
            · right; have := HT4.out.size; have := HAS.out; simp at h; omega
          refine ⟨HT9, _, ⟨_, rfl, .step HAT0.out HC.out, HT9.held HX0.out (fun h => by rcases h with h | h; (omega); have := (HO.out.lt _ h).1; omega), HG8.out.put1 _, ?_, HT9.below HB.out (fun i hi => by rcases hi with h | h; (omega); have := (HO.out.lt _ h).1; omega)⟩, fun i hi => ?_⟩
          · rw [HCT.out, List.length_append, ptVs_app, HPA.out, ptVs_one, HLN.out]
            exact own_kept HO8.out (fun gg hgg => by
              have hgg : g = gg := by simpa [Value.ownBlock] using hgg
              subst hgg
              exact Below.heap_setCell _ _ _ _ hgn.1.2)
          · rcases hi with hi | hi
            · exact .inl (.inl hi)
            · have hi : g = i := by simpa [Value.ownBlock] using hi
              subst hi
              exact hgn.2.imp .inr id
        · go_simp
          refine hK.out _ _ ?_ (fun hHeld => ?_)
          · (try dsimp only)
            first | exact HS.out _ (T0 _ A2).drew | exact HS.out _ HT4.out | exact HS.out _ (HT4.out.alloc _) | exact HS.out _ HT8.out | exact HS.out _ (HT8.out.put (p := ⟨(w.heap.size + 1), 0, none⟩) (.inl rfl) _) | exact hHeld
          clear hK K
          (try simp only [Act.put, gA, gB, gC, sA, sB, sC])
          refine wpAnyH_ready (rs := [0]) (by kernel_rfl) (by simp) ?_
          refine AllReadyH.cons (o := _) rfl (fun K hK => ?_) AllReadyH.nil
          go_simp
          skip
          refine hK.out _ _ ?_ (fun hHeld => ?_)
          · (try dsimp only)
            first | exact HS.out _ (T0 _ A2).drew | exact HS.out _ HT4.out | exact HS.out _ (HT4.out.alloc _) | exact HS.out _ HT8.out | exact HS.out _ (HT8.out.put (p := ⟨(w.heap.size + 1), 0, none⟩) (.inl rfl) _) | exact hHeld
          clear hK K
          (try simp only [Act.put, gA, gB, gC, sA, sB, sC])
          refine wpAnyH_ready (rs := [7]) (by kernel_rfl) (by simp) ?_
          refine AllReadyH.cons (o := _) rfl (fun K hK => ?_) AllReadyH.nil
          (refine step_append_lies _ (by rfl) _ _ 37 (by rfl) (w.heap.size + 1 + 1) 43 j0 (.agg #[.int .i64 0, .int .i64 0, .int .i64 0]) 3 24 Tryz.underlying37 hjn hjz0 hjz1 hjz2 rfl (by decide) u nl (ptVs l) (by rfl) (HO4.out.alloc _) ⟨_, 0, none⟩ 1 1 [.int .i64 2, .int .i64 fq, .int .i64 ((m : Int) * (H.pg : Int))] (by rfl) rfl (fun jj yy hyy => World.news_of_block (w := w4.alloc (.cells #[.int .i64 2, .int .i64 fq, .int .i64 ((m : Int) * (H.pg : Int))] 43)) (heap_alloc_new w4 _) jj yy (by simpa using hyy)) (by simp [Value.oneCell']) (by omega) (by unfold maxLen; omega) (by omega) (by have := HT4.out.size; have := HAB.out.1; have := HAS.out; simp; omega) _ rfl ?_; intro g cap w8 hown8 hgrow8 hat8 hlt8; have HO8 := hidp hown8; have HAT := hidp hat8; have HT8 := hidp (turns_grown (F := (fun i => i = (w.heap.size + 1) ∨ (u : Value).ownBlock = some i)) (HT4.out.alloc (.cells #[.int .i64 2, .int .i64 fq, .int .i64 ((m : Int) * (H.pg : Int))] 43)) hgrow8 (fun i hi => .inl (.inr hi))); have HG8 := hidp (held_grown (HG4.out.alloc (.cells #[.int .i64 2, .int .i64 fq, .int .i64 ((m : Int) * (H.pg : Int))] 43)) hgrow8 (fun e => by have := (HO.out.lt _ e).1; omega)); clear hown8 hgrow8 hat8 hlt8; obtain ⟨c8, f8⟩ := HG8.out.one)
          refine hK.out _ _ ?_ (fun hHeld => ?_)
          · (try dsimp only)
            first | exact HS.out _ (T0 _ A2).drew | exact HS.out _ HT4.out | exact HS.out _ (HT4.out.alloc _) | exact HS.out _ HT8.out | exact HS.out _ (HT8.out.put (p := ⟨(w.heap.size + 1), 0, none⟩) (.inl rfl) _) | exact hHeld
          clear hK K
          (try simp only [Act.put, gA, gB, gC, sA, sB, sC])
          refine wpAnyH_ready (rs := [8]) (by kernel_rfl) (by simp) ?_
          refine AllReadyH.cons (o := _) rfl (fun K hK => ?_) AllReadyH.nil
          go_simp
          skip
          refine hK.out _ _ ?_ (fun hHeld => ?_)
          · (try dsimp only)
            first | exact HS.out _ (T0 _ A2).drew | exact HS.out _ HT4.out | exact HS.out _ (HT4.out.alloc _) | exact HS.out _ HT8.out | exact HS.out _ (HT8.out.put (p := ⟨(w.heap.size + 1), 0, none⟩) (.inl rfl) _) | exact hHeld
          clear hK K
          (try simp only [Act.put, gA, gB, gC, sA, sB, sC])
          refine wpAnyH_done (by kernel_rfl) ?_ _
          gi_wp2
          have HT9 := HT8.out.put (p := ⟨(w.heap.size + 1), 0, none⟩) (.inl rfl) (.slice (some ⟨g, 0, none⟩) (nl + 1) cap)
          have hgn : ((w.heap.size + 1 + 1) ≤ g ∧ g ≠ (w.heap.size + 1)) ∧ (u.ownBlock = some g ∨ A.heap.size ≤ g) := by
            have h1 := (HO8.out.lt g rfl).1
            refine ⟨⟨h1, by omega⟩, ?_⟩
            rcases HAT.out with h | h
            · exact .inl h
            · right; have := HT4.out.size; have := HAS.out; simp at h; omega
          refine ⟨HT9, _, ⟨_, rfl, .step HAT0.out HC.out, HT9.held HX0.out (fun h => by rcases h with h | h; (omega); have := (HO.out.lt _ h).1; omega), HG8.out.put1 _, ?_, HT9.below HB.out (fun i hi => by rcases hi with h | h; (omega); have := (HO.out.lt _ h).1; omega)⟩, fun i hi => ?_⟩
          · rw [HCT.out, List.length_append, ptVs_app, HPA.out, ptVs_one, HLN.out]
            exact own_kept HO8.out (fun gg hgg => by
              have hgg : g = gg := by simpa [Value.ownBlock] using hgg
              subst hgg
              exact Below.heap_setCell _ _ _ _ hgn.1.2)
          · rcases hi with hi | hi
            · exact .inl (.inl hi)
            · have hi : g = i := by simpa [Value.ownBlock] using hi
              subst hi
              exact hgn.2.imp .inr id
    · subst hk
      have HAD := hidp (HAS2.out rfl)
      clear hp1 hp2 hk0 HAS2 HPG
      gi_wp2_with (first
        | (refine ⟨trivial, rfl, ?_⟩; gi_at_call 31; refine (calls_in (HAD.out _ HVR.out HTLR.out (by have := HAS.out; have := HAB.out.1; omega) HO.out)).mono ?_; rintro e w4 ⟨u2, rfl, hown4, hturn4, hat4⟩; obtain ⟨Au, cu, rfl⟩ := own_slice hown4; obtain ⟨lq, hlq⟩ : ∃ lq, (l ++ H.partsAt pos).length = lq := ⟨_, rfl⟩; have HLQ := hidp hlq; rw [hlq] at hown4 hat4 ⊢; clear hlq; have HO4 := hidp hown4; have HT4 := hidp (hturn4.more (G := (fun i => i = (w.heap.size + 1) ∨ (u : Value).ownBlock = some i)) (fun i hi => .inr hi)); have HAT4 := hidp hat4; have HG4 := hidp (hturn4.held HG.out (fun h => by have := (HO.out.lt _ h).1; omega)); clear hown4 hturn4 hat4; obtain ⟨c8, f8⟩ := HG4.out.one)
        | fail)
      have HT9 := HT4.out.put (p := ⟨(w.heap.size + 1), 0, none⟩) (.inl rfl) (.slice Au lq cu)
      refine ⟨HT9, _, ⟨_, rfl, .step HAT0.out HC.out, HT9.held HX0.out (fun h => by rcases h with h | h; (omega); have := (HO.out.lt _ h).1; omega), HG4.out.put1 _, ?_, HT9.below HB.out (fun i hi => by rcases hi with h | h; (omega); have := (HO.out.lt _ h).1; omega)⟩, fun i hi => ?_⟩
      · rw [HCT.out, HLQ.out]
        exact own_kept HO4.out (fun gg hgg => Below.heap_setCell _ _ _ _ (by have := (HO4.out.lt _ hgg).1; simp; omega))
      · rcases hi with hi | hi
        · exact .inl (.inl hi)
        · exact (HAT4.out i hi).imp .inr (fun h => by have := HAS.out; omega)
  case done =>
    rintro D pos F A hD hc ⟨u, rfl, hat, x0, x1, x2, hB⟩ hk
    have HDN : Hid (w.heap.size ≤ D) := hidp (Nat.le_trans HBW.out.size hD)
    have hpe : pos = H.p := by
      rw [ht.can_eq hat] at hc
      have := hat.le
      have := of_decide_eq_false hc
      omega
    subst hpe
    have HK := hidp hk
    have HB := hidp hB
    have HO := hidp x2
    have c0 := x1.one.1
    clear hk x0 x1 x2 hB hD hat hc
    go_wp2_with fail
    refine mark_end rfl HK.out ?_
    refine bodyPost_ret (results_tmp rfl _ _ _) rfl ?_
    exact ⟨u, rfl, own_down ((Mild.put (D := 0) _ (Nat.zero_le _) HK.out rfl).own HO.out) (by omega), shutB HB.out HK.out rfl HDN.out⟩
  case stop =>
    rintro D c A hD h hk
    exact h.elim
end
end
end Go.Proofs.YtkbjckhbllmclaaGreatDoor
