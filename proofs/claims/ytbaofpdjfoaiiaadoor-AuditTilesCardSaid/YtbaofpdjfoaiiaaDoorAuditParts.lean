/-
  What the bytes of pages are. Written by audit/gen_parts.py.
-/
import Derived.Test.YtbaofpdjfoaiiaaDoorAuditR5
import Derived.Test.YtbaofpdjfoaiiaaDoorOwn
import Derived.Deep.AppendLies
namespace Go.Proofs.YtbaofpdjfoaiiaaDoor
open Go.ChangeShapes Go.WideShapes Go.ChangeAt Go.RowKit Go.Shelf
set_option linter.unusedVariables false
set_option linter.unusedSimpArgs false

/-- parts (kind, address, size), as their cells -/
def ptVs (l : List (Int × Int × Int)) : List Value := l.flatMap fun x => [.int .i64 x.1, .int .i64 x.2.1, .int .i64 x.2.2]
theorem ptVs_len (l : List (Int × Int × Int)) : (ptVs l).length = l.length * 3 := by unfold ptVs; induction l with
  | nil => rfl
  | cons x l ih => rw [List.flatMap_cons, List.length_append, ih]; simp; omega
theorem ptVs_app (l m : List (Int × Int × Int)) : ptVs (l ++ m) = ptVs l ++ ptVs m := by unfold ptVs; rw [List.flatMap_append]
theorem ptVs_one (x : Int × Int × Int) : ptVs [x] = [.int .i64 x.1, .int .i64 x.2.1, .int .i64 x.2.2] := by simp [ptVs]
theorem partInfo : (Tryd.prog.info? 35).map (fun i => (i.zero, i.size, i.bytes)) = some (some (.agg #[.int .i64 0, .int .i64 0, .int .i64 0]), 3, 24) := by kernel_rfl

namespace AuH
variable (H : AuH)
/-- the first byte of a page; the bytes of a page; the bytes of a slot -/
def pg : Nat := 2 ^ H.s
def first (q : Nat) : Int := ((q : Int) + 1) * (H.pg : Int)
def zs (q : Nat) : Nat := sizeN (H.s : Int) (H.Cl q)
def sl (q : Nat) : Nat := slotI (H.Cl q)
def slotPart (q i : Nat) : Int × Int × Int := ((slotKd (H.cel q 5) (H.cel q 4) i : Nat), H.first q + (i : Int) * (H.zs q : Int), (H.zs q : Int))
def slotsTo (q k : Nat) : List (Int × Int × Int) := (List.range k).map (H.slotPart q)
def slack (q : Nat) : List (Int × Int × Int) := if H.sl q * H.zs q < H.pg then [(5, H.first q + ((H.sl q * H.zs q : Nat) : Int), (H.pg : Int) - ((H.sl q * H.zs q : Nat) : Int))] else []
def partsAt (q : Nat) : List (Int × Int × Int) :=
  if H.K q = 1 then [(1, H.first q, (H.ln q : Int) * (H.pg : Int))] else if H.K q = 2 then [(2, H.first q, (H.ln q : Int) * (H.pg : Int))]
  else if H.K q = 3 then H.slotsTo q (H.sl q) ++ H.slack q else []
def parts : List (Int × Int × Int) := catTo H.partsAt H.p
variable {H}
theorem slotsTo_succ (q k : Nat) : H.slotsTo q (k + 1) = H.slotsTo q k ++ [H.slotPart q k] := by unfold slotsTo; rw [List.range_succ, List.map_append]; rfl
theorem slotsTo_len (q k : Nat) : (H.slotsTo q k).length = k := by unfold slotsTo; simp
theorem partsAt_no {q : Nat} (h : H.K q = 0) : H.partsAt q = [] := by unfold partsAt; rw [if_neg (by omega), if_neg (by omega), if_neg (by omega)]
theorem partsAt_len (q : Nat) : (H.partsAt q).length ≤ 33 := by
  unfold partsAt
  split
  · simp
  · split
    · simp
    · split
      · rw [List.length_append, slotsTo_len]
        have := slotI_le (H.Cl q)
        unfold slack sl
        split <;> simp <;> omega
      · simp
theorem parts_len : ∀ x, (catTo H.partsAt x).length ≤ x * 33
  | 0 => by simp [catTo]
  | x + 1 => by
    have h1 := parts_len x
    have h2 := partsAt_len (H := H) x
    show (catTo H.partsAt x ++ H.partsAt x).length ≤ _
    rw [List.length_append]
    omega
end AuH
theorem pg_le {H : AuH} {n c : Nat} (HV : HeapV H n c) : 1024 ≤ H.pg ∧ H.pg ≤ 1048576 ∧ H.pg = pageS H.s ∧ pageN H.t H.p H.s = H.pg := by
  obtain ⟨g, q, h1, h2, h3, h4, h5, h6, h7, h8, h9, h10, h11⟩ := right_nums HV.right
  have e : H.pg = g := by unfold AuH.pg; rw [h8, Int.toNat_natCast]
  rw [e]
  exact ⟨h6, h7, by rw [pageS_yes ⟨h9, h10⟩]; exact h8, h1⟩
theorem first_eq {H : AuH} {n c : Nat} (HV : HeapV H n c) {q : Nat} (hq : q < H.p) : addrI H.t H.p H.s q 0 = H.first q ∧ addrB H.t H.p H.s q 0 = true ∧ 1024 ≤ H.first q ∧ H.first q ≤ 1075838976 := by
  have hg := pg_le HV
  have hB : addrB H.t H.p H.s q 0 = true := by unfold addrB; rw [HV.right, hg.2.2.2, Bool.true_and, decide_eq_true_iff]; omega
  have hA : addrI H.t H.p H.s q 0 = ((q : Int) + 1) * (H.pg : Int) + 0 := by unfold addrI; rw [if_pos hB, hg.2.2.2]
  have hY := addr_yes hB
  rw [hA, Int.add_zero] at hY
  exact ⟨by rw [hA, Int.add_zero]; rfl, hB, hY.2.2.2.2.1, hY.2.2.2.2.2⟩


set_option maxHeartbeats 1600000 in
theorem auPages_c {H : AuH} {n c : Nat} (HV : HeapV H n c) (ad : Addr) (kind : Int) (q m : Nat) (hq : q < H.p) (hm : m ≤ 1024) (w : World) :
    Calls Tryd.prog 14 #[hpV H ad n c, .int .i64 kind, .int .i64 (q : Int), .int .i64 (m : Int)] w fun e w' => e = .returned (.agg #[.int .i64 kind, .int .i64 (H.first q), .int .i64 ((m : Int) * (H.pg : Int))]) ∧ Below w.heap.size w w' := by
  have hs := HV.nums
  have hf := first_eq HV hq
  have hg := pg_le HV
  have HOF : Hid (∀ W, Calls Tryd.prog 29 #[.agg #[.int .i64 (H.t : Int), .int .i64 (H.p : Int), .int .i64 (H.s : Int)], .int .i64 (q : Int), .int .i64 0] W fun e w' => e = .returned (.tuple #[.int .i64 (H.first q), .bool true]) ∧ Below W.heap.size W w') := hidp (fun W => by
    have := adOf_c H.t H.p H.s q 0 W
    rwa [hf.1, hf.2.1] at this)
  have hmg : m * H.pg ≤ 1024 * 1048576 := Nat.mul_le_mul hm hg.2.1
  have e1 : (m : Int) * 2 ^ H.s = (m : Int) * (H.pg : Int) := by unfold AuH.pg; push_cast; rfl
  have e2 : IntKind.i64.wrap ((m : Int) * (H.pg : Int)) = (m : Int) * (H.pg : Int) := by
    have hc : ((m * H.pg : Nat) : Int) = (m : Int) * (H.pg : Int) := by push_cast; rfl
    rw [← hc]
    generalize m * H.pg = x at *
    exact i64_same (by omega) (by omega)
  have e3 : IntKind.i64.wrap ((m : Int) * 2 ^ H.s) = (m : Int) * (H.pg : Int) := by rw [e1, e2]
  have q0 : decide ((H.s : Int) < 0) = false := decide_eq_false (by omega)
  have q1 : decide ((64 : Int) ≤ H.s) = false := decide_eq_false (by omega)
  have hx := (Held.new w 41 #[.int .i64 (H.t : Int), .int .i64 (H.p : Int), .int .i64 (H.s : Int), .slice (some ad) n c]).alloc (.cells #[.int .i64 0, .int .i64 0, .int .i64 0] 35)
  obtain ⟨c0, c1, c2, c3⟩ := hx.four
  have HX := hidp hx
  have HP2 := hidp (Held.new2 w (.cells #[.int .i64 (H.t : Int), .int .i64 (H.p : Int), .int .i64 (H.s : Int), .slice (some ad) n c] 41) 35 #[.int .i64 0, .int .i64 0, .int .i64 0])
  have HBW := hidp (Bnew (Bnew (B0 w) (.cells #[.int .i64 (H.t : Int), .int .i64 (H.p : Int), .int .i64 (H.s : Int), .slice (some ad) n c] 41)) (.cells #[.int .i64 0, .int .i64 0, .int .i64 0] 35))
  generalize H.first q = fq at *
  clear hx hf hg hmg e1 e2
  unfold hpV
  go_enter Tryd.func14, Tryd.ntmps14
  go_wp2_with (first
    | (go_at_call 29; refine (HOF.out _).mono ?_; rintro e w2 ⟨rfl, hb2⟩; have HB2 := hidp (Bgo HBW.out hb2); have HX2 := hidp (HX.out.keep hb2); have HP22 := hidp (HP2.out.keep hb2); clear hb2 c0 c1 c2 c3; obtain ⟨c0, c1, c2, c3⟩ := HX2.out.four; obtain ⟨d0, d1, d2⟩ := HP22.out.three; have f0 := HP22.out.thawed 0; have f1 := HP22.out.thawed 1; have f2 := HP22.out.thawed 2)
    | fail)
  have z := ((HP22.out.put 0 (.int .i64 kind)).put 1 (.int .i64 fq)).put 2 (.int .i64 ((m : Int) * (H.pg : Int)))
  obtain ⟨y0, y1, y2⟩ := z.three
  refine bodyPost_ret (v := .agg #[.int .i64 kind, .int .i64 fq, .int .i64 ((m : Int) * (H.pg : Int))]) (by simp [results, Tryd.results14, go_sem, y0, y1, y2]) rfl ⟨rfl, ?_⟩
  exact Bput (Bput (Bput HB2.out (by simp) _) (by simp) _) (by simp) _


theorem held_grown {w w' : World} {row : Option Nat} {g : Nat} {t : TypeId} {cs : Array Value} (h : Held w g t cs) (hg : w.grownBy w' row) (hr : row ≠ some g) : Held w' g t cs := (hg.block g h.lt (fun e => hr e.symm)).trans h
theorem turns_grown {F : Nat → Prop} {W w w' : World} {row : Option Nat} (h : Turns F W w) (hg : w.grownBy w' row) (hr : ∀ i, row = some i → F i ∨ W.heap.size ≤ i) : Turns F W w' :=
  Turns.more_new (F := fun i => row = some i) ⟨hg.os, hg.tape, hg.output, hg.size, fun i hi hf => hg.block i hi (fun e => hf e.symm)⟩ h.size h hr
set_option maxHeartbeats 6400000 in
set_option maxRecDepth 100000 in
theorem auAddSlots_c {H : AuH} {n c : Nat} (HV : HeapV H n c) (ad : Addr) {q : Nat} (hq : q < H.p) (hk : H.K q = 3) (base nl : Nat) (v : Value) (l : List (Int × Int × Int)) (hll : l.length = nl) (hnl : nl ≤ 100000) (w : World) (hv : IsVals w ad n H.V) (hT : SlotsLaid w) (hb0 : base ≤ w.heap.size) (hown : w.ownsRow base 35 3 v nl (ptVs l)) :
    Calls Tryd.prog 15 #[hpV H ad n c, v, .int .i64 (q : Int), .int .i64 (H.Cl q)] w fun e w' => ∃ u, e = .returned u ∧ w'.ownsRow base 35 3 u (l ++ H.partsAt q).length (ptVs (l ++ H.partsAt q)) ∧ Turns (fun i => v.ownBlock = some i) w w' ∧ (∀ g, u.ownBlock = some g → v.ownBlock = some g ∨ w.heap.size ≤ g) := by
  have HVL := hidp hv
  have HTL := hidp hT
  have hs := HV.nums
  have hg := pg_le HV
  have hf := first_eq HV hq
  have hkc := H.K_cases q
  have hcl : 0 ≤ H.Cl q ∧ H.Cl q ≤ 8 := by omega
  have hfit : slotI (H.Cl q) * sizeN (H.s : Int) (H.Cl q) ≤ H.pg := by
    obtain ⟨kc, hkc2⟩ : ∃ kc : Nat, H.Cl q = kc := ⟨(H.Cl q).toNat, by omega⟩
    have := (size_facts (s := (H.s : Int)) (by omega) (k := kc) (by omega)).2.2.1
    rw [hg.2.2.1, hkc2, slotI_nat, Nat.mul_comm]
    exact this
  have hz16 : sizeN (H.s : Int) (H.Cl q) ≤ 1048576 := sizeN_le _ _
  have hpa : H.partsAt q = H.slotsTo q (H.sl q) ++ H.slack q := by unfold AuH.partsAt; rw [if_neg (by omega), if_neg (by omega), if_pos hk]
  have hs32 := slotI_le (H.Cl q)
  have HSZ := hidp (fun W hT => clSize_c (H.s : Int) (H.Cl q) (by omega) (by omega) W hT)
  have HSN := hidp (fun W hT => clSlots_c (H.Cl q) (by omega) (by omega) W hT)
  have HPG := hidp (fun W => auPages_c HV ad 5 q 1 hq (by omega) W)
  have hslk : H.slack q = if H.sl q * H.zs q < H.pg then [(5, H.first q + ((H.sl q * H.zs q : Nat) : Int), (H.pg : Int) - ((H.sl q * H.zs q : Nat) : Int))] else [] := rfl
  have hsp : ∀ i : Nat, H.slotPart q i = (((slotKd (H.cel q 5) (H.cel q 4) i : Nat) : Int), H.first q + (i : Int) * (H.zs q : Int), (H.zs q : Int)) := fun i => rfl
  have hsl : H.sl q = slotI (H.Cl q) := rfl
  have hzs : H.zs q = sizeN (H.s : Int) (H.Cl q) := rfl
  rw [hsl, hzs] at hslk
  rw [hsl] at hpa
  rw [hzs] at hsp
  clear hsl hzs
  obtain ⟨tk, htk⟩ : ∃ tk, H.cel q 5 = tk := ⟨_, rfl⟩
  obtain ⟨sv, hsv⟩ : ∃ sv, H.cel q 4 = sv := ⟨_, rfl⟩
  have HET := hidp htk
  have HES := hidp hsv
  have ht32 := HV.cel_lt hq (show 5 < 6 by omega)
  have hs32' := HV.cel_lt hq (show 4 < 6 by omega)
  rw [htk] at ht32
  rw [hsv] at hs32'
  rw [htk, hsv] at hsp
  have HPA := hidp hpa
  have HSK := hidp hslk
  have HSP := hidp hsp
  have hfq := hf.2.2
  obtain ⟨fq, hfqq⟩ : ∃ fq, H.first q = fq := ⟨_, rfl⟩
  rw [hfqq] at hfq HPG HSK HSP
  obtain ⟨pg, hpg⟩ : ∃ pg, H.pg = pg := ⟨_, rfl⟩
  rw [hpg] at hg hfit HPG HSK
  rw [show ((1 : Nat) : Int) * (pg : Int) = (pg : Int) by omega] at HPG
  generalize slotI (H.Cl q) = m at *
  generalize sizeN (H.s : Int) (H.Cl q) = z at *
  obtain ⟨j0, hjn, hjz0, hjz1, hjz2⟩ := info_parts partInfo
  have hpgb := hg.2.1
  have hx := Held.new w 41 #[.int .i64 (H.t : Int), .int .i64 (H.p : Int), .int .i64 (H.s : Int), .slice (some ad) n c]
  obtain ⟨c0, c1, c2, c3⟩ := hx.four
  have HX0 := hidp hx
  have HBW := hidp (Bnew (B0 w) (.cells #[.int .i64 (H.t : Int), .int .i64 (H.p : Int), .int .i64 (H.s : Int), .slice (some ad) n c] 41))
  have HOW := hidp hown
  have HVB : Hid (∀ g, v.ownBlock = some g → g < w.heap.size) := hidp (fun g h => (hown.lt g h).2)
  have HLL := hidp hll
  have HBS := hidp hb0
  generalize H.Cl q = cl at *
  clear hx hv hT hown hpa hslk hsp hf hkc hk hfqq hpg htk hsv hs hg hll hcl
  unfold hpV
  go_enter Tryd.func15, Tryd.ntmps15
  go_wp2_with (first
    | (go_at_call 14; refine (HPG.out _).mono ?_; rintro e w2 ⟨rfl, hb2⟩; have HB2 := hidp (Bgo HBW.out hb2); have HX2 := hidp (HX0.out.keep hb2); clear hb2; obtain ⟨gl, hgl⟩ : ∃ gl, w2.heap.size = gl := ⟨_, rfl⟩; have HGL0 := hidp hgl; have HX3 := hidp (HX2.out.alloc (.cells #[.int .i64 5, .int .i64 fq, .int .i64 (pg : Int)] 35)); have HB3 := hidp (Bnew HB2.out (.cells #[.int .i64 5, .int .i64 fq, .int .i64 (pg : Int)] 35)); have HN3 := hidp (Held.new w2 35 #[.int .i64 5, .int .i64 fq, .int .i64 (pg : Int)]); clear c0 c1 c2 c3 hgl; obtain ⟨c0, c1, c2, c3⟩ := HX3.out.four)
    | (go_at_call 30; refine (HSZ.out _ (HTL.out.below HB3.out)).mono ?_; rintro e w4 ⟨rfl, hb4⟩; have HB4 := hidp (Bgo HB3.out hb4); have HX4 := hidp (HX3.out.keep hb4); have HN4 := hidp (HN3.out.keep hb4); clear hb4 c0 c1 c2 c3; obtain ⟨c0, c1, c2, c3⟩ := HX4.out.four)
    | fail)
  refine wp_region_held_drew (S := (fun w' => w'.cell? ⟨w.heap.size, 0, none⟩ = some (.int .i64 (H.t : Int)) ∧ w'.cell? ⟨w.heap.size, 1, none⟩ = some (.int .i64 (H.p : Int)) ∧ w'.cell? ⟨w.heap.size, 2, none⟩ = some (.int .i64 (H.s : Int)) ∧ w'.cell? ⟨w.heap.size, 3, none⟩ = some (.slice (some ad) n c))) (by kernel_rfl) ?_ (fun hHeld => ?_)
  · (try dsimp only)
    first | exact HX4.out.drew.four | exact HX5.out.four | exact HX6.out.four | exact hHeld
  refine wpAnyH_take (i := 0) (oi := _) (v := ?_) rfl (by kernel_rfl) (by kernel_rfl) (by kernel_rfl) (fun _ _ _ h => h) (Or.inl ⟨by rfl, ?_⟩) (by assumption) ?_
  rotate_left
  · intro w hSw; (try dsimp only at hSw); go_simp; (try with_reducible rfl)
  (try simp only [Act.put, List.getElem_toArray, List.getElem_cons_zero, List.getElem_cons_succ, List.setIfInBounds_toArray, List.set_cons_zero, List.set_cons_succ])
  refine wpAnyH_take (i := 1) (oi := _) (v := ?_) rfl (by kernel_rfl) (by kernel_rfl) (by kernel_rfl) (fun _ _ _ h => h) (Or.inl ⟨by rfl, ?_⟩) (by assumption) ?_
  rotate_left
  · intro w hSw; (try dsimp only at hSw); go_simp; (try with_reducible rfl)
  (try simp only [Act.put, List.getElem_toArray, List.getElem_cons_zero, List.getElem_cons_succ, List.setIfInBounds_toArray, List.set_cons_zero, List.set_cons_succ])
  refine wpAnyH_take (i := 3) (oi := _) (v := ?_) rfl (by kernel_rfl) (by kernel_rfl) (by kernel_rfl) (fun _ _ _ h => h) (Or.inl ⟨by rfl, ?_⟩) (by assumption) ?_
  rotate_left
  · intro w hSw; (try dsimp only at hSw); go_simp; (try with_reducible rfl)
  (try simp only [Act.put, List.getElem_toArray, List.getElem_cons_zero, List.getElem_cons_succ, List.setIfInBounds_toArray, List.set_cons_zero, List.set_cons_succ])
  refine wpAnyH_take (i := 4) (oi := _) (v := ?_) rfl (by kernel_rfl) (by kernel_rfl) (by kernel_rfl) (fun _ _ _ h => h) (Or.inl ⟨by rfl, ?_⟩) (by assumption) ?_
  rotate_left
  · intro w hSw; (try dsimp only at hSw); go_simp; (try with_reducible rfl)
  (try simp only [Act.put, List.getElem_toArray, List.getElem_cons_zero, List.getElem_cons_succ, List.setIfInBounds_toArray, List.set_cons_zero, List.set_cons_succ])
  refine wpAnyH_ready (rs := [2]) (by kernel_rfl) (by simp) ?_
  refine AllReadyH.cons (o := _) rfl (fun K hK => ?_) AllReadyH.nil
  go_simp
  (go_at_call 27; refine (auAt_Taken_c HV ad hq _ (HVL.out.below HB4.out).drew).mono ?_; rintro e w5 ⟨rfl, hb5⟩; rw [HET.out]; have HB5 := hidp (Bgo (Bdrew HB4.out) hb5); have HX5 := hidp (HX4.out.drew.keep hb5); have HN5 := hidp (HN4.out.drew.keep hb5); clear hb5)
  refine hK.out _ _ ?_ (fun hHeld => ?_)
  · (try dsimp only)
    first | exact HX4.out.drew.four | exact HX5.out.four | exact HX6.out.four | exact hHeld
  clear hK K
  (try simp only [Act.put, List.getElem_toArray, List.getElem_cons_zero, List.getElem_cons_succ, List.setIfInBounds_toArray, List.set_cons_zero, List.set_cons_succ])
  refine wpAnyH_ready (rs := [5]) (by kernel_rfl) (by simp) ?_
  refine AllReadyH.cons (o := _) rfl (fun K hK => ?_) AllReadyH.nil
  go_simp
  (go_at_call 27; refine (auAt_Slots_c HV ad hq _ (HVL.out.below HB5.out)).mono ?_; rintro e w6 ⟨rfl, hb6⟩; rw [HES.out]; have HB6 := hidp (Bgo HB5.out hb6); have HX6 := hidp (HX5.out.keep hb6); have HN6 := hidp (HN5.out.keep hb6); clear hb6)
  refine hK.out _ _ ?_ (fun hHeld => ?_)
  · (try dsimp only)
    first | exact HX4.out.drew.four | exact HX5.out.four | exact HX6.out.four | exact hHeld
  clear hK K
  (try simp only [Act.put, List.getElem_toArray, List.getElem_cons_zero, List.getElem_cons_succ, List.setIfInBounds_toArray, List.set_cons_zero, List.set_cons_succ])
  refine wpAnyH_take (i := 6) (oi := _) (v := ?_) rfl (by kernel_rfl) (by kernel_rfl) (by kernel_rfl) (fun _ _ _ h => h) (Or.inl ⟨by rfl, ?_⟩) (by assumption) ?_
  rotate_left
  · intro w hSw; (try dsimp only at hSw); go_simp; (try with_reducible rfl)
  (try simp only [Act.put, List.getElem_toArray, List.getElem_cons_zero, List.getElem_cons_succ, List.setIfInBounds_toArray, List.set_cons_zero, List.set_cons_succ])
  refine wpAnyH_take (i := 7) (oi := _) (v := ?_) rfl (by kernel_rfl) (by kernel_rfl) (by kernel_rfl) (fun _ _ _ h => h) (Or.inl ⟨by rfl, ?_⟩) (by assumption) ?_
  rotate_left
  · intro w hSw; (try dsimp only at hSw); go_simp; (try with_reducible rfl)
  (try simp only [Act.put, List.getElem_toArray, List.getElem_cons_zero, List.getElem_cons_succ, List.setIfInBounds_toArray, List.set_cons_zero, List.set_cons_succ])
  refine wpAnyH_done (by kernel_rfl) ?_ _
  go_wp2_with (first
    | (go_at_call 33; refine (HSN.out _ (HTL.out.below HB6.out)).mono ?_; rintro e w7 ⟨rfl, rfl⟩)
    | fail)
  have HGL : Hid (w.heap.size < gl) := hidp (by have := HX2.out.lt; have := HGL0.out; omega)
  rw [HGL0.out] at HN6 ⊢
  have HNI : Hid (Held w6 gl 35 #[.int .i64 5, .int .i64 fq, .int .i64 (pg : Int)]) := HN6
  have HOI : Hid (w6.ownsRow base 35 3 v (nl + 0) (ptVs (l ++ H.slotsTo q 0))) := hidp (by have := own_below HOW.out HB6.out; rw [show H.slotsTo q 0 = [] from rfl, List.append_nil]; exact this)
  clear c0 c1 c2 c3 HX0 HX2 HX3 HX4 HX5 HB2 HB3 HB4 HB5 HBW HN3 HN4 HN5 HN6 HGL0 HSZ HSN HPG
  go_loopw [1, 30] (fun u1 u30 wr => ∃ (i : Nat) (y r : Int), i ≤ m ∧ u30 = .int .i64 (i : Int) ∧ y = fq + ((i * z : Nat) : Int) ∧ r = (pg : Int) - ((i * z : Nat) : Int) ∧ Hid (wr.ownsRow base 35 3 u1 (nl + i) (ptVs (l ++ H.slotsTo q i))) ∧ Hid (Turns (fun i => v.ownBlock = some i) w wr) ∧ Hid (∀ g, u1.ownBlock = some g → v.ownBlock = some g ∨ gl < g) ∧ Hid (Held wr w.heap.size 41 #[.int .i64 (H.t : Int), .int .i64 (H.p : Int), .int .i64 (H.s : Int), .slice (some ad) n c]) ∧ Hid (Held wr gl 35 #[.int .i64 5, .int .i64 y, .int .i64 r])) (fun _ u30 _ => m - (intOf u30).toNat)
  case atStart => exact ⟨0, fq, pg, by omega, rfl, by simp, by simp, HOI, hidp (Turns.of_below HB6.out _), hidp (fun g h => .inl h), HX6, HNI⟩
  case round =>
    clear HOI HNI HX6 HB6
    obtain ⟨i, y, r, hi, rfl, hy, hr, HO, HT, HL, HX, HNL⟩ := hrel
    have hiz : i * z ≤ m * z := Nat.mul_le_mul_right z hi
    by_cases hlt : i < m
    · have t0 : decide ((i : Int) < m) = true := decide_eq_true (by omega)
      have hiz1 : (i + 1) * z ≤ m * z := Nat.mul_le_mul_right z hlt
      rw [Nat.succ_mul] at hiz1
      have HIZ : Hid ((((i + 1) * z : Nat) : Int) = ((i * z : Nat) : Int) + (z : Int)) := hidp (by rw [Nat.succ_mul]; push_cast; rfl)
      obtain ⟨kd, hkd⟩ : ∃ kd, slotKd tk sv i = kd := ⟨_, rfl⟩
      have HKD : Hid (∀ W : World, Calls Tryd.prog 34 #[.int .u32 (tk : Int), .int .u32 (sv : Int), .int .i64 (i : Int)] W fun e w' => e = .returned (.int .i64 (kd : Int)) ∧ W = w') := hidp (fun W => by have := auSlotKind_c tk sv i ht32 hs32' (by omega) W; rwa [hkd] at this)
      have HSN1 : Hid (ptVs (l ++ H.slotsTo q (i + 1)) = ptVs (l ++ H.slotsTo q i) ++ [.int .i64 (kd : Int), .int .i64 y, .int .i64 (z : Int)]) := hidp (by
        rw [AuH.slotsTo_succ, ← List.append_assoc, ptVs_app, HSP.out i, ptVs_one, hkd, hy]
        push_cast
        rfl)
      have hyb : 1024 ≤ y ∧ y ≤ 1077000000 := by omega
      have hrb : 0 ≤ r ∧ r ≤ 1048576 := by omega
      have HYR : Hid (y + (z : Int) = fq + (((i + 1) * z : Nat) : Int) ∧ r - (z : Int) = (pg : Int) - (((i + 1) * z : Nat) : Int)) := hidp (by rw [HIZ.out]; omega)
      have sw1 : IntKind.i64.wrap (y + (z : Int)) = y + (z : Int) := i64_same (by omega) (by omega)
      have sw2 : IntKind.i64.wrap (r - (z : Int)) = r - (z : Int) := i64_same (by omega) (by omega)
      obtain ⟨d0, d1, d2⟩ := HNL.out.three
      have hlb := HOW.out.lt
      clear hkd hy hr hiz hiz1
      go_wp2_with fail
      refine wp_region_held_drew (S := (fun w' => w'.cell? ⟨gl, 1, none⟩ = some (.int .i64 y))) (by kernel_rfl) ?_ (fun hHeld => ?_)
      · (try dsimp only)
        first | exact HNL.out.three.2.1 | exact (HNL.out.alloc (.cells #[.int .i64 (kd : Int), .int .i64 y, .int .i64 (z : Int)] 35)).drew.three.2.1 | exact HN7.out.three.2.1 | exact hHeld
      refine wpAnyH_take (i := 0) (oi := _) (v := ?_) rfl (by kernel_rfl) (by kernel_rfl) (by kernel_rfl) (fun _ _ _ h => h) (Or.inl ⟨by rfl, ?_⟩) (by assumption) ?_
      rotate_left
      · intro w hSw; (try dsimp only at hSw); go_simp; (try with_reducible rfl)
      (try simp only [Act.put, List.getElem_toArray, List.getElem_cons_zero, List.getElem_cons_succ, List.setIfInBounds_toArray, List.set_cons_zero, List.set_cons_succ])
      refine wpAnyH_take (i := 1) (oi := _) (v := ?_) rfl (by kernel_rfl) (by kernel_rfl) (by kernel_rfl) (fun _ _ _ h => h) (Or.inl ⟨by rfl, ?_⟩) (by assumption) ?_
      rotate_left
      · intro w hSw; (try dsimp only at hSw); go_simp; (try with_reducible rfl)
      (try simp only [Act.put, List.getElem_toArray, List.getElem_cons_zero, List.getElem_cons_succ, List.setIfInBounds_toArray, List.set_cons_zero, List.set_cons_succ])
      refine wpAnyH_take (i := 2) (oi := _) (v := ?_) rfl (by kernel_rfl) (by kernel_rfl) (by kernel_rfl) (fun _ _ _ h => h) (Or.inl ⟨by rfl, ?_⟩) (by assumption) ?_
      rotate_left
      · intro w hSw; (try dsimp only at hSw); go_simp; (try with_reducible rfl)
      (try simp only [Act.put, List.getElem_toArray, List.getElem_cons_zero, List.getElem_cons_succ, List.setIfInBounds_toArray, List.set_cons_zero, List.set_cons_succ])
      refine wpAnyH_take (i := 3) (oi := _) (v := ?_) rfl (by kernel_rfl) (by kernel_rfl) (by kernel_rfl) (fun _ _ _ h => h) (Or.inl ⟨by rfl, ?_⟩) (by assumption) ?_
      rotate_left
      · intro w hSw; (try dsimp only at hSw); go_simp; (try with_reducible rfl)
      (try simp only [Act.put, List.getElem_toArray, List.getElem_cons_zero, List.getElem_cons_succ, List.setIfInBounds_toArray, List.set_cons_zero, List.set_cons_succ])
      refine wpAnyH_take (i := 5) (oi := _) (v := ?_) rfl (by kernel_rfl) (by kernel_rfl) (by kernel_rfl) (fun _ _ _ h => h) (Or.inl ⟨by rfl, ?_⟩) (by assumption) ?_
      rotate_left
      · intro w hSw; (try dsimp only at hSw); go_simp; (try with_reducible rfl)
      (try simp only [Act.put, List.getElem_toArray, List.getElem_cons_zero, List.getElem_cons_succ, List.setIfInBounds_toArray, List.set_cons_zero, List.set_cons_succ])
      refine wpAnyH_take (i := 6) (oi := _) (v := ?_) rfl (by kernel_rfl) (by kernel_rfl) (by kernel_rfl) (fun _ _ _ h => h) (Or.inl ⟨by rfl, ?_⟩) (by assumption) ?_
      rotate_left
      · intro w hSw; (try dsimp only at hSw); go_simp; (try with_reducible rfl)
      (try simp only [Act.put, List.getElem_toArray, List.getElem_cons_zero, List.getElem_cons_succ, List.setIfInBounds_toArray, List.set_cons_zero, List.set_cons_succ])
      refine wpAnyH_take (i := 7) (oi := _) (v := ?_) rfl (by kernel_rfl) (by kernel_rfl) (by kernel_rfl) (fun _ _ _ h => h) (Or.inl ⟨by rfl, ?_⟩) (by assumption) ?_
      rotate_left
      · intro w hSw; (try dsimp only at hSw); go_simp; (try with_reducible rfl)
      (try simp only [Act.put, List.getElem_toArray, List.getElem_cons_zero, List.getElem_cons_succ, List.setIfInBounds_toArray, List.set_cons_zero, List.set_cons_succ])
      refine wpAnyH_ready (rs := [4]) (by kernel_rfl) (by simp) ?_
      refine AllReadyH.cons (o := _) rfl (fun K hK => ?_) AllReadyH.nil
      go_simp
      (go_at_call 34; refine (HKD.out _).mono ?_; rintro e w7 ⟨rfl, rfl⟩)
      refine hK.out _ _ ?_ (fun hHeld => ?_)
      · (try dsimp only)
        first | exact HNL.out.three.2.1 | exact (HNL.out.alloc (.cells #[.int .i64 (kd : Int), .int .i64 y, .int .i64 (z : Int)] 35)).drew.three.2.1 | exact HN7.out.three.2.1 | exact hHeld
      clear hK K
      (try simp only [Act.put, List.getElem_toArray, List.getElem_cons_zero, List.getElem_cons_succ, List.setIfInBounds_toArray, List.set_cons_zero, List.set_cons_succ])
      refine wpAnyH_take (i := 8) (oi := _) (v := ?_) rfl (by kernel_rfl) (by kernel_rfl) (by kernel_rfl) (fun _ _ _ h => h) (Or.inl ⟨by rfl, ?_⟩) (by assumption) ?_
      rotate_left
      · intro w hSw; (try dsimp only at hSw); go_simp; (try with_reducible rfl)
      (try simp only [Act.put, List.getElem_toArray, List.getElem_cons_zero, List.getElem_cons_succ, List.setIfInBounds_toArray, List.set_cons_zero, List.set_cons_succ])
      refine wpAnyH_ready (rs := [9]) (by kernel_rfl) (by simp) ?_
      refine AllReadyH.cons (o := _) rfl (fun K hK => ?_) AllReadyH.nil
      go_simp
      skip
      refine hK.out _ _ ?_ (fun hHeld => ?_)
      · (try dsimp only)
        first | exact HNL.out.three.2.1 | exact (HNL.out.alloc (.cells #[.int .i64 (kd : Int), .int .i64 y, .int .i64 (z : Int)] 35)).drew.three.2.1 | exact HN7.out.three.2.1 | exact hHeld
      clear hK K
      (try simp only [Act.put, List.getElem_toArray, List.getElem_cons_zero, List.getElem_cons_succ, List.setIfInBounds_toArray, List.set_cons_zero, List.set_cons_succ])
      refine wpAnyH_ready (rs := [10]) (by kernel_rfl) (by simp) ?_
      refine AllReadyH.cons (o := _) rfl (fun K hK => ?_) AllReadyH.nil
      (refine step_append_lies _ (by rfl) _ _ 27 (by rfl) base 35 j0 (.agg #[.int .i64 0, .int .i64 0, .int .i64 0]) 3 24 Tryd.underlying27 hjn hjz0 hjz1 hjz2 rfl (by decide) u1 (nl + i) (ptVs (l ++ H.slotsTo q i)) (by rfl) ((own_below HO.out (Bdrew (B0 _))).alloc _) ⟨_, 0, none⟩ 1 1 [.int .i64 (kd : Int), .int .i64 y, .int .i64 (z : Int)] (by rfl) rfl (fun jj yy hyy => World.news_of_block (w := wr.alloc (.cells #[.int .i64 (kd : Int), .int .i64 y, .int .i64 (z : Int)] 35)) (heap_alloc_new wr _) jj yy (by simpa using hyy)) (by simp [Value.oneCell']) (by omega) (by unfold maxLen; omega) (by omega) (by have := HT.out.size; simp; omega) _ rfl ?_; intro g cap w8 hown8 hgrow8 hat8 hlt8; have HO8 := hidp hown8; have HGR := hidp hgrow8; have HAT := hidp hat8; have HN7 := hidp (held_grown (HNL.out.alloc (.cells #[.int .i64 (kd : Int), .int .i64 y, .int .i64 (z : Int)] 35)).drew hgrow8 (fun e => by rcases HL.out _ e with h | h; (have := HVB.out _ h; have := HGL.out; omega); omega)); have HX7 := hidp (held_grown (HX.out.alloc (.cells #[.int .i64 (kd : Int), .int .i64 y, .int .i64 (z : Int)] 35)).drew hgrow8 (fun e => by rcases HL.out _ e with h | h; (have := HVB.out _ h; omega); (have := HGL.out; omega))); clear hown8 hgrow8 hat8 hlt8)
      refine hK.out _ _ ?_ (fun hHeld => ?_)
      · (try dsimp only)
        first | exact HNL.out.three.2.1 | exact (HNL.out.alloc (.cells #[.int .i64 (kd : Int), .int .i64 y, .int .i64 (z : Int)] 35)).drew.three.2.1 | exact HN7.out.three.2.1 | exact hHeld
      clear hK K
      (try simp only [Act.put, List.getElem_toArray, List.getElem_cons_zero, List.getElem_cons_succ, List.setIfInBounds_toArray, List.set_cons_zero, List.set_cons_succ])
      refine wpAnyH_take (i := 11) (oi := _) (v := ?_) rfl (by kernel_rfl) (by kernel_rfl) (by kernel_rfl) (fun _ _ _ h => h) (Or.inl ⟨by rfl, ?_⟩) (by assumption) ?_
      rotate_left
      · intro w hSw; (try dsimp only at hSw); go_simp; (try with_reducible rfl)
      (try simp only [Act.put, List.getElem_toArray, List.getElem_cons_zero, List.getElem_cons_succ, List.setIfInBounds_toArray, List.set_cons_zero, List.set_cons_succ])
      refine wpAnyH_done (by kernel_rfl) ?_ _
      obtain ⟨d0, d1, d2⟩ := HN7.out.three
      have f1 := HN7.out.thawed 1
      have f2 := HN7.out.thawed 2
      have HGN : Hid (v.ownBlock = some g ∨ gl < g) := hidp (by
        rcases HAT.out with h | h
        · exact HL.out g h
        · have := HNL.out.lt; simp at h; omega)
      have HT8 := hidp (turns_grown (F := fun i => v.ownBlock = some i) (HT.out.alloc (.cells #[.int .i64 (kd : Int), .int .i64 y, .int .i64 (z : Int)] 35)).drew HGR.out (fun x hx => (HL.out x hx).imp id (fun h => by have := HGL.out; omega)))
      have HO9 : Hid (∀ a b : Value, ((w8.setCell ⟨gl, 1, none⟩ a).setCell ⟨gl, 2, none⟩ b).ownsRow base 35 3 (.slice (some ⟨g, 0, none⟩) (nl + i + 1) cap) (nl + (i + 1)) (ptVs (l ++ H.slotsTo q (i + 1)))) := hidp (fun a b => by
        rw [HSN1.out]
        refine own_kept HO8.out (fun gg hgg => ?_)
        have hgg : g = gg := by simpa [Value.ownBlock] using hgg
        subst hgg
        have hne : g ≠ gl := by
          rcases HGN.out with h | h
          · have := HVB.out _ h; have := HGL.out; omega
          · omega
        exact (Below.heap_setCell _ _ _ _ hne).trans (Below.heap_setCell _ _ _ _ hne))
      clear HO8 HGR HAT HO HT HL hlb
      go_wp2_with fail
      go_roundw
      case rel => exact ⟨i + 1, y + (z : Int), r - (z : Int), by omega, by go_num, HYR.out.1, HYR.out.2, hidp (HO9.out _ _), hidp ((HT8.out.put_new (p := ⟨gl, 1, none⟩) (by have := HGL.out; simp; omega) _).put_new (p := ⟨gl, 2, none⟩) (by have := HGL.out; simp; omega) _), hidp (fun gg hgg => by
          have hgg : g = gg := by simpa [Value.ownBlock] using hgg
          subst hgg; exact HGN.out), hidp ((HX7.out.far (p := ⟨gl, 1, none⟩) (by have := HGL.out; simp; omega) _).far (p := ⟨gl, 2, none⟩) (by have := HGL.out; simp; omega) _), hidp ((HN7.out.put 1 _).put 2 _)⟩
      case measure => simp [intOf]; omega
    · have him : i = m := by omega
      have t0 : decide ((i : Int) < m) = false := decide_eq_false (by omega)
      have HIM := hidp him
      obtain ⟨d0, d1, d2⟩ := HNL.out.three
      have hfin : ∀ gg, u1.ownBlock = some gg → v.ownBlock = some gg ∨ w.heap.size ≤ gg := fun gg h => (HL.out gg h).imp id (fun h => by have := HGL.out; omega)
      have HFIN := hidp hfin
      have HOM : Hid (wr.ownsRow base 35 3 u1 (nl + i) (ptVs (l ++ H.slotsTo q m))) := hidp (by rw [show H.slotsTo q m = H.slotsTo q i by rw [him]]; exact HO.out)
      by_cases hsl : m * z < pg
      · have hrp : decide ((0 : Int) < r) = true := decide_eq_true (by rw [hr, him]; omega)
        have HPB : Hid (H.partsAt q = H.slotsTo q m ++ [(5, y, r)]) := hidp (by rw [HPA.out, HSK.out, if_pos hsl, hy, hr, him])
        have hlb := HT.out.size
        have hbs := HBS.out
        clear him hsl hy hr hiz hfin HPA HSK HIM
        go_wp2_with (first
          | (at_builtin
             refine wpList_append_lies _ rfl _ _ 27 rfl base 35 j0 (.agg #[.int .i64 0, .int .i64 0, .int .i64 0]) 3 24 Tryd.underlying27 hjn hjz0 hjz1 hjz2 rfl (by decide) u1 (nl + i) (ptVs (l ++ H.slotsTo q m)) rfl (HOM.out.alloc _) ⟨_, 0, none⟩ 1 1 [.int .i64 5, .int .i64 y, .int .i64 r] rfl rfl ?c1 ?c2 (by omega) ?c3 ?c4 ?c5 _ rfl ?_
             case c1 => exact fun jj yy hyy => World.news_of_block (w := wr.alloc (.cells #[.int .i64 5, .int .i64 y, .int .i64 r] 35)) (heap_alloc_new wr _) jj yy (by simpa using hyy)
             case c2 => simp [Value.oneCell']
             case c3 => unfold maxLen; omega
             case c4 => omega
             case c5 => simp; omega
             intro g cap w8 hown8 hgrow8 hat8 hlt8)
          | fail)
        go_ret
        refine ⟨_, rfl, ?_, turns_grown (HT.out.alloc _) hgrow8 HFIN.out, fun gg hgg => ?_⟩
        · have e : (l ++ H.partsAt q).length = nl + i + 1 := by rw [HPB.out]; simp [AuH.slotsTo_len, HLL.out]; omega
          rw [e, HPB.out, ← List.append_assoc, ptVs_app, ptVs_one]
          exact hown8
        · have hgg : g = gg := by simpa [Value.ownBlock] using hgg
          subst hgg
          rcases hat8 with h | h
          · exact HFIN.out _ h
          · right; simp at h; omega
      · have hrp : decide ((0 : Int) < r) = false := decide_eq_false (by rw [hr, him]; omega)
        have HPB : Hid (H.partsAt q = H.slotsTo q m) := hidp (by rw [HPA.out, HSK.out, if_neg hsl, List.append_nil])
        clear him hsl hy hr hiz hfin HPA HSK
        go_wp2_with fail
        go_ret
        refine ⟨u1, rfl, ?_, HT.out, HFIN.out⟩
        have e : (l ++ H.partsAt q).length = nl + i := by rw [HPB.out, List.length_append, AuH.slotsTo_len, HLL.out, HIM.out]
        rw [e, HPB.out]
        exact HOM.out

end Go.Proofs.YtbaofpdjfoaiiaaDoor
