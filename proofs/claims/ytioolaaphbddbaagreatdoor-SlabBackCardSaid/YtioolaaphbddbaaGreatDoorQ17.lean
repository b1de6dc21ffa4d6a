/-
  Pick and Give, as functions: what is told, read and written; and on a heap. No program is named here but for the Views'.
-/
import Derived.Test.YtioolaaphbddbaaGreatDoorQ16
import Derived.Test.YtioolaaphbddbaaGreatDoorQ06
import Derived.Test.YtioolaaphbddbaaGreatDoorQ04
import Derived.Test.YtioolaaphbddbaaGreatDoorQ14
namespace Go.Proofs.YtioolaaphbddbaaGreatDoor
open Go.ChangeShapes Go.WideShapes Go.ChangeAt Go.RowKit Go.Maps
set_option linter.unusedVariables false
set_option linter.unusedSimpArgs false
section
def fullB (u : Nat) (k : Int) : Bool := decide (HM.onesTo u 32 = slotI k)
theorem fullB_is {u : Nat} {k : Int} (hu : u < 2 ^ slotI k) : fullB u k = decide (u = 2 ^ slotI k - 1) := decide_eq_decide.2 (AuH.ones_full hu (slotI_le k))
def clrB (u i : Nat) : Nat := if u.testBit i = true then u - 2 ^ i else u
section
variable (n : Nat) (K : Nat → Option Nat) (t q s : Int)
def pickAt (k : Int) (p w : Nat) (st : Vst) : Option (Nat × List Nat) × Vst :=
  if someF (getV n K st (pageI t q s p 5)) (slotI k) w = [] then (none, getS n K st (pageI t q s p 5))
  else (some (p, someF (getV n K st (pageI t q s p 5)) (slotI k) w), bitsS n K t q s k p (layB (getV n K st (pageI t q s p 5)) (someF (getV n K st (pageI t q s p 5)) (slotI k) w)) (fullB (layB (getV n K st (pageI t q s p 5)) (someF (getV n K st (pageI t q s p 5)) (slotI k) w)) k) st)
def pickI (k : Int) (w : Nat) (st : Vst) : Option (Nat × List Nat) × Vst :=
  if getV n K st (13 + k) = 0 then
    (match (takeI n K t q s 1 (getS n K st (13 + k))).1 with
      | some p => pickAt n K t q s k p w (slabS n K t q s k p (takeI n K t q s 1 (getS n K st (13 + k))).2)
      | none => (none, (takeI n K t q s 1 (getS n K st (13 + k))).2))
  else pickAt n K t q s k (getV n K st (13 + k) - 1) w (getS n K st (13 + k))
def giveAt (k : Int) (p i : Nat) (st : Vst) : Vst :=
  if clrB (getV n K st (pageI t q s p 5)) i = 0 then emptyS n K t q s k p (fullB (getV n K st (pageI t q s p 5)) k) (getS n K st (pageI t q s p 5))
  else backS n K t q s k p (clrB (getV n K st (pageI t q s p 5)) i) (fullB (getV n K st (pageI t q s p 5)) k) (getS n K st (pageI t q s p 5))
def giveS (p i : Nat) (st : Vst) : Vst := giveAt n K t q s (infoOf n K t q s p st).2.2.1 p i (getS n K st (pageI t q s p 0))
def pickP (x : Option (Nat × List Nat)) : Int := match x with
  | some (p, _) => (p : Int)
  | none => -1
def pickL (x : Option (Nat × List Nat)) : List Nat := match x with
  | some (_, l) => l
  | none => []
end
section
variable {n : Nat} {K : Nat → Option Nat} {t q s : Int} {st s1 : Vst} {k : Int} {p w v : Nat}
theorem pickAt_none (hv : getV n K st (pageI t q s p 5) = v) (h : someF v (slotI k) w = []) : pickAt n K t q s k p w st = (none, getS n K st (pageI t q s p 5)) := by
  subst hv
  unfold pickAt
  rw [if_pos h]
theorem pickAt_some (hv : getV n K st (pageI t q s p 5) = v) {l : List Nat} (hl : someF v (slotI k) w = l) (h : l ≠ []) : pickAt n K t q s k p w st = (some (p, l), bitsS n K t q s k p (layB v l) (fullB (layB v l) k) st) := by
  subst hv hl
  unfold pickAt
  rw [if_neg h]
theorem pickI_rack {r : Nat} (h : getV n K st (13 + k) = r + 1) : pickI n K t q s k w st = pickAt n K t q s k r w (getS n K st (13 + k)) := by
  unfold pickI
  rw [if_neg (by omega), h, Nat.add_sub_cancel]
theorem pickI_none (h : getV n K st (13 + k) = 0) (ht : takeI n K t q s 1 (getS n K st (13 + k)) = (none, s1)) : pickI n K t q s k w st = (none, s1) := by
  unfold pickI
  rw [if_pos h, ht]
theorem pickI_fresh (h : getV n K st (13 + k) = 0) (ht : takeI n K t q s 1 (getS n K st (13 + k)) = (some p, s1)) : pickI n K t q s k w st = pickAt n K t q s k p w (slabS n K t q s k p s1) := by
  unfold pickI
  rw [if_pos h, ht]
end
section
variable {H : AuH} {n c : Nat} {K : Nat → Option Nat} {st st' : Vst} {L L' : Nat → List Nat} {g : Nat → Nat}
theorem take16_none {t q s nn : Int} {s1 : Vst} (h : findI n K t q s nn st = (none, s1)) : takeI n K t q s nn st = (none, s1) := by
  unfold takeI
  rw [h]
theorem take16_some {t q s : Int} {m p : Nat} {s1 : Vst} (h : findI n K t q s (m : Int) st = (some p, s1)) : takeI n K t q s (m : Int) st = (some p, takeS n K t q s p m s1) := by
  unfold takeI
  rw [h]
  simp
theorem someF_ne {t m w : Nat} (h : 1 ≤ (someF t m w).length) : someF t m w ≠ [] := fun e => by rw [e] at h; simp at h
theorem pick_heap (HV : HeapV H n c) (h : H.Ok L) (W : Work H.t H.p H.s n K st L H.V) {k : Int} (k0 : 0 ≤ k) (k8 : k ≤ 8) {w : Nat} (hw : 1 ≤ w) :
    ((pickI n K H.t H.p H.s k w st).1 = none ∧ (pickI n K H.t H.p H.s k w st).2.wr = st.wr) ∨
      ∃ (p : Nat) (l : List Nat) (L' : Nat → List Nat), (pickI n K H.t H.p H.s k w st).1 = some (p, l) ∧ VW n K (pickI n K H.t H.p H.s k w st).2 ∧ 1 ≤ l.length ∧ l.length ≤ w ∧ l.length ≤ slotI k ∧ Picked H n K (pickI n K H.t H.p H.s k w st).2 L' k p l := by
  have hlen := HV.len
  have W1 := W.get (13 + k)
  rcases rack_first W h k0 k8 with h0 | ⟨p, h1, hp, hk, hc, hnf⟩
  · have hP := HV.fit.nums
    obtain ⟨hl, hx⟩ := W1.look16 h HV (nn := 1) (k := 0) (by omega) (by omega) (by omega) (by omega)
    have hfi : findI n K H.t H.p H.s 1 (getS n K st (13 + k)) = findF n K H.t H.p H.s 1 0 (getS n K st (13 + k)) := findI_yes (own := 0) (by decide) (by omega) (by omega)
    rcases hx with ⟨hn, _⟩ | ⟨p, hs, hp, hk, hl1⟩
    · have ht : takeI n K H.t H.p H.s 1 (getS n K st (13 + k)) = (none, (findF n K H.t H.p H.s 1 0 (getS n K st (13 + k))).2) := take16_none (by rw [hfi]; exact Prod.ext hn rfl)
      rw [pickI_none h0 ht]
      exact .inl ⟨rfl, by rw [show (none, (findF n K H.t H.p H.s 1 0 (getS n K st (13 + k))).2).2 = (findF n K H.t H.p H.s 1 0 (getS n K st (13 + k))).2 from rfl]; exact hl.wr.trans (get_len n K st (13 + k)).2⟩
    · have ht : takeI n K H.t H.p H.s ((1 : Nat) : Int) (getS n K st (13 + k)) = (some p, takeS n K H.t H.p H.s p 1 (findF n K H.t H.p H.s 1 0 (getS n K st (13 + k))).2) := take16_some (by rw [show ((1 : Nat) : Int) = 1 from rfl, hfi]; exact Prod.ext hs rfl)
      have W2 := W1.of_looked hl
      obtain ⟨f1, L', g', f2, f3⟩ := picked_fresh HV h W2 (w := w) hp hk k0 k8 hw
      generalize (findF n K H.t H.p H.s 1 0 (getS n K st (13 + k))).2 = s2 at *
      have hv := (free_few h HV.fit.nums.2).2
      obtain ⟨L1, g1, W3, R1, e1, e0, _⟩ := take_heap HV h W2 hp hk (Nat.le_refl 1) hl1
      have hpno : ∀ x : Nat, 2 ≤ x → x ≤ 21 → ¬ p ∈ L1 x := fun x a2 a21 hx => by
        have := (span_at h hp (by omega) (by omega)).2.2.1
        rcases (R1.mem x a2 a21 p).1 hx with h3 | h3 <;> omega
      obtain ⟨L2, W4, _⟩ := W3.slab HV.fit hp k0 k8 hpno
      have e5 : getV n K (slabS n K H.t H.p H.s k p (takeS n K H.t H.p H.s p 1 s2)) (pageI H.t H.p H.s p 5) = 0 := by
        rw [HV.fit.taken hp, W4.val (i := pc H.t p 5) (by unfold pc; omega) (pc_far (by omega) (by omega) (by omega))]
        simp (disch := omega) only [updF_pcN, updF_pcE]
        rw [(R1.bits p hp).2]
        exact ((h.slots p hp).2 (by omega)).1
      have e : pickI n K H.t H.p H.s k w st = pickAt n K H.t H.p H.s k p w (slabS n K H.t H.p H.s k p (takeS n K H.t H.p H.s p 1 s2)) := pickI_fresh h0 ht
      rw [pickAt_some e5 rfl (someF_ne f1), fullB_is (layB_lt _ _ (Nat.two_pow_pos _) (fun i hi => (someF_mem hi).1))] at e
      rw [e]
      exact .inr ⟨p, _, L', rfl, f2.vw, f1, (someF_len _ _ _).1, (someF_len _ _ _).2, f3⟩
  · have h1 : getV n K st (13 + k) = p + 1 := h1
    have e5 : getV n K (getS n K st (13 + k)) (pageI H.t H.p H.s p 5) = H.cel p 5 := by
      rw [HV.fit.taken hp, W1.val (i := pc H.t p 5) (by unfold pc; omega) (pc_far (by omega) (by omega) (by omega))]
      rfl
    obtain ⟨f1, L', f2, f3⟩ := picked_rack HV h W1 hp hk hc hnf hw
    obtain ⟨b0, b1, b2⟩ := slab_bits h hp hk
    rw [hc] at b1
    have e : pickI n K H.t H.p H.s k w st = _ := pickI_rack h1
    rw [pickAt_some e5 rfl (someF_ne f1), fullB_is (layB_lt _ _ b1 (fun i hi => (someF_mem hi).1))] at e
    rw [e]
    exact .inr ⟨p, _, L', rfl, f2.vw, f1, (someF_len _ _ _).1, (someF_len _ _ _).2, f3⟩
theorem add_or16 {a b : Nat} (h : a &&& b = 0) : a + b = a ||| b := by
  have ha : a < 2 ^ (a + b + 1) := Nat.lt_of_le_of_lt (by omega) (Nat.lt_two_pow_self (n := a + b + 1))
  have hb : b < 2 ^ (a + b + 1) := Nat.lt_of_le_of_lt (by omega) (Nat.lt_two_pow_self (n := a + b + 1))
  have hs : a + b < 2 ^ (a + b + 1) := Nat.lt_of_le_of_lt (by omega) (Nat.lt_two_pow_self (n := a + b + 1))
  have h1 : BitVec.ofNat (a + b + 1) a &&& BitVec.ofNat (a + b + 1) b = 0#(a + b + 1) := by
    apply BitVec.eq_of_toNat_eq
    rw [BitVec.toNat_and, BitVec.toNat_ofNat, BitVec.toNat_ofNat, Nat.mod_eq_of_lt ha, Nat.mod_eq_of_lt hb, h]
    simp
  have h2 := congrArg BitVec.toNat (BitVec.add_eq_or_of_and_eq_zero _ _ h1)
  rw [BitVec.toNat_or, BitVec.toNat_add, BitVec.toNat_ofNat, BitVec.toNat_ofNat, Nat.mod_eq_of_lt ha, Nat.mod_eq_of_lt hb, Nat.mod_eq_of_lt hs] at h2
  exact h2
theorem clrB_bits {u i : Nat} (h : u.testBit i = true) : ∀ j, (clrB u i).testBit j = (u.testBit j && !decide (j = i)) := fun j => by
  have e : clrB u i + 2 ^ i = u := by
    unfold clrB
    rw [if_pos h]
    have := Nat.ge_two_pow_of_testBit h
    omega
  have e0 : (clrB u i).testBit i = false := by
    have h2 : (2 ^ i + clrB u i).testBit i = !(clrB u i).testBit i := Nat.testBit_two_pow_add_eq _ _
    rw [Nat.add_comm, e, h] at h2
    cases hb : (clrB u i).testBit i
    · rfl
    · rw [hb] at h2; cases h2
  have e2 : 2 ^ i ||| clrB u i = u := by
    have hx : 2 ^ i &&& clrB u i = 0 := by
      apply Nat.eq_of_testBit_eq
      intro j
      rw [Nat.testBit_and, Nat.zero_testBit, testBit_pow]
      by_cases hj : j = i
      · subst hj; rw [e0]; simp
      · rw [decide_eq_false hj]; rfl
    have := add_or16 hx
    omega
  have e3 := congrArg (fun x => Nat.testBit x j) e2
  simp only [Nat.testBit_or, testBit_pow] at e3
  rw [← e3]
  by_cases hj : j = i
  · subst hj; rw [e0]; simp
  · rw [decide_eq_false hj]; simp
theorem off_of {p i : Nat} (hp : p < H.p) (hk : H.K p = 3) (h5 : (H.cel p 5).testBit i = true) (h4 : (H.cel p 4).testBit i = false) : Off H p i (clrB (H.cel p 5) i) := ⟨hp, hk, h5, h4, clrB_bits h5⟩
theorem give_heap (HV : HeapV H n c) (h : H.Ok L) (W : Work H.t H.p H.s n K st L H.V) {p i : Nat} (o : Off H p i (clrB (H.cel p 5) i)) :
    infoOf n K H.t H.p H.s p st = infoG (H.cel p 0) ∧ ∃ L', VW n K (giveS n K H.t H.p H.s p i st) ∧ GivenBack H n K (giveS n K H.t H.p H.s p i st) L' p i := by
  have hlen := HV.len
  have hp := o.at_
  have W1 := W.get (pageI H.t H.p H.s p 0)
  have W2 := W1.get (pageI H.t H.p H.s p 5)
  have ei : infoOf n K H.t H.p H.s p st = infoG (H.cel p 0) := by
    unfold infoOf
    rw [HV.fit.inf hp]
    show infoG (getV n K st ((pc H.t p 0 : Nat) : Int)) = _
    rw [W.near (pc H.t p 0) (by unfold pc; omega) (pc_far (t := H.t) (q := p) (b := 0) (by omega) (by omega) (by omega))]
    rfl
  have e5 : getV n K (getS n K st (pageI H.t H.p H.s p 0)) (pageI H.t H.p H.s p 5) = H.cel p 5 := by
    rw [HV.fit.taken hp, W1.val (i := pc H.t p 5) (by unfold pc; omega) (pc_far (by omega) (by omega) (by omega))]
    rfl
  obtain ⟨b0, b1, b2⟩ := slab_bits h hp o.kind
  refine ⟨ei, ?_⟩
  unfold giveS giveAt
  rw [ei, show (infoG (H.cel p 0)).2.2.1 = H.Cl p from rfl, e5, fullB_is b1]
  by_cases hu : clrB (H.cel p 5) i = 0
  · rw [if_pos hu]
    rw [hu] at o
    obtain ⟨L', g', w1, w2⟩ := given_none HV h W2 o
    exact ⟨L', w1.vw, w2⟩
  · rw [if_neg hu]
    obtain ⟨L', w1, w2⟩ := given_some HV h W2 o hu
    exact ⟨L', w1.vw, w2⟩
end
end
end Go.Proofs.YtioolaaphbddbaaGreatDoor

namespace Go.Proofs.YtioolaaphbddbaaGreatDoor
open Go.ChangeShapes Go.WideShapes Go.ChangeAt Go.RowKit
set_option linter.unusedVariables false
set_option linter.unusedSimpArgs false
set_option maxRecDepth 100000
section
def freeV (v k : Nat) : List Value := ntVs (HM.freeTo v k)
theorem freeV_one (v k : Nat) (h : v.testBit k = true) : freeV v (k + 1) = freeV v k := by unfold freeV; rw [HM.freeTo_succ, h]; simp
theorem freeV_zero (v k : Nat) (h : v.testBit k = false) : freeV v (k + 1) = freeV v k ++ [.int .i64 (k : Int)] := by unfold freeV; rw [HM.freeTo_succ, h]; exact ntVs_snoc _ _
theorem freeV_le (v k : Nat) : (freeV v k).length ≤ k := by unfold freeV; rw [ntVs_len]; exact HM.freeTo_le v k
set_option maxHeartbeats 800000 in
theorem Free32_up (v M : Nat) (n : Int) (hv : v < 2 ^ 32) (hA : n ≤ 32) (hB : (M : Int) = n) (w : World) :
    Calls Tryz.prog 84 #[.int .u32 (v : Int), .int .i64 n] w fun e w' =>
      ∃ u, e = .returned u ∧ w'.ownsRow w.heap.size 3 1 u (freeV v M).length (freeV v M) ∧ Below w.heap.size w w' := by
  obtain ⟨i0, hi, hz0, hz1, hz2⟩ := info_parts intInfo
  have hM : (M : Int) ≤ n := by omega
  have HB := hidp hB
  clear hB
  go_enter Tryz.func84, Tryz.ntmps84
  go_wp2
  go_loopw [5, 9] (fun u i wr => ∃ k : Nat, k ≤ M ∧ i = .int .i64 k ∧ wr.ownsRow w.heap.size 3 1 u (freeV v k).length (freeV v k) ∧ Below w.heap.size w wr) (fun _ i _ => M - (intOf i).toNat)
  case atStart => exact ⟨0, by omega, rfl, World.ownsRow_nil _ _ _ _, Below.refl _ _⟩
  case round =>
    obtain ⟨k, hk, rfl, hown, hb⟩ := hrel
    by_cases hlt : k < M
    · have hl := freeV_le v k
      have hki : (k : Int) < n := by omega
      have hk32 : k < 32 := by omega
      cases hbit : v.testBit k
      · have HT := hidp ((congrArg v.testBit (Int.toNat_natCast k)).trans hbit)
        have HZ := hidp (freeV_zero v k hbit)
        clear hbit
        go_wp2_with (first
          | (go_at_call 126; refine (isOne_c v k _ hv (by omega) (by omega) HT.out _).mono ?_; rintro e w' ⟨rfl, rfl⟩)
          | (at_builtin
             refine wpList_append_own _ rfl _ _ 33 rfl w.heap.size 3 i0 (.int .i64 0) 1 8 Tryz.underlying33 hi hz0 hz1 hz2 rfl (by decide) _ _ _ rfl (hown.alloc _) ⟨_, 0, none⟩ 1 1 [.int .i64 (k : Int)] rfl rfl ?c1 ?c2 ?c3 ?c4 ?c5 ?_
             case c1 => intro j y hy; rcases j with _ | j; (· simp at hy; subst hy; simp [Addr.add]); (· simp at hy)
             case c2 => simp [Value.oneCell']
             case c3 => unfold maxLen; omega
             case c4 => omega
             case c5 => have := hb.size; simp; omega
             intro u1 w1 hown1 hgrow _))
        have hb1 := (hb.alloc hb.size _).grown hgrow (by have := hb.size; simp; omega) (fun j hj => (hown.lt j hj).1)
        go_roundw
        case rel => exact ⟨k + 1, by omega, by go_num, by rw [HZ.out, List.length_append]; exact hown1, hb1⟩
        case measure => simp [intOf]; omega
      · have HT := hidp ((congrArg v.testBit (Int.toNat_natCast k)).trans hbit)
        have HO := hidp (freeV_one v k hbit)
        clear hbit
        go_wp2_with (go_at_call 126; refine (isOne_c v k _ hv (by omega) (by omega) HT.out _).mono ?_; rintro e w' ⟨rfl, rfl⟩)
        go_roundw
        case rel => exact ⟨k + 1, by omega, by go_num, by rw [HO.out]; exact hown, hb⟩
        case measure => simp [intOf]; omega
    · obtain rfl : k = M := by omega
      have hlast : n ≤ (k : Int) := by have := HB.out; omega
      go_wp2
      go_ret
      exact ⟨_, rfl, hown, hb⟩
theorem Free32_c (v m : Nat) (hv : v < 2 ^ 32) (hm : m ≤ 32) (w : World) :
    Calls Tryz.prog 84 #[.int .u32 (v : Int), .int .i64 (m : Int)] w fun e w' =>
      ∃ u, e = .returned u ∧ w'.ownsRow w.heap.size 3 1 u (HM.freeTo v m).length (ntVs (HM.freeTo v m)) ∧ Below w.heap.size w w' := by
  have h := Free32_up v m m hv (by omega) rfl w
  unfold freeV at h
  rw [ntVs_len] at h
  exact h
theorem cutF16 (A : Option Addr) (L c i : Nat) (h : i ≤ L) (hL : L ≤ c) (w : World) : (Instr.slice 33 (.slice A L c) none (some (.int .i64 (i : Int))) none).run Tryz.prog w = .ok (.slice A i c) w := by
  have hu : Tryz.prog.underlying 33 = some (.slice (Tryz.prog.elem 33)) := by kernel_rfl
  have hs : ∀ w, (sizeOf (Tryz.prog.elem 33)).run Tryz.prog w = .ok 1 w := fun w => by kernel_rfl
  rw [run_slice_h (P := Tryz.prog) (w := w) 33 A L c hu .i64 (i : Int) (by omega) (by omega), hs]
  simp only [Result.andThen, sliced, Int.toNat_natCast, Nat.zero_mul, Nat.sub_zero]
  congr 2
  split
  · rfl
  · cases A <;> simp [Addr.add]
theorem own_take {w : World} {base : Nat} {e : TypeId} {A : Option Addr} {n c m : Nat} {xs : List Value} (h : w.ownsRow base e 1 (.slice A n c) n xs) (hm : m ≤ n) : w.ownsRow base e 1 (.slice A m c) m (xs.take m) := by
  have h1 := h.1
  refine ⟨by rw [List.length_take]; omega, ?_⟩
  rcases h.2 with ⟨h2, h3⟩ | ⟨g, cap, cur, h2, hb, hg, hnc, hcm, hcs, ht⟩
  · injection h2 with h4 h5 h6
    subst h4 h6
    exact .inl ⟨by rw [show m = 0 by omega], by omega⟩
  · injection h2 with h4 h5 h6
    subst h4 h6
    refine .inr ⟨g, c, cur, rfl, hb, hg, by omega, hcm, hcs, ?_⟩
    rw [← ht, List.take_take]
    congr 1
    omega
section
variable {O : Ob} {w0 ws w w' : World} {A G : Nat → Prop} {N : Nat} {T : TypeId} {cs : Array Value} {base : Nat} {u : Value} {nl : Nat} {xs : List Value} {st s' : Vst}
theorem WL.row (h : WL O w0 A G ws [⟨N, T, cs⟩] st w) (hb : Below w.heap.size w w') (ho : w'.ownsRow w.heap.size 3 1 u nl xs) : RowW O w0 A G ws N T cs ws.heap.size u nl xs st w' :=
  ⟨h.at_.keep2 hb (fun g hg => by
    rcases hg with hg | hg
    · rcases hg with hg | hg
      · exact .inl (.inl hg)
      · exact .inl (.inr ⟨_, List.mem_singleton.2 rfl, hg.symm⟩)
    · exact .inr (ho.lt g hg)), own_lower ho h.stay.1, h.h0.keep hb, h.stay.trans (Stay.of_below hb G)⟩
theorem RowW.end_ {c m : Nat} {B : Option Addr} {l : List Nat} (h : RowW O w0 A G ws N T cs ws.heap.size (.slice B nl c) nl (ntVs l) st w) (hm : m ≤ nl) (hl : (l.take m).length = m) : WalkEnd O w0 A G (l.take m) st ws (.returned (.slice B m c)) w := by
  have e : ntVs (l.take m) = (ntVs l).take m := by unfold ntVs; rw [List.map_take]
  refine ⟨_, rfl, ?_, h.at_.less (fun g hg => ?_), h.stay⟩
  · rw [hl, e]
    exact own_take h.own hm
  · rcases hg with hg | hg
    · exact .inl (.inl hg)
    · refine .inr ?_
      cases B with
      | none => exact hg
      | some a => exact hg
theorem WalkEnd.nil_ (h : O.At w0 A G st w) (hS : Stay G ws w) : WalkEnd O w0 A G [] st ws (.returned (.slice none 0 0)) w :=
  ⟨_, rfl, World.ownsRow_nil _ _ _ _, h.less (fun g hg => by
    rcases hg with hg | hg
    · exact hg
    · cases hg), hS⟩
end
theorem pow32 {s : Nat} (h : s < 32) : ((2 : Int) ^ s) % 4294967296 = ((2 ^ s : Nat) : Int) := by
  have h1 : 2 ^ s < 2 ^ 32 := Nat.pow_lt_pow_right (by omega) h
  have e : ((2 : Int) ^ s) = ((2 ^ s : Nat) : Int) := by push_cast; rfl
  rw [e]
  generalize 2 ^ s = z at *
  omega
theorem layB_or (v : Nat) : ∀ l : List Nat, layB v l = v ||| layB 0 l := fun l => by
  apply Nat.eq_of_testBit_eq
  intro j
  rw [layB_bit, Nat.testBit_or, layB_bit, Nat.zero_testBit, Bool.false_or]
theorem layB_take {l : List Nat} {k : Nat} (h : k < l.length) : layB 0 (l.take (k + 1)) = layB 0 (l.take k) ||| 2 ^ l.getD k 0 := by
  unfold layB
  rw [List.take_add_one, List.getElem?_eq_getElem h, List.foldl_append]
  simp [List.getD, List.getElem?_eq_getElem h]
set_option maxHeartbeats 800000 in
theorem slabBits_c (l : List Nat) (g o c n : Nat) (hn : l.length = n) (hl : n ≤ 32) (h32 : ∀ i ∈ l, i < 32) (w : World) (hc : ∀ i, i < n → w.cell? ⟨g, o + i, none⟩ = some (.int .i64 ((l.getD i 0 : Nat) : Int))) :
    Calls Tryz.prog 85 #[.slice (some ⟨g, o, none⟩) n c] w fun e w' => e = .returned (.int .u32 ((layB 0 l : Nat) : Int)) ∧ w = w' := by
  have HC := hidp hc
  have HLB : Hid (∀ k, k < n → layB 0 (l.take (k + 1)) = layB 0 (l.take k) ||| 2 ^ l.getD k 0 ∧ l.getD k 0 < 32 ∧ layB 0 (l.take k) < 2 ^ 32) := hidp (fun k hk => ⟨layB_take (by omega), by
    simp [List.getD, List.getElem?_eq_getElem (show k < l.length by omega)]
    exact h32 _ (List.getElem_mem _), layB_lt _ _ (by omega) (fun i hi => h32 i (List.mem_of_mem_take hi))⟩)
  have HEND : Hid (layB 0 (l.take n) = layB 0 l) := hidp (by rw [List.take_of_length_le (by omega)])
  clear hc hn h32
  go_enter Tryz.func85, Tryz.ntmps85
  go_wp2
  go_loopw [3, 8] (fun t i wr => ∃ k : Nat, k ≤ n ∧ i = .int .i64 k ∧ t = .int .u32 ((layB 0 (l.take k) : Nat) : Int) ∧ wr = w) (fun _ i _ => n - (intOf i).toNat)
  case atStart => exact ⟨0, by omega, rfl, rfl, rfl⟩
  case round =>
    obtain ⟨k, hk, rfl, rfl, rfl⟩ := hrel
    by_cases hlt : k < n
    · have c1 := HC.out k hlt
      obtain ⟨e1, e2, e3⟩ := HLB.out k hlt
      have HE := hidp e1
      clear e1
      generalize l.getD k 0 = x at *
      generalize layB 0 (l.take k) = y at *
      obtain ⟨z, hz⟩ : ∃ z, 2 ^ x = z := ⟨_, rfl⟩
      have hz32 : z < 2 ^ 32 := by rw [← hz]; exact Nat.pow_lt_pow_right (by omega) e2
      have e4 := pow32 e2
      rw [hz] at HE e4
      have e5 : x ≤ 31 := by omega
      have HO := hidp (u32_or_nat y z e3 hz32)
      clear hz
      go_wp2
      go_roundw
      case rel => exact ⟨k + 1, by omega, by go_num, by rw [HE.out, ← HO.out], by first | rfl | trivial | exact (by assumption) | skip⟩
      case measure => simp [intOf]; omega
    · obtain rfl : k = n := by omega
      go_wp2
      go_ret
      exact ⟨by rw [HEND.out]; rfl, rfl⟩
end
end Go.Proofs.YtioolaaphbddbaaGreatDoor

namespace Go.Proofs.YtioolaaphbddbaaGreatDoor
open Go.ChangeShapes Go.WideShapes Go.ChangeAt Go.RowKit Go.Maps
set_option linter.unusedVariables false
set_option linter.unusedSimpArgs false
set_option maxRecDepth 100000
section
theorem cell_lt16 {w : World} {g o : Nat} {v : Value} (h : w.cell? ⟨g, o, none⟩ = some v) : g < w.heap.size := by
  rcases Nat.lt_or_ge g w.heap.size with h1 | h1
  · exact h1
  · have h2 : w.heap[g]? = none := Array.getElem?_eq_none h1
    unfold World.cell? at h
    rw [h2] at h
    cases h
theorem SlotsLaid.at_ {O : Ob} {w0 w : World} {A G : Nat → Prop} {st : Vst} (hT : SlotsLaid w0) (hA : ¬ A 0) (h : O.At w0 A G st w) : SlotsLaid w := by
  obtain ⟨A', h1, h2, h3, h4⟩ := h
  intro k hk
  have hc := hT k hk
  have hl : (0 : Nat) < w0.heap.size := cell_lt16 hc
  have hb := h3.block _ hl hA
  rw [← hc]
  unfold World.cell?
  rw [hb]
section
variable {base b n : Nat} {wh all : Bool} {K : Nat → Option Nat} {st : Vst} {w w0 : World} {A G : Nat → Prop} {t q s k : Int}
theorem rack_at {k : Int} (k0 : 0 ≤ k) (k8 : k ≤ 8) : nthI 13 9 1 k = 13 + k := by rw [nth_on (by omega) (by omega) (by omega)]; omega

set_option maxHeartbeats 3200000 in
theorem sbTaken_c (hn : n < 2 ^ 40) (p : Int) (h : (vOb base b n wh K).At w0 A G st w) :
    Calls Tryz.prog 83 #[.agg #[.pointer (some ⟨b, 0, none⟩), .int .i64 t, .int .i64 q, .int .i64 s, .int .i64 p, .int .i64 k]] w fun e w' => e = .returned (.int .u32 ((getV n K st (pageI t q s p 5) : Nat) : Int)) ∧ (vOb base b n wh K).At w0 A G (getS n K st (pageI t q s p 5)) w' ∧ Stay G w w' := by
  have W0 := hidp ((WL.start h).new 77 #[.pointer (some ⟨b, 0, none⟩), .int .i64 t, .int .i64 q, .int .i64 s, .int .i64 p, .int .i64 k])
  obtain ⟨v, hv⟩ : ∃ v, getV n K st (pageI t q s p 5) = v := ⟨_, rfl⟩
  have HV := hidp hv
  rw [hv]
  clear h hv
  go_enter Tryz.func83, Tryz.ntmps83
  obtain ⟨x0, x1, x2, x3, x4, x5⟩ := W0.out.h0.six'
  go_wp2_with fail
  refine wp_region_held_drew (S := (fun w' => w'.cell? ⟨w.heap.size, 0, none⟩ = some (.pointer (some ⟨b, 0, none⟩)) ∧ w'.cell? ⟨w.heap.size, 1, none⟩ = some (.int .i64 t) ∧ w'.cell? ⟨w.heap.size, 2, none⟩ = some (.int .i64 q) ∧ w'.cell? ⟨w.heap.size, 3, none⟩ = some (.int .i64 s) ∧ w'.cell? ⟨w.heap.size, 4, none⟩ = some (.int .i64 p) ∧ w'.cell? ⟨w.heap.size, 5, none⟩ = some (.int .i64 k))) (by kernel_rfl) ?_ (fun hHeld => ?_)
  · (try dsimp only)
    exact ⟨W0.out.drew.h0.six'.1, W0.out.drew.h0.six'.2.1, W0.out.drew.h0.six'.2.2.1, W0.out.drew.h0.six'.2.2.2.1, W0.out.drew.h0.six'.2.2.2.2.1, W0.out.drew.h0.six'.2.2.2.2.2⟩
  refine tkz 0 ?_
  refine tkz 1 ?_
  refine tkz 2 ?_
  refine tkz 3 ?_
  refine tkz 4 ?_
  refine tkz 5 ?_
  refine wpAnyH_ready (rs := [6]) (by kernel_rfl) (by simp) ?_
  refine AllReadyH.cons (o := _) rfl (fun K hK => ?_) AllReadyH.nil
  go_simp
  refine (plTaken_c t q s p _).mono ?_; rintro e w1 ⟨rfl, hb⟩; have W1 := hidp (W0.out.drew.keep hb); clear hb W0
  refine hK.out _ _ ?_ (fun hHeld => ?_)
  · (try dsimp only)
    exact ⟨W1.out.h0.six'.1, W1.out.h0.six'.2.1, W1.out.h0.six'.2.2.1, W1.out.h0.six'.2.2.2.1, W1.out.h0.six'.2.2.2.2.1, W1.out.h0.six'.2.2.2.2.2⟩
  clear hK K
  (try simp only [Act.put, gA, gB, gC, sA, sB, sC])
  refine wpAnyH_ready (rs := [7]) (by kernel_rfl) (by simp) ?_
  refine AllReadyH.cons (o := _) rfl (fun K hK => ?_) AllReadyH.nil
  go_simp
  refine (vGetA hn _ W1.out.at_).mono ?_; rintro e w2 ⟨rfl, h1, h2⟩; have W2 := hidp (W1.out.call h1 h2); clear h1 h2 W1; rw [HV.out]
  refine hK.out _ _ ?_ (fun hHeld => ?_)
  · (try dsimp only)
    exact ⟨W2.out.h0.six'.1, W2.out.h0.six'.2.1, W2.out.h0.six'.2.2.1, W2.out.h0.six'.2.2.2.1, W2.out.h0.six'.2.2.2.2.1, W2.out.h0.six'.2.2.2.2.2⟩
  clear hK K
  (try simp only [Act.put, gA, gB, gC, sA, sB, sC])
  refine tkz 8 ?_
  refine wpAnyH_done (by kernel_rfl) ?_ _
  obtain ⟨x0, x1, x2, x3, x4, x5⟩ := W2.out.h0.six'
  go_wp2
  go_ret
  exact ⟨rfl, W2.out.fin⟩

set_option maxHeartbeats 3200000 in
theorem sbSet_c (hn : n < 2 ^ 40) (p : Int) (u : Nat) (hu : u < 2 ^ 32) (h : (vOb base b n wh K).At w0 A G st w) :
    Calls Tryz.prog 86 #[.agg #[.pointer (some ⟨b, 0, none⟩), .int .i64 t, .int .i64 q, .int .i64 s, .int .i64 p, .int .i64 k], .int .u32 (u : Int)] w fun e w' => e = .returned (.tuple #[]) ∧ (vOb base b n wh K).At w0 A G (putS n st (pageI t q s p 5) u) w' ∧ Stay G w w' := by
  have W0 := hidp ((WL.start h).new 77 #[.pointer (some ⟨b, 0, none⟩), .int .i64 t, .int .i64 q, .int .i64 s, .int .i64 p, .int .i64 k])
  have HU := hidp hu
  clear h hu
  go_enter Tryz.func86, Tryz.ntmps86
  obtain ⟨x0, x1, x2, x3, x4, x5⟩ := W0.out.h0.six'
  go_wp2_with fail
  refine wp_region_held_drew (S := (fun w' => w'.cell? ⟨w.heap.size, 0, none⟩ = some (.pointer (some ⟨b, 0, none⟩)) ∧ w'.cell? ⟨w.heap.size, 1, none⟩ = some (.int .i64 t) ∧ w'.cell? ⟨w.heap.size, 2, none⟩ = some (.int .i64 q) ∧ w'.cell? ⟨w.heap.size, 3, none⟩ = some (.int .i64 s) ∧ w'.cell? ⟨w.heap.size, 4, none⟩ = some (.int .i64 p) ∧ w'.cell? ⟨w.heap.size, 5, none⟩ = some (.int .i64 k))) (by kernel_rfl) ?_ (fun hHeld => ?_)
  · (try dsimp only)
    exact ⟨W0.out.drew.h0.six'.1, W0.out.drew.h0.six'.2.1, W0.out.drew.h0.six'.2.2.1, W0.out.drew.h0.six'.2.2.2.1, W0.out.drew.h0.six'.2.2.2.2.1, W0.out.drew.h0.six'.2.2.2.2.2⟩
  refine tkz 0 ?_
  refine tkz 1 ?_
  refine tkz 2 ?_
  refine tkz 3 ?_
  refine tkz 4 ?_
  refine tkz 5 ?_
  refine tkz 7 ?_
  refine wpAnyH_ready (rs := [6]) (by kernel_rfl) (by simp) ?_
  refine AllReadyH.cons (o := _) rfl (fun K hK => ?_) AllReadyH.nil
  go_simp
  refine (plTaken_c t q s p _).mono ?_; rintro e w1 ⟨rfl, hb⟩; have W1 := hidp (W0.out.drew.keep hb); clear hb W0
  refine hK.out _ _ ?_ (fun hHeld => ?_)
  · (try dsimp only)
    exact ⟨W1.out.h0.six'.1, W1.out.h0.six'.2.1, W1.out.h0.six'.2.2.1, W1.out.h0.six'.2.2.2.1, W1.out.h0.six'.2.2.2.2.1, W1.out.h0.six'.2.2.2.2.2⟩
  clear hK K
  (try simp only [Act.put, gA, gB, gC, sA, sB, sC])
  refine wpAnyH_ready (rs := [8]) (by kernel_rfl) (by simp) ?_
  refine AllReadyH.cons (o := _) rfl (fun K hK => ?_) AllReadyH.nil
  go_simp
  refine (vPutA hn _ u HU.out W1.out.at_).mono ?_; rintro e w2 ⟨rfl, h1, h2⟩; have W2 := hidp (W1.out.call h1 h2); clear h1 h2 W1
  refine hK.out _ _ ?_ (fun hHeld => ?_)
  · (try dsimp only)
    exact ⟨W2.out.h0.six'.1, W2.out.h0.six'.2.1, W2.out.h0.six'.2.2.1, W2.out.h0.six'.2.2.2.1, W2.out.h0.six'.2.2.2.2.1, W2.out.h0.six'.2.2.2.2.2⟩
  clear hK K
  (try simp only [Act.put, gA, gB, gC, sA, sB, sC])
  refine wpAnyH_done (by kernel_rfl) ?_ _
  obtain ⟨x0, x1, x2, x3, x4, x5⟩ := W2.out.h0.six'
  go_wp2
  go_end0
  exact ⟨rfl, W2.out.fin⟩

set_option maxHeartbeats 3200000 in
theorem sbPush_c (hn : n < 2 ^ 40) (hq : q ≤ 2 ^ 31) (p : Int) (k0 : 0 ≤ k) (k8 : k ≤ 8) (h : (vOb base b n wh K).At w0 A G st w) :
    Calls Tryz.prog 82 #[.agg #[.pointer (some ⟨b, 0, none⟩), .int .i64 t, .int .i64 q, .int .i64 s, .int .i64 p, .int .i64 k]] w fun e w' => e = .returned (.tuple #[]) ∧ (vOb base b n wh K).At w0 A G (pushI n K t q s (13 + k) p st) w' ∧ Stay G w w' := by
  have W0 := hidp ((WL.start h).new 77 #[.pointer (some ⟨b, 0, none⟩), .int .i64 t, .int .i64 q, .int .i64 s, .int .i64 p, .int .i64 k])
  have HRK := hidp (rack_at k0 k8)
  clear h
  go_enter Tryz.func82, Tryz.ntmps82
  obtain ⟨x0, x1, x2, x3, x4, x5⟩ := W0.out.h0.six'
  go_wp2_with fail
  refine wp_region_held_drew (S := (fun w' => w'.cell? ⟨w.heap.size, 0, none⟩ = some (.pointer (some ⟨b, 0, none⟩)) ∧ w'.cell? ⟨w.heap.size, 1, none⟩ = some (.int .i64 t) ∧ w'.cell? ⟨w.heap.size, 2, none⟩ = some (.int .i64 q) ∧ w'.cell? ⟨w.heap.size, 3, none⟩ = some (.int .i64 s) ∧ w'.cell? ⟨w.heap.size, 4, none⟩ = some (.int .i64 p) ∧ w'.cell? ⟨w.heap.size, 5, none⟩ = some (.int .i64 k))) (by kernel_rfl) ?_ (fun hHeld => ?_)
  · (try dsimp only)
    exact ⟨W0.out.drew.h0.six'.1, W0.out.drew.h0.six'.2.1, W0.out.drew.h0.six'.2.2.1, W0.out.drew.h0.six'.2.2.2.1, W0.out.drew.h0.six'.2.2.2.2.1, W0.out.drew.h0.six'.2.2.2.2.2⟩
  refine tkz 0 ?_
  refine tkz 1 ?_
  refine tkz 2 ?_
  refine tkz 3 ?_
  refine tkz 4 ?_
  refine tkz 5 ?_
  refine tkz 7 ?_
  refine tkz 8 ?_
  refine wpAnyH_ready (rs := [6]) (by kernel_rfl) (by simp) ?_
  refine AllReadyH.cons (o := _) rfl (fun K hK => ?_) AllReadyH.nil
  go_simp
  refine (plRack_c k _).mono ?_; rintro e w9 ⟨rfl, rfl⟩; rw [HRK.out]
  refine hK.out _ _ ?_ (fun hHeld => ?_)
  · (try dsimp only)
    exact ⟨W0.out.drew.h0.six'.1, W0.out.drew.h0.six'.2.1, W0.out.drew.h0.six'.2.2.1, W0.out.drew.h0.six'.2.2.2.1, W0.out.drew.h0.six'.2.2.2.2.1, W0.out.drew.h0.six'.2.2.2.2.2⟩
  clear hK K
  (try simp only [Act.put, gA, gB, gC, sA, sB, sC])
  refine wpAnyH_ready (rs := [9]) (by kernel_rfl) (by simp) ?_
  refine AllReadyH.cons (o := _) rfl (fun K hK => ?_) AllReadyH.nil
  go_simp
  refine (lkPush_c hn hq p W0.out.drew.at_).mono ?_; rintro e w1 ⟨rfl, h1, h2⟩; have W1 := hidp (W0.out.drew.call h1 h2); clear h1 h2 W0
  refine hK.out _ _ ?_ (fun hHeld => ?_)
  · (try dsimp only)
    exact ⟨W1.out.h0.six'.1, W1.out.h0.six'.2.1, W1.out.h0.six'.2.2.1, W1.out.h0.six'.2.2.2.1, W1.out.h0.six'.2.2.2.2.1, W1.out.h0.six'.2.2.2.2.2⟩
  clear hK K
  (try simp only [Act.put, gA, gB, gC, sA, sB, sC])
  refine wpAnyH_done (by kernel_rfl) ?_ _
  obtain ⟨x0, x1, x2, x3, x4, x5⟩ := W1.out.h0.six'
  go_wp2
  go_end0
  exact ⟨rfl, W1.out.fin⟩

set_option maxHeartbeats 3200000 in
theorem sbPull_c (hn : n < 2 ^ 40) (hq : q ≤ 2 ^ 31) (p : Int) (k0 : 0 ≤ k) (k8 : k ≤ 8) (h : (vOb base b n wh K).At w0 A G st w) :
    Calls Tryz.prog 88 #[.agg #[.pointer (some ⟨b, 0, none⟩), .int .i64 t, .int .i64 q, .int .i64 s, .int .i64 p, .int .i64 k]] w fun e w' => e = .returned (.tuple #[]) ∧ (vOb base b n wh K).At w0 A G (pullI n K t q s (13 + k) p st) w' ∧ Stay G w w' := by
  have W0 := hidp ((WL.start h).new 77 #[.pointer (some ⟨b, 0, none⟩), .int .i64 t, .int .i64 q, .int .i64 s, .int .i64 p, .int .i64 k])
  have HRK := hidp (rack_at k0 k8)
  clear h
  go_enter Tryz.func88, Tryz.ntmps88
  obtain ⟨x0, x1, x2, x3, x4, x5⟩ := W0.out.h0.six'
  go_wp2_with fail
  refine wp_region_held_drew (S := (fun w' => w'.cell? ⟨w.heap.size, 0, none⟩ = some (.pointer (some ⟨b, 0, none⟩)) ∧ w'.cell? ⟨w.heap.size, 1, none⟩ = some (.int .i64 t) ∧ w'.cell? ⟨w.heap.size, 2, none⟩ = some (.int .i64 q) ∧ w'.cell? ⟨w.heap.size, 3, none⟩ = some (.int .i64 s) ∧ w'.cell? ⟨w.heap.size, 4, none⟩ = some (.int .i64 p) ∧ w'.cell? ⟨w.heap.size, 5, none⟩ = some (.int .i64 k))) (by kernel_rfl) ?_ (fun hHeld => ?_)
  · (try dsimp only)
    exact ⟨W0.out.drew.h0.six'.1, W0.out.drew.h0.six'.2.1, W0.out.drew.h0.six'.2.2.1, W0.out.drew.h0.six'.2.2.2.1, W0.out.drew.h0.six'.2.2.2.2.1, W0.out.drew.h0.six'.2.2.2.2.2⟩
  refine tkz 0 ?_
  refine tkz 1 ?_
  refine tkz 2 ?_
  refine tkz 3 ?_
  refine tkz 4 ?_
  refine tkz 5 ?_
  refine tkz 7 ?_
  refine tkz 8 ?_
  refine wpAnyH_ready (rs := [6]) (by kernel_rfl) (by simp) ?_
  refine AllReadyH.cons (o := _) rfl (fun K hK => ?_) AllReadyH.nil
  go_simp
  refine (plRack_c k _).mono ?_; rintro e w9 ⟨rfl, rfl⟩; rw [HRK.out]
  refine hK.out _ _ ?_ (fun hHeld => ?_)
  · (try dsimp only)
    exact ⟨W0.out.drew.h0.six'.1, W0.out.drew.h0.six'.2.1, W0.out.drew.h0.six'.2.2.1, W0.out.drew.h0.six'.2.2.2.1, W0.out.drew.h0.six'.2.2.2.2.1, W0.out.drew.h0.six'.2.2.2.2.2⟩
  clear hK K
  (try simp only [Act.put, gA, gB, gC, sA, sB, sC])
  refine wpAnyH_ready (rs := [9]) (by kernel_rfl) (by simp) ?_
  refine AllReadyH.cons (o := _) rfl (fun K hK => ?_) AllReadyH.nil
  go_simp
  refine (lkPull_c hn hq p W0.out.drew.at_).mono ?_; rintro e w1 ⟨rfl, h1, h2⟩; have W1 := hidp (W0.out.drew.call h1 h2); clear h1 h2 W0
  refine hK.out _ _ ?_ (fun hHeld => ?_)
  · (try dsimp only)
    exact ⟨W1.out.h0.six'.1, W1.out.h0.six'.2.1, W1.out.h0.six'.2.2.1, W1.out.h0.six'.2.2.2.1, W1.out.h0.six'.2.2.2.2.1, W1.out.h0.six'.2.2.2.2.2⟩
  clear hK K
  (try simp only [Act.put, gA, gB, gC, sA, sB, sC])
  refine wpAnyH_done (by kernel_rfl) ?_ _
  obtain ⟨x0, x1, x2, x3, x4, x5⟩ := W1.out.h0.six'
  go_wp2
  go_end0
  exact ⟨rfl, W1.out.fin⟩

set_option maxHeartbeats 3200000 in
theorem sbFull_c (p : Int) (u : Nat) (hu : u < 2 ^ 32) (k0 : 0 ≤ k) (k8 : k ≤ 8) (w : World) (hT : SlotsLaid w) :
    Calls Tryz.prog 87 #[.agg #[.pointer (some ⟨b, 0, none⟩), .int .i64 t, .int .i64 q, .int .i64 s, .int .i64 p, .int .i64 k], .int .u32 (u : Int)] w fun e w' => e = .returned (.bool (fullB u k)) ∧ Below w.heap.size w w' := by
  obtain ⟨o, ho⟩ : ∃ o, HM.onesTo u 32 = o := ⟨_, rfl⟩
  obtain ⟨m, hm⟩ : ∃ m, slotI k = m := ⟨_, rfl⟩
  have HO := hidp ho
  have HMM := hidp hm
  have hb : fullB u k = decide (o = m) := by unfold fullB; rw [ho, hm]
  rw [hb]
  have t0 : ((o : Int) == (m : Int)) = decide (o = m) := by
    rw [Bool.eq_iff_iff]; simp; omega
  have HX := hidp (Held.new w 77 #[.pointer (some ⟨b, 0, none⟩), .int .i64 t, .int .i64 q, .int .i64 s, .int .i64 p, .int .i64 k])
  have HT := hidp (hT.alloc (.cells #[.pointer (some ⟨b, 0, none⟩), .int .i64 t, .int .i64 q, .int .i64 s, .int .i64 p, .int .i64 k] 77)).drew
  have HB := hidp (Bdrew (Bnew (B0 w) (.cells #[.pointer (some ⟨b, 0, none⟩), .int .i64 t, .int .i64 q, .int .i64 s, .int .i64 p, .int .i64 k] 77)))
  clear hb ho hm hT
  go_enter Tryz.func87, Tryz.ntmps87
  obtain ⟨x0, x1, x2, x3, x4, x5⟩ := HX.out.six'
  go_wp2_with fail
  refine wp_region_held_drew (S := (fun w' => w'.cell? ⟨w.heap.size, 5, none⟩ = some (.int .i64 k))) (by kernel_rfl) ?_ (fun hHeld => ?_)
  · (try dsimp only)
    first | exact HX.out.drw.six'.2.2.2.2.2 | exact hHeld
  refine tkz 0 ?_
  refine tkz 2 ?_
  refine tkz 3 ?_
  refine wpAnyH_ready (rs := [1]) (by kernel_rfl) (by simp) ?_
  refine AllReadyH.cons (o := _) rfl (fun K hK => ?_) AllReadyH.nil
  go_simp
  refine (Ones_c u hu _).mono ?_; rintro e w9 ⟨rfl, rfl⟩; rw [HO.out]
  refine hK.out _ _ ?_ (fun hHeld => ?_)
  · (try dsimp only)
    first | exact HX.out.drw.six'.2.2.2.2.2 | exact hHeld
  clear hK K
  (try simp only [Act.put, gA, gB, gC, sA, sB, sC])
  refine wpAnyH_ready (rs := [4]) (by kernel_rfl) (by simp) ?_
  refine AllReadyH.cons (o := _) rfl (fun K hK => ?_) AllReadyH.nil
  go_simp
  refine (clSlots_c k (by omega) (by omega) _ HT.out).mono ?_; rintro e w9 ⟨rfl, rfl⟩; rw [HMM.out]
  refine hK.out _ _ ?_ (fun hHeld => ?_)
  · (try dsimp only)
    first | exact HX.out.drw.six'.2.2.2.2.2 | exact hHeld
  clear hK K
  (try simp only [Act.put, gA, gB, gC, sA, sB, sC])
  refine tkz 5 ?_
  refine tkz 6 ?_
  refine wpAnyH_done (by kernel_rfl) ?_ _
  go_wp2
  go_ret
  exact ⟨rfl, HB.out⟩
end
end
section
section
variable {O : Ob} {w0 ws w w' : World} {A G : Nat → Prop} {N : Nat} {T : TypeId} {cs : Array Value} {base : Nat} {u : Value} {nl : Nat} {xs : List Value} {st s' : Vst}
theorem RowW.h0 (h : RowW O w0 A G ws N T cs base u nl xs st w) : Held w N T cs := h.held
theorem RowW.fin0 (h : RowW O w0 A G ws N T cs base u nl xs st w) : O.At w0 A G st w ∧ Stay G ws w := ⟨h.at_.less (fun g x => .inl (.inl x)), h.stay⟩
end
theorem row_cells {w : World} {base g n c : Nat} {l : List Nat} {m : Nat} (h : w.ownsRow base 3 1 (.slice (some ⟨g, 0, none⟩) n c) n (ntVs l)) (hm : m ≤ n) (hl : l.length = n) : ∀ i, i < m → w.cell? ⟨g, 0 + i, none⟩ = some (.int .i64 (((l.take m).getD i 0 : Nat) : Int)) := fun i hi => by
  have h1 := h.cellAt i (by omega)
  rw [Nat.zero_add, h1]
  unfold ntVs
  simp [List.getD, List.getElem?_eq_getElem (show i < l.length by omega), List.getElem?_take, hi]
theorem one_cell {w : World} {g : Nat} {t : TypeId} {i : Nat} (h : Held w g t #[.int .i64 (i : Int)]) : ∀ j, j < 1 → w.cell? ⟨g, 0 + j, none⟩ = some (.int .i64 ((([i] : List Nat).getD j 0 : Nat) : Int)) := fun j hj => by
  have : j = 0 := by omega
  subst this
  exact h.one.1
theorem clrB_lt {v i : Nat} (hv : v < 2 ^ 32) : clrB v i < 2 ^ 32 := by
  unfold clrB
  split
  · exact Nat.lt_of_le_of_lt (Nat.sub_le _ _) hv
  · exact hv
theorem clrB_andNot {v i : Nat} (hv : v < 2 ^ 32) (hi : i < 32) : bits .andNot .u32 (v : Int) ((2 ^ i : Nat) : Int) = ((clrB v i : Nat) : Int) := by
  have hz : 2 ^ i < 4294967296 := Nat.pow_lt_pow_right (show 1 < 2 by omega) hi
  rw [u32_andNot_nat v (2 ^ i) hv hz]
  congr 1
  have hm : ∀ j, (4294967295 - 2 ^ i).testBit j = (decide (j < 32) && !decide (j = i)) := fun j => by
    have e : 4294967295 - 2 ^ i = 2 ^ 32 - (2 ^ i + 1) := by omega
    rw [e, Nat.testBit_two_pow_sub_succ hz, testBit_pow]
  apply Nat.eq_of_testBit_eq
  intro j
  rw [Nat.testBit_and, hm]
  have hj32 : v.testBit j = true → j < 32 := fun h => by
    rcases Nat.lt_or_ge j 32 with h1 | h1
    · exact h1
    · rw [Nat.testBit_lt_two_pow (Nat.lt_of_lt_of_le hv (Nat.pow_le_pow_right (by omega) h1))] at h; cases h
  cases hb : v.testBit i with
  | true =>
    rw [clrB_bits hb]
    cases hvj : v.testBit j
    · rfl
    · rw [decide_eq_true (hj32 hvj)]; rfl
  | false =>
    unfold clrB
    rw [if_neg (by rw [hb]; simp)]
    cases hvj : v.testBit j
    · rfl
    · rw [decide_eq_true (hj32 hvj), decide_eq_false (fun e => by rw [e, hb] at hvj; cases hvj)]; rfl
section
variable {base b n : Nat} {wh all : Bool} {K : Nat → Option Nat} {st : Vst} {w w0 : World} {A G : Nat → Prop} {t q s k : Int}

set_option maxHeartbeats 6400000 in
theorem sbPick_none (hn : n < 2 ^ 40) (hq : q ≤ 2 ^ 31) (p wn : Nat) (hw : 1 ≤ wn) (hw2 : wn ≤ 32) (k0 : 0 ≤ k) (k8 : k ≤ 8) (hT : SlotsLaid w0) (hA : ¬ A 0) (v : Nat) (hv : getV n K st (pageI t q s p 5) = v) (f : List Nat) (hf : HM.freeTo v (slotI k) = f) (h0 : f = []) (h : (vOb base b n wh K).At w0 A G st w) :
    Calls Tryz.prog 38 #[.agg #[.pointer (some ⟨b, 0, none⟩), .int .i64 t, .int .i64 q, .int .i64 s, .int .i64 (p : Int), .int .i64 k], .int .i64 (wn : Int)] w (WalkEnd (vOb base b n wh K) w0 A G [] (getS n K st (pageI t q s p 5)) w) := by
  have hv32 : v < 2 ^ 32 := by rw [← hv]; exact vAt_lt h _
  have W0 := hidp ((WL.start h).new 77 #[.pointer (some ⟨b, 0, none⟩), .int .i64 t, .int .i64 q, .int .i64 s, .int .i64 (p : Int), .int .i64 k])
  have HV := hidp hv
  have HTL := hidp hT
  obtain ⟨m, hm⟩ : ∃ m, slotI k = m := ⟨_, rfl⟩
  have hm32 : m ≤ 32 := by rw [← hm]; exact slotI_le k
  have HMM := hidp hm
  rw [hm] at hf
  have HF := hidp hf
  obtain ⟨nf, hnf⟩ : ∃ nf, f.length = nf := ⟨_, rfl⟩
  have hnf32 : nf ≤ 32 := by have := HM.freeTo_le v m; rw [hf, hnf] at this; omega
  have HNF := hidp hnf
  have hz : nf = 0 := by rw [← hnf, h0]; rfl
  subst hz
  clear h hv hf hm hT hnf h0
  go_enter Tryz.func38, Tryz.ntmps38
  obtain ⟨x0, x1, x2, x3, x4, x5⟩ := W0.out.h0.six'
  go_wp2_with fail
  refine (sbTaken_c hn p W0.out.at_).mono ?_; rintro e w1 ⟨rfl, h1, h2⟩; have W1 := hidp (W0.out.call h1 h2); clear h1 h2 W0; rw [HV.out]
  obtain ⟨x0, x1, x2, x3, x4, x5⟩ := W1.out.h0.six'
  go_wp2_with fail
  refine (clSlots_c k (by omega) (by omega) _ (HTL.out.at_ hA W1.out.at_)).mono ?_; rintro e w9 ⟨rfl, rfl⟩; rw [HMM.out]
  go_wp2_with fail
  refine (Free32_c v m hv32 hm32 _).mono ?_
  rintro e w2 ⟨u2, rfl, ho, hb⟩
  rw [HF.out, HNF.out] at ho
  obtain ⟨A2, c2, hu2⟩ := own_slice ho
  subst hu2
  have hcc := own_caps9 ho
  have hcut := cutF16 A2 0 c2 0 (by omega) hcc.1
  have W2 := hidp (W1.out.row hb ho)
  clear ho hb W1
  have mi : (if (0 : Int) < (wn : Int) then (0 : Int) else (wn : Int)) = 0 := if_pos (by omega)
  obtain ⟨x0, x1, x2, x3, x4, x5⟩ := W2.out.h0.six'
  go_wp2
  go_ret
  exact WalkEnd.nil_ W2.out.fin0.1 W2.out.fin0.2

set_option maxHeartbeats 6400000 in
theorem sbPick_want (hn : n < 2 ^ 40) (hq : q ≤ 2 ^ 31) (p wn : Nat) (hw : 1 ≤ wn) (hw2 : wn ≤ 32) (k0 : 0 ≤ k) (k8 : k ≤ 8) (hT : SlotsLaid w0) (hA : ¬ A 0) (v : Nat) (hv : getV n K st (pageI t q s p 5) = v) (f : List Nat) (hf : HM.freeTo v (slotI k) = f) (hle : wn ≤ f.length) (h0 : f ≠ []) (l : List Nat) (hl : f.take wn = l) (u : Nat) (hu : layB v l = u) (bb : Bool) (hbb : fullB u k = bb) (h : (vOb base b n wh K).At w0 A G st w) :
    Calls Tryz.prog 38 #[.agg #[.pointer (some ⟨b, 0, none⟩), .int .i64 t, .int .i64 q, .int .i64 s, .int .i64 (p : Int), .int .i64 k], .int .i64 (wn : Int)] w (WalkEnd (vOb base b n wh K) w0 A G l (bitsS n K t q s k p u bb st) w) := by
  have hv32 : v < 2 ^ 32 := by rw [← hv]; exact vAt_lt h _
  have W0 := hidp ((WL.start h).new 77 #[.pointer (some ⟨b, 0, none⟩), .int .i64 t, .int .i64 q, .int .i64 s, .int .i64 (p : Int), .int .i64 k])
  have HV := hidp hv
  have HTL := hidp hT
  obtain ⟨m, hm⟩ : ∃ m, slotI k = m := ⟨_, rfl⟩
  have hm32 : m ≤ 32 := by rw [← hm]; exact slotI_le k
  have HMM := hidp hm
  rw [hm] at hf
  have HF := hidp hf
  obtain ⟨nf, hnf⟩ : ∃ nf, f.length = nf := ⟨_, rfl⟩
  have hnf32 : nf ≤ 32 := by have := HM.freeTo_le v m; rw [hf, hnf] at this; omega
  have HNF := hidp hnf
  rw [hnf] at hle
  have hnf1 : 1 ≤ nf := by rw [← hnf]; cases f with | nil => exact absurd rfl h0 | cons a r => simp
  have hnl : l.length = wn := by rw [← hl, List.length_take, hnf]; omega
  have hnl2 : wn ≤ nf := by omega
  have hlt : f.take wn = l := by rw [← hl]
  have HLT := hidp hlt
  have HNL := hidp hnl
  have t0 : ((wn : Int) == 0) = false := by simp; omega
  have hlm : ∀ i ∈ l, i < m ∧ v.testBit i = false := fun i hi => by
    rw [← hl] at hi
    have := List.mem_of_mem_take hi
    rw [← hf] at this
    unfold HM.freeTo at this
    rw [List.mem_filter, List.mem_range] at this
    simpa using this
  have HLM : Hid (∀ i ∈ l, i < 32) := hidp (fun i hi => by have := (hlm i hi).1; omega)
  obtain ⟨x, hx⟩ : ∃ x, layB 0 l = x := ⟨_, rfl⟩
  have hx32 : x < 2 ^ 32 := by rw [← hx]; exact layB_lt _ _ (by omega) HLM.out
  have HX := hidp hx
  have hu32 : u < 2 ^ 32 := by rw [← hu]; exact layB_lt _ _ hv32 HLM.out
  have or32 : bits .or .u32 (v : Int) (x : Int) = (u : Int) := by rw [u32_or_nat v x hv32 hx32, ← hu, layB_or, hx]
  have HBB := hidp hbb
  clear h hv hf hm hT hnf h0 hl hnl hlt hlm hx hu hbb
  go_enter Tryz.func38, Tryz.ntmps38
  obtain ⟨x0, x1, x2, x3, x4, x5⟩ := W0.out.h0.six'
  go_wp2_with fail
  refine (sbTaken_c hn p W0.out.at_).mono ?_; rintro e w1 ⟨rfl, h1, h2⟩; have W1 := hidp (W0.out.call h1 h2); clear h1 h2 W0; rw [HV.out]
  obtain ⟨x0, x1, x2, x3, x4, x5⟩ := W1.out.h0.six'
  go_wp2_with fail
  refine (clSlots_c k (by omega) (by omega) _ (HTL.out.at_ hA W1.out.at_)).mono ?_; rintro e w9 ⟨rfl, rfl⟩; rw [HMM.out]
  go_wp2_with fail
  refine (Free32_c v m hv32 hm32 _).mono ?_
  rintro e w2 ⟨u2, rfl, ho, hb⟩
  rw [HF.out, HNF.out] at ho
  obtain ⟨A2, c2, hu2⟩ := own_slice ho
  subst hu2
  have hcc := own_caps9 ho
  obtain ⟨g2, c3, hg2, _⟩ := ho.form (by omega)
  injection hg2 with hg3 _ hg4
  subst hg3
  clear hg4
  have hcut := cutF16 (some ⟨g2, 0, none⟩) nf c2 wn hnl2 hcc.1
  have W2 := hidp (W1.out.row hb ho)
  clear ho hb W1
  obtain ⟨x0, x1, x2, x3, x4, x5⟩ := W2.out.h0.six'
  go_wp2_with fail
  refine (slabBits_c l g2 0 c2 wn HNL.out (by omega) HLM.out _ (by rw [← HLT.out]; exact row_cells W2.out.own hnl2 HNF.out)).mono ?_; rintro e w9 ⟨rfl, rfl⟩; rw [HX.out]
  go_wp2_with fail
  refine (sbSet_c hn p u hu32 W2.out.at_).mono ?_; rintro e w3 ⟨rfl, h1, h2⟩; have W3 := hidp (W2.out.call h1 h2); clear h1 h2 W2
  obtain ⟨x0, x1, x2, x3, x4, x5⟩ := W3.out.h0.six'
  go_wp2_with fail
  refine (sbFull_c p u hu32 k0 k8 _ (HTL.out.at_ hA W3.out.at_)).mono ?_; rintro e w4 ⟨rfl, hb⟩; rw [HBB.out]; have W4 := hidp (W3.out.keep hb); clear hb W3
  obtain ⟨x0, x1, x2, x3, x4, x5⟩ := W4.out.h0.six'
  cases bb with
  | false =>
    go_wp2
    go_ret
    have hend := W4.out.end_ hnl2 (by rw [HLT.out]; exact HNL.out)
    rw [HLT.out] at hend
    exact hend
  | true =>
    go_wp2_with fail
    refine (sbPull_c hn hq p k0 k8 W4.out.at_).mono ?_; rintro e w5 ⟨rfl, h1, h2⟩; have W5 := hidp (W4.out.call h1 h2); clear h1 h2 W4
    obtain ⟨x0, x1, x2, x3, x4, x5⟩ := W5.out.h0.six'
    go_wp2
    go_ret
    have hend := W5.out.end_ hnl2 (by rw [HLT.out]; exact HNL.out)
    rw [HLT.out] at hend
    exact hend

set_option maxHeartbeats 6400000 in
theorem sbPick_all (hn : n < 2 ^ 40) (hq : q ≤ 2 ^ 31) (p wn : Nat) (hw : 1 ≤ wn) (hw2 : wn ≤ 32) (k0 : 0 ≤ k) (k8 : k ≤ 8) (hT : SlotsLaid w0) (hA : ¬ A 0) (v : Nat) (hv : getV n K st (pageI t q s p 5) = v) (f : List Nat) (hf : HM.freeTo v (slotI k) = f) (hle : f.length < wn) (h0 : f ≠ []) (l : List Nat) (hl : f.take wn = l) (u : Nat) (hu : layB v l = u) (bb : Bool) (hbb : fullB u k = bb) (h : (vOb base b n wh K).At w0 A G st w) :
    Calls Tryz.prog 38 #[.agg #[.pointer (some ⟨b, 0, none⟩), .int .i64 t, .int .i64 q, .int .i64 s, .int .i64 (p : Int), .int .i64 k], .int .i64 (wn : Int)] w (WalkEnd (vOb base b n wh K) w0 A G l (bitsS n K t q s k p u bb st) w) := by
  have hv32 : v < 2 ^ 32 := by rw [← hv]; exact vAt_lt h _
  have W0 := hidp ((WL.start h).new 77 #[.pointer (some ⟨b, 0, none⟩), .int .i64 t, .int .i64 q, .int .i64 s, .int .i64 (p : Int), .int .i64 k])
  have HV := hidp hv
  have HTL := hidp hT
  obtain ⟨m, hm⟩ : ∃ m, slotI k = m := ⟨_, rfl⟩
  have hm32 : m ≤ 32 := by rw [← hm]; exact slotI_le k
  have HMM := hidp hm
  rw [hm] at hf
  have HF := hidp hf
  obtain ⟨nf, hnf⟩ : ∃ nf, f.length = nf := ⟨_, rfl⟩
  have hnf32 : nf ≤ 32 := by have := HM.freeTo_le v m; rw [hf, hnf] at this; omega
  have HNF := hidp hnf
  rw [hnf] at hle
  have hnf1 : 1 ≤ nf := by rw [← hnf]; cases f with | nil => exact absurd rfl h0 | cons a r => simp
  have hnl : l.length = nf := by rw [← hl, List.length_take, hnf]; omega
  have hnl2 : nf ≤ nf := by omega
  have hlt : f.take nf = l := by rw [← hl]; rw [List.take_of_length_le (by omega), List.take_of_length_le (by omega)]
  have HLT := hidp hlt
  have HNL := hidp hnl
  have t0 : ((nf : Int) == 0) = false := by simp; omega
  have hlm : ∀ i ∈ l, i < m ∧ v.testBit i = false := fun i hi => by
    rw [← hl] at hi
    have := List.mem_of_mem_take hi
    rw [← hf] at this
    unfold HM.freeTo at this
    rw [List.mem_filter, List.mem_range] at this
    simpa using this
  have HLM : Hid (∀ i ∈ l, i < 32) := hidp (fun i hi => by have := (hlm i hi).1; omega)
  obtain ⟨x, hx⟩ : ∃ x, layB 0 l = x := ⟨_, rfl⟩
  have hx32 : x < 2 ^ 32 := by rw [← hx]; exact layB_lt _ _ (by omega) HLM.out
  have HX := hidp hx
  have hu32 : u < 2 ^ 32 := by rw [← hu]; exact layB_lt _ _ hv32 HLM.out
  have or32 : bits .or .u32 (v : Int) (x : Int) = (u : Int) := by rw [u32_or_nat v x hv32 hx32, ← hu, layB_or, hx]
  have HBB := hidp hbb
  clear h hv hf hm hT hnf h0 hl hnl hlt hlm hx hu hbb
  go_enter Tryz.func38, Tryz.ntmps38
  obtain ⟨x0, x1, x2, x3, x4, x5⟩ := W0.out.h0.six'
  go_wp2_with fail
  refine (sbTaken_c hn p W0.out.at_).mono ?_; rintro e w1 ⟨rfl, h1, h2⟩; have W1 := hidp (W0.out.call h1 h2); clear h1 h2 W0; rw [HV.out]
  obtain ⟨x0, x1, x2, x3, x4, x5⟩ := W1.out.h0.six'
  go_wp2_with fail
  refine (clSlots_c k (by omega) (by omega) _ (HTL.out.at_ hA W1.out.at_)).mono ?_; rintro e w9 ⟨rfl, rfl⟩; rw [HMM.out]
  go_wp2_with fail
  refine (Free32_c v m hv32 hm32 _).mono ?_
  rintro e w2 ⟨u2, rfl, ho, hb⟩
  rw [HF.out, HNF.out] at ho
  obtain ⟨A2, c2, hu2⟩ := own_slice ho
  subst hu2
  have hcc := own_caps9 ho
  obtain ⟨g2, c3, hg2, _⟩ := ho.form (by omega)
  injection hg2 with hg3 _ hg4
  subst hg3
  clear hg4
  have hcut := cutF16 (some ⟨g2, 0, none⟩) nf c2 nf hnl2 hcc.1
  have W2 := hidp (W1.out.row hb ho)
  clear ho hb W1
  obtain ⟨x0, x1, x2, x3, x4, x5⟩ := W2.out.h0.six'
  go_wp2_with fail
  refine (slabBits_c l g2 0 c2 nf HNL.out (by omega) HLM.out _ (by rw [← HLT.out]; exact row_cells W2.out.own hnl2 HNF.out)).mono ?_; rintro e w9 ⟨rfl, rfl⟩; rw [HX.out]
  go_wp2_with fail
  refine (sbSet_c hn p u hu32 W2.out.at_).mono ?_; rintro e w3 ⟨rfl, h1, h2⟩; have W3 := hidp (W2.out.call h1 h2); clear h1 h2 W2
  obtain ⟨x0, x1, x2, x3, x4, x5⟩ := W3.out.h0.six'
  go_wp2_with fail
  refine (sbFull_c p u hu32 k0 k8 _ (HTL.out.at_ hA W3.out.at_)).mono ?_; rintro e w4 ⟨rfl, hb⟩; rw [HBB.out]; have W4 := hidp (W3.out.keep hb); clear hb W3
  obtain ⟨x0, x1, x2, x3, x4, x5⟩ := W4.out.h0.six'
  cases bb with
  | false =>
    go_wp2
    go_ret
    have hend := W4.out.end_ hnl2 (by rw [HLT.out]; exact HNL.out)
    rw [HLT.out] at hend
    exact hend
  | true =>
    go_wp2_with fail
    refine (sbPull_c hn hq p k0 k8 W4.out.at_).mono ?_; rintro e w5 ⟨rfl, h1, h2⟩; have W5 := hidp (W4.out.call h1 h2); clear h1 h2 W4
    obtain ⟨x0, x1, x2, x3, x4, x5⟩ := W5.out.h0.six'
    go_wp2
    go_ret
    have hend := W5.out.end_ hnl2 (by rw [HLT.out]; exact HNL.out)
    rw [HLT.out] at hend
    exact hend

theorem sbPick_c (hn : n < 2 ^ 40) (hq : q ≤ 2 ^ 31) (p wn : Nat) (hw : 1 ≤ wn) (hw2 : wn ≤ 32) (k0 : 0 ≤ k) (k8 : k ≤ 8) (hT : SlotsLaid w0) (hA : ¬ A 0) (h : (vOb base b n wh K).At w0 A G st w) :
    Calls Tryz.prog 38 #[.agg #[.pointer (some ⟨b, 0, none⟩), .int .i64 t, .int .i64 q, .int .i64 s, .int .i64 (p : Int), .int .i64 k], .int .i64 (wn : Int)] w (WalkEnd (vOb base b n wh K) w0 A G (pickL (pickAt n K t q s k p wn st).1) (pickAt n K t q s k p wn st).2 w) := by
  by_cases h0 : HM.freeTo (getV n K st (pageI t q s p 5)) (slotI k) = []
  · rw [pickAt_none rfl (by unfold someF; rw [h0, List.take_nil])]
    exact sbPick_none hn hq p wn hw hw2 k0 k8 hT hA _ rfl _ rfl h0 h
  · rw [pickAt_some rfl rfl (someF_ne (by
      unfold someF
      rw [List.length_take]
      have : 0 < (HM.freeTo (getV n K st (pageI t q s p 5)) (slotI k)).length := List.length_pos_iff.2 h0
      omega))]
    rcases Nat.lt_or_ge (HM.freeTo (getV n K st (pageI t q s p 5)) (slotI k)).length wn with hle | hle
    · exact sbPick_all hn hq p wn hw hw2 k0 k8 hT hA _ rfl _ rfl hle h0 _ rfl _ rfl _ rfl h
    · exact sbPick_want hn hq p wn hw hw2 k0 k8 hT hA _ rfl _ rfl hle h0 _ rfl _ rfl _ rfl h

end
end
section
section
variable {base b n : Nat} {wh all : Bool} {K : Nat → Option Nat} {st : Vst} {w w0 : World} {A G : Nat → Prop} {t q s k : Int}

set_option maxHeartbeats 6400000 in
theorem sbGive_some (hn : n < 2 ^ 40) (hq : q ≤ 1024) (p i : Nat) (hp : p ≤ 1024) (hi : i < 32) (k0 : 0 ≤ k) (k8 : k ≤ 8) (hT : SlotsLaid w0) (hA : ¬ A 0) (v : Nat) (hv : getV n K st (pageI t q s p 5) = v) (u : Nat) (hu : clrB v i = u) (bb : Bool) (hbb : fullB v k = bb) (hu0 : u ≠ 0) (h : (vOb base b n wh K).At w0 A G st w) :
    Calls Tryz.prog 58 #[.agg #[.pointer (some ⟨b, 0, none⟩), .int .i64 t, .int .i64 q, .int .i64 s, .int .i64 (p : Int), .int .i64 k], .int .i64 (i : Int)] w fun e w' => e = .returned (.tuple #[]) ∧ (vOb base b n wh K).At w0 A G (backS n K t q s k p u bb (getS n K st (pageI t q s p 5))) w' ∧ Stay G w w' := by
  have hv32 : v < 2 ^ 32 := by rw [← hv]; exact vAt_lt h _
  have W0 := hidp ((WL.start h).new 77 #[.pointer (some ⟨b, 0, none⟩), .int .i64 t, .int .i64 q, .int .i64 s, .int .i64 (p : Int), .int .i64 k])
  have HV := hidp hv
  have HTL := hidp hT
  have HBB := hidp hbb
  have hq2 : q ≤ 2 ^ 31 := by omega
  obtain ⟨z, hz⟩ : ∃ z, 2 ^ i = z := ⟨_, rfl⟩
  have hz32 : z < 2 ^ 32 := by rw [← hz]; exact Nat.pow_lt_pow_right (by omega) hi
  have HZ : Hid (layB 0 [i] = z) := hidp (by rw [← hz]; unfold layB; simp)
  have hu32 : u < 2 ^ 32 := by rw [← hu]; exact clrB_lt hv32
  have an32 : bits .andNot .u32 (v : Int) (z : Int) = (u : Int) := by rw [← hz, ← hu]; exact clrB_andNot hv32 hi
  have t0 : ((u : Int) != 0) = true := by simp; omega
  have t1 : ((u : Int) == 0) = false := by simp; omega
  clear h hv hT hbb hz hu
  go_enter Tryz.func58, Tryz.ntmps58
  obtain ⟨x0, x1, x2, x3, x4, x5⟩ := W0.out.h0.six'
  go_wp2_with fail
  refine (sbTaken_c hn p W0.out.at_).mono ?_; rintro e w1 ⟨rfl, h1, h2⟩; have W1 := hidp (W0.out.call h1 h2); clear h1 h2 W0; rw [HV.out]
  obtain ⟨x0, x1, x2, x3, x4, x5⟩ := W1.out.h0.six'
  have W1a := hidp (W1.out.alloc (.cells #[.int .i64 (i : Int)] 3))
  have HS1 := hidp (Held.new w1 3 #[.int .i64 (i : Int)])
  go_wp2_with fail
  refine (slabBits_c [i] w1.heap.size 0 1 1 rfl (by omega) (fun j hj => by rw [List.mem_singleton.1 hj]; exact hi) _ (one_cell HS1.out)).mono ?_; rintro e w9 ⟨rfl, rfl⟩; rw [HZ.out]
  replace W1 := hidp W1a.out
  clear W1a HS1
  generalize hw1 : w1.alloc (.cells #[.int .i64 (i : Int)] 3) = w2 at *
  clear hw1
  obtain ⟨x0, x1, x2, x3, x4, x5⟩ := W1.out.h0.six'
  have W2 := W1
  clear W1
  go_wp2_with fail
  refine (sbSet_c hn p u hu32 W2.out.at_).mono ?_; rintro e w3 ⟨rfl, h1, h2⟩; have W3 := hidp (W2.out.call h1 h2); clear h1 h2 W2
  obtain ⟨x0, x1, x2, x3, x4, x5⟩ := W3.out.h0.six'
  go_wp2_with fail
  refine (sbFull_c p v hv32 k0 k8 _ (HTL.out.at_ hA W3.out.at_)).mono ?_; rintro e w4 ⟨rfl, hb⟩; rw [HBB.out]; have W4 := hidp (W3.out.keep hb); clear hb W3
  obtain ⟨x0, x1, x2, x3, x4, x5⟩ := W4.out.h0.six'
  cases bb with
  | false =>
    go_wp2
    refine bodyPost_ret (results_none rfl _ _ _) rfl ?_
    exact ⟨rfl, W4.out.fin⟩
  | true =>
    go_wp2_with fail
    refine (sbPush_c hn hq2 p k0 k8 W4.out.at_).mono ?_; rintro e w5 ⟨rfl, h1, h2⟩; have W5 := hidp (W4.out.call h1 h2); clear h1 h2 W4
    obtain ⟨x0, x1, x2, x3, x4, x5⟩ := W5.out.h0.six'
    go_wp2
    refine bodyPost_ret (results_none rfl _ _ _) rfl ?_
    exact ⟨rfl, W5.out.fin⟩

set_option maxHeartbeats 6400000 in
theorem sbGive_none (hn : n < 2 ^ 40) (hq : q ≤ 1024) (p i : Nat) (hp : p ≤ 1024) (hi : i < 32) (k0 : 0 ≤ k) (k8 : k ≤ 8) (hT : SlotsLaid w0) (hA : ¬ A 0) (v : Nat) (hv : getV n K st (pageI t q s p 5) = v) (u : Nat) (hu : clrB v i = u) (bb : Bool) (hbb : fullB v k = bb) (hu0 : u = 0) (h : (vOb base b n wh K).At w0 A G st w) :
    Calls Tryz.prog 58 #[.agg #[.pointer (some ⟨b, 0, none⟩), .int .i64 t, .int .i64 q, .int .i64 s, .int .i64 (p : Int), .int .i64 k], .int .i64 (i : Int)] w fun e w' => e = .returned (.tuple #[]) ∧ (vOb base b n wh K).At w0 A G (emptyS n K t q s k p bb (getS n K st (pageI t q s p 5))) w' ∧ Stay G w w' := by
  have hv32 : v < 2 ^ 32 := by rw [← hv]; exact vAt_lt h _
  have W0 := hidp ((WL.start h).new 77 #[.pointer (some ⟨b, 0, none⟩), .int .i64 t, .int .i64 q, .int .i64 s, .int .i64 (p : Int), .int .i64 k])
  have HV := hidp hv
  have HTL := hidp hT
  have HBB := hidp hbb
  have hq2 : q ≤ 2 ^ 31 := by omega
  obtain ⟨z, hz⟩ : ∃ z, 2 ^ i = z := ⟨_, rfl⟩
  have hz32 : z < 2 ^ 32 := by rw [← hz]; exact Nat.pow_lt_pow_right (by omega) hi
  have HZ : Hid (layB 0 [i] = z) := hidp (by rw [← hz]; unfold layB; simp)
  have hu32 : u < 2 ^ 32 := by rw [← hu]; exact clrB_lt hv32
  have an32 : bits .andNot .u32 (v : Int) (z : Int) = (u : Int) := by rw [← hz, ← hu]; exact clrB_andNot hv32 hi
  have t0 : ((u : Int) != 0) = false := by simp; omega
  have t1 : ((u : Int) == 0) = true := by simp; omega
  subst hu0
  clear h hv hT hbb hz
  go_enter Tryz.func58, Tryz.ntmps58
  obtain ⟨x0, x1, x2, x3, x4, x5⟩ := W0.out.h0.six'
  go_wp2_with fail
  refine (sbTaken_c hn p W0.out.at_).mono ?_; rintro e w1 ⟨rfl, h1, h2⟩; have W1 := hidp (W0.out.call h1 h2); clear h1 h2 W0; rw [HV.out]
  obtain ⟨x0, x1, x2, x3, x4, x5⟩ := W1.out.h0.six'
  have W1a := hidp (W1.out.alloc (.cells #[.int .i64 (i : Int)] 3))
  have HS1 := hidp (Held.new w1 3 #[.int .i64 (i : Int)])
  go_wp2_with fail
  refine (slabBits_c [i] w1.heap.size 0 1 1 rfl (by omega) (fun j hj => by rw [List.mem_singleton.1 hj]; exact hi) _ (one_cell HS1.out)).mono ?_; rintro e w9 ⟨rfl, rfl⟩; rw [HZ.out]
  replace W1 := hidp W1a.out
  clear W1a HS1
  generalize hw1 : w1.alloc (.cells #[.int .i64 (i : Int)] 3) = w2 at *
  clear hw1
  obtain ⟨x0, x1, x2, x3, x4, x5⟩ := W1.out.h0.six'
  have W2 := W1
  clear W1
  go_wp2_with fail
  refine (sbFull_c p v hv32 k0 k8 _ (HTL.out.at_ hA W2.out.at_)).mono ?_; rintro e w3 ⟨rfl, hb⟩; rw [HBB.out]; have W3 := hidp (W2.out.keep hb); clear hb W2
  obtain ⟨x0, x1, x2, x3, x4, x5⟩ := W3.out.h0.six'
  cases bb with
  | false =>
    go_wp2_with fail
    refine (sbPull_c hn hq2 p k0 k8 W3.out.at_).mono ?_; rintro e w4 ⟨rfl, h1, h2⟩; have W4 := hidp (W3.out.call h1 h2); clear h1 h2 W3
    obtain ⟨x0, x1, x2, x3, x4, x5⟩ := W4.out.h0.six'
    go_wp2_with fail
    refine (sbSet_c hn p 0 (by omega) W4.out.at_).mono ?_; rintro e w5 ⟨rfl, h1, h2⟩; have W5 := hidp (W4.out.call h1 h2); clear h1 h2 W4
    obtain ⟨x0, x1, x2, x3, x4, x5⟩ := W5.out.h0.six'
    go_wp2_with fail
    refine (snRelease_c hn hq p 1 hp (by omega) W5.out.at_).mono ?_; rintro e w6 ⟨rfl, h1, h2⟩; have W6 := hidp (W5.out.call h1 h2); clear h1 h2 W5
    obtain ⟨x0, x1, x2, x3, x4, x5⟩ := W6.out.h0.six'
    go_wp2
    go_end0
    exact ⟨rfl, W6.out.fin⟩
  | true =>
    go_wp2_with fail
    refine (sbSet_c hn p 0 (by omega) W3.out.at_).mono ?_; rintro e w4 ⟨rfl, h1, h2⟩; have W4 := hidp (W3.out.call h1 h2); clear h1 h2 W3
    obtain ⟨x0, x1, x2, x3, x4, x5⟩ := W4.out.h0.six'
    go_wp2_with fail
    refine (snRelease_c hn hq p 1 hp (by omega) W4.out.at_).mono ?_; rintro e w5 ⟨rfl, h1, h2⟩; have W5 := hidp (W4.out.call h1 h2); clear h1 h2 W4
    obtain ⟨x0, x1, x2, x3, x4, x5⟩ := W5.out.h0.six'
    go_wp2
    go_end0
    exact ⟨rfl, W5.out.fin⟩

theorem sbGive_c (hn : n < 2 ^ 40) (hq : q ≤ 1024) (p i : Nat) (hp : p ≤ 1024) (hi : i < 32) (k0 : 0 ≤ k) (k8 : k ≤ 8) (hT : SlotsLaid w0) (hA : ¬ A 0) (h : (vOb base b n wh K).At w0 A G st w) :
    Calls Tryz.prog 58 #[.agg #[.pointer (some ⟨b, 0, none⟩), .int .i64 t, .int .i64 q, .int .i64 s, .int .i64 (p : Int), .int .i64 k], .int .i64 (i : Int)] w fun e w' => e = .returned (.tuple #[]) ∧ (vOb base b n wh K).At w0 A G (giveAt n K t q s k p i st) w' ∧ Stay G w w' := by
  unfold giveAt
  by_cases h0 : clrB (getV n K st (pageI t q s p 5)) i = 0
  · rw [if_pos h0]
    exact sbGive_none hn hq p i hp hi k0 k8 hT hA _ rfl _ rfl _ rfl h0 h
  · rw [if_neg h0]
    exact sbGive_some hn hq p i hp hi k0 k8 hT hA _ rfl _ rfl _ rfl h0 h

end
end
end Go.Proofs.YtioolaaphbddbaaGreatDoor
