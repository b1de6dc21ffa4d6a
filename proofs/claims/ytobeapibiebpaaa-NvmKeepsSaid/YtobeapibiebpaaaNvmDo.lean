/-
  An act on a memory (nacrelaw10.Do): what it tells, and what it leaves.
-/
import Derived.Test.YtobeapibiebpaaaAct
import Derived.Test.YtobeapibiebpaaaNvmPend
import Derived.Test.YtobeapibiebpaaaNvmCopy
namespace Go.Proofs.Ytobeapibiebpaaa
open Go.ChangeShapes Go.WideShapes Go.ChangeAt Go.RowKit Go.Maps
set_option linter.unusedVariables false
set_option linter.unusedSimpArgs false

def stepS (n : Nat) (s : Mst) (a : ActV) : Mst :=
  if a.d = 2 then storeS n s a.at_ a.val else if a.d = 3 then swapS n s a.at_ a.old a.val else if a.d = 4 then flushS n s a.who a.at_ else if a.d = 5 then fenceS n s a.who else if a.d = 6 then evictS n s a.at_ a.mask else if a.d = 7 then newS s.K else s
def tellN (n : Nat) (s : Mst) (a : ActV) : Nat := if a.d = 1 then loadV n s a.at_ else if a.d = 5 then (pendL (n / 8) s.P a.who).length else 0
def tellB (n : Nat) (s : Mst) (a : ActV) : Bool :=
  if a.d = 1 then hasW n a.at_ else if a.d = 2 then hasW n a.at_ else if a.d = 3 then swapB n s a.at_ a.old else if a.d = 4 then flushB n a.who a.at_ else if a.d = 6 then evictB n a.at_ a.mask else true

theorem Do_1 (o : Geo) (lim : Nat) (s : Mst) (who q mask : Int) (old val : Nat) (HW : Hid ((Lit.int .i64 who).wf = true)) (HV : Hid (val < 2 ^ 64)) (hlim : lim < 2 ^ 40) (w : World) (h : IsMem w o lim s) :
    Calls Try.prog 11 #[.pointer (some ⟨o.b, 0, none⟩), .agg #[.int .i64 1, .int .i64 who, .int .i64 q, .int .i64 mask, .int .u64 (old : Int), .int .u64 (val : Int)]] w fun e w' =>
      e = .returned (.tuple #[.int .u64 ((loadV o.n s q : Nat) : Int), .bool (hasW o.n q)]) ∧ IsMem w' o (lim + 1) s ∧ Turns o.F w w' := by
  have HH : Hid (IsMem (w.alloc (.cells #[.int .i64 1, .int .i64 who, .int .i64 q, .int .i64 mask, .int .u64 (old : Int), .int .u64 (val : Int)] 34)) o lim s) := hidp (h.keep (Bnew (B0 _) _))
  have HT : Hid (Turns o.F w (w.alloc (.cells #[.int .i64 1, .int .i64 who, .int .i64 q, .int .i64 mask, .int .u64 (old : Int), .int .u64 (val : Int)] 34))) := hidp ((T0 _ _).alloc _)
  clear h
  go_enter Try.func11, Try.ntmps11
  go_wp2_with fail
  refine (Load_c o lim s _ _ HH.out).mono ?_
  rintro e w1 ⟨rfl, rfl⟩
  go_wp2
  go_ret2
  exact ⟨rfl, HH.out.more (by omega), HT.out⟩

theorem Do_2 (o : Geo) (lim : Nat) (s : Mst) (who q mask : Int) (old val : Nat) (HW : Hid ((Lit.int .i64 who).wf = true)) (HV : Hid (val < 2 ^ 64)) (hlim : lim < 2 ^ 40) (w : World) (h : IsMem w o lim s) :
    Calls Try.prog 11 #[.pointer (some ⟨o.b, 0, none⟩), .agg #[.int .i64 2, .int .i64 who, .int .i64 q, .int .i64 mask, .int .u64 (old : Int), .int .u64 (val : Int)]] w fun e w' =>
      e = .returned (.tuple #[.int .u64 ((0 : Nat) : Int), .bool (hasW o.n q)]) ∧ IsMem w' o (lim + 1) (storeS o.n s q val) ∧ Turns o.F w w' := by
  have HH : Hid (IsMem (w.alloc (.cells #[.int .i64 2, .int .i64 who, .int .i64 q, .int .i64 mask, .int .u64 (old : Int), .int .u64 (val : Int)] 34)) o lim s) := hidp (h.keep (Bnew (B0 _) _))
  have HT : Hid (Turns o.F w (w.alloc (.cells #[.int .i64 2, .int .i64 who, .int .i64 q, .int .i64 mask, .int .u64 (old : Int), .int .u64 (val : Int)] 34))) := hidp ((T0 _ _).alloc _)
  clear h
  go_enter Try.func11, Try.ntmps11
  go_wp2_with fail
  refine (Store_c o lim s _ val HV.out _ HH.out).mono ?_
  rintro e w1 ⟨rfl, hI, hT⟩
  have HI := hidp hI
  have HT2 := hidp (HT.out.trans hT)
  clear hI hT
  go_wp2
  go_ret2
  exact ⟨rfl, HI.out.more (by omega), HT2.out⟩

theorem Do_3 (o : Geo) (lim : Nat) (s : Mst) (who q mask : Int) (old val : Nat) (HW : Hid ((Lit.int .i64 who).wf = true)) (HV : Hid (val < 2 ^ 64)) (hlim : lim < 2 ^ 40) (w : World) (h : IsMem w o lim s) :
    Calls Try.prog 11 #[.pointer (some ⟨o.b, 0, none⟩), .agg #[.int .i64 3, .int .i64 who, .int .i64 q, .int .i64 mask, .int .u64 (old : Int), .int .u64 (val : Int)]] w fun e w' =>
      e = .returned (.tuple #[.int .u64 ((0 : Nat) : Int), .bool (swapB o.n s q old)]) ∧ IsMem w' o (lim + 1) (swapS o.n s q old val) ∧ Turns o.F w w' := by
  have HH : Hid (IsMem (w.alloc (.cells #[.int .i64 3, .int .i64 who, .int .i64 q, .int .i64 mask, .int .u64 (old : Int), .int .u64 (val : Int)] 34)) o lim s) := hidp (h.keep (Bnew (B0 _) _))
  have HT : Hid (Turns o.F w (w.alloc (.cells #[.int .i64 3, .int .i64 who, .int .i64 q, .int .i64 mask, .int .u64 (old : Int), .int .u64 (val : Int)] 34))) := hidp ((T0 _ _).alloc _)
  clear h
  go_enter Try.func11, Try.ntmps11
  go_wp2_with fail
  refine (Swap_c o lim s _ old val HV.out _ HH.out).mono ?_
  rintro e w1 ⟨rfl, hI, hT⟩
  have HI := hidp hI
  have HT2 := hidp (HT.out.trans hT)
  clear hI hT
  go_wp2
  go_ret2
  exact ⟨rfl, HI.out.more (by omega), HT2.out⟩

theorem Do_4 (o : Geo) (lim : Nat) (s : Mst) (who q mask : Int) (old val : Nat) (HW : Hid ((Lit.int .i64 who).wf = true)) (HV : Hid (val < 2 ^ 64)) (hlim : lim < 2 ^ 40) (w : World) (h : IsMem w o lim s) :
    Calls Try.prog 11 #[.pointer (some ⟨o.b, 0, none⟩), .agg #[.int .i64 4, .int .i64 who, .int .i64 q, .int .i64 mask, .int .u64 (old : Int), .int .u64 (val : Int)]] w fun e w' =>
      e = .returned (.tuple #[.int .u64 ((0 : Nat) : Int), .bool (flushB o.n who q)]) ∧ IsMem w' o (lim + 1) (flushS o.n s who q) ∧ Turns o.F w w' := by
  have HH : Hid (IsMem (w.alloc (.cells #[.int .i64 4, .int .i64 who, .int .i64 q, .int .i64 mask, .int .u64 (old : Int), .int .u64 (val : Int)] 34)) o lim s) := hidp (h.keep (Bnew (B0 _) _))
  have HT : Hid (Turns o.F w (w.alloc (.cells #[.int .i64 4, .int .i64 who, .int .i64 q, .int .i64 mask, .int .u64 (old : Int), .int .u64 (val : Int)] 34))) := hidp ((T0 _ _).alloc _)
  clear h
  go_enter Try.func11, Try.ntmps11
  go_wp2_with fail
  refine (Flush_c o lim s _ _ _ (by omega) HH.out).mono ?_
  rintro e w1 ⟨rfl, hI, hT⟩
  have HI := hidp hI
  have HT2 := hidp (HT.out.trans hT)
  clear hI hT
  go_wp2
  go_ret2
  exact ⟨rfl, HI.out, HT2.out⟩

theorem Do_5 (o : Geo) (lim : Nat) (s : Mst) (who q mask : Int) (old val : Nat) (HW : Hid ((Lit.int .i64 who).wf = true)) (HV : Hid (val < 2 ^ 64)) (hlim : lim < 2 ^ 40) (w : World) (h : IsMem w o lim s) :
    Calls Try.prog 11 #[.pointer (some ⟨o.b, 0, none⟩), .agg #[.int .i64 5, .int .i64 who, .int .i64 q, .int .i64 mask, .int .u64 (old : Int), .int .u64 (val : Int)]] w fun e w' =>
      e = .returned (.tuple #[.int .u64 (((pendL (o.n / 8) s.P who).length : Nat) : Int), .bool (true)]) ∧ IsMem w' o (lim + 1) (fenceS o.n s who) ∧ Turns o.F w w' := by
  have HH : Hid (IsMem (w.alloc (.cells #[.int .i64 5, .int .i64 who, .int .i64 q, .int .i64 mask, .int .u64 (old : Int), .int .u64 (val : Int)] 34)) o lim s) := hidp (h.keep (Bnew (B0 _) _))
  have HT : Hid (Turns o.F w (w.alloc (.cells #[.int .i64 5, .int .i64 who, .int .i64 q, .int .i64 mask, .int .u64 (old : Int), .int .u64 (val : Int)] 34))) := hidp ((T0 _ _).alloc _)
  have hn := h.nmax
  have hle := pendL_le (o.n / 8) s.P who
  obtain ⟨z, hz⟩ : ∃ z, (pendL (o.n / 8) s.P who).length = z := ⟨_, rfl⟩
  rw [hz] at hle ⊢
  have HZ := hidp hz
  have tw : IntKind.u64.wrap (z : Int) = (z : Int) := wrap_nat64 _ (by omega)
  clear hz
  clear h
  go_enter Try.func11, Try.ntmps11
  go_wp2_with fail
  refine (Fence_m o lim s _ HW.out (by omega) _ HH.out).mono ?_
  rintro e w1 ⟨rfl, hI, hT⟩
  have HI := hidp hI
  have HT2 := hidp (HT.out.trans hT)
  clear hI hT
  rw [HZ.out]
  go_wp2
  go_ret2
  exact ⟨rfl, HI.out.more (by omega), HT2.out⟩

theorem Do_6 (o : Geo) (lim : Nat) (s : Mst) (who q mask : Int) (old val : Nat) (HW : Hid ((Lit.int .i64 who).wf = true)) (HV : Hid (val < 2 ^ 64)) (hlim : lim < 2 ^ 40) (w : World) (h : IsMem w o lim s) :
    Calls Try.prog 11 #[.pointer (some ⟨o.b, 0, none⟩), .agg #[.int .i64 6, .int .i64 who, .int .i64 q, .int .i64 mask, .int .u64 (old : Int), .int .u64 (val : Int)]] w fun e w' =>
      e = .returned (.tuple #[.int .u64 ((0 : Nat) : Int), .bool (evictB o.n q mask)]) ∧ IsMem w' o (lim + 1) (evictS o.n s q mask) ∧ Turns o.F w w' := by
  have HH : Hid (IsMem (w.alloc (.cells #[.int .i64 6, .int .i64 who, .int .i64 q, .int .i64 mask, .int .u64 (old : Int), .int .u64 (val : Int)] 34)) o lim s) := hidp (h.keep (Bnew (B0 _) _))
  have HT : Hid (Turns o.F w (w.alloc (.cells #[.int .i64 6, .int .i64 who, .int .i64 q, .int .i64 mask, .int .u64 (old : Int), .int .u64 (val : Int)] 34))) := hidp ((T0 _ _).alloc _)
  clear h
  go_enter Try.func11, Try.ntmps11
  go_wp2_with fail
  refine (Evict_c o lim s _ _ _ HH.out).mono ?_
  rintro e w1 ⟨rfl, hI, hT⟩
  have HI := hidp hI
  have HT2 := hidp (HT.out.trans hT)
  clear hI hT
  go_wp2
  go_ret2
  exact ⟨rfl, HI.out.more (by omega), HT2.out⟩

theorem Do_7 (o : Geo) (lim : Nat) (s : Mst) (who q mask : Int) (old val : Nat) (HW : Hid ((Lit.int .i64 who).wf = true)) (HV : Hid (val < 2 ^ 64)) (hlim : lim < 2 ^ 40) (w : World) (h : IsMem w o lim s) :
    Calls Try.prog 11 #[.pointer (some ⟨o.b, 0, none⟩), .agg #[.int .i64 7, .int .i64 who, .int .i64 q, .int .i64 mask, .int .u64 (old : Int), .int .u64 (val : Int)]] w fun e w' =>
      e = .returned (.tuple #[.int .u64 ((0 : Nat) : Int), .bool (true)]) ∧ IsMem w' o (lim + 1) (newS s.K) ∧ Turns o.F w w' := by
  have HH : Hid (IsMem (w.alloc (.cells #[.int .i64 7, .int .i64 who, .int .i64 q, .int .i64 mask, .int .u64 (old : Int), .int .u64 (val : Int)] 34)) o lim s) := hidp (h.keep (Bnew (B0 _) _))
  have HT : Hid (Turns o.F w (w.alloc (.cells #[.int .i64 7, .int .i64 who, .int .i64 q, .int .i64 mask, .int .u64 (old : Int), .int .u64 (val : Int)] 34))) := hidp ((T0 _ _).alloc _)
  clear h
  go_enter Try.func11, Try.ntmps11
  go_wp2_with fail
  refine (Crash_m o lim s _ HH.out).mono ?_
  rintro e w1 ⟨rfl, hI, hT⟩
  have HI := hidp hI
  have HT2 := hidp (HT.out.trans hT)
  clear hI hT
  go_wp2
  go_ret2
  exact ⟨rfl, HI.out.more (by omega), HT2.out⟩

theorem Do_0 (o : Geo) (lim : Nat) (s : Mst) (d : Int) (who q mask : Int) (old val : Nat) (HW : Hid ((Lit.int .i64 who).wf = true)) (HV : Hid (val < 2 ^ 64)) (hlim : lim < 2 ^ 40) (h1 : (d == 1) = false) (h2 : (d == 2) = false) (h3 : (d == 3) = false) (h4 : (d == 4) = false) (h5 : (d == 5) = false) (h6 : (d == 6) = false) (h7 : (d == 7) = false) (w : World) (h : IsMem w o lim s) :
    Calls Try.prog 11 #[.pointer (some ⟨o.b, 0, none⟩), .agg #[.int .i64 d, .int .i64 who, .int .i64 q, .int .i64 mask, .int .u64 (old : Int), .int .u64 (val : Int)]] w fun e w' =>
      e = .returned (.tuple #[.int .u64 ((0 : Nat) : Int), .bool (true)]) ∧ IsMem w' o (lim + 1) s ∧ Turns o.F w w' := by
  have HH : Hid (IsMem (w.alloc (.cells #[.int .i64 d, .int .i64 who, .int .i64 q, .int .i64 mask, .int .u64 (old : Int), .int .u64 (val : Int)] 34)) o lim s) := hidp (h.keep (Bnew (B0 _) _))
  have HT : Hid (Turns o.F w (w.alloc (.cells #[.int .i64 d, .int .i64 who, .int .i64 q, .int .i64 mask, .int .u64 (old : Int), .int .u64 (val : Int)] 34))) := hidp ((T0 _ _).alloc _)
  clear h
  go_enter Try.func11, Try.ntmps11
  go_wp2_with fail
  go_ret2
  exact ⟨rfl, HH.out.more (by omega), HT.out⟩

theorem Do_m (o : Geo) (lim : Nat) (s : Mst) (a : ActV) (ha : a.Ok) (hlim : lim < 2 ^ 40) (w : World) (h : IsMem w o lim s) :
    Calls Try.prog 11 #[.pointer (some ⟨o.b, 0, none⟩), a.v] w fun e w' =>
      e = .returned (.tuple #[.int .u64 ((tellN o.n s a : Nat) : Int), .bool (tellB o.n s a)]) ∧ IsMem w' o (lim + 1) (stepS o.n s a) ∧ Turns o.F w w' := by
  obtain ⟨d, who, q, mask, old, val⟩ := a
  have HW := hidp ha.who
  have HV := hidp ha.val
  simp only at HW HV
  unfold ActV.v stepS tellN tellB
  simp only
  by_cases h1 : d = 1
  · subst h1; exact Do_1 o lim s who q mask old val HW HV hlim w h
  by_cases h2 : d = 2
  · subst h2; exact Do_2 o lim s who q mask old val HW HV hlim w h
  by_cases h3 : d = 3
  · subst h3; exact Do_3 o lim s who q mask old val HW HV hlim w h
  by_cases h4 : d = 4
  · subst h4; exact Do_4 o lim s who q mask old val HW HV hlim w h
  by_cases h5 : d = 5
  · subst h5; exact Do_5 o lim s who q mask old val HW HV hlim w h
  by_cases h6 : d = 6
  · subst h6; exact Do_6 o lim s who q mask old val HW HV hlim w h
  by_cases h7 : d = 7
  · subst h7; exact Do_7 o lim s who q mask old val HW HV hlim w h
  rw [if_neg h1, if_neg h5, if_neg h1, if_neg h2, if_neg h3, if_neg h4, if_neg h6, if_neg h2, if_neg h3, if_neg h4, if_neg h5, if_neg h6, if_neg h7]
  exact Do_0 o lim s d who q mask old val HW HV hlim (by simp [h1]) (by simp [h2]) (by simp [h3]) (by simp [h4]) (by simp [h5]) (by simp [h6]) (by simp [h7]) w h
end Go.Proofs.Ytobeapibiebpaaa
