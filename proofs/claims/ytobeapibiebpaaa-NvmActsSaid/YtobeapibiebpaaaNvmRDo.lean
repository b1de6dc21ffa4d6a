/-
  An act on the document's answer (nacreref10.M.Do): what it tells, and what it leaves.
-/
import Derived.Test.YtobeapibiebpaaaNvmDo
import Derived.Test.YtobeapibiebpaaaNvmRef4
namespace Go.Proofs.Ytobeapibiebpaaa
open Go.ChangeShapes Go.WideShapes Go.ChangeAt Go.RowKit Go.Maps
set_option linter.unusedVariables false
set_option linter.unusedSimpArgs false


theorem RDo_1 (o : RGeo) (s : Mst) (who q mask : Int) (old val : Nat) (HV : Hid (val < 2 ^ 64)) (w : World) (h : IsRef w o s) :
    Calls Try.prog 12 #[.pointer (some ⟨o.b, 0, none⟩), .agg #[.int .i64 1, .int .i64 who, .int .i64 q, .int .i64 mask, .int .u64 (old : Int), .int .u64 (val : Int)]] w fun e w' =>
      e = .returned (.tuple #[.int .u64 ((loadV o.n s q : Nat) : Int), .bool (hasW o.n q)]) ∧ ∃ o' : RGeo, o'.b = o.b ∧ o'.n = o.n ∧ IsRef w' o' s ∧ (∀ i, o'.F i → o.F i ∨ w.heap.size ≤ i) ∧ Turns o.F w w' := by
  have HH : Hid (IsRef (w.alloc (.cells #[.int .i64 1, .int .i64 who, .int .i64 q, .int .i64 mask, .int .u64 (old : Int), .int .u64 (val : Int)] 34)) o s) := hidp (h.keep (Bnew (B0 _) _))
  have HT : Hid (Turns o.F w (w.alloc (.cells #[.int .i64 1, .int .i64 who, .int .i64 q, .int .i64 mask, .int .u64 (old : Int), .int .u64 (val : Int)] 34))) := hidp ((T0 _ _).alloc _)
  clear h
  go_enter Try.func12, Try.ntmps12
  go_wp2_with fail
  refine (RLoad_c o s _ _ HH.out).mono ?_
  rintro e w1 ⟨rfl, rfl⟩
  go_wp2
  go_ret2
  exact ⟨rfl, o, rfl, rfl, HH.out, fun i hi => .inl hi, HT.out⟩

theorem RDo_2 (o : RGeo) (s : Mst) (who q mask : Int) (old val : Nat) (HV : Hid (val < 2 ^ 64)) (w : World) (h : IsRef w o s) :
    Calls Try.prog 12 #[.pointer (some ⟨o.b, 0, none⟩), .agg #[.int .i64 2, .int .i64 who, .int .i64 q, .int .i64 mask, .int .u64 (old : Int), .int .u64 (val : Int)]] w fun e w' =>
      e = .returned (.tuple #[.int .u64 ((0 : Nat) : Int), .bool (hasW o.n q)]) ∧ ∃ o' : RGeo, o'.b = o.b ∧ o'.n = o.n ∧ IsRef w' o' (storeS o.n s q val) ∧ (∀ i, o'.F i → o.F i ∨ w.heap.size ≤ i) ∧ Turns o.F w w' := by
  have HH : Hid (IsRef (w.alloc (.cells #[.int .i64 2, .int .i64 who, .int .i64 q, .int .i64 mask, .int .u64 (old : Int), .int .u64 (val : Int)] 34)) o s) := hidp (h.keep (Bnew (B0 _) _))
  have HT : Hid (Turns o.F w (w.alloc (.cells #[.int .i64 2, .int .i64 who, .int .i64 q, .int .i64 mask, .int .u64 (old : Int), .int .u64 (val : Int)] 34))) := hidp ((T0 _ _).alloc _)
  clear h
  go_enter Try.func12, Try.ntmps12
  go_wp2_with fail
  refine (RStore_c o s _ val HV.out _ HH.out).mono ?_
  rintro e w1 ⟨rfl, hI, hT⟩
  have HI := hidp hI
  have HT2 := hidp (HT.out.trans hT)
  clear hI hT
  go_wp2
  go_ret2
  exact ⟨rfl, o, rfl, rfl, HI.out, fun i hi => .inl hi, HT2.out⟩

theorem RDo_3 (o : RGeo) (s : Mst) (who q mask : Int) (old val : Nat) (HV : Hid (val < 2 ^ 64)) (w : World) (h : IsRef w o s) :
    Calls Try.prog 12 #[.pointer (some ⟨o.b, 0, none⟩), .agg #[.int .i64 3, .int .i64 who, .int .i64 q, .int .i64 mask, .int .u64 (old : Int), .int .u64 (val : Int)]] w fun e w' =>
      e = .returned (.tuple #[.int .u64 ((0 : Nat) : Int), .bool (swapB o.n s q old)]) ∧ ∃ o' : RGeo, o'.b = o.b ∧ o'.n = o.n ∧ IsRef w' o' (swapS o.n s q old val) ∧ (∀ i, o'.F i → o.F i ∨ w.heap.size ≤ i) ∧ Turns o.F w w' := by
  have HH : Hid (IsRef (w.alloc (.cells #[.int .i64 3, .int .i64 who, .int .i64 q, .int .i64 mask, .int .u64 (old : Int), .int .u64 (val : Int)] 34)) o s) := hidp (h.keep (Bnew (B0 _) _))
  have HT : Hid (Turns o.F w (w.alloc (.cells #[.int .i64 3, .int .i64 who, .int .i64 q, .int .i64 mask, .int .u64 (old : Int), .int .u64 (val : Int)] 34))) := hidp ((T0 _ _).alloc _)
  clear h
  go_enter Try.func12, Try.ntmps12
  go_wp2_with fail
  refine (RSwap_c o s _ old val HV.out _ HH.out).mono ?_
  rintro e w1 ⟨rfl, hI, hT⟩
  have HI := hidp hI
  have HT2 := hidp (HT.out.trans hT)
  clear hI hT
  go_wp2
  go_ret2
  exact ⟨rfl, o, rfl, rfl, HI.out, fun i hi => .inl hi, HT2.out⟩

theorem RDo_4 (o : RGeo) (s : Mst) (who q mask : Int) (old val : Nat) (HV : Hid (val < 2 ^ 64)) (w : World) (h : IsRef w o s) :
    Calls Try.prog 12 #[.pointer (some ⟨o.b, 0, none⟩), .agg #[.int .i64 4, .int .i64 who, .int .i64 q, .int .i64 mask, .int .u64 (old : Int), .int .u64 (val : Int)]] w fun e w' =>
      e = .returned (.tuple #[.int .u64 ((0 : Nat) : Int), .bool (flushB o.n who q)]) ∧ ∃ o' : RGeo, o'.b = o.b ∧ o'.n = o.n ∧ IsRef w' o' (flushS o.n s who q) ∧ (∀ i, o'.F i → o.F i ∨ w.heap.size ≤ i) ∧ Turns o.F w w' := by
  have HH : Hid (IsRef (w.alloc (.cells #[.int .i64 4, .int .i64 who, .int .i64 q, .int .i64 mask, .int .u64 (old : Int), .int .u64 (val : Int)] 34)) o s) := hidp (h.keep (Bnew (B0 _) _))
  have HT : Hid (Turns o.F w (w.alloc (.cells #[.int .i64 4, .int .i64 who, .int .i64 q, .int .i64 mask, .int .u64 (old : Int), .int .u64 (val : Int)] 34))) := hidp ((T0 _ _).alloc _)
  clear h
  go_enter Try.func12, Try.ntmps12
  go_wp2_with fail
  refine (RFlush_c o s _ _ _ HH.out).mono ?_
  rintro e w1 ⟨rfl, hI, hT⟩
  have HI := hidp hI
  have HT2 := hidp (HT.out.trans hT)
  clear hI hT
  go_wp2
  go_ret2
  exact ⟨rfl, o, rfl, rfl, HI.out, fun i hi => .inl hi, HT2.out⟩

theorem RDo_5 (o : RGeo) (s : Mst) (who q mask : Int) (old val : Nat) (HV : Hid (val < 2 ^ 64)) (w : World) (h : IsRef w o s) :
    Calls Try.prog 12 #[.pointer (some ⟨o.b, 0, none⟩), .agg #[.int .i64 5, .int .i64 who, .int .i64 q, .int .i64 mask, .int .u64 (old : Int), .int .u64 (val : Int)]] w fun e w' =>
      e = .returned (.tuple #[.int .u64 (((pendL (o.n / 8) s.P who).length : Nat) : Int), .bool (true)]) ∧ ∃ o' : RGeo, o'.b = o.b ∧ o'.n = o.n ∧ IsRef w' o' (fenceS o.n s who) ∧ (∀ i, o'.F i → o.F i ∨ w.heap.size ≤ i) ∧ Turns o.F w w' := by
  have HH : Hid (IsRef (w.alloc (.cells #[.int .i64 5, .int .i64 who, .int .i64 q, .int .i64 mask, .int .u64 (old : Int), .int .u64 (val : Int)] 34)) o s) := hidp (h.keep (Bnew (B0 _) _))
  have HT : Hid (Turns o.F w (w.alloc (.cells #[.int .i64 5, .int .i64 who, .int .i64 q, .int .i64 mask, .int .u64 (old : Int), .int .u64 (val : Int)] 34))) := hidp ((T0 _ _).alloc _)
  have hn := h.nmax
  have hle := pendL_le (o.n / 8) s.P who
  obtain ⟨z, hz⟩ : ∃ z, (pendL (o.n / 8) s.P who).length = z := ⟨_, rfl⟩
  rw [hz] at hle ⊢
  have HZ := hidp hz
  have tw : IntKind.u64.wrap (z : Int) = (z : Int) := wrap_nat64 _ (by omega)
  clear hz
  clear h
  go_enter Try.func12, Try.ntmps12
  go_wp2_with fail
  refine (RFence_m o s _ _ HH.out).mono ?_
  rintro e w1 ⟨rfl, hI, hT⟩
  have HI := hidp hI
  have HT2 := hidp (HT.out.trans hT)
  clear hI hT
  rw [HZ.out]
  go_wp2
  go_ret2
  exact ⟨rfl, o, rfl, rfl, HI.out, fun i hi => .inl hi, HT2.out⟩

theorem RDo_6 (o : RGeo) (s : Mst) (who q mask : Int) (old val : Nat) (HV : Hid (val < 2 ^ 64)) (w : World) (h : IsRef w o s) :
    Calls Try.prog 12 #[.pointer (some ⟨o.b, 0, none⟩), .agg #[.int .i64 6, .int .i64 who, .int .i64 q, .int .i64 mask, .int .u64 (old : Int), .int .u64 (val : Int)]] w fun e w' =>
      e = .returned (.tuple #[.int .u64 ((0 : Nat) : Int), .bool (evictB o.n q mask)]) ∧ ∃ o' : RGeo, o'.b = o.b ∧ o'.n = o.n ∧ IsRef w' o' (evictS o.n s q mask) ∧ (∀ i, o'.F i → o.F i ∨ w.heap.size ≤ i) ∧ Turns o.F w w' := by
  have HH : Hid (IsRef (w.alloc (.cells #[.int .i64 6, .int .i64 who, .int .i64 q, .int .i64 mask, .int .u64 (old : Int), .int .u64 (val : Int)] 34)) o s) := hidp (h.keep (Bnew (B0 _) _))
  have HT : Hid (Turns o.F w (w.alloc (.cells #[.int .i64 6, .int .i64 who, .int .i64 q, .int .i64 mask, .int .u64 (old : Int), .int .u64 (val : Int)] 34))) := hidp ((T0 _ _).alloc _)
  clear h
  go_enter Try.func12, Try.ntmps12
  go_wp2_with fail
  refine (REvict_c o s _ _ _ HH.out).mono ?_
  rintro e w1 ⟨rfl, hI, hT⟩
  have HI := hidp hI
  have HT2 := hidp (HT.out.trans hT)
  clear hI hT
  go_wp2
  go_ret2
  exact ⟨rfl, o, rfl, rfl, HI.out, fun i hi => .inl hi, HT2.out⟩

theorem RDo_7 (o : RGeo) (s : Mst) (who q mask : Int) (old val : Nat) (HV : Hid (val < 2 ^ 64)) (w : World) (h : IsRef w o s) :
    Calls Try.prog 12 #[.pointer (some ⟨o.b, 0, none⟩), .agg #[.int .i64 7, .int .i64 who, .int .i64 q, .int .i64 mask, .int .u64 (old : Int), .int .u64 (val : Int)]] w fun e w' =>
      e = .returned (.tuple #[.int .u64 ((0 : Nat) : Int), .bool (true)]) ∧ ∃ o' : RGeo, o'.b = o.b ∧ o'.n = o.n ∧ IsRef w' o' (newS s.K) ∧ (∀ i, o'.F i → o.F i ∨ w.heap.size ≤ i) ∧ Turns o.F w w' := by
  have HH : Hid (IsRef (w.alloc (.cells #[.int .i64 7, .int .i64 who, .int .i64 q, .int .i64 mask, .int .u64 (old : Int), .int .u64 (val : Int)] 34)) o s) := hidp (h.keep (Bnew (B0 _) _))
  have HT : Hid (Turns o.F w (w.alloc (.cells #[.int .i64 7, .int .i64 who, .int .i64 q, .int .i64 mask, .int .u64 (old : Int), .int .u64 (val : Int)] 34))) := hidp ((T0 _ _).alloc _)
  clear h
  go_enter Try.func12, Try.ntmps12
  go_wp2_with fail
  refine (RCrash_m o s _ HH.out).mono ?_
  rintro e w1 ⟨rfl, o', hb', hn', hI, hF, hT⟩
  have HI := hidp hI
  have HT2 := hidp (HT.out.trans hT)
  clear hI hT
  go_wp2
  go_ret2
  exact ⟨rfl, o', hb', hn', HI.out, fun i hi => (hF i hi).imp id (fun h1 => by simp at h1; omega), HT2.out⟩

theorem RDo_0 (o : RGeo) (s : Mst) (d : Int) (who q mask : Int) (old val : Nat) (HV : Hid (val < 2 ^ 64)) (h1 : (d == 1) = false) (h2 : (d == 2) = false) (h3 : (d == 3) = false) (h4 : (d == 4) = false) (h5 : (d == 5) = false) (h6 : (d == 6) = false) (h7 : (d == 7) = false) (w : World) (h : IsRef w o s) :
    Calls Try.prog 12 #[.pointer (some ⟨o.b, 0, none⟩), .agg #[.int .i64 d, .int .i64 who, .int .i64 q, .int .i64 mask, .int .u64 (old : Int), .int .u64 (val : Int)]] w fun e w' =>
      e = .returned (.tuple #[.int .u64 ((0 : Nat) : Int), .bool (true)]) ∧ ∃ o' : RGeo, o'.b = o.b ∧ o'.n = o.n ∧ IsRef w' o' s ∧ (∀ i, o'.F i → o.F i ∨ w.heap.size ≤ i) ∧ Turns o.F w w' := by
  have HH : Hid (IsRef (w.alloc (.cells #[.int .i64 d, .int .i64 who, .int .i64 q, .int .i64 mask, .int .u64 (old : Int), .int .u64 (val : Int)] 34)) o s) := hidp (h.keep (Bnew (B0 _) _))
  have HT : Hid (Turns o.F w (w.alloc (.cells #[.int .i64 d, .int .i64 who, .int .i64 q, .int .i64 mask, .int .u64 (old : Int), .int .u64 (val : Int)] 34))) := hidp ((T0 _ _).alloc _)
  clear h
  go_enter Try.func12, Try.ntmps12
  go_wp2_with fail
  go_ret2
  exact ⟨rfl, o, rfl, rfl, HH.out, fun i hi => .inl hi, HT.out⟩

theorem RDo_m (o : RGeo) (s : Mst) (a : ActV) (ha : a.Ok) (w : World) (h : IsRef w o s) :
    Calls Try.prog 12 #[.pointer (some ⟨o.b, 0, none⟩), a.v] w fun e w' =>
      e = .returned (.tuple #[.int .u64 ((tellN o.n s a : Nat) : Int), .bool (tellB o.n s a)]) ∧ ∃ o' : RGeo, o'.b = o.b ∧ o'.n = o.n ∧ IsRef w' o' (stepS o.n s a) ∧ (∀ i, o'.F i → o.F i ∨ w.heap.size ≤ i) ∧ Turns o.F w w' := by
  obtain ⟨d, who, q, mask, old, val⟩ := a
  have HV := hidp ha.val
  simp only at HV
  unfold ActV.v stepS tellN tellB
  simp only
  by_cases h1 : d = 1
  · subst h1; exact RDo_1 o s who q mask old val HV w h
  by_cases h2 : d = 2
  · subst h2; exact RDo_2 o s who q mask old val HV w h
  by_cases h3 : d = 3
  · subst h3; exact RDo_3 o s who q mask old val HV w h
  by_cases h4 : d = 4
  · subst h4; exact RDo_4 o s who q mask old val HV w h
  by_cases h5 : d = 5
  · subst h5; exact RDo_5 o s who q mask old val HV w h
  by_cases h6 : d = 6
  · subst h6; exact RDo_6 o s who q mask old val HV w h
  by_cases h7 : d = 7
  · subst h7; exact RDo_7 o s who q mask old val HV w h
  rw [if_neg h1, if_neg h5, if_neg h1, if_neg h2, if_neg h3, if_neg h4, if_neg h6, if_neg h2, if_neg h3, if_neg h4, if_neg h5, if_neg h6, if_neg h7]
  exact RDo_0 o s d who q mask old val HV (by simp [h1]) (by simp [h2]) (by simp [h3]) (by simp [h4]) (by simp [h5]) (by simp [h6]) (by simp [h7]) w h
end Go.Proofs.Ytobeapibiebpaaa
