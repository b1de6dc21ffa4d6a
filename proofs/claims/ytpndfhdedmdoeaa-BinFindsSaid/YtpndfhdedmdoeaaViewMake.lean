/-
  Views: contracts of Missing, Reads, Writes, of, Whole, Known.
-/
import Derived.Test.YtpndfhdedmdoeaaViewPut
import Derived.Test.YtpndfhdedmdoeaaPair
namespace Go.Proofs.Ytpndfhdedmdoeaa
open Go.ChangeShapes Go.WideShapes Go.ChangeAt Go.RowKit Go.Maps
set_option linter.unusedVariables false
set_option maxRecDepth 100000
set_option linter.unusedSimpArgs false

theorem vMissing_c {base b n : Nat} {wh : Bool} {o : VGeo} {K : Nat → Option Nat} {s : Vst} (w : World) (h : IsView w base b n wh o K s) :
    Calls Try.prog 19 #[.pointer (some ⟨b, 0, none⟩)] w fun e w' => e = .returned (.int .i64 (missI s)) ∧ w' = w := by
  obtain ⟨_, _, _, _, _, _, c6, c7⟩ := h.cells
  clear h
  cases hl : s.lost with
  | true =>
    have HV : Hid (missI s = (s.miss : Int)) := hidp (by unfold missI; simp [hl])
    rw [hl] at c6
    clear hl
    go_enter Try.func19, Try.ntmps19
    go_wp2
    go_ret
    exact ⟨by rw [HV.out]; rfl, rfl⟩
  | false =>
    have HV : Hid (missI s = -1) := hidp (by unfold missI; simp [hl])
    rw [hl] at c6
    clear hl
    go_enter Try.func19, Try.ntmps19
    go_wp2
    go_ret
    exact ⟨by rw [HV.out]; rfl, rfl⟩

theorem own_reads {w : World} {base size n c : Nat} {e : TypeId} {A : Option Addr} {xs : List Value} (h : w.ownsRow base e size (.slice A n c) n xs) :
    0 < n → ∃ ad, A = some ad ∧ ∀ j u, xs[j]? = some u → w.cell? (ad.add j) = some u := fun hn => by
  obtain ⟨ad, e1, _, h2⟩ := (Reads.of_own h).2 hn
  exact ⟨ad, e1, h2⟩
theorem natVs_one (l : List Nat) : ∀ u ∈ ntVs l, u.oneCell' = true := fun u hu => by
  obtain ⟨x, _, rfl⟩ := List.mem_map.1 hu
  rfl
theorem prVs_one (l : List (Nat × Nat)) : ∀ u ∈ prVs l, u.oneCell' = true := fun u hu => by
  obtain ⟨x, _, hx⟩ := List.mem_flatMap.1 hu
  simp at hx
  rcases hx with rfl | rfl <;> rfl

theorem vReads_c {base b n : Nat} {wh : Bool} {o : VGeo} {K : Nat → Option Nat} {s : Vst} (hlim : s.rd.length < 2 ^ 40) (w : World) (h : IsView w base b n wh o K s) :
    Calls Try.prog 17 #[.pointer (some ⟨b, 0, none⟩)] w fun e w' => ∃ v, e = .returned v ∧ w'.ownsRow w.heap.size 3 1 v s.rd.length (ntVs s.rd) ∧ Below w.heap.size w w' := by
  obtain ⟨A, cap, hv⟩ := own_slice h.rrow
  have hr := h.rrow
  have c2 := h.cells.2.2.1
  rw [hv] at hr c2
  have HR := hidp hr
  clear h hr hv
  go_enter Try.func17, Try.ntmps17
  go_wp2_with fail
  refine (CloneInts_c A s.rd.length cap (ntVs s.rd) (by simp [ntVs]) (by omega) (natVs_one _) _ (own_reads HR.out)).mono ?_
  rintro e w1 ⟨v, rfl, ho, _, hb⟩
  have HO := hidp ho
  have HB := hidp hb
  clear ho hb
  go_wp2
  go_ret
  exact ⟨v, rfl, HO.out, HB.out⟩
theorem vWrites_c {base b n : Nat} {wh : Bool} {o : VGeo} {K : Nat → Option Nat} {s : Vst} (hlim : s.wr.length < 2 ^ 40) (w : World) (h : IsView w base b n wh o K s) :
    Calls Try.prog 18 #[.pointer (some ⟨b, 0, none⟩)] w fun e w' => ∃ v, e = .returned v ∧ w'.ownsRow w.heap.size 86 2 v s.wr.length (prVs s.wr) ∧ Below w.heap.size w w' := by
  obtain ⟨A, cap, hv⟩ := own_slice h.wrow
  have hr := h.wrow
  have c4 := h.cells.2.2.2.2.1
  rw [hv] at hr c4
  have HR := hidp hr
  clear h hr hv
  go_enter Try.func18, Try.ntmps18
  go_wp2_with fail
  refine (ClonePairs_c A s.wr.length cap (prVs s.wr) (prVs_len _) (by omega) (prVs_one _) _ (own_reads HR.out)).mono ?_
  rintro e w1 ⟨v, rfl, ho, _, hb⟩
  have HO := hidp ho
  have HB := hidp hb
  clear ho hb
  go_wp2
  go_ret
  exact ⟨v, rfl, HO.out, HB.out⟩

theorem of_c (base n sb : Nat) (wh : Bool) (T : TypeId) (u : Value) (K : Nat → Option Nat) (hn : n ≤ 2 ^ 40) (h32 : ∀ i x, K i = some x → x < 2 ^ 32) (w : World)
    (hsb : base ≤ w.heap.size ∧ base ≤ sb ∧ (sb < w.heap.size ∨ (wh = true ∧ n = 0 ∧ sb = w.heap.size + 2))) (hs : ∀ m1 m2 v, SrcIs w wh n ⟨m1, m2, sb, .iface T u, v⟩ K) :
    Calls Try.prog 26 #[.int .i64 (n : Int), .iface T u] w fun e w' => ∃ (b : Nat) (o : VGeo), e = .returned (.pointer (some ⟨b, 0, none⟩)) ∧ IsView w' base b n wh o K freshS ∧ w.heap.size ≤ b ∧ (∀ g, o.A b g → w.heap.size ≤ g ∨ g = sb) ∧ Below w.heap.size w w' := by
  have hmm := @run_makeMap Try.prog
  have HS := hidp hs
  have HSB := hidp hsb
  have H32 := hidp h32
  clear hs hsb h32
  go_enter Try.func26, Try.ntmps26
  go_wp2
  go_ret
  have hB1 := Bnew (B0 w) (.map #[] 0)
  have hB2 := Bnew hB1 (.map #[] 0)
  have hB3 := Bnew hB2 (.cells #[.int .i64 (n : Int), .iface T u, .slice none 0 0, .map (some w.heap.size), .slice none 0 0, .map (some (w.heap.size + 1)), .bool false, .int .i64 0] 83)
  have hz1 : (w.alloc (.map #[] 0)).heap.size = w.heap.size + 1 := by simp
  have hz2 : ((w.alloc (.map #[] 0)).alloc (.map #[] 0)).heap.size = w.heap.size + 2 := by simp
  have hm1 := (((World.ownsMap_made w Try.prog 3 (unitElem (H := Unit))).alloc (.map #[] 0)).alloc (.cells #[.int .i64 (n : Int), .iface T u, .slice none 0 0, .map (some w.heap.size), .slice none 0 0, .map (some (w.heap.size + 1)), .bool false, .int .i64 0] 83))
  have hm2 := (World.ownsMap_made (w.alloc (.map #[] 0)) Try.prog 3 (plainElem (H := Unit) Try.prog 3)).alloc (.cells #[.int .i64 (n : Int), .iface T u, .slice none 0 0, .map (some w.heap.size), .slice none 0 0, .map (some (w.heap.size + 1)), .bool false, .int .i64 0] 83)
  have hh := Held.new ((w.alloc (.map #[] 0)).alloc (.map #[] 0)) 83 #[.int .i64 (n : Int), .iface T u, .slice none 0 0, .map (some w.heap.size), .slice none 0 0, .map (some (w.heap.size + 1)), .bool false, .int .i64 0]
  rw [hz1] at hm2
  rw [hz2] at hh
  obtain ⟨q1, q2, q3⟩ := HSB.out
  have hF : ¬ ∃ i, i < 2 ∧ (Value.slice none 0 0).ownBlock = some sb := by
    rintro ⟨i, _, h⟩
    simp [Value.ownBlock] at h
  have hsz := hh.lt
  refine ⟨w.heap.size + 2, ⟨w.heap.size, w.heap.size + 1, sb, .iface T u, fun _ => .slice none 0 0⟩, rfl, { parts := ⟨0, _, 0, _, Nat.zero_le _, Nat.zero_le _, SetIs.none, NumIs.none _, ?_⟩, ok := VOk.fresh n, nmax := hn, k32 := H32.out }, by omega, ?_, hB3⟩
  · refine { head := hh, own := (OwnAll.nil _ base _ 2 vE vSz).congr (fun i hi => ?_) (fun i hi => ?_), m1 := hm1, m2 := hm2, src := ?_, bb := by omega, b1 := q1, b2 := Nat.le_succ_of_le q1, bs := q2, slt := by show sb < _; rcases q3 with h | ⟨_, _, h⟩ <;> (simp; omega), mm := by simp, s1 := by show sb ≠ w.heap.size; rcases q3 with h | ⟨_, _, h⟩ <;> omega, s2 := by show sb ≠ w.heap.size + 1; rcases q3 with h | ⟨_, _, h⟩ <;> omega, sF := ?_ }
    · unfold vN freshS; split <;> rfl
    · unfold vX freshS; split <;> rfl
    · rcases q3 with h | ⟨rfl, rfl, h⟩
      · exact (HS.out w.heap.size (w.heap.size + 1) (fun _ => .slice none 0 0)).same (hB3.block _ h) rfl rfl
      · obtain ⟨A, c, e1, e2, e3, e4, e5⟩ := (HS.out 0 0 (fun _ => .slice none 0 0)).list
        exact ⟨A, c, e1, e2, e3, e4, fun hn => by omega⟩
    · rcases q3 with h | ⟨h1, h2, h⟩
      · refine .inr ?_
        rintro (h1 | h1)
        · have h1 : sb = w.heap.size + 2 := h1
          omega
        · exact hF h1
      · exact .inl ⟨h1, h2⟩
  · rintro g (((h | ⟨i, hi, h⟩) | h | h) | h)
    · left; have h : g = w.heap.size + 2 := h; omega
    · simp [Value.ownBlock] at h
    · left; have h : g = w.heap.size := h; omega
    · left; have h : g = w.heap.size + 1 := h; omega
    · right; exact h

def valVs (l : List Nat) : List Value := l.map fun (n : Nat) => Value.int .u32 (n : Int)
theorem valVs_F (l : List Nat) : valVs l = (List.range l.length).map (valF fun i => (l[i]?).getD 0) := by
  apply List.ext_getElem?
  intro i
  unfold valVs valF
  rw [List.getElem?_map, List.getElem?_map]
  rcases Nat.lt_or_ge i l.length with h | h
  · rw [List.getElem?_range h, List.getElem?_eq_getElem h]
    simp [h]
  · rw [List.getElem?_eq_none h, List.getElem?_eq_none (by simpa using h)]
    rfl
theorem valVs_one (l : List Nat) : ∀ u ∈ valVs l, u.oneCell' = true := fun u hu => by
  obtain ⟨x, _, rfl⟩ := List.mem_map.1 hu
  rfl
/-- what Whole and Known leave -/
def Made11 (n : Nat) (wh : Bool) (K : Nat → Option Nat) (w : World) (e : Ending) (w' : World) : Prop :=
  ∃ (b : Nat) (o : VGeo), e = .returned (.pointer (some ⟨b, 0, none⟩)) ∧ IsView w' w.heap.size b n wh o K freshS ∧ Below w.heap.size w w'

theorem IsView.base {w : World} {base base' b n : Nat} {wh : Bool} {o : VGeo} {K : Nat → Option Nat} {s : Vst} (h : IsView w base b n wh o K s) (hb : base' ≤ base) : IsView w base' b n wh o K s :=
  { h with
    parts := by
      obtain ⟨k1, D1, k2, D2, e1, e2, e3, e4, hp⟩ := h.parts
      refine ⟨k1, D1, k2, D2, e1, e2, e3, e4, { hp with own := ⟨fun i hi => ?_, hp.own.apart, hp.own.notb⟩, bb := by have := hp.bb; omega, b1 := by have := hp.b1; omega, b2 := by have := hp.b2; omega, bs := by have := hp.bs; omega }⟩
      have h1 := hp.own.own i hi
      refine ⟨h1.1, ?_⟩
      rcases h1.2 with h2 | ⟨g, cap, cur, e1, e2, e3⟩
      · exact .inl h2
      · exact .inr ⟨g, cap, cur, e1, by omega, e3⟩ }

theorem Whole_c (A : Option Addr) (c : Nat) (vals : List Nat) (n : Nat) (hl : vals.length = n) (hmx : n ≤ 2 ^ 40) (h32 : ∀ x ∈ vals, x < 2 ^ 32) (w : World)
    (hA : 0 < n → ∃ ad, A = some ad ∧ ∀ j u, (valVs vals)[j]? = some u → w.cell? (ad.add j) = some u) :
    Calls Try.prog 8 #[.slice A n c] w (Made11 n true (fun i => vals[i]?) w) := by
  have HA := hidp hA
  have HL := hidp hl
  have H32 : Hid (∀ i x, vals[i]? = some x → x < 2 ^ 32) := hidp (fun i x h => h32 x (List.mem_of_getElem? h))
  have HS : Hid (∀ i, i < n → ∃ x, vals[i]? = some x ∧ x < 2 ^ 32) := hidp (fun i hi => ⟨vals[i], List.getElem?_eq_getElem (by omega), h32 _ (List.getElem_mem _)⟩)
  clear hA hl h32
  go_enter Try.func8, Try.ntmps8
  go_wp2_with fail
  refine (CloneVals_c A n c (valVs vals) (by have := HL.out; simp [valVs]; omega) (by omega) (valVs_one _) _ HA.out).mono ?_
  rintro e w1 ⟨v, rfl, ho, _, hb⟩
  have HB := hidp hb
  rcases ho.2 with ⟨rfl, hz⟩ | ⟨g, cap, cur, rfl, hbg, hg, hnc, hcm, hcs, htake⟩
  · subst hz
    clear ho hb
    go_wp2_with fail
    refine (of_c w.heap.size 0 (w1.heap.size + 2) true 60 (.slice none 0 0) (fun i => vals[i]?) (by omega) H32.out _ ⟨HB.out.size, by have := HB.out.size; omega, .inr ⟨rfl, rfl, rfl⟩⟩ (fun m1 m2 v => ⟨none, 0, rfl, Nat.le_refl _, Nat.zero_le _, HS.out, fun h => by omega⟩)).mono ?_
    rintro e w2 ⟨b, o, rfl, hI, _, hA, hb2⟩
    have HI := hidp hI
    have HB2 := hidp hb2
    clear hI hb2
    go_wp2
    go_ret
    exact ⟨b, o, rfl, HI.out, Bgo HB.out HB2.out⟩
  · have hgl := (ho.lt g rfl).2
    have hr : RowF w1 g 62 n cap (valF fun i => (vals[i]?).getD 0) := by
      rw [valVs_F, HL.out] at ho
      exact (RowF.of_own ho).2
    have HR := hidp hr
    clear ho hb hg hcs htake hr
    go_wp2_with fail
    refine (of_c w.heap.size n g true 60 (.slice (some ⟨g, 0, none⟩) n cap) (fun i => vals[i]?) hmx H32.out _ ⟨HB.out.size, hbg, .inl hgl⟩ (fun m1 m2 v => ⟨_, cap, rfl, hnc, hcm, HS.out, fun h => ⟨rfl, HR.out⟩⟩)).mono ?_
    rintro e w2 ⟨b, o, rfl, hI, _, hA, hb2⟩
    have HI := hidp hI
    have HB2 := hidp hb2
    clear hI hb2
    go_wp2
    go_ret
    exact ⟨b, o, rfl, HI.out, Bgo HB.out HB2.out⟩

theorem own_more {H : Type} {P : Program} {kk : TypeId} {R : Value → Option (DataW H × List MemPlace)} {w : World} {b n : Nat} {D : DataW H} (h : w.ownsMap P kk R b n D) : w.ownsMap P kk R b (n + 1) D := by
  obtain ⟨es, clock, h1, h2, h3, h4⟩ := h
  exact ⟨es, clock, h1, h2, by omega, h4⟩
def kOf (n : Nat) (l : List PairV) : Nat → Option Nat := l.foldl (fun K p => kAdd n K p.cell p.val) (fun _ => none)
theorem kOf_take {n : Nat} {l : List PairV} {k : Nat} {p : PairV} (h : l[k]? = some p) : kOf n (l.take (k + 1)) = kAdd n (kOf n (l.take k)) p.cell p.val := by
  have e : l.take (k + 1) = l.take k ++ [p] := by rw [List.take_add_one, h]; rfl
  rw [e]
  unfold kOf
  rw [List.foldl_append]
  rfl
theorem kAdd_32 {n : Nat} {K : Nat → Option Nat} {c : Int} {v : Nat} (h : ∀ i x, K i = some x → x < 2 ^ 32) (hv : v < 2 ^ 32) : ∀ i x, kAdd n K c v i = some x → x < 2 ^ 32 := fun i x hx => by
  unfold kAdd at hx
  split at hx
  · unfold updF at hx
    split at hx
    · injection hx with hx
      omega
    · exact h i x hx
  · exact h i x hx
theorem kOf_32 {n : Nat} {l : List PairV} (h : ∀ p ∈ l, p.Ok) : ∀ i x, kOf n l i = some x → x < 2 ^ 32 := by
  have : ∀ (l : List PairV) (K : Nat → Option Nat), (∀ p ∈ l, p.Ok) → (∀ i x, K i = some x → x < 2 ^ 32) → ∀ i x, l.foldl (fun K p => kAdd n K p.cell p.val) K i = some x → x < 2 ^ 32 := by
    intro l
    induction l with
    | nil => intro K _ hK; exact hK
    | cons p r ih => intro K hl hK; exact ih _ (fun q hq => hl q (List.mem_cons_of_mem _ hq)) (kAdd_32 hK (hl p (List.mem_cons_self ..)).val)
  exact this l _ h (fun i x hx => by cases hx)

end Go.Proofs.Ytpndfhdedmdoeaa
