/-
  What the document's Walk does. Written by link/gen_rwalk.py.
-/
import Derived.Test.YthiobfghanlelaaLinkRPush
import Derived.Test.YthiobfghanlelaaLinkRow
namespace Go.Proofs.Ythiobfghanlelaa
open Go.ChangeShapes Go.WideShapes Go.ChangeAt Go.RowKit Go.Maps
set_option linter.unusedVariables false
set_option linter.unusedSimpArgs false
set_option maxRecDepth 100000

section
variable {base b n : Nat} {all : Bool} {K : Nat → Option Nat} {st : Vst} {w w0 : World} {A G : Nat → Prop} {t q s hd : Int}

set_option maxHeartbeats 6400000 in
theorem rkWalk_c (hn : n < 2 ^ 40) (hq : q ≤ 64) (h : (rOb base b n all K).At w0 A G st w) :
    Calls Try.prog 16 #[.pointer (some ⟨b, 0, none⟩), .agg #[.int .i64 t, .int .i64 q, .int .i64 s], .int .i64 hd] w (WalkEnd (rOb base b n all K) w0 A G (walkL n K t q s hd st) (walkS n K t q s hd st) w) := by
  obtain ⟨i0, hin, hz0, hz1, hz2⟩ := info_parts intInfo
  obtain ⟨l0, hl0⟩ : ∃ l, getV n K st hd = l := ⟨_, rfl⟩
  have hl32 : l0 < 2 ^ 32 := by rw [← hl0]; exact rAt_lt h hd
  have HL0 := hidp hl0
  obtain ⟨Q, hQ⟩ : ∃ Q, q.toNat = Q := ⟨_, rfl⟩
  have hQ64 : Q ≤ 64 := by omega
  have hqQ : ∀ l : Nat, 1 ≤ l → ((l : Int) ≤ q ↔ l ≤ Q) := fun l h1 => by omega
  have HFIN : Hid (walkL n K t q s hd st = (walkF n K t q s Q l0 (getS n K st hd)).1 ∧ walkS n K t q s hd st = (walkF n K t q s Q l0 (getS n K st hd)).2) := hidp (by unfold walkL walkS; rw [hl0, hQ]; exact ⟨rfl, rfl⟩)
  have hlt9 : ∀ l : Nat, l < Q → ((l : Int) < q) := fun l h1 => by omega
  have hlt8 : ∀ l : Nat, ¬ l < Q → q ≤ (l : Int) := fun l h1 => by omega
  have HGL : Hid (∀ g, G g → g < w.heap.size + 1) := hidp (fun g x => Nat.lt_succ_of_lt (h.own_lt g x))
  have HW1 := WK.one h 23 #[.int .i64 t, .int .i64 q, .int .i64 s]
  have HC0 := hidp (HW1.held.alloc (.cells #[] 3))
  have HO0 : Hid (((w.alloc (.cells #[.int .i64 t, .int .i64 q, .int .i64 s] 23)).alloc (.cells #[] 3)).ownsRow (w.heap.size + 1) 3 1 (.slice (some ⟨(w.alloc (.cells #[.int .i64 t, .int .i64 q, .int .i64 s] 23)).heap.size, 0, none⟩) 0 0) 0 []) := hidp (World.ownsRow_lit (base := (w.heap.size + 1)) (e := 3) (size := 1) (w.alloc (.cells #[.int .i64 t, .int .i64 q, .int .i64 s] 23)) #[] 0 (by simp) (by unfold maxLen; omega) rfl)
  have HA0 : Hid ((rOb base b n all K).At w0 A (GU (And1 G w.heap.size) (.slice (some ⟨w.heap.size + 1, 0, none⟩) 0 0)) st ((w.alloc (.cells #[.int .i64 t, .int .i64 q, .int .i64 s] 23)).alloc (.cells #[] 3))) := hidp (HW1.at_.keep2 (Bnew (B0 _) _) (fun g x => by
    rcases x with x | x
    · exact .inl x
    · right
      simp [Value.ownBlock] at x
      subst x
      simp))
  have HS0 : Hid (Stay G w ((w.alloc (.cells #[.int .i64 t, .int .i64 q, .int .i64 s] 23)).alloc (.cells #[] 3))) := hidp (HW1.stay.trans (Stay.of_below (Bnew (B0 _) _) G))
  rw [World.size_alloc] at HO0
  obtain ⟨x0, x1, x2⟩ := HC0.out.three
  clear h HW1 hl0 hQ
  go_enter Try.func16, Try.ntmps16
  go_wp2_with fail
  generalize ((w.alloc (.cells #[.int .i64 t, .int .i64 q, .int .i64 s] 23)).alloc (.cells #[] 3)) = W0 at *
  refine (rGetA hn hd HA0.out).mono ?_
  rintro e w1 ⟨rfl, h1, h2⟩
  rw [HL0.out]
  have HA1 := hidp h1
  have HC1 := hidp (h2.held (.inl (.inr rfl)) HC0.out)
  have HO1 := hidp (h2.own (fun g e => .inr e) HO0.out)
  have HS1 := hidp (HS0.out.trans (h2.less fun g x => .inl (.inl x)))
  clear h1 h2 HA0 HC0 HO0 HS0 x0 x1 x2 HL0
  go_wp2_with fail
  go_loopw [7, 8] (fun u7 u8 wr => ∃ (l nl : Nat) (out : List Nat) (sx : Vst), u8 = .int .i64 (l : Int) ∧ l < 2 ^ 32 ∧ nl ≤ 64 ∧ Hid (Walked n K t q s Q l0 (getS n K st hd) out l sx) ∧ Hid (out.length = nl) ∧ Hid (wr.ownsRow (w.heap.size + 1) 3 1 u7 nl (ntVs out)) ∧ (∃ A c, u7 = .slice A nl c ∧ nl ≤ c ∧ c ≤ 9223372036854775807) ∧ Hid ((rOb base b n all K).At w0 A (GU (And1 G w.heap.size) u7) sx wr) ∧ Hid (Held wr w.heap.size 23 #[.int .i64 t, .int .i64 q, .int .i64 s]) ∧ Hid (Stay G w wr)) (fun u7 _ _ => Q - (match u7 with | .slice _ k _ => k | _ => 0))
  case atStart => exact ⟨l0, 0, [], _, by go_num, hl32, by omega, hidp Walked.start, hidp rfl, HO1, ⟨_, _, rfl, by omega, by omega⟩, HA1, HC1, HS1⟩
  case round =>
    clear HA1 HC1 HO1 HS1
    obtain ⟨l, nl, out, sx, rfl, hl, hnl, HWK, HLN, HO, ⟨Au, cu, rfl, hcu0, hcu⟩, HA, HC, HS⟩ := hrel
    obtain ⟨x0, x1, x2⟩ := HC.out.three
    by_cases h1 : 1 ≤ l
    · have t1 : decide ((1 : Int) ≤ (l : Int)) = true := decide_eq_true (by omega)
      by_cases hlq : l ≤ Q
      · have t2 : decide ((l : Int) ≤ q) = true := decide_eq_true ((hqQ l h1).2 hlq)
        by_cases hlt : nl < Q
        · have t3 : decide ((nl : Int) < q) = true := decide_eq_true (hlt9 nl hlt)
          have HN := hidp (HWK.out.step ⟨h1, (hqQ l h1).2 hlq⟩ (by rw [HLN.out]; exact hlt))
          have hv32 := rAt_lt HA.out (pageI t q s ((l : Int) - 1) 2)
          obtain ⟨v, hv⟩ : ∃ v, getV n K sx (pageI t q s ((l : Int) - 1) 2) = v := ⟨_, rfl⟩
          rw [hv] at hv32 HN
          have HV := hidp hv
          have HPL : Hid (Value.int .i64 ((l : Int) - 1) = Value.int .i64 ((l - 1 : Nat) : Int)) := hidp (by congr 1; omega)
          have hn64 : nl < 64 := by omega
          clear hv HWK
          go_wp2_with (first
            | (at_builtin
               refine wpList_append_lies _ rfl _ _ 37 rfl (w.heap.size + 1) 3 i0 (.int .i64 0) 1 8 Try.underlying37 hin hz0 hz1 hz2 rfl (by decide) (.slice Au nl cu) nl (ntVs out) rfl (own_below HO.out (Bnew (B0 _) _)) ⟨_, 0, none⟩ 1 1 [.int .i64 ((l : Int) - 1)] rfl rfl ?c1 ?c2 (by omega) ?c3 ?c4 ?c5 _ rfl ?_
               case c1 => intro j y hy; rcases j with _ | j; (· simp at hy; subst hy; simp [Addr.add]); (· simp at hy)
               case c2 => simp [Value.oneCell']
               case c3 => unfold maxLen; omega
               case c4 => omega
               case c5 => have := HC.out.lt; simp; omega
               intro g cap w4 hown4 hgrow4 hat4 hlt4
               have HR := hidp (row_grown HA.out HO.out HC.out (fun e => by have := (HO.out.lt _ e).1; omega) HS.out hown4 hgrow4 hat4 hlt4 HGL.out)
               clear hown4 hgrow4 hat4 hlt4 x0 x1 x2
               obtain ⟨x0, x1, x2⟩ := HR.out.held.three)
            | fail)
          refine (r7Next_c t q s ((l : Int) - 1) _).mono ?_
          rintro e w5 ⟨rfl, hb⟩
          have HR5 := hidp (HR.out.keep hb)
          clear hb HR HA HO HC HS
          go_wp2_with fail
          refine (rGetA hn _ HR5.out.at_).mono ?_
          rintro e w6 ⟨rfl, h2, h3⟩
          rw [HV.out]
          have HR6 := hidp (HR5.out.call h2 h3)
          have hcc := own_caps9 HR6.out.own
          clear h2 h3 HR5
          go_wp2_with fail
          go_roundw
          case rel => exact ⟨v, nl + 1, out ++ [l - 1], _, by go_num, hv32, by omega, HN, hidp (by rw [List.length_append, HLN.out]; rfl), hidp (by rw [ntVs_snoc, ← HPL.out]; exact HR6.out.own), ⟨_, _, rfl, hcc.1, hcc.2⟩, hidp HR6.out.at_, hidp HR6.out.held, hidp HR6.out.stay⟩
          case measure => simp; omega
        · have t3 : decide ((nl : Int) < q) = false := decide_eq_false (by have := hlt8 nl hlt; omega)
          have HE := hidp (HWK.out.fin (.inr (by rw [HLN.out]; exact hlt)))
          go_wp2_with fail
          go_ret
          exact WalkEnd.mk' HA.out HO.out HLN.out HS.out (HFIN.out.1.trans (by rw [HE.out])) (HFIN.out.2.trans (by rw [HE.out]))
      · have t2 : decide ((l : Int) ≤ q) = false := decide_eq_false (fun x => hlq ((hqQ l h1).1 x))
        have HE := hidp (HWK.out.fin (.inl (fun x => hlq ((hqQ l h1).1 x.2))))
        go_wp2_with fail
        go_ret
        exact WalkEnd.mk' HA.out HO.out HLN.out HS.out (HFIN.out.1.trans (by rw [HE.out])) (HFIN.out.2.trans (by rw [HE.out]))
    · have t1 : decide ((1 : Int) ≤ (l : Int)) = false := decide_eq_false (by omega)
      have HE := hidp (HWK.out.fin (.inl (fun x => h1 x.1)))
      go_wp2_with fail
      go_ret
      exact WalkEnd.mk' HA.out HO.out HLN.out HS.out (HFIN.out.1.trans (by rw [HE.out])) (HFIN.out.2.trans (by rw [HE.out]))
end
end Go.Proofs.Ythiobfghanlelaa
