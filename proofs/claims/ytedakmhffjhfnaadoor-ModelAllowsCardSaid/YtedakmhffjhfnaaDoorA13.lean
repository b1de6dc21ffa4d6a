/-
  The law ModelAllows: the walk. Written by model/gen_laws.py.
-/
import Derived.Test.YtedakmhffjhfnaaDoorA12
import Derived.Test.YtedakmhffjhfnaaDoorAKit
import Derived.Lib.SmallJoins
import Derived.Test.YtedakmhffjhfnaaDoorALaw
import Derived.Test.YtedakmhffjhfnaaDoorCards
import Derived.Test.YtedakmhffjhfnaaDoorTie
import Derived.SevenTiedAt
import Derived.Lay
import Derived.LaidMore
import Derived.LaidHandle
import Derived.Lib.LaidTab
import Derived.Stop.Joined
import Derived.LaidSub
import Derived.MakeChecks
import Derived.Test.YtedakmhffjhfnaaDoorA01
namespace Go.Proofs.YtedakmhffjhfnaaDoor
open Go.ChangeShapes Go.WideShapes Go.ChangeAt Go.RowKit Go.Maps
set_option linter.unusedVariables false
set_option linter.unusedSimpArgs false
set_option maxRecDepth 100000
section
theorem ModelAllows_many (t p s k a b err out aux : Int) (R : Nat -> Int) (A : Option Addr) (n c : Nat) (hn : 60 < n) (W : World) (hT : SlotsLaid W) : Calls Tryd.prog 3 #[.agg #[.int .i64 t, .int .i64 p, .int .i64 s], .agg #[.slice A n c, .int .i64 (R 0), .int .i64 (R 1), .int .i64 (R 2), .int .i64 (R 3), .int .i64 (R 4), .int .i64 (R 5), .int .i64 (R 6), .int .i64 (R 7)], .agg #[.int .i64 k, .int .i64 a, .int .i64 b, .int .i64 err, .int .i64 out, .int .i64 aux]] W (Keeps W) := by
 have HSL := hidp hT
 clear hT
 have HC := hidp (((Held.new W 23 #[.int .i64 t, .int .i64 p, .int .i64 s]).alloc (.cells #[.slice A n c, .int .i64 (R 0), .int .i64 (R 1), .int .i64 (R 2), .int .i64 (R 3), .int .i64 (R 4), .int .i64 (R 5), .int .i64 (R 6), .int .i64 (R 7)] 27)).alloc (.cells #[.int .i64 k, .int .i64 a, .int .i64 b, .int .i64 err, .int .i64 out, .int .i64 aux] 34))
 have HS := hidp ((Held.new2 W (.cells #[.int .i64 t, .int .i64 p, .int .i64 s] 23) 27 #[.slice A n c, .int .i64 (R 0), .int .i64 (R 1), .int .i64 (R 2), .int .i64 (R 3), .int .i64 (R 4), .int .i64 (R 5), .int .i64 (R 6), .int .i64 (R 7)]).alloc (.cells #[.int .i64 k, .int .i64 a, .int .i64 b, .int .i64 err, .int .i64 out, .int .i64 aux] 34))
 have HD : Hid (Held (((W.alloc (.cells #[.int .i64 t, .int .i64 p, .int .i64 s] 23)).alloc (.cells #[.slice A n c, .int .i64 (R 0), .int .i64 (R 1), .int .i64 (R 2), .int .i64 (R 3), .int .i64 (R 4), .int .i64 (R 5), .int .i64 (R 6), .int .i64 (R 7)] 27)).alloc (.cells #[.int .i64 k, .int .i64 a, .int .i64 b, .int .i64 err, .int .i64 out, .int .i64 aux] 34)) (W.heap.size + 1 + 1) 34 #[.int .i64 k, .int .i64 a, .int .i64 b, .int .i64 err, .int .i64 out, .int .i64 aux]) := hidp (by
  have h := Held.new ((W.alloc (.cells #[.int .i64 t, .int .i64 p, .int .i64 s] 23)).alloc (.cells #[.slice A n c, .int .i64 (R 0), .int .i64 (R 1), .int .i64 (R 2), .int .i64 (R 3), .int .i64 (R 4), .int .i64 (R 5), .int .i64 (R 6), .int .i64 (R 7)] 27)) 34 #[.int .i64 k, .int .i64 a, .int .i64 b, .int .i64 err, .int .i64 out, .int .i64 aux]
  rw [World.size_alloc, World.size_alloc] at h
  exact h)
 have HB : Hid (Below W.heap.size W (((W.alloc (.cells #[.int .i64 t, .int .i64 p, .int .i64 s] 23)).alloc (.cells #[.slice A n c, .int .i64 (R 0), .int .i64 (R 1), .int .i64 (R 2), .int .i64 (R 3), .int .i64 (R 4), .int .i64 (R 5), .int .i64 (R 6), .int .i64 (R 7)] 27)).alloc (.cells #[.int .i64 k, .int .i64 a, .int .i64 b, .int .i64 err, .int .i64 out, .int .i64 aux] 34))) := hidp (Bnew (Bnew (Bnew (B0 W) _) _) _)
 obtain ⟨c0, c1, c2⟩ := HC.out.three
 obtain ⟨s0, s1, s2, s3, s4, s5, s6, s7, s8⟩ := nine26 HS.out
 obtain ⟨d0, d1, d2, d3, d4, d5⟩ := six26 HD.out
 go_enter Tryd.func3, Tryd.ntmps3
 go_wp2_with fail
 refine (few26_c A n c R false (decide_eq_false (by omega)) _).mono ?_; rintro e w1 ⟨rfl, hb⟩
 clear c0 c1 c2 s0 s1 s2 s3 s4 s5 s6 s7 s8 d0 d1 d2 d3 d4 d5
 replace HC := hidp (HC.out.keep hb)
 replace HS := hidp (HS.out.keep hb)
 replace HD := hidp (HD.out.keep hb)
 replace HB := hidp (Bgo HB.out hb)
 clear hb
 obtain ⟨c0, c1, c2⟩ := HC.out.three
 obtain ⟨s0, s1, s2, s3, s4, s5, s6, s7, s8⟩ := nine26 HS.out
 obtain ⟨d0, d1, d2, d3, d4, d5⟩ := six26 HD.out
 go_wp2_with fail
 refine (live26_c _ (HSL.out.below HB.out)).mono ?_; rintro e w1 ⟨rfl, hb⟩
 clear c0 c1 c2 s0 s1 s2 s3 s4 s5 s6 s7 s8 d0 d1 d2 d3 d4 d5
 replace HC := hidp (HC.out.keep hb)
 replace HS := hidp (HS.out.keep hb)
 replace HD := hidp (HD.out.keep hb)
 replace HB := hidp (Bgo HB.out hb)
 clear hb
 obtain ⟨c0, c1, c2⟩ := HC.out.three
 obtain ⟨s0, s1, s2, s3, s4, s5, s6, s7, s8⟩ := nine26 HS.out
 obtain ⟨d0, d1, d2, d3, d4, d5⟩ := six26 HD.out
 go_wp2_with fail
 go_ret
 exact ⟨rfl, HB.out⟩

theorem r26Of_no (t p s : Int) (R : Nat -> Int) (A : Option Addr) (n c : Nat) (l : List (Int × Int)) (hl : l.length = n) (hn : n <= 80000) (hcn : n <= c /\ c <= maxLen) (w : World) (hin : BkIn w A l) (hX : ofM t p s l R = none) :
  Calls Tryd.prog 9 #[.agg #[.int .i64 t, .int .i64 p, .int .i64 s], .agg #[.slice A n c, .int .i64 (R 0), .int .i64 (R 1), .int .i64 (R 2), .int .i64 (R 3), .int .i64 (R 4), .int .i64 (R 5), .int .i64 (R 6), .int .i64 (R 7)]] w fun e w' => e = .returned (.pointer none) /\ Below w.heap.size w w' :=
 (r26Of_c t p s R A n c l hl hn hcn w hin).mono (fun e w' h => by
  rw [hX] at h
  exact ⟨h.2, h.1⟩)
theorem r26Of_yes (t p s : Int) (R : Nat -> Int) (A : Option Addr) (n c : Nat) (l L : List (Int × Int)) (hl : l.length = n) (hn : n <= 80000) (hcn : n <= c /\ c <= maxLen) (w : World) (hin : BkIn w A l) (hX : ofM t p s l R = some L) :
  Calls Tryd.prog 9 #[.agg #[.int .i64 t, .int .i64 p, .int .i64 s], .agg #[.slice A n c, .int .i64 (R 0), .int .i64 (R 1), .int .i64 (R 2), .int .i64 (R 3), .int .i64 (R 4), .int .i64 (R 5), .int .i64 (R 6), .int .i64 (R 7)]] w fun e w' => ∃ g, e = .returned (.pointer (some ⟨g, 0, none⟩)) /\ w.heap.size <= g /\ RMod w' g w.heap.size (fun _ => False) t p s L R /\ Below w.heap.size w w' :=
 (r26Of_c t p s R A n c l hl hn hcn w hin).mono (fun e w' h => by
  rw [hX] at h
  obtain ⟨h1, g, h2, h3, h4⟩ := h
  exact ⟨g, h2, h3, h4, h1⟩)

set_option maxHeartbeats 6400000 in
theorem ModelAllows_none (t p s k a b err out aux : Int) (R : Nat -> Int) (A : Option Addr) (n c : Nat) (l : List (Int × Int)) (hl : l.length = n) (hn : n <= 60) (hcn : n <= c /\ c <= maxLen) (hX : ofM t p s l R = none) (W : World) (hin : BkIn W A l) (hwf : ∀ x ∈ l, WfB x) (hT : SlotsLaid W) : Calls Tryd.prog 3 #[.agg #[.int .i64 t, .int .i64 p, .int .i64 s], .agg #[.slice A n c, .int .i64 (R 0), .int .i64 (R 1), .int .i64 (R 2), .int .i64 (R 3), .int .i64 (R 4), .int .i64 (R 5), .int .i64 (R 6), .int .i64 (R 7)], .agg #[.int .i64 k, .int .i64 a, .int .i64 b, .int .i64 err, .int .i64 out, .int .i64 aux]] W (Keeps W) := by
 have HX := hidp hX
 have HIN := hidp hin
 have HWFL := hidp hwf
 clear hwf
 clear hX hin
 have HSL := hidp hT
 clear hT
 have HC := hidp (((Held.new W 23 #[.int .i64 t, .int .i64 p, .int .i64 s]).alloc (.cells #[.slice A n c, .int .i64 (R 0), .int .i64 (R 1), .int .i64 (R 2), .int .i64 (R 3), .int .i64 (R 4), .int .i64 (R 5), .int .i64 (R 6), .int .i64 (R 7)] 27)).alloc (.cells #[.int .i64 k, .int .i64 a, .int .i64 b, .int .i64 err, .int .i64 out, .int .i64 aux] 34))
 have HS := hidp ((Held.new2 W (.cells #[.int .i64 t, .int .i64 p, .int .i64 s] 23) 27 #[.slice A n c, .int .i64 (R 0), .int .i64 (R 1), .int .i64 (R 2), .int .i64 (R 3), .int .i64 (R 4), .int .i64 (R 5), .int .i64 (R 6), .int .i64 (R 7)]).alloc (.cells #[.int .i64 k, .int .i64 a, .int .i64 b, .int .i64 err, .int .i64 out, .int .i64 aux] 34))
 have HD : Hid (Held (((W.alloc (.cells #[.int .i64 t, .int .i64 p, .int .i64 s] 23)).alloc (.cells #[.slice A n c, .int .i64 (R 0), .int .i64 (R 1), .int .i64 (R 2), .int .i64 (R 3), .int .i64 (R 4), .int .i64 (R 5), .int .i64 (R 6), .int .i64 (R 7)] 27)).alloc (.cells #[.int .i64 k, .int .i64 a, .int .i64 b, .int .i64 err, .int .i64 out, .int .i64 aux] 34)) (W.heap.size + 1 + 1) 34 #[.int .i64 k, .int .i64 a, .int .i64 b, .int .i64 err, .int .i64 out, .int .i64 aux]) := hidp (by
  have h := Held.new ((W.alloc (.cells #[.int .i64 t, .int .i64 p, .int .i64 s] 23)).alloc (.cells #[.slice A n c, .int .i64 (R 0), .int .i64 (R 1), .int .i64 (R 2), .int .i64 (R 3), .int .i64 (R 4), .int .i64 (R 5), .int .i64 (R 6), .int .i64 (R 7)] 27)) 34 #[.int .i64 k, .int .i64 a, .int .i64 b, .int .i64 err, .int .i64 out, .int .i64 aux]
  rw [World.size_alloc, World.size_alloc] at h
  exact h)
 have HB : Hid (Below W.heap.size W (((W.alloc (.cells #[.int .i64 t, .int .i64 p, .int .i64 s] 23)).alloc (.cells #[.slice A n c, .int .i64 (R 0), .int .i64 (R 1), .int .i64 (R 2), .int .i64 (R 3), .int .i64 (R 4), .int .i64 (R 5), .int .i64 (R 6), .int .i64 (R 7)] 27)).alloc (.cells #[.int .i64 k, .int .i64 a, .int .i64 b, .int .i64 err, .int .i64 out, .int .i64 aux] 34))) := hidp (Bnew (Bnew (Bnew (B0 W) _) _) _)
 obtain ⟨c0, c1, c2⟩ := HC.out.three
 obtain ⟨s0, s1, s2, s3, s4, s5, s6, s7, s8⟩ := nine26 HS.out
 obtain ⟨d0, d1, d2, d3, d4, d5⟩ := six26 HD.out
 go_enter Tryd.func3, Tryd.ntmps3
 go_wp2_with fail
 refine (few26_c A n c R true (decide_eq_true hn) _).mono ?_; rintro e w1 ⟨rfl, hb⟩
 clear c0 c1 c2 s0 s1 s2 s3 s4 s5 s6 s7 s8 d0 d1 d2 d3 d4 d5
 replace HC := hidp (HC.out.keep hb)
 replace HS := hidp (HS.out.keep hb)
 replace HD := hidp (HD.out.keep hb)
 replace HB := hidp (Bgo HB.out hb)
 clear hb
 obtain ⟨c0, c1, c2⟩ := HC.out.three
 obtain ⟨s0, s1, s2, s3, s4, s5, s6, s7, s8⟩ := nine26 HS.out
 obtain ⟨d0, d1, d2, d3, d4, d5⟩ := six26 HD.out
 go_wp2_with fail
 clear c0 c1 c2 s0 s1 s2 s3 s4 s5 s6 s7 s8 d0 d1 d2 d3 d4 d5
 replace HC := hidp (HC.out.keep (Bdrew (B0 _)))
 replace HS := hidp (HS.out.keep (Bdrew (B0 _)))
 replace HD := hidp (HD.out.keep (Bdrew (B0 _)))
 replace HB := hidp (Bgo HB.out (Bdrew (B0 _)))
 refine wp_region_held_drew (S := (fun w' => (w'.cell? ⟨W.heap.size, 0, none⟩ = some (.int .i64 t) /\ w'.cell? ⟨W.heap.size, 1, none⟩ = some (.int .i64 p) /\ w'.cell? ⟨W.heap.size, 2, none⟩ = some (.int .i64 s)) /\ (w'.cell? ⟨W.heap.size + 1, 0, none⟩ = some (.slice A n c) /\ w'.cell? ⟨W.heap.size + 1, 1, none⟩ = some (.int .i64 (R 0)) /\ w'.cell? ⟨W.heap.size + 1, 2, none⟩ = some (.int .i64 (R 1)) /\ w'.cell? ⟨W.heap.size + 1, 3, none⟩ = some (.int .i64 (R 2)) /\ w'.cell? ⟨W.heap.size + 1, 4, none⟩ = some (.int .i64 (R 3)) /\ w'.cell? ⟨W.heap.size + 1, 5, none⟩ = some (.int .i64 (R 4)) /\ w'.cell? ⟨W.heap.size + 1, 6, none⟩ = some (.int .i64 (R 5)) /\ w'.cell? ⟨W.heap.size + 1, 7, none⟩ = some (.int .i64 (R 6)) /\ w'.cell? ⟨W.heap.size + 1, 8, none⟩ = some (.int .i64 (R 7))))) (by kernel_rfl) ?_ (fun hHeld => ?_)
 ·(try dsimp only)
  first | exact ⟨HC.out.three, nine26 HS.out⟩ | exact hHeld
 refine tkz 0 ?_
 refine tkz 1 ?_
 refine tkz 3 ?_
 refine tkz 4 ?_
 refine rdz 2 fun K hK => ?_
 go_simp
 (refine (mdOf_no t p s R A n c l hl (by omega) hcn _ (HIN.out.below HB.out) HWFL.out HX.out).mono ?_; rintro e w1 ⟨rfl, hb⟩; replace HC := hidp (HC.out.keep hb); replace HS := hidp (HS.out.keep hb); replace HD := hidp (HD.out.keep hb); replace HB := hidp (Bgo HB.out hb); clear hb)
 refine hK.out _ _ ?_ (fun hHeld => ?_)
 ·(try dsimp only)
  first | exact ⟨HC.out.three, nine26 HS.out⟩ | exact hHeld
 clear hK K
 (try simp only [Act.put, gA, gB, gC, sA, sB, sC])
 refine rdz 5 fun K hK => ?_
 go_simp
 (refine (r26Of_no t p s R A n c l hl (by omega) hcn _ (HIN.out.below HB.out) HX.out).mono ?_; rintro e w1 ⟨rfl, hb⟩; replace HC := hidp (HC.out.keep hb); replace HS := hidp (HS.out.keep hb); replace HD := hidp (HD.out.keep hb); replace HB := hidp (Bgo HB.out hb); clear hb)
 refine hK.out _ _ ?_ (fun hHeld => ?_)
 ·(try dsimp only)
  first | exact ⟨HC.out.three, nine26 HS.out⟩ | exact hHeld
 clear hK K
 (try simp only [Act.put, gA, gB, gC, sA, sB, sC])
 refine tkz 6 ?_
 refine tkz 7 ?_
 refine dnz ?_
 obtain ⟨c0, c1, c2⟩ := HC.out.three
 obtain ⟨s0, s1, s2, s3, s4, s5, s6, s7, s8⟩ := nine26 HS.out
 obtain ⟨d0, d1, d2, d3, d4, d5⟩ := six26 HD.out
 go_wp2_with fail
 refine (mdAllows_nil k a b err out aux _).mono ?_; rintro e w1 ⟨rfl, hb⟩
 clear c0 c1 c2 s0 s1 s2 s3 s4 s5 s6 s7 s8 d0 d1 d2 d3 d4 d5
 replace HC := hidp (HC.out.keep hb)
 replace HS := hidp (HS.out.keep hb)
 replace HD := hidp (HD.out.keep hb)
 replace HB := hidp (Bgo HB.out hb)
 clear hb
 obtain ⟨c0, c1, c2⟩ := HC.out.three
 obtain ⟨s0, s1, s2, s3, s4, s5, s6, s7, s8⟩ := nine26 HS.out
 obtain ⟨d0, d1, d2, d3, d4, d5⟩ := six26 HD.out
 go_wp2_with fail
 refine (mdState_nil _).mono ?_; rintro e w1 ⟨rfl, hb⟩
 clear c0 c1 c2 s0 s1 s2 s3 s4 s5 s6 s7 s8 d0 d1 d2 d3 d4 d5
 replace HC := hidp (HC.out.keep hb)
 replace HS := hidp (HS.out.keep hb)
 replace HD := hidp (HD.out.keep hb)
 replace HB := hidp (Bgo HB.out hb)
 clear hb
 obtain ⟨c0, c1, c2⟩ := HC.out.three
 obtain ⟨s0, s1, s2, s3, s4, s5, s6, s7, s8⟩ := nine26 HS.out
 obtain ⟨d0, d1, d2, d3, d4, d5⟩ := six26 HD.out
 go_wp2_with fail
 refine (xSame_c [] [] none none 0 0 0 0 0 0 0 0 0 0 0 0 0 0 0 0 0 0 0 0 0 0 _ rfl rfl (by omega) (by omega) (World.ownsRow_nil _ _ _ _) (World.ownsRow_nil _ _ _ _) true (by simp)).mono ?_; rintro e w1 ⟨rfl, hb⟩
 clear c0 c1 c2 s0 s1 s2 s3 s4 s5 s6 s7 s8 d0 d1 d2 d3 d4 d5
 replace HC := hidp (HC.out.keep hb)
 replace HS := hidp (HS.out.keep hb)
 replace HD := hidp (HD.out.keep hb)
 replace HB := hidp (Bgo HB.out hb)
 clear hb
 obtain ⟨c0, c1, c2⟩ := HC.out.three
 obtain ⟨s0, s1, s2, s3, s4, s5, s6, s7, s8⟩ := nine26 HS.out
 obtain ⟨d0, d1, d2, d3, d4, d5⟩ := six26 HD.out
 go_wp2_with fail
 refine (live26_c _ (HSL.out.below HB.out)).mono ?_; rintro e w1 ⟨rfl, hb⟩
 clear c0 c1 c2 s0 s1 s2 s3 s4 s5 s6 s7 s8 d0 d1 d2 d3 d4 d5
 replace HC := hidp (HC.out.keep hb)
 replace HS := hidp (HS.out.keep hb)
 replace HD := hidp (HD.out.keep hb)
 replace HB := hidp (Bgo HB.out hb)
 clear hb
 obtain ⟨c0, c1, c2⟩ := HC.out.three
 obtain ⟨s0, s1, s2, s3, s4, s5, s6, s7, s8⟩ := nine26 HS.out
 obtain ⟨d0, d1, d2, d3, d4, d5⟩ := six26 HD.out
 go_wp2_with fail
 go_ret
 exact ⟨rfl, HB.out⟩

set_option maxHeartbeats 12800000 in
theorem ModelAllows_some (t p s k a b err out aux : Int) (R : Nat -> Int) (A : Option Addr) (n c : Nat) (l : List (Int × Int)) (hl : l.length = n) (hn : n <= 60) (hcn : n <= c /\ c <= maxLen) (L : List (Int × Int)) (hLn : L.length <= 80000) (hX : ofM t p s l R = some L) (ab : Bool) (hab : allowM t p s L R k a b err out aux = ab) (u : Int) (nb : Bool) (hu : rdI t p s a = u /\ needB t p s a = nb) (hk : (-9223372036854775808 <= k /\ k <= 9223372036854775807)) (ha : (-9223372036854775808 <= a /\ a <= 9223372036854775807)) (hb0 : (-9223372036854775808 <= b /\ b <= 9223372036854775807)) (W : World) (hin : BkIn W A l) (hwf : ∀ x ∈ l, WfB x) (hT : SlotsLaid W) : Calls Tryd.prog 3 #[.agg #[.int .i64 t, .int .i64 p, .int .i64 s], .agg #[.slice A n c, .int .i64 (R 0), .int .i64 (R 1), .int .i64 (R 2), .int .i64 (R 3), .int .i64 (R 4), .int .i64 (R 5), .int .i64 (R 6), .int .i64 (R 7)], .agg #[.int .i64 k, .int .i64 a, .int .i64 b, .int .i64 err, .int .i64 out, .int .i64 aux]] W (Keeps W) := by
 have HX := hidp hX
 have HIN := hidp hin
 have HWFL := hidp hwf
 clear hwf
 have HAB := hidp hab
 have HU := hidp hu
 have e1 : (ab == ab) = true := by simp
 have e2 : (nb == nb) = true := by simp
 have e3 : (u == u) = true := by simp
 clear hX hin hab hu
 have HSL := hidp hT
 clear hT
 have HC := hidp (((Held.new W 23 #[.int .i64 t, .int .i64 p, .int .i64 s]).alloc (.cells #[.slice A n c, .int .i64 (R 0), .int .i64 (R 1), .int .i64 (R 2), .int .i64 (R 3), .int .i64 (R 4), .int .i64 (R 5), .int .i64 (R 6), .int .i64 (R 7)] 27)).alloc (.cells #[.int .i64 k, .int .i64 a, .int .i64 b, .int .i64 err, .int .i64 out, .int .i64 aux] 34))
 have HS := hidp ((Held.new2 W (.cells #[.int .i64 t, .int .i64 p, .int .i64 s] 23) 27 #[.slice A n c, .int .i64 (R 0), .int .i64 (R 1), .int .i64 (R 2), .int .i64 (R 3), .int .i64 (R 4), .int .i64 (R 5), .int .i64 (R 6), .int .i64 (R 7)]).alloc (.cells #[.int .i64 k, .int .i64 a, .int .i64 b, .int .i64 err, .int .i64 out, .int .i64 aux] 34))
 have HD : Hid (Held (((W.alloc (.cells #[.int .i64 t, .int .i64 p, .int .i64 s] 23)).alloc (.cells #[.slice A n c, .int .i64 (R 0), .int .i64 (R 1), .int .i64 (R 2), .int .i64 (R 3), .int .i64 (R 4), .int .i64 (R 5), .int .i64 (R 6), .int .i64 (R 7)] 27)).alloc (.cells #[.int .i64 k, .int .i64 a, .int .i64 b, .int .i64 err, .int .i64 out, .int .i64 aux] 34)) (W.heap.size + 1 + 1) 34 #[.int .i64 k, .int .i64 a, .int .i64 b, .int .i64 err, .int .i64 out, .int .i64 aux]) := hidp (by
  have h := Held.new ((W.alloc (.cells #[.int .i64 t, .int .i64 p, .int .i64 s] 23)).alloc (.cells #[.slice A n c, .int .i64 (R 0), .int .i64 (R 1), .int .i64 (R 2), .int .i64 (R 3), .int .i64 (R 4), .int .i64 (R 5), .int .i64 (R 6), .int .i64 (R 7)] 27)) 34 #[.int .i64 k, .int .i64 a, .int .i64 b, .int .i64 err, .int .i64 out, .int .i64 aux]
  rw [World.size_alloc, World.size_alloc] at h
  exact h)
 have HB : Hid (Below W.heap.size W (((W.alloc (.cells #[.int .i64 t, .int .i64 p, .int .i64 s] 23)).alloc (.cells #[.slice A n c, .int .i64 (R 0), .int .i64 (R 1), .int .i64 (R 2), .int .i64 (R 3), .int .i64 (R 4), .int .i64 (R 5), .int .i64 (R 6), .int .i64 (R 7)] 27)).alloc (.cells #[.int .i64 k, .int .i64 a, .int .i64 b, .int .i64 err, .int .i64 out, .int .i64 aux] 34))) := hidp (Bnew (Bnew (Bnew (B0 W) _) _) _)
 obtain ⟨c0, c1, c2⟩ := HC.out.three
 obtain ⟨s0, s1, s2, s3, s4, s5, s6, s7, s8⟩ := nine26 HS.out
 obtain ⟨d0, d1, d2, d3, d4, d5⟩ := six26 HD.out
 go_enter Tryd.func3, Tryd.ntmps3
 go_wp2_with fail
 refine (few26_c A n c R true (decide_eq_true hn) _).mono ?_; rintro e w1 ⟨rfl, hb⟩
 clear c0 c1 c2 s0 s1 s2 s3 s4 s5 s6 s7 s8 d0 d1 d2 d3 d4 d5
 replace HC := hidp (HC.out.keep hb)
 replace HS := hidp (HS.out.keep hb)
 replace HD := hidp (HD.out.keep hb)
 replace HB := hidp (Bgo HB.out hb)
 clear hb
 obtain ⟨c0, c1, c2⟩ := HC.out.three
 obtain ⟨s0, s1, s2, s3, s4, s5, s6, s7, s8⟩ := nine26 HS.out
 obtain ⟨d0, d1, d2, d3, d4, d5⟩ := six26 HD.out
 go_wp2_with fail
 clear c0 c1 c2 s0 s1 s2 s3 s4 s5 s6 s7 s8 d0 d1 d2 d3 d4 d5
 replace HC := hidp (HC.out.keep (Bdrew (B0 _)))
 replace HS := hidp (HS.out.keep (Bdrew (B0 _)))
 replace HD := hidp (HD.out.keep (Bdrew (B0 _)))
 replace HB := hidp (Bgo HB.out (Bdrew (B0 _)))
 refine wp_region_held_drew (S := (fun w' => (w'.cell? ⟨W.heap.size, 0, none⟩ = some (.int .i64 t) /\ w'.cell? ⟨W.heap.size, 1, none⟩ = some (.int .i64 p) /\ w'.cell? ⟨W.heap.size, 2, none⟩ = some (.int .i64 s)) /\ (w'.cell? ⟨W.heap.size + 1, 0, none⟩ = some (.slice A n c) /\ w'.cell? ⟨W.heap.size + 1, 1, none⟩ = some (.int .i64 (R 0)) /\ w'.cell? ⟨W.heap.size + 1, 2, none⟩ = some (.int .i64 (R 1)) /\ w'.cell? ⟨W.heap.size + 1, 3, none⟩ = some (.int .i64 (R 2)) /\ w'.cell? ⟨W.heap.size + 1, 4, none⟩ = some (.int .i64 (R 3)) /\ w'.cell? ⟨W.heap.size + 1, 5, none⟩ = some (.int .i64 (R 4)) /\ w'.cell? ⟨W.heap.size + 1, 6, none⟩ = some (.int .i64 (R 5)) /\ w'.cell? ⟨W.heap.size + 1, 7, none⟩ = some (.int .i64 (R 6)) /\ w'.cell? ⟨W.heap.size + 1, 8, none⟩ = some (.int .i64 (R 7))))) (by kernel_rfl) ?_ (fun hHeld => ?_)
 ·(try dsimp only)
  first | exact ⟨HC.out.three, nine26 HS.out⟩ | exact hHeld
 refine tkz 0 ?_
 refine tkz 1 ?_
 refine tkz 3 ?_
 refine tkz 4 ?_
 refine rdz 2 fun K hK => ?_
 go_simp
 (refine (mdOf_yes t p s R A n c l L hl (by omega) hcn _ (HIN.out.below HB.out) HWFL.out HX.out).mono ?_; rintro e w1 ⟨g1, F1, rfl, hF, hM, hb⟩; have HP := hidp hM; replace HC := hidp (HC.out.keep hb); replace HS := hidp (HS.out.keep hb); replace HD := hidp (HD.out.keep hb); replace HB := hidp (Bgo HB.out hb); clear hb hF hM)
 refine hK.out _ _ ?_ (fun hHeld => ?_)
 ·(try dsimp only)
  first | exact ⟨HC.out.three, nine26 HS.out⟩ | exact hHeld
 clear hK K
 (try simp only [Act.put, gA, gB, gC, sA, sB, sC])
 refine rdz 5 fun K hK => ?_
 go_simp
 (refine (r26Of_yes t p s R A n c l L hl (by omega) hcn _ (HIN.out.below HB.out) HX.out).mono ?_; rintro e w1 ⟨g2, rfl, hF, hM, hb⟩; have HM := hidp hM; replace HC := hidp (HC.out.keep hb); replace HS := hidp (HS.out.keep hb); replace HD := hidp (HD.out.keep hb); replace HP := hidp (HP.out.keep hb); replace HB := hidp (Bgo HB.out hb); clear hb hF hM)
 refine hK.out _ _ ?_ (fun hHeld => ?_)
 ·(try dsimp only)
  first | exact ⟨HC.out.three, nine26 HS.out⟩ | exact hHeld
 clear hK K
 (try simp only [Act.put, gA, gB, gC, sA, sB, sC])
 refine tkz 6 ?_
 refine tkz 7 ?_
 refine dnz ?_
 obtain ⟨c0, c1, c2⟩ := HC.out.three
 obtain ⟨s0, s1, s2, s3, s4, s5, s6, s7, s8⟩ := nine26 HS.out
 obtain ⟨d0, d1, d2, d3, d4, d5⟩ := six26 HD.out
 go_wp2_with fail
 refine (mdRound_c t p s a ha _ (HSL.out.below HB.out)).mono ?_; rintro e w1 ⟨rfl, hb⟩; rw [HU.out.1, HU.out.2]
 clear c0 c1 c2 s0 s1 s2 s3 s4 s5 s6 s7 s8 d0 d1 d2 d3 d4 d5
 replace HC := hidp (HC.out.keep hb)
 replace HS := hidp (HS.out.keep hb)
 replace HD := hidp (HD.out.keep hb)
 replace HP := hidp (HP.out.keep hb)
 replace HM := hidp (HM.out.keep hb)
 replace HB := hidp (Bgo HB.out hb)
 clear hb
 obtain ⟨c0, c1, c2⟩ := HC.out.three
 obtain ⟨s0, s1, s2, s3, s4, s5, s6, s7, s8⟩ := nine26 HS.out
 obtain ⟨d0, d1, d2, d3, d4, d5⟩ := six26 HD.out
 go_wp2_with fail
 refine (r26Round_c t p s a ha _).mono ?_; rintro e w1 ⟨rfl, hb⟩; rw [HU.out.1, HU.out.2]
 clear c0 c1 c2 s0 s1 s2 s3 s4 s5 s6 s7 s8 d0 d1 d2 d3 d4 d5
 replace HC := hidp (HC.out.keep hb)
 replace HS := hidp (HS.out.keep hb)
 replace HD := hidp (HD.out.keep hb)
 replace HP := hidp (HP.out.keep hb)
 replace HM := hidp (HM.out.keep hb)
 replace HB := hidp (Bgo HB.out hb)
 clear hb
 obtain ⟨c0, c1, c2⟩ := HC.out.three
 obtain ⟨s0, s1, s2, s3, s4, s5, s6, s7, s8⟩ := nine26 HS.out
 obtain ⟨d0, d1, d2, d3, d4, d5⟩ := six26 HD.out
 go_wp2_with fail
 clear c0 c1 c2 s0 s1 s2 s3 s4 s5 s6 s7 s8 d0 d1 d2 d3 d4 d5
 obtain ⟨A2, cc2, hm, ho⟩ := HM.out.ex
 have HG := hidp hm
 have HO := hidp ho
 clear hm ho
 replace HC := hidp (HC.out.keep (Bdrew (B0 _)))
 replace HS := hidp (HS.out.keep (Bdrew (B0 _)))
 replace HD := hidp (HD.out.keep (Bdrew (B0 _)))
 replace HP := hidp (HP.out.keep (Bdrew (B0 _)))
 replace HM := hidp (HM.out.keep (Bdrew (B0 _)))
 replace HG := hidp (HG.out.keep (Bdrew (B0 _)))
 replace HB := hidp (Bgo HB.out (Bdrew (B0 _)))
 replace HO := hidp (own_below HO.out (Bdrew (B0 _)))
 refine wp_region_held_drew (S := (fun w' => (w'.cell? ⟨W.heap.size + 1 + 1, 0, none⟩ = some (.int .i64 k) /\ w'.cell? ⟨W.heap.size + 1 + 1, 1, none⟩ = some (.int .i64 a) /\ w'.cell? ⟨W.heap.size + 1 + 1, 2, none⟩ = some (.int .i64 b) /\ w'.cell? ⟨W.heap.size + 1 + 1, 3, none⟩ = some (.int .i64 err) /\ w'.cell? ⟨W.heap.size + 1 + 1, 4, none⟩ = some (.int .i64 out) /\ w'.cell? ⟨W.heap.size + 1 + 1, 5, none⟩ = some (.int .i64 aux)) /\ (w'.cell? ⟨g2, 3, none⟩ = some (.slice A2 L.length cc2) /\ w'.cell? ⟨g2, 4, none⟩ = some (.int .i64 (R 0)) /\ w'.cell? ⟨g2, 5, none⟩ = some (.int .i64 (R 1)) /\ w'.cell? ⟨g2, 6, none⟩ = some (.int .i64 (R 2)) /\ w'.cell? ⟨g2, 7, none⟩ = some (.int .i64 (R 3)) /\ w'.cell? ⟨g2, 8, none⟩ = some (.int .i64 (R 4)) /\ w'.cell? ⟨g2, 9, none⟩ = some (.int .i64 (R 5)) /\ w'.cell? ⟨g2, 10, none⟩ = some (.int .i64 (R 6)) /\ w'.cell? ⟨g2, 11, none⟩ = some (.int .i64 (R 7))))) (by kernel_rfl) ?_ (fun hHeld => ?_)
 ·(try dsimp only)
  first | exact ⟨six26 HD.out, mc12 HG.out⟩ | exact hHeld
 refine tkz 0 ?_
 refine tkz 1 ?_
 refine tkz 2 ?_
 refine tkz 3 ?_
 refine tkz 4 ?_
 refine tkz 5 ?_
 refine tkz 6 ?_
 refine tkz 7 ?_
 refine tkz 9 ?_
 refine tkz 10 ?_
 refine tkz 11 ?_
 refine tkz 12 ?_
 refine tkz 13 ?_
 refine rdz 8 fun K hK => ?_
 go_simp
 (refine (mdAllows_c HP.out (by omega) k a b err out aux hk ha hb0 (HSL.out.below HB.out)).mono ?_; rintro e w1 ⟨rfl, hb⟩; rw [HAB.out]; replace HC := hidp (HC.out.keep hb); replace HS := hidp (HS.out.keep hb); replace HD := hidp (HD.out.keep hb); replace HP := hidp (HP.out.keep hb); replace HM := hidp (HM.out.keep hb); replace HG := hidp (HG.out.keep hb); replace HB := hidp (Bgo HB.out hb); replace HO := hidp (own_below HO.out hb); clear hb)
 refine hK.out _ _ ?_ (fun hHeld => ?_)
 ·(try dsimp only)
  first | exact ⟨six26 HD.out, mc12 HG.out⟩ | exact hHeld
 clear hK K
 (try simp only [Act.put, gA, gB, gC, sA, sB, sC])
 refine rdz 14 fun K hK => ?_
 go_simp
 (refine (r26Allow_c HM.out (by omega) k a b err out aux hk ha hb0).mono ?_; rintro e w1 ⟨rfl, hb⟩; rw [HAB.out]; replace HC := hidp (HC.out.keep hb); replace HS := hidp (HS.out.keep hb); replace HD := hidp (HD.out.keep hb); replace HP := hidp (HP.out.keep hb); replace HM := hidp (HM.out.keep hb); replace HG := hidp (HG.out.keep hb); replace HB := hidp (Bgo HB.out hb); replace HO := hidp (own_below HO.out hb); clear hb)
 refine hK.out _ _ ?_ (fun hHeld => ?_)
 ·(try dsimp only)
  first | exact ⟨six26 HD.out, mc12 HG.out⟩ | exact hHeld
 clear hK K
 (try simp only [Act.put, gA, gB, gC, sA, sB, sC])
 refine tkz 15 ?_
 refine tkz 16 ?_
 refine tkz 17 ?_
 refine tkz 18 ?_
 refine tkz 20 ?_
 refine tkz 21 ?_
 refine tkz 22 ?_
 refine tkz 23 ?_
 refine rdz 19 fun K hK => ?_
 go_simp
 (refine (mdState_c HP.out (by omega)).mono ?_; rintro e w1 ⟨A3, cc3, rfl, hq, hb⟩; replace HC := hidp (HC.out.keep hb); replace HS := hidp (HS.out.keep hb); replace HD := hidp (HD.out.keep hb); replace HP := hidp (HP.out.keep hb); replace HM := hidp (HM.out.keep hb); replace HG := hidp (HG.out.keep hb); replace HB := hidp (Bgo HB.out hb); replace HO := hidp (own_below HO.out hb); have HQ := hidp hq; clear hq; clear hb)
 refine hK.out _ _ ?_ (fun hHeld => ?_)
 ·(try dsimp only)
  first | exact ⟨six26 HD.out, mc12 HG.out⟩ | exact hHeld
 clear hK K
 (try simp only [Act.put, gA, gB, gC, sA, sB, sC])
 refine rdz 24 fun K hK => ?_
 go_simp
 (refine (xSame_c L L A3 A2 L.length L.length cc3 cc2 _ _ (R 0) (R 1) (R 2) (R 3) (R 4) (R 5) (R 6) (R 7) (R 0) (R 1) (R 2) (R 3) (R 4) (R 5) (R 6) (R 7) _ rfl rfl (by omega) (by omega) HQ.out HO.out true (by simp)).mono ?_; rintro e w1 ⟨rfl, hb⟩; replace HC := hidp (HC.out.keep hb); replace HS := hidp (HS.out.keep hb); replace HD := hidp (HD.out.keep hb); replace HP := hidp (HP.out.keep hb); replace HM := hidp (HM.out.keep hb); replace HG := hidp (HG.out.keep hb); replace HB := hidp (Bgo HB.out hb); replace HO := hidp (own_below HO.out hb); clear hb)
 refine hK.out _ _ ?_ (fun hHeld => ?_)
 ·(try dsimp only)
  first | exact ⟨six26 HD.out, mc12 HG.out⟩ | exact hHeld
 clear hK K
 (try simp only [Act.put, gA, gB, gC, sA, sB, sC])
 refine tkz 25 ?_
 refine tkz 26 ?_
 refine tkz 27 ?_
 refine tkz 28 ?_
 refine tkz 29 ?_
 refine tkz 30 ?_
 refine tkz 31 ?_
 refine tkz 32 ?_
 refine tkz 33 ?_
 refine tkz 34 ?_
 refine tkz 35 ?_
 refine tkz 36 ?_
 refine rdz 37 fun K hK => ?_
 go_simp
 (refine (live26_c _ (HSL.out.below HB.out)).mono ?_; rintro e w1 ⟨rfl, hb⟩; replace HC := hidp (HC.out.keep hb); replace HS := hidp (HS.out.keep hb); replace HD := hidp (HD.out.keep hb); replace HP := hidp (HP.out.keep hb); replace HM := hidp (HM.out.keep hb); replace HG := hidp (HG.out.keep hb); replace HB := hidp (Bgo HB.out hb); replace HO := hidp (own_below HO.out hb); clear hb)
 refine hK.out _ _ ?_ (fun hHeld => ?_)
 ·(try dsimp only)
  first | exact ⟨six26 HD.out, mc12 HG.out⟩ | exact hHeld
 clear hK K
 (try simp only [Act.put, gA, gB, gC, sA, sB, sC])
 refine tkz 38 ?_
 refine tkz 39 ?_
 refine dnz ?_
 go_wp2_with fail
 go_ret
 exact ⟨rfl, HB.out⟩

theorem ofL_len (g e : Int) : ∀ (l : List (Int × Int)) (L : List (Int × Int)), ofL g e l = some L -> L.length <= l.length := by
 intro l
 have h : ∀ (i : Nat) (L : List (Int × Int)), i <= l.length -> ofL g e (l.take i) = some L -> L.length <= i := by
  intro i
  induction i with
  | zero => intro L _ h; simp [ofL] at h; subst h; simp
  | succ i ih =>
   intro L hi h
   have hx : l.take (i + 1) = l.take i ++ [l[i]] := by rw [List.take_add_one, List.getElem?_eq_getElem (by omega)]; rfl
   rw [hx, ofL_snoc] at h
   cases e1 : ofL g e (l.take i) with
   | none => rw [e1] at h; cases h
   | some L1 =>
    rw [e1] at h
    unfold ofStep at h
    dsimp only at h
    split at h
    ·injection h with h
     subst h
     have h1 := ih L1 (by omega) e1
     have h2 := addB_len L1 l[i]
     omega
    ·cases h
 intro L hL
 exact h l.length L (Nat.le_refl _) (by rw [List.take_length]; exact hL)
theorem ofM_len {t p s : Int} {l L : List (Int × Int)} {R : Nat -> Int} (h : ofM t p s l R = some L) : L.length <= l.length := by
 unfold ofM at h
 split at h
 ·split at h
  ·cases h
  ·rename_i L1 h1
   split at h
   ·injection h with h
    subst h
    exact ofL_len _ _ _ _ h1
   ·cases h
 ·cases h

theorem ModelAllows_calls (t p s k a b err out aux : Int) (R : Nat -> Int) (A : Option Addr) (n c : Nat) (l : List (Int × Int)) (hl : l.length = n) (hcn : n <= c /\ c <= maxLen) (hk : (-9223372036854775808 <= k /\ k <= 9223372036854775807)) (ha : (-9223372036854775808 <= a /\ a <= 9223372036854775807)) (hb0 : (-9223372036854775808 <= b /\ b <= 9223372036854775807)) (W : World) (hin : BkIn W A l) (hwf : ∀ x ∈ l, WfB x) (hT : SlotsLaid W) : Calls Tryd.prog 3 #[.agg #[.int .i64 t, .int .i64 p, .int .i64 s], .agg #[.slice A n c, .int .i64 (R 0), .int .i64 (R 1), .int .i64 (R 2), .int .i64 (R 3), .int .i64 (R 4), .int .i64 (R 5), .int .i64 (R 6), .int .i64 (R 7)], .agg #[.int .i64 k, .int .i64 a, .int .i64 b, .int .i64 err, .int .i64 out, .int .i64 aux]] W (Keeps W) := by
 by_cases hn : n <= 60
 ·cases hX : ofM t p s l R with
  | none => exact ModelAllows_none t p s k a b err out aux R A n c l hl hn hcn hX W hin hwf hT
  | some L => exact ModelAllows_some t p s k a b err out aux R A n c l hl hn hcn L (by have := ofM_len hX; omega) hX _ rfl _ _ ⟨rfl, rfl⟩ hk ha hb0 W hin hwf hT
 ·exact ModelAllows_many t p s k a b err out aux R A n c (by omega) W hT
end
end Go.Proofs.YtedakmhffjhfnaaDoor

namespace Go.Proofs.YtedakmhffjhfnaaDoor
open Go.ChangeShapes Go.WideShapes Go.ChangeAt Go.RowKit
set_option linter.unusedVariables false
set_option linter.unusedSimpArgs false
section
set_option maxRecDepth 100000 in
theorem open_conf {H : Type} {enc : TypeId × Value -> H} {W : World} {b base : Nat} {sp : Nat -> Bool} {held : Bool} {v : Value} {d : DataW H} {p : List MemPlace}
  (hv : Value.okWide Tryd.prog W .any b 23 v) (h : DataW.Trod enc Tryd.prog W base sp held 23 v d p) :
  ∃ (t q s : Int), v = .agg #[.int .i64 t, .int .i64 q, .int .i64 s] := by
 obtain ⟨v0, v1, v2, y0, y1, y2, m, rfl, rfl, rfl, h0, h1, h2⟩ := Joins.open_agg3 Tryd.underlying23 (by kernel_rfl) (by kernel_rfl) hv h
 obtain ⟨a, e0, _, w0⟩ := DataW.trod_int Tryd.underlying3 h0
 obtain ⟨c, e1, _, w1⟩ := DataW.trod_int Tryd.underlying3 h1
 obtain ⟨k, e2, _, w2⟩ := DataW.trod_int Tryd.underlying3 h2
 simp at e0 e1 e2
 subst e0 e1 e2
 exact ⟨a, c, k, rfl⟩
end
end Go.Proofs.YtedakmhffjhfnaaDoor

namespace Go.Proofs.YtedakmhffjhfnaaDoor
open Go.ChangeShapes Go.WideShapes Go.ChangeAt Go.RowKit
set_option linter.unusedVariables false
section
section
variable {H : Type} {enc : TypeId × Value -> H}
theorem law_lifted_laid {C : Checked} {os : Os} {f : FuncId} {fn : Func} {s : ChangeSpec} {tb : TypeId} {laid : List (String × DataW Unit)}
  (own : ownKnob C.prog.godebug = none) (started : os.Started) (noInit : C.prog.inits.idxOf? f = none) (hfn : C.prog.funcs[f]? = some fn)
  (witness : ∃ (w : World) (tape : Tape) (i : Input), w.os = os /\ (w.forCall tape i).Shaped C.prog /\ i.vars = [] /\ Input.okWide C.prog (w.forCall tape i) .any w.heap.size f i /\
   ((s.pre enc C.prog fn [] false (w.forCall tape i).memory i.args /\ laidMetH C.prog laid (w.forCall tape i).memory) /\ sizedMet enc C.prog fn (OpenSpec.ofChange s) false (w.forCall tape i).memory i.args) /\
   ({} : Assume).holds C.prog (lone (Frame.enter C.prog f i.args .normal) [] (w.forCall tape i)))
  (hl : laidOutB C.prog = true) (hp : (fn.params.toList.all fun t => C.prog.readableRec t && decide (t < C.prog.types.size)) = true) (hv : s.vars = []) (hr : fn.resultTypes = #[tb]) (htb : C.prog.underlying tb = some .bool)
  (hs : ∀ ds : List (DataW H), ds.length = fn.params.size -> s.fn H ds = ⟨[.lit (.bool true)], ds, []⟩)
  (walk : ∀ (W : World) (base : Nat) (args : Array Value) (ds : List (DataW H)) (ps : List MemPlace), laidMetH C.prog laid W -> Given enc C.prog fn W base args ds ps -> Calls C.prog f args W (Keeps W)) :
  ReturnsInHanded {} C os f .any (fun w args => (s.pre enc C.prog fn [] false w args /\ laidMetH C.prog laid w) /\ sizedMet enc C.prog fn (OpenSpec.ofChange s) false w args) (s.post enc C.prog fn false true false false) := by
 refine returnsInHanded_of_change_and (C := C) (X := fun w _ => laidMetH C.prog laid w) (fun _ _ _ hh h => h.of_heap hh) own started noInit hfn witness ?_
 intro W base args ds gs before hval hW _ hsz hL _
 have hW0 := hW
 obtain ⟨p, q, hA, hV, rfl, hz, hn⟩ := hW0
 rw [hv] at hV
 obtain ⟨rfl, rfl⟩ := trodVars_none hV
 have hvt : s.plain.varTypes C.prog = [] := by
  simp [ChangeSpec.plain, DataSpec.varTypes, hv]
 rw [hvt, List.append_nil, List.append_nil] at hsz
 have hp' : ∀ t ∈ fn.params.toList, C.prog.readableRec t = true /\ t < C.prog.types.size := fun t ht => by
  have := List.all_eq_true.1 hp t ht
  simpa using this
 refine (walk W base args ds p hL ⟨hval, hA, fun x hx => hW.lt x (List.mem_append_left _ hx), hsz⟩).mono ?_
 rintro e W' ⟨rfl, hb⟩
 exact ⟨_, rfl, law_post hl hp' hv hr htb hs hW hb⟩
end

theorem card_of {p : Pinned} {s : OpenSpec} {c : OpenClaim} {kinds : List LaidKind} {tests : Bool} {har : Bool × String} {lk : Bool} (f : FuncId) (fn : Func)
  (hc : c.holds p s) (hw : c.wfByText s = true) (htie : c.laidByTextAt .later p kinds tests) (hst : c.start = .entering) (hnb : c.noBlocks = false /\ c.again = false)
  (hm : p.checked.prog.mainIs = some (har.1, har.2.toList)) (hn : (!har.1 && har.2.isEmpty && !lk) = false) (hname : p.checked.prog.funcNamed c.func = some f) (hfn : p.checked.prog.funcs[f]? = some fn)
  (hlk : lk = p.checked.prog.looks []) (hps : (fn.params.toList.all fun t => !p.checked.prog.wantsStandIn t) = true) (hg : false = c.goesBy p.checked.prog) :
  Claim7.holds p (.plain s) { stood := { row := c, standIns := [], harness := har, looks := lk }, kinds := [], alts := [], laidByText := true, laidKinds := kinds, laidTests := tests, laidLooks := .later } :=
 Claim7.holds_tied_plain_at .later [] kinds tests har lk hc (fun _ h => by cases h) hw (fun _ h => by cases h) htie hst hnb hm hn
  (fun f' fn' hf' hfn' => by
   obtain rfl := Option.some.inj (hname.symm.trans hf')
   obtain rfl := Option.some.inj (hfn.symm.trans hfn')
   refine ⟨hlk, fun j t ht => ?_⟩
   have := List.all_eq_true.1 hps t (by simpa using Array.mem_of_getElem? ht)
   simpa using this)
  hg

theorem tab_of_laid {P : Program} {W : World} {laid : List (String × DataW Unit)} {name : String} {k : IntKind} {zs : List Int} {g : Nat} {t e : TypeId} {n : Nat}
  (h : laidMetH P laid W) (hf : (laid.filter fun x => x.1 == name) = [(name, Lib.tabData k zs)])
  (hg : P.globalNamed name = some g) (hty : (P.globals[g]?).map (·.type) = some t) (ht : P.underlying t = some (.array n e)) (he : P.underlying e = some (.int k)) (hce : P.cellsOf e = 1) (hct : P.cellsOf t = n) :
  ∀ i, i < zs.length -> W.cell? ⟨g, i, none⟩ = some (.int k (zs.getD i 0)) := by
 have h1 := h.filter (fun x => x.1 == name)
 rw [hf, MakeChecks.laidMetH_plain _ _ _ (by rfl)] at h1
 exact fun i hi => (Lib.tabIs_of_head hg hty ht he hce hct h1).cell hg i hi
end
section
theorem slots26_laid {W : World} {laid : List (String × DataW Unit)} (h : laidMetH Tryd.prog laid W)
  (hf : (laid.filter fun x => x.1 == "nacre/class.slots") = [("nacre/class.slots", Lib.tabData .i64 [32, 21, 16, 10, 8, 5, 4, 3, 2])]) : SlotsLaid W := by
 have h1 := tab_of_laid h hf (g := 0) (t := 116) (e := 3) (n := 9) (by kernel_rfl) (by kernel_rfl) Tryd.underlying116 Tryd.underlying3 (by kernel_rfl) (by kernel_rfl)
 intro k hk
 rw [h1 k (by simpa using hk)]
 have : ∀ j, j < 9 -> ([32, 21, 16, 10, 8, 5, 4, 3, 2] : List Int).getD j 0 = ((slotN j : Nat) : Int) := by decide
 rw [this k hk]
end
end Go.Proofs.YtedakmhffjhfnaaDoor
