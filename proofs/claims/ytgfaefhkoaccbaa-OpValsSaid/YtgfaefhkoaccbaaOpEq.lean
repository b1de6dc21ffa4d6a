/-
  Arrays of three words and of four values that are the same are equal.
-/
import Derived.Test.YtgfaefhkoaccbaaLaw
import Derived.ChangeKeysEq
namespace Go.Proofs.Ytgfaefhkoaccbaa
open Go.ChangeShapes Go.WideShapes Go.ChangeAt Go.RowKit
set_option linter.unusedVariables false
set_option linter.unusedSimpArgs false
set_option maxRecDepth 100000

theorem eqStep64 (d : Nat) (xs ys : Array Value) (i : Nat) (a : Int) (is : List Nat) (w : World) (hx : xs[i]? = some (.int .u64 a)) (hy : ys[i]? = some (.int .u64 a)) :
    (Op.eqItems (d + 1) 24 1 xs ys (i :: is)).run Try.prog w = (Op.eqItems (d + 1) 24 1 xs ys is).run Try.prog w := by
  have p1 := run_part_plain (P := Try.prog) w (e := 24) (by kernel_rfl) (off := i * 1) (by rw [Nat.mul_one]; exact hx)
  have p2 := run_part_plain (P := Try.prog) w (e := 24) (by kernel_rfl) (off := i * 1) (by rw [Nat.mul_one]; exact hy)
  have p3 := run_equalIn_int (P := Try.prog) w d 24 .u64 .u64 a a Try.underlying24
  simp only [Op.eqItems, Sem.run_bind, p1, p2, p3, Result.andThen_ok]
  simp
theorem eqStep32 (d : Nat) (xs ys : Array Value) (i : Nat) (a : Int) (is : List Nat) (w : World) (hx : xs[i]? = some (.int .u32 a)) (hy : ys[i]? = some (.int .u32 a)) :
    (Op.eqItems (d + 1) 35 1 xs ys (i :: is)).run Try.prog w = (Op.eqItems (d + 1) 35 1 xs ys is).run Try.prog w := by
  have p1 := run_part_plain (P := Try.prog) w (e := 35) (by kernel_rfl) (off := i * 1) (by rw [Nat.mul_one]; exact hx)
  have p2 := run_part_plain (P := Try.prog) w (e := 35) (by kernel_rfl) (off := i * 1) (by rw [Nat.mul_one]; exact hy)
  have p3 := run_equalIn_int (P := Try.prog) w d 35 .u32 .u32 a a Try.underlying35
  simp only [Op.eqItems, Sem.run_bind, p1, p2, p3, Result.andThen_ok]
  simp
theorem eq3_same (a b c : Int) (w : World) : (Op.equalIn 10000 25 (.agg #[.int .u64 a, .int .u64 b, .int .u64 c]) (.agg #[.int .u64 a, .int .u64 b, .int .u64 c])).run Try.prog w = .ok true w := by
  obtain ⟨i, hi⟩ : ∃ i, Try.prog.info? 24 = some i := Option.isSome_iff_exists.1 (by kernel_rfl)
  have hc : Try.prog.cellsOf 24 = 1 := by kernel_rfl
  show (Op.equalIn (9999 + 1) _ _ _).run _ _ = _
  rw [run_equalIn_array w 9999 _ _ Try.underlying25 hi, hc]
  show (Op.eqItems (9998 + 1) 24 1 _ _ [0, 1, 2]).run _ _ = _
  rw [eqStep64 9998 _ _ 0 a _ w rfl rfl, eqStep64 9998 _ _ 1 b _ w rfl rfl, eqStep64 9998 _ _ 2 c _ w rfl rfl]
  simp [Op.eqItems]
theorem eq4_same (a b c e : Int) (w : World) : (Op.equalIn 10000 36 (.agg #[.int .u32 a, .int .u32 b, .int .u32 c, .int .u32 e]) (.agg #[.int .u32 a, .int .u32 b, .int .u32 c, .int .u32 e])).run Try.prog w = .ok true w := by
  obtain ⟨i, hi⟩ : ∃ i, Try.prog.info? 35 = some i := Option.isSome_iff_exists.1 (by kernel_rfl)
  have hc : Try.prog.cellsOf 35 = 1 := by kernel_rfl
  show (Op.equalIn (9999 + 1) _ _ _).run _ _ = _
  rw [run_equalIn_array w 9999 _ _ Try.underlying36 hi, hc]
  show (Op.eqItems (9998 + 1) 35 1 _ _ [0, 1, 2, 3]).run _ _ = _
  rw [eqStep32 9998 _ _ 0 a _ w rfl rfl, eqStep32 9998 _ _ 1 b _ w rfl rfl, eqStep32 9998 _ _ 2 c _ w rfl rfl, eqStep32 9998 _ _ 3 e _ w rfl rfl]
  simp [Op.eqItems]
end Go.Proofs.Ytgfaefhkoaccbaa
