/-
  The contracts of Mul (package ints and the document's own), of math/bits.Mul64 and Add64 as the walks want them.
-/
import Derived.Test.YtabogoonbapjiaaLeaf2
import Derived.Test.YtabogoonbapjiaaMulPlain
import Derived.Test.YtabogoonbapjiaaShelf
import Derived.Laws.Externs
namespace Go.Proofs.Ytabogoonbapjiaa
open Go.RowKit
set_option linter.unusedVariables false

/-- math/bits.Mul64, its two halves under names. -/
theorem Mul64_to (x y hi lo : Int) (w : World) (x1 : 0 ≤ x) (x2 : x < 18446744073709551616) (y1 : 0 ≤ y) (y2 : y < 18446744073709551616) (h : hi * 18446744073709551616 + lo = x * y) (l1 : 0 ≤ lo) (l2 : lo < 18446744073709551616) :
    Calls Try.prog 39 #[.int .u64 x, .int .u64 y] w fun e w' => e = .returned (.tuple #[.int .u64 hi, .int .u64 lo]) ∧ w = w' := by
  obtain ⟨x, rfl⟩ := Int.eq_ofNat_of_zero_le x1
  obtain ⟨y, rfl⟩ := Int.eq_ofNat_of_zero_le y1
  have hp : ((x * y : Nat) : Int) = (x : Int) * (y : Int) := Int.natCast_mul x y
  have e1 : ((x * y / 18446744073709551616 : Nat) : Int) = hi := by omega
  have e2 : ((x * y % 18446744073709551616 : Nat) : Int) = lo := by omega
  have c := Try.bits_Mul64 x y (by omega) (by omega) w
  rw [e1, e2] at c
  exact c.mono fun e w' h => ⟨h.1, h.2.symm⟩

/-- math/bits.Add64. -/
theorem Add64_to (x y c : Int) (x1 : 0 ≤ x) (y1 : 0 ≤ y) (c1 : 0 ≤ c) (c2 : c ≤ 1) (w : World) : (callFunc 45 #[.int .u64 x, .int .u64 y, .int .u64 c]).run Try.prog w =
    .ok (.value (.tuple #[.int .u64 ((x + y + c) % 18446744073709551616), .int .u64 ((x + y + c) / 18446744073709551616)])) w := by
  rw [run_callFunc_extern Try.func45 (by kernel_rfl) (by kernel_rfl) (by kernel_rfl) (e := add64Entry) (by kernel_rfl), run_add64 x y c x1 y1 c1 c2]
  rfl

end Go.Proofs.Ytabogoonbapjiaa
