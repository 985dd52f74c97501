/-
  Plain facts on numbers of 64 bits, for the walks of package ints: no program is named here.
-/
import Derived.WalkKit
namespace Go.Proofs.Ytabogoonbapjiaa
open Go.RowKit
/-- Does an int64 hold it? -/
def fitB (x : Int) : Bool := decide (-9223372036854775808 ≤ x ∧ x ≤ 9223372036854775807)
/-- The number itself where an int64 holds it, else 0. -/
def pick (x : Int) : Int := bif fitB x then x else 0
theorem fitB_iff (x : Int) : fitB x = true ↔ (-9223372036854775808 ≤ x ∧ x ≤ 9223372036854775807) := by
  unfold fitB; exact decide_eq_true_iff
theorem fitB_yes {x : Int} (h1 : -9223372036854775808 ≤ x) (h2 : x ≤ 9223372036854775807) : fitB x = true := (fitB_iff x).2 ⟨h1, h2⟩
theorem fitB_no {x : Int} (h : ¬ (-9223372036854775808 ≤ x ∧ x ≤ 9223372036854775807)) : fitB x = false := by
  unfold fitB; exact decide_eq_false h
theorem pick_yes {x : Int} (h : fitB x = true) : pick x = x := by unfold pick; rw [h]; rfl
theorem pick_no {x : Int} (h : fitB x = false) : pick x = 0 := by unfold pick; rw [h]; rfl
theorem pick_bd (x : Int) : -9223372036854775808 ≤ pick x ∧ pick x ≤ 9223372036854775807 := by
  unfold pick
  cases h : fitB x
  · show (-9223372036854775808 : Int) ≤ 0 ∧ (0 : Int) ≤ 9223372036854775807
    omega
  · exact (fitB_iff x).1 h
theorem ret2 {k : IntKind} {x y : Int} {b c : Bool} (h1 : x = y) (h2 : b = c) : Ending.returned (.tuple #[.int k x, .bool b]) = .returned (.tuple #[.int k y, .bool c]) := by rw [h1, h2]
theorem ret2_yes {x : Int} (h : fitB x = true) : Ending.returned (.tuple #[.int .i64 x, .bool true]) = .returned (.tuple #[.int .i64 (pick x), .bool (fitB x)]) := ret2 (pick_yes h).symm h.symm
theorem ret2_no {x : Int} (h : fitB x = false) : Ending.returned (.tuple #[.int .i64 0, .bool false]) = .returned (.tuple #[.int .i64 (pick x), .bool (fitB x)]) := ret2 (pick_no h).symm h.symm
theorem wrap_lo {x : Int} (h1 : -18446744073709551616 ≤ x) (h2 : x < -9223372036854775808) : decide (wrap64 x < 0) = false := by
  refine decide_eq_false ?_; unfold wrap64; omega
theorem wrap_hi {x : Int} (h1 : 9223372036854775807 < x) (h2 : x < 18446744073709551616) : decide (wrap64 x < 0) = true := by
  refine decide_eq_true ?_; unfold wrap64; omega
theorem ret1 {k : IntKind} {a b : Int} (h : a = b) : Ending.returned (.int k a) = .returned (.int k b) := by rw [h]
/-- The upper half of a number, as 128 bits have it. -/
def sgn (a : Int) : Int := if a < 0 then 18446744073709551615 else 0
theorem size_neg {a : Int} (a1 : -9223372036854775808 ≤ a) (h : a < 0) : IntKind.u64.wrap (-IntKind.u64.wrap a) = a.natAbs := by
  rw [IntKind.wrap_u64, IntKind.wrap_u64]; omega
theorem below_eq {a : Int} (a1 : 0 ≤ a) (h : a ≤ 9223372036854775808) : wrap64 (IntKind.u64.wrap (-a)) = -a := by
  rw [IntKind.wrap_u64]; unfold wrap64; omega
theorem sgn_eq {a : Int} (a1 : -9223372036854775808 ≤ a) (a2 : a ≤ 9223372036854775807) : IntKind.u64.wrap (a / 9223372036854775808) = sgn a := by
  rw [IntKind.wrap_u64]; unfold sgn; split <;> omega
theorem tmod_neg {a b : Int} (hr : a % b = 0) : a.tmod b = 0 := Int.tmod_eq_zero_of_dvd (Int.dvd_of_emod_eq_zero hr)
theorem tmod_neg' {a b : Int} (ha : a < 0) (hb : 1 ≤ b) (hr : a % b ≠ 0) : a.tmod b = a % b - b := by
  rw [Int.tmod_eq_emod]
  have hd : ¬ b ∣ a := fun h => hr (Int.emod_eq_zero_of_dvd h)
  rw [if_neg (by simp [hd]; omega)]
  omega
end Go.Proofs.Ytabogoonbapjiaa
