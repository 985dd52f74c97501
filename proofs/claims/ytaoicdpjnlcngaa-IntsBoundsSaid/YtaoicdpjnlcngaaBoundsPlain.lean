/-
  The walk of the law IntsBounds.
-/
import Derived.Test.YtaoicdpjnlcngaaYes
namespace Go.Proofs.Ytaoicdpjnlcngaa
open Go.RowKit
set_option linter.unusedVariables false

theorem half_of {x : Int} (h : x < 0) : ∃ T t : Int, x.tdiv 2 = T ∧ x.tmod 2 = t ∧ -1 ≤ t ∧ t ≤ 0 ∧ x ≤ 2 * T + t ∧ 2 * T + t ≤ x := by
  have e := Int.mul_tdiv_add_tmod x 2
  have h1 := Int.tmod_lt_of_pos x (b := 2) (by decide)
  have h2 : -x.tmod 2 = (-x) % 2 := by rw [← Int.neg_tmod, Int.tmod_eq_emod_of_nonneg (by omega)]
  exact ⟨_, _, rfl, rfl, by omega, by omega, by omega, by omega⟩
theorem half_sum {x : Int} (h1 : -2 ≤ x) (h2 : x ≤ 0) : ∃ C : Int, x.tdiv 2 = C ∧ x ≤ 2 * C ∧ 2 * C ≤ x + 1 := by
  rcases (show x = -2 ∨ x = -1 ∨ x = 0 by omega) with rfl | rfl | rfl
  · exact ⟨-1, by decide, by decide, by decide⟩
  · exact ⟨0, by decide, by decide, by decide⟩
  · exact ⟨0, by decide, by decide, by decide⟩
theorem half_mix {x : Int} (h1 : -1 ≤ x) (h2 : x ≤ 1) : x.tdiv 2 = 0 := by
  rcases (show x = -1 ∨ x = 0 ∨ x = 1 by omega) with rfl | rfl | rfl <;> decide

theorem share_floor {a b : Int} (a0 : 0 ≤ a) (b1 : 1 ≤ b) : ∃ q f : Int, a * 1 / b = q ∧ a - a % b = f ∧ 0 ≤ q ∧ q ≤ a ∧ 0 ≤ q * b ∧ q * b ≤ a ∧ q * b ≤ f ∧ f ≤ q * b ∧ a / b ≤ q ∧ q ≤ a / b := by
  have d := Int.mul_ediv_add_emod a b
  rw [Int.mul_comm] at d
  have e := Int.emod_nonneg a (b := b) (by omega)
  have q0 : 0 ≤ a / b := Int.ediv_nonneg a0 (by omega)
  exact ⟨a / b, a - a % b, by rw [Int.mul_one], rfl, q0, Int.ediv_le_self b a0, Int.mul_nonneg q0 (by omega), by omega, by omega, by omega, by omega, by omega⟩
end Go.Proofs.Ytaoicdpjnlcngaa
