/-
  The command that CommandFirst turns.
-/
import Derived.Test.YtdbaphmhfoajgaaCmdLaws
namespace Go.Proofs.Ytdbaphmhfoajgaa
open Go.RowKit
set_option linter.unusedVariables false
set_option linter.unusedSimpArgs false

/-- The command that is turned: place j of the page is bad where a ≤ j and j < b. -/
def fC (a b : Nat) : C := ⟨if a ≤ 0 ∧ 0 < b then 9 else 1, if a ≤ 1 ∧ 1 < b then 0 else 1, if a ≤ 8 ∧ 8 < b then 256 else 1, if a ≤ 2 ∧ 2 < b then 7 else 2, if a ≤ 7 ∧ 7 < b then 1125899906842624 else 5, if a ≤ 4 ∧ 4 < b then 0 else 5, if a ≤ 5 ∧ 5 < b then -1 else 0, if a ≤ 3 ∧ 3 < b then 0 else 1, if a ≤ 6 ∧ 6 < b then [1] else []⟩
def whyN (a : Nat) : Nat := [31, 1, 21, 27, 24, 28, 29, 23, 20].getD a 0
theorem fC_start (a : Nat) : fC a a = ⟨1, 1, 1, 2, 5, 5, 0, 1, []⟩ := by
  have h : ∀ j, ¬ (a ≤ j ∧ j < a) := fun j => by omega
  unfold fC
  rw [if_neg (h 0), if_neg (h 1), if_neg (h 8), if_neg (h 2), if_neg (h 7), if_neg (h 4), if_neg (h 5), if_neg (h 3), if_neg (h 6)]
theorem fC_0 {a : Nat} (h : a ≤ 0) : fC a 1 = { fC a 0 with k := 9 } := by
  unfold fC
  simp [h]
theorem fC_1 {a : Nat} (h : a ≤ 1) : fC a 2 = { fC a 1 with i := 0 } := by
  unfold fC
  simp [h]
theorem fC_2 {a : Nat} (h : a ≤ 2) : fC a 3 = { fC a 2 with s := 7 } := by
  unfold fC
  simp [h]
theorem fC_3 {a : Nat} (h : a ≤ 3) : fC a 4 = { fC a 3 with t := 0 } := by
  unfold fC
  simp [h]
theorem fC_4 {a : Nat} (h : a ≤ 4) : fC a 5 = { fC a 4 with q := 0 } := by
  unfold fC
  simp [h]
theorem fC_5 {a : Nat} (h : a ≤ 5) : fC a 6 = { fC a 5 with l := (-1) } := by
  unfold fC
  simp [h]
theorem fC_6 {a : Nat} (h : a ≤ 6) : fC a 7 = { fC a 6 with S := [1] } := by
  unfold fC
  simp [h]
theorem fC_7 {a : Nat} (h : a ≤ 7) : fC a 8 = { fC a 7 with p := 1125899906842624 } := by
  unfold fC
  simp [h]
theorem fC_8 {a : Nat} (h : a ≤ 8) : fC a 9 = { fC a 8 with n := 256 } := by
  unfold fC
  simp [h]
theorem nine {a : Nat} (h : a ≤ 8) : a = 0 ∨ a = 1 ∨ a = 2 ∨ a = 3 ∨ a = 4 ∨ a = 5 ∨ a = 6 ∨ a = 7 ∨ a = 8 := by omega
theorem bad_label : rightB [1] = false := by decide
theorem fC_right {a : Nat} (h : a ≤ 8) : (fC a 9).right = whyN a := by
  rcases nine h with rfl | rfl | rfl | rfl | rfl | rfl | rfl | rfl | rfl <;> simp [fC, C.right, rightL, whyN, bad_label]
theorem whyN_ne {a : Nat} (h : a ≤ 8) : whyN a ≠ 0 := by
  rcases nine h with rfl | rfl | rfl | rfl | rfl | rfl | rfl | rfl | rfl <;> decide
theorem fC_ok {a : Nat} (h : a ≤ 8) : (fC a 9).Ok := by
  rcases nine h with rfl | rfl | rfl | rfl | rfl | rfl | rfl | rfl | rfl <;> refine ⟨?_, ?_, ?_, ?_, ?_, ?_, ?_, ?_, fun _ => ?_⟩ <;> simp [fC, I64]
end Go.Proofs.Ytdbaphmhfoajgaa
