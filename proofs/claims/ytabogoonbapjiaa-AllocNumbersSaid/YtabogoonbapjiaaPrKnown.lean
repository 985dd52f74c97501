/-
  The law's known: chapter 11's runs; what the laws draw.
-/
import Derived.Test.YtabogoonbapjiaaPrFacts
import Derived.Test.YtabogoonbapjiaaFiSizes
namespace Go.Proofs.Ytabogoonbapjiaa
open Go.RowKit
set_option linter.unusedVariables false
set_option linter.unusedSimpArgs false

theorem small_I64 {l : List Int} (h : l.all (fun x => decide (-1000000 ≤ x) && decide (x ≤ 1000000)) = true) : ∀ x ∈ l, I64 x := fun x hx => by
  have := List.all_eq_true.1 h x hx
  simp only [Bool.and_eq_true, decide_eq_true_eq] at this
  exact ⟨by omega, by omega⟩
/-- What the laws draw: right numbers, and a part of their sum. -/
theorem drawn_part (xs : List Int) (small : Int) : ∃ m k : Nat, sumL (sizeL xs) = (m : Int) ∧ withinN small m = k ∧ m ≤ 40000000 ∧ k ≤ m ∧ (sizeL xs).length ≤ 40 ∧ rightL (sizeL xs) k = true := by
  have ok := size_ok xs
  have hl := size_len xs
  obtain ⟨b1, b2⟩ := sumL_bound (sizeL xs) 1000000 (fun x hx => by have := ok x hx; omega)
  have hle := withinN_le small (sumL (sizeL xs)).toNat
  refine ⟨(sumL (sizeL xs)).toNat, withinN small (sumL (sizeL xs)).toNat, by omega, rfl, by omega, hle, by omega, (right_iff _ _).2 ⟨by omega, ok, by omega, by omega⟩⟩

end Go.Proofs.Ytabogoonbapjiaa
