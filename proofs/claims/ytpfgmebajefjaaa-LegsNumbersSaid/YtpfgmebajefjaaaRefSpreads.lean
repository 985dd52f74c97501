/-
  Contract: Spread, of the document's own answer.
-/
import Derived.Test.YtpfgmebajefjaaaRefPrice
namespace Go.Proofs.Ytpfgmebajefjaaa
open Go.RowKit
set_option linter.unusedVariables false
set_option linter.unusedSimpArgs false

/-- The first instrument from k on, d of them looked at, whose legs are near and far. -/
def spreadFrom (p : PD) (near far : Int) : Nat → Nat → Int × Bool
  | 0, _ => (0, false)
  | d + 1, k => if (legsL p k).1 = near ∧ (legsL p k).2.1 = far then ((k : Int), true) else spreadFrom p near far d (k + 1)
def spreadI (p : PD) (near far : Int) : Int × Bool := spreadFrom p near far (cntL p - p.n1) p.n1
theorem spreadFrom_zero (p : PD) (near far : Int) (k : Nat) : spreadFrom p near far 0 k = (0, false) := rfl
theorem spreadFrom_succ (p : PD) (near far : Int) (d k : Nat) : spreadFrom p near far (d + 1) k = if (legsL p k).1 = near ∧ (legsL p k).2.1 = far then ((k : Int), true) else spreadFrom p near far d (k + 1) := rfl
theorem cntL_le (p : PD) : cntL p ≤ 21 := by
  unfold cntL
  by_cases h : chk p = 0
  · rw [if_pos h]
    have := chk_zero h
    have cs : p.n1 = 2 ∨ p.n1 = 3 ∨ p.n1 = 4 ∨ p.n1 = 5 ∨ p.n1 = 6 := by omega
    rcases cs with h | h | h | h | h <;> rw [h] <;> decide
  · rw [if_neg h]; omega

end Go.Proofs.Ytpfgmebajefjaaa
