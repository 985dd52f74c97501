/-
  An instrument's legs are months of its product (out of XRefName, for seats that name none).
-/
import Derived.Test.YtpfgmebajefjaaaRefSpreads
import Derived.Deep.RegionHeld3
namespace Go.Proofs.Ytpfgmebajefjaaa
open Go.RowKit
set_option linter.unusedVariables false
set_option linter.unusedSimpArgs false

theorem pairFrom_range : ∀ n, n < 7 → ∀ r, r < 15 → r < n * (n - 1) / 2 → 0 ≤ (pairFrom n n r).1 ∧ (pairFrom n n r).1 < (pairFrom n n r).2.1 ∧ (pairFrom n n r).2.1 < n ∧ (pairFrom n n r).2.2 = true := by decide
/-- The legs of an instrument. -/
theorem legs_range {p : PD} {inst : Int} (h : 0 ≤ inst) (h2 : inst < cntL p) : chk p = 0 ∧ ∃ i j : Nat, legsL p inst = ((i : Int), (j : Int), decide ((p.n1 : Int) ≤ inst)) ∧ i < p.n1 ∧ j < p.n1 := by
  unfold cntL at h2
  by_cases h0 : chk p = 0
  · rw [if_pos h0] at h2
    refine ⟨h0, ?_⟩
    unfold legsL
    have hn := chk_zero h0
    rw [if_neg (by omega)]
    by_cases q : inst < p.n1
    · rw [if_pos q, decide_eq_false (by omega)]
      exact ⟨inst.toNat, inst.toNat, by rw [Int.toNat_of_nonneg h], by omega, by omega⟩
    · rw [if_neg q, decide_eq_true (by omega)]
      have hr : (inst - p.n1).toNat < p.n1 * (p.n1 - 1) / 2 := by omega
      have hb : p.n1 * (p.n1 - 1) / 2 ≤ 15 := by
        have cs : p.n1 = 2 ∨ p.n1 = 3 ∨ p.n1 = 4 ∨ p.n1 = 5 ∨ p.n1 = 6 := by omega
        rcases cs with h | h | h | h | h <;> rw [h] <;> decide
      obtain ⟨g1, g2, g3, g4⟩ := pairFrom_range p.n1 (by omega) (inst - p.n1).toNat (by omega) hr
      obtain ⟨⟨x, y, z⟩, e⟩ : ∃ l, pairFrom p.n1 p.n1 (inst - p.n1).toNat = l := ⟨_, rfl⟩
      rw [e] at g1 g2 g3 g4 ⊢
      simp only at g1 g2 g3 g4
      subst g4
      exact ⟨x.toNat, y.toNat, by rw [Int.toNat_of_nonneg g1, Int.toNat_of_nonneg (by omega)], by omega, by omega⟩
  · rw [if_neg h0] at h2; omega
end Go.Proofs.Ytpfgmebajefjaaa
