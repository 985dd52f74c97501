/-
  Plain: the two prices of a spread, and what bounds them.
-/
import Derived.Test.YtpfgmebajefjaaaRdPrice
import Derived.Test.YtpfgmebajefjaaaKeepProduct
namespace Go.Proofs.Ytpfgmebajefjaaa
open Go.RowKit
set_option linter.unusedVariables false
set_option linter.unusedSimpArgs false

def shiftB (low high x : Int) : Int := if high < x then high - x else if x < low then low - x else 0
/-- The settled price of the far month. -/
def farL (p : PD) (inst : Int) : Int := p.R (legsL p inst).2.1.toNat
def pricesL (p : PD) (inst x : Int) : Int × Int × Nat :=
  if chk p ≠ 0 then (0, 0, 1) else if (legsL p inst).2.2 = false then (0, 0, 20) else if priceL p inst x ≠ 0 then (0, 0, priceL p inst x) else
    (farL p inst + x + shiftB p.low p.high (farL p inst + x), farL p inst + shiftB p.low p.high (farL p inst + x), 0)
theorem chk_settle {p : PD} (h : chk p = 0) : ∀ i, i < p.n2 → p.low ≤ p.R i ∧ p.R i ≤ p.high := by
  rw [chk_eq] at h
  repeat' split at h
  all_goals first | (simp at h; done) | skip
  rename_i a b c d e f g
  have e2 : rsB p = true := by cases hr : rsB p <;> simp_all
  unfold rsB at e2
  exact (of_decide_eq_true e2).2
theorem spread_facts {p : PD} {inst x : Int} (hz : chk p = 0) (hs : (legsL p inst).2.2 = true) :
    ∃ j : Nat, (legsL p inst).2.1 = (j : Int) ∧ j < p.n2 ∧ farL p inst = p.R j ∧ p.low ≤ p.R j ∧ p.R j ≤ p.high ∧ -1000000 ≤ p.low ∧ p.low < p.high ∧ p.high ≤ 1000000 ∧ p.wide ≤ p.high - p.low ∧ (priceL p inst x = 0 → -p.wide ≤ x ∧ x ≤ p.wide) := by
  have hin : 0 ≤ inst ∧ inst < cntL p := by
    apply Classical.byContradiction
    intro h
    rw [legs_none h] at hs
    cases hs
  obtain ⟨-, i, j, e, hi, hj⟩ := legs_range hin.1 hin.2
  obtain ⟨-, c1, c2, -, c3, c4, c5, c6, c7, c8, c9, c10⟩ := chk_facts hz
  have hR := chk_settle hz j (by omega)
  refine ⟨j, by rw [e], by omega, by unfold farL; rw [e]; rfl, hR.1, hR.2, c5, c6, c7, c9, fun hp => ?_⟩
  unfold priceL at hp
  rw [if_neg (by simpa using hz), if_neg (by omega), if_pos hs] at hp
  repeat' split at hp
  all_goals first | (exact absurd hp (by decide)) | skip
  omega
theorem shift_in {low high x : Int} (h : low < high) : low ≤ x + shiftB low high x ∧ x + shiftB low high x ≤ high := by
  unfold shiftB; repeat' split
  all_goals omega
theorem pd_blk' {w W : World} {g : Nat} {cs : Array Value} {t : TypeId} (h : w.heap[g]? = some (.cells cs t (0, 0))) (b : Below w.heap.size w W) : W.heap[g]? = some (.cells cs t (0, 0)) := (b.block g (Array.getElem?_eq_some_iff.1 h).1).trans h
theorem below_top' {w0 w1 w2 : World} (h1 : Below w0.heap.size w0 w1) (h2 : Below w1.heap.size w1 w2) : Below w0.heap.size w0 w2 := h1.trans (h2.mono h1.size)
end Go.Proofs.Ytpfgmebajefjaaa
