/-
  What the law RefdataRules leans on: a spread is found by its legs, an instrument by its name.
-/
import Derived.Test.YtbigmbpclikenaaRdRight
import Derived.Test.YtbigmbpclikenaaRdSpread
import Derived.Test.YtbigmbpclikenaaRdPrice
namespace Go.Proofs.Ytbigmbpclikenaa
open Go.RowKit
set_option linter.unusedVariables false
set_option linter.unusedSimpArgs false

theorem legs_split {p : PD} {k : Nat} (h : k < cntL p) : (k < p.n1 ∧ legsL p k = ((k : Int), (k : Int), false)) ∨ (p.n1 ≤ k ∧ ∃ i j : Nat, legsL p k = ((i : Int), (j : Int), true) ∧ i < j ∧ j < p.n1) := by
  have hz := (legs_range (p := p) (inst := (k : Int)) (by omega) (by omega)).1
  obtain ⟨i, j, e, hi, hj, hij, _, _, _⟩ := name_split (p := p) (inst := (k : Int)) (by omega) (by omega)
  have kd := legs_kind h
  rw [e] at kd
  simp only at kd
  by_cases c : k < p.n1
  · refine .inl ⟨c, ?_⟩
    rw [legs_is hz]
    unfold legsN
    rw [if_pos c]
  · have hne := kd.2 (by omega)
    exact .inr ⟨by omega, i, j, by rw [e, decide_eq_true (by omega)], by omega, hj⟩
theorem legs_apart : ∀ n, n < 7 → ∀ k, k < 21 → ∀ m, m < k → k < n + n * (n - 1) / 2 → ¬ ((legsN n m).1 = (legsN n k).1 ∧ (legsN n m).2.1 = (legsN n k).2.1) := by decide +kernel
theorem spread_hit (p : PD) (near far : Int) (k : Nat) (hm : (legsL p k).1 = near ∧ (legsL p k).2.1 = far) : ∀ (d k0 : Nat), (∀ m : Nat, k0 ≤ m → m < k → ¬ ((legsL p m).1 = near ∧ (legsL p m).2.1 = far)) → k0 ≤ k → k < k0 + d → spreadFrom p near far d k0 = ((k : Int), true) := by
  intro d
  induction d with
  | zero => intro k0 _ h1 h2; omega
  | succ d ih =>
    intro k0 hall h1 h2
    rw [spreadFrom_succ]
    by_cases c : k0 = k
    · subst c; rw [if_pos hm]
    · rw [if_neg (hall k0 (Nat.le_refl _) (by omega))]
      exact ih (k0 + 1) (fun m g1 g2 => hall m (by omega) g2) (by omega) (by omega)
theorem spread_miss (p : PD) (near far : Int) : ∀ (d k0 : Nat), (∀ m : Nat, k0 ≤ m → m < k0 + d → ¬ ((legsL p m).1 = near ∧ (legsL p m).2.1 = far)) → spreadFrom p near far d k0 = (0, false) := by
  intro d
  induction d with
  | zero => intro k0 _; rfl
  | succ d ih =>
    intro k0 hall
    rw [spreadFrom_succ, if_neg (hall k0 (Nat.le_refl _) (by omega))]
    exact ih (k0 + 1) (fun m g1 g2 => hall m (by omega) (by omega))
theorem spread_of {p : PD} {k : Nat} (h : k < cntL p) (hk : p.n1 ≤ k) : spreadI p (legsL p k).1 (legsL p k).2.1 = ((k : Int), true) := by
  have hz := (legs_range (p := p) (inst := (k : Int)) (by omega) (by omega)).1
  have hn := chk_zero hz
  have hc : cntL p = p.n1 + p.n1 * (p.n1 - 1) / 2 := by unfold cntL; rw [if_pos hz]
  have h21 := Nat.lt_of_lt_of_le h (cntL_le p)
  unfold spreadI
  refine spread_hit p _ _ k ⟨rfl, rfl⟩ _ _ (fun m g1 g2 => ?_) hk (by omega)
  rw [legs_is hz, legs_is hz]
  exact legs_apart p.n1 (by omega) k h21 m g2 (hc ▸ h)
theorem spread_none {p : PD} {k : Nat} (h : k < cntL p) : spreadI p k k = (0, false) := by
  unfold spreadI
  refine spread_miss p _ _ _ _ (fun m g1 g2 e => ?_)
  exact (legs_kind (p := p) (k := m) (by omega)).2 g1 (e.1.trans e.2.symm)
theorem find_hit (p : PD) (l : List UInt8) (k : Nat) (hm : nameL p k = l) : ∀ (d k0 : Nat), (∀ m : Nat, k0 ≤ m → m < k → nameL p m ≠ l) → k0 ≤ k → k < k0 + d → findFrom p l d k0 = ((k : Int), true) := by
  intro d
  induction d with
  | zero => intro k0 _ h1 h2; omega
  | succ d ih =>
    intro k0 hall h1 h2
    rw [findFrom_succ]
    by_cases c : k0 = k
    · subst c; rw [if_pos hm]
    · rw [if_neg (hall k0 (Nat.le_refl _) (by omega))]
      exact ih (k0 + 1) (fun m g1 g2 => hall m (by omega) g2) (by omega) (by omega)
def nmT (n k : Nat) : List UInt8 := if (legsN n k).1 = (legsN n k).2.1 then codeL [206, 169] (10 * (legsN n k).1 + 3) else codeL [206, 169] (10 * (legsN n k).1 + 3) ++ 45 :: codeL [206, 169] (10 * (legsN n k).2.1 + 3)
theorem nmT_apart : ∀ n, n < 6 → ∀ k, k < 15 → ∀ m, m < k → k < n + n * (n - 1) / 2 → nmT n m ≠ nmT n k := by decide +kernel
theorem find_of {p : PD} (hz : chk p = 0) (h5 : p.n1 ≤ 5) (hcode : p.code = [206, 169]) (hQ : ∀ i : Nat, p.Q i = 10 * (i : Int) + 3) {k : Nat} (h : k < cntL p) : findI p (nameL p k) = ((k : Int), true) := by
  have hn := chk_zero hz
  have hc : cntL p = p.n1 + p.n1 * (p.n1 - 1) / 2 := by unfold cntL; rw [if_pos hz]
  have h15 : cntL p ≤ 15 := by
    rw [hc]
    have cs : p.n1 = 2 ∨ p.n1 = 3 ∨ p.n1 = 4 ∨ p.n1 = 5 := by omega
    rcases cs with h | h | h | h <;> rw [h] <;> decide
  have nm : ∀ m : Nat, m < cntL p → nameL p m = nmT p.n1 m := fun m hm => by
    obtain ⟨i, j, e, _, _, _, _, _, e2⟩ := name_split (p := p) (inst := (m : Int)) (by omega) (by omega)
    rw [legs_is hz] at e
    rw [e2, hcode, hQ, hQ]
    unfold nmT
    rw [e]
    show _ = if (i : Int) = (j : Int) then codeL [206, 169] (10 * (i : Int) + 3) else codeL [206, 169] (10 * (i : Int) + 3) ++ 45 :: codeL [206, 169] (10 * (j : Int) + 3)
    by_cases c : i = j
    · rw [if_pos c, if_pos (by omega)]
    · rw [if_neg c, if_neg (by omega)]
  unfold findI
  refine find_hit p _ k rfl _ _ (fun m _ g2 => ?_) (by omega) (by omega)
  rw [nm m (by omega), nm k h]
  exact nmT_apart p.n1 (by omega) k (by omega) m g2 (hc ▸ h)
theorem price_zero {p : PD} (hz : chk p = 0) (h1 : p.low ≤ 0) (h2 : 0 ≤ p.high) {k : Nat} (h : k < cntL p) : priceL p k 0 = 0 := by
  have hf := chk_facts hz
  rw [price_eq hz (by omega) (by omega)]
  rw [show multB 0 p.tick = true from decide_eq_true ⟨hf.2.2.2.2.1, Int.zero_tmod _⟩, if_neg (by decide)]
  have hw := hf.2.2.2.2.2.2.2.2.2.1
  by_cases c : (legsL p k).1 = (legsL p k).2.1
  · rw [if_pos c, if_pos c, show insB 0 p.low p.high = true from decide_eq_true ⟨h1, h2⟩, if_neg (by decide)]
  · rw [if_neg c, if_neg c, show insB 0 (-p.wide) p.wide = true from decide_eq_true ⟨by omega, by omega⟩, if_neg (by decide)]
theorem cnt_mul {p : PD} (hz : chk p = 0) : ((p.n1 : Int) * ((p.n1 : Int) + 1)) / 2 = (cntL p : Int) ∧ (p.n1 : Int) * ((p.n1 : Int) + 1) ≤ 42 ∧ p.n1 * (p.n1 + 1) / 2 = cntL p := by
  have hn := chk_zero hz
  have hc : cntL p = p.n1 + p.n1 * (p.n1 - 1) / 2 := by unfold cntL; rw [if_pos hz]
  rw [hc]
  have cs : p.n1 = 2 ∨ p.n1 = 3 ∨ p.n1 = 4 ∨ p.n1 = 5 ∨ p.n1 = 6 := by omega
  rcases cs with h | h | h | h | h <;> rw [h] <;> decide
end Go.Proofs.Ytbigmbpclikenaa
