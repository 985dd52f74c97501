/-
  The keep's product is a right one: what the laws of implied ask of it.
-/
import Derived.Test.YtdeofifidjbolaaImFacts6
import Derived.Test.YtdeofifidjbolaaImFacts5
import Derived.Test.YtdeofifidjbolaaGaBase
namespace Go.Proofs.Ytdeofifidjbolaa
open Go.RowKit
set_option linter.unusedVariables false
set_option linter.unusedSimpArgs false

theorem keepP_chk (p : PD) (A1 : Option Addr) (c1 : Nat) (A2 : Option Addr) (c2 : Nat) : chk (keepP p A1 c1 A2 c2) = 0 := by
  have := withinN_le p.n1 3
  have := withinN_le p.tick 9
  have := withinN_le p.rule 2
  have := withinN_le p.top 9
  have := withinN_le p.least 4
  have := withinN_le p.part 100
  have := withinN_le p.wide 60
  have h := shift_chk A1 A2 c1 c2 (2 + withinN p.n1 3) (1 + (withinN p.tick 9 : Int)) (withinN p.wide 60) (1 + (withinN p.rule 2 : Int)) (withinN p.top 9) (1 + (withinN p.least 4 : Int)) (withinN p.part 100) 0 (by omega) (by omega) (by omega) (by omega) (by omega) (by omega) (by omega) (by omega) (by omega) (by omega) (by omega) (by omega) (by omega) (by omega) (by omega) (by omega)
  simp only [Int.mul_zero, Int.add_zero] at h
  exact h
/-- What the laws ask of the keep's product. -/
structure PD.Keep (p : PD) : Prop where
  z : chk p = 0
  t1 : 1 ≤ p.tick
  t2 : p.tick ≤ 10
  h1 : 0 ≤ p.high
  h2 : p.high ≤ 1000
  n : p.n2 = p.n1
theorem keepP_keep (p : PD) (A1 : Option Addr) (c1 : Nat) (A2 : Option Addr) (c2 : Nat) : (keepP p A1 c1 A2 c2).Keep := by
  have := withinN_le p.tick 9
  exact ⟨keepP_chk p A1 c1 A2 c2, by show 1 ≤ 1 + (withinN p.tick 9 : Int); omega, by show 1 + (withinN p.tick 9 : Int) ≤ 10; omega, by show 0 ≤ 100 * (1 + (withinN p.tick 9 : Int)); omega, by show 100 * (1 + (withinN p.tick 9 : Int)) ≤ 1000; omega, rfl⟩
theorem KProd14 (p : PD) (w : World) (h : Hid (p.Fit w)) :
    Calls Try.prog 17 #[p.val] w fun e w' => ∃ P : PD, e = .returned P.val ∧ P.Keep ∧ P.Ok w' ∧ Below w.heap.size w w' :=
  (KProduct_any p w h).mono fun e w' ⟨A1, c1, A2, c2, h1, h2, h3⟩ => ⟨_, h1, keepP_keep p A1 c1 A2 c2, h2, h3⟩
theorem PD.Keep.cnt {p : PD} (h : p.Keep) : 2 ≤ p.n1 ∧ p.n1 ≤ 6 ∧ p.n1 ≤ cntL p ∧ cntL p ≤ 21 ∧ 3 ≤ cntL p := by
  have a := chk_zero h.z
  have b : cntL p = p.n1 + p.n1 * (p.n1 - 1) / 2 := by unfold cntL; rw [if_pos h.z]
  have c := cntL_le p
  have d : p.n1 = 2 ∨ p.n1 = 3 ∨ p.n1 = 4 ∨ p.n1 = 5 ∨ p.n1 = 6 := by omega
  rcases d with e | e | e | e | e <;> rw [e] at b ⊢ <;> omega
theorem pd_blk' {w W : World} {g : Nat} {cs : Array Value} (h : w.heap[g]? = some (.cells cs 25 (0, 0))) (b : Below w.heap.size w W) : W.heap[g]? = some (.cells cs 25 (0, 0)) := (b.block g (Array.getElem?_eq_some_iff.1 h).1).trans h
end Go.Proofs.Ytdeofifidjbolaa
