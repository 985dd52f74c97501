/-
  Quotes' prices are near, their legs stand on sides; so is what is shown of them.
-/
import Derived.Test.YtdeofifidjbolaaImFacts2
import Derived.Test.YtdeofifidjbolaaImFacts3
import Derived.Test.YtdeofifidjbolaaImShow
namespace Go.Proofs.Ytdeofifidjbolaa
open Go.RowKit
set_option linter.unusedVariables false
set_option linter.unusedSimpArgs false

theorem joinQ_near {T : List Tp} (h : ∀ x ∈ T, x.Near) {a sa b sb how : Int} {q : Qt} (hq : q ∈ joinQ T a sa b sb how) : -2000000 ≤ q.p ∧ q.p ≤ 2000000 := by
  obtain ⟨rfl, -, -⟩ := joinQ_mem hq
  exact legPrice_near ((topAt_near h a).price sa) ((topAt_near h b).price sb) how
theorem laterQ_near (p : PD) {T : List Tp} (h : ∀ x ∈ T, x.Near) {inst side : Int} {q : Qt} (d : Nat) (m : Int) (hq : q ∈ laterQ p T inst side d m) : -2000000 ≤ q.p ∧ q.p ≤ 2000000 := by
  induction d generalizing m with
  | zero => cases hq
  | succ d ih =>
    rw [laterQ] at hq
    rcases List.mem_append.1 hq with e | e
    · exact joinQ_near h e
    · exact ih (m + 1) e
theorem earlierQ_near (p : PD) {T : List Tp} (h : ∀ x ∈ T, x.Near) {inst side : Int} {q : Qt} (d : Nat) (m : Int) (hq : q ∈ earlierQ p T inst side d m) : -2000000 ≤ q.p ∧ q.p ≤ 2000000 := by
  induction d generalizing m with
  | zero => cases hq
  | succ d ih =>
    rw [earlierQ] at hq
    rcases List.mem_append.1 hq with e | e
    · exact joinQ_near h e
    · exact ih (m + 1) e
theorem allQ_near {p : PD} {T : List Tp} (h : ∀ x ∈ T, x.Near) {inst side : Int} {q : Qt} (hq : q ∈ allQ p T inst side) : -2000000 ≤ q.p ∧ q.p ≤ 2000000 := by
  unfold allQ at hq
  split at hq
  · split at hq
    · exact joinQ_near h hq
    · rcases List.mem_append.1 hq with e | e
      · exact laterQ_near p h _ _ e
      · exact earlierQ_near p h _ _ e
  · cases hq
theorem quotes_near {p : PD} {T : List Tp} (h : ∀ x ∈ T, x.Near) {inst side : Int} {q : Qt} (hq : q ∈ quotesQ p T inst side) : (-2000000 ≤ q.p ∧ q.p ≤ 2000000) ∧ (q.s1 = 1 ∨ q.s1 = 2) ∧ (q.s2 = 1 ∨ q.s2 = 2) := by
  have ha := (List.mem_filter.1 hq).1
  have hr := allQ_rule ha
  exact ⟨allQ_near h ha, hr.s1, hr.s2⟩
theorem show_near {l : List Qt} (h : ∀ q ∈ l, -2000000 ≤ q.p ∧ q.p ≤ 2000000) (s : Int) : -2000000 ≤ (showP l s).1 ∧ (showP l s).1 ≤ 2000000 := by
  cases l with
  | nil => exact ⟨by show (-2000000 : Int) ≤ 0; decide, by show (0 : Int) ≤ 2000000; decide⟩
  | cons x r =>
    show -2000000 ≤ (bestFrom s x r).p ∧ (bestFrom s x r).p ≤ 2000000
    rcases bestFrom_mem s x r with e | e
    · rw [e]; exact h x (by simp)
    · exact h _ (by simp [e])
end Go.Proofs.Ytdeofifidjbolaa
