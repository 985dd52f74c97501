/-
  Lists of quotes, some left out: where each that is kept stands.
-/
import Derived.Test.YtdeofifidjbolaaImFacts2
import Derived.Test.YtdeofifidjbolaaImQuotes
namespace Go.Proofs.Ytdeofifidjbolaa
open Go.RowKit
set_option linter.unusedVariables false
set_option linter.unusedSimpArgs false

/-- How many of the first k are kept. -/
def keptN (f : Qt → Bool) (L : List Qt) (k : Nat) : Nat := ((L.take k).filter f).length
theorem keptN_zero (f : Qt → Bool) (L : List Qt) : keptN f L 0 = 0 := by unfold keptN; rw [List.take_zero]; rfl
theorem keptN_end (f : Qt → Bool) (L : List Qt) : keptN f L L.length = (L.filter f).length := by unfold keptN; rw [List.take_length]
theorem keptN_yes {f : Qt → Bool} {L : List Qt} {k : Nat} {x : Qt} (h : L[k]? = some x) (hf : f x = true) : keptN f L (k + 1) = keptN f L k + 1 := by
  unfold keptN; rw [filter_next f h, if_pos hf, List.length_append]; rfl
theorem keptN_no {f : Qt → Bool} {L : List Qt} {k : Nat} {x : Qt} (h : L[k]? = some x) (hf : f x = false) : keptN f L (k + 1) = keptN f L k := by
  unfold keptN; rw [filter_next f h, if_neg (by rw [hf]; decide), List.append_nil]
theorem keptN_at {f : Qt → Bool} {L : List Qt} {k : Nat} {x : Qt} (h : L[k]? = some x) (hf : f x = true) : (L.filter f)[keptN f L k]? = some x := by
  have hk := (List.getElem?_eq_some_iff.1 h).1
  have e : L = L.take k ++ x :: L.drop (k + 1) := by
    rw [← (List.getElem?_eq_some_iff.1 h).2, ← List.drop_eq_getElem_cons hk, List.take_append_drop]
  have e2 : L.filter f = (L.take k).filter f ++ x :: (L.drop (k + 1)).filter f := by
    conv => lhs; rw [e]
    rw [List.filter_append, List.filter_cons, if_pos hf]
  unfold keptN
  rw [e2, List.getElem?_append_right (Nat.le_refl _), Nat.sub_self]; rfl
theorem keptN_le (f : Qt → Bool) (L : List Qt) (k : Nat) : keptN f L k ≤ L.length := by
  unfold keptN
  exact Nat.le_trans (List.length_filter_le _ _) (by rw [List.length_take]; omega)
end Go.Proofs.Ytdeofifidjbolaa
