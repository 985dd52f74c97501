/-
  What the law ProrataRules asks: plain lists.
-/
import Derived.Test.YtoflnfdkcbpgeaaPrKnown
namespace Go.Proofs.Ytoflnfdkcbpgeaa
open Go.RowKit
set_option linter.unusedVariables false
set_option linter.unusedSimpArgs false

theorem rules_plain {l : List Int} {least q : Int} (hR : rightL l q = true) (hm : 1 ≤ least) :
    (plainL l least q).length = l.length ∧ sumL (plainL l least q) = q ∧ (∀ i, i < l.length → 0 ≤ (plainL l least q).getD i 0 ∧ (plainL l least q).getD i 0 ≤ l.getD i 0) ∧
    (∀ i, i < l.length → least ≤ l.getD i 0 * q / sumL l → l.getD i 0 * q / sumL l ≤ (plainL l least q).getD i 0) ∧
    (∀ i, i < l.length → 0 ≤ l.getD i 0 * q / sumL l ∧ l.getD i 0 * q / sumL l ≤ 1000000) := by
  obtain ⟨a1, a2, a3, a4⟩ := (right_iff _ _).1 hR
  have h1 : ∀ x ∈ l, 0 ≤ x ∧ x ≤ 1000000 := fun x hx => by have := a2 x hx; omega
  have h0 : ∀ x ∈ l, 0 ≤ x := fun x hx => (h1 x hx).1
  obtain ⟨f1, f2, -, -, -, -, -⟩ := by_facts (least := least) h1 a1 a3 a4
  rw [plain_yes hR hm]
  refine ⟨plainB_len _ _ _, plainB_sum h0 a3 a4, fun i hi => ?_, fun i hi hle => ?_, f1⟩
  · have := plainB_fit (least := least) h0 a3 a4 hi
    have := by_fit (least := least) h0 a3 a4 hi
    omega
  · have := plainB_fit (least := least) h0 a3 a4 hi
    rw [f2 i hi hle] at this
    omega
theorem rules_top {l : List Int} {t : Nat} {most least q : Int} (hR : rightL l q = true) (hm : 1 ≤ least) (ho : 0 ≤ most) (ht : t < l.length) :
    (topL l (t : Int) most least q).length = l.length ∧ sumL (topL l (t : Int) most least q) = q ∧ (∀ i, i < l.length → 0 ≤ (topL l (t : Int) most least q).getD i 0 ∧ (topL l (t : Int) most least q).getD i 0 ≤ l.getD i 0) ∧
    min (min (l.getD t 0) most) q ≤ (topL l (t : Int) most least q).getD t 0 := by
  obtain ⟨a1, a2, a3, a4⟩ := (right_iff _ _).1 hR
  have h0 : ∀ x ∈ l, 0 ≤ x := fun x hx => by have := a2 x hx; omega
  rw [top_yes hR hm ho]
  refine ⟨topB_len _ _ _ _ _, topB_sum h0 a3 a4 ho, fun i hi => ?_, ?_⟩
  · have := topB_fit (top := (t : Int)) (least := least) h0 a3 a4 ho hi
    have := first_fit (top := (t : Int)) h0 a3 ho hi
    omega
  · have a := (topB_fit (top := (t : Int)) (least := least) h0 a3 a4 ho ht).1
    rw [first_get _ _ _ ht, if_pos rfl, topK_in ht] at a
    exact a
end Go.Proofs.Ytoflnfdkcbpgeaa
