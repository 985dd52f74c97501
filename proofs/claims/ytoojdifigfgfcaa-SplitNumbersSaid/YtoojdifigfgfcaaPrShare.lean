/-
  The program's shares by size, the top first: Share.
-/
import Derived.Test.YtoojdifigfgfcaaPrBy
namespace Go.Proofs.Ytoojdifigfgfcaa
open Go.RowKit
set_option linter.unusedVariables false
set_option linter.unusedSimpArgs false

theorem top_yes {l : List Int} {top most least q : Int} (h : rightL l q = true) (hm : 1 ≤ least) (hm2 : 0 ≤ most) : topL l top most least q = topB l top most least q := by
  have : topL l top most least q = bif rightL l q && decide (1 ≤ least) && decide (0 ≤ most) then topB l top most least q else [] := by with_unfolding_all rfl
  rw [this, h, decide_eq_true hm, decide_eq_true hm2]; rfl
theorem top_no {l : List Int} {top most least q : Int} (h : (rightL l q && decide (1 ≤ least) && decide (0 ≤ most)) = false) : topL l top most least q = [] := by
  have : topL l top most least q = bif rightL l q && decide (1 ≤ least) && decide (0 ≤ most) then topB l top most least q else [] := by with_unfolding_all rfl
  rw [this, h]; rfl
theorem topB_eq (l : List Int) (top most least q : Int) : topB l top most least q = addZ (firstL l.length top (topK l top most q)) (plainB (subZ l (firstL l.length top (topK l top most q))) least (q - topK l top most q)) := by with_unfolding_all rfl
/-- All that the tail of Share needs, of what the first have. -/
theorem top_facts {l : List Int} {F : List Int} {least q K : Int} (hR : rightL l q = true) (hm : 1 ≤ least) (lF : F.length = l.length) (hF : ∀ k, k < l.length → 0 ≤ F.getD k 0 ∧ F.getD k 0 ≤ l.getD k 0) (sF : sumL F = K) (hK : K ≤ q) :
    (∀ k, k < l.length → 0 ≤ F.getD k 0 ∧ F.getD k 0 ≤ l.getD k 0 ∧ l.getD k 0 ≤ 1000000) ∧ (∀ x ∈ F, I64 x) ∧ (posL (subZ l F)).length ≤ 250 ∧ (∀ x ∈ posL (subZ l F), I64 x) ∧
    plainL (posL (subZ l F)) least (q - K) = plainB (posL (subZ l F)) least (q - K) ∧ (∀ y ∈ plainB (posL (subZ l F)) least (q - K), 0 ≤ y ∧ y ≤ 1000000) ∧ (∀ y ∈ plainB (posL (subZ l F)) least (q - K), I64 y) ∧
    addZ F (spreadL (subZ l F) (plainB (posL (subZ l F)) least (q - K))) = addZ F (plainB (subZ l F) least (q - K)) := by
  obtain ⟨a1, a2, a3, a4⟩ := (right_iff _ _).1 hR
  have hx : ∀ k, k < l.length → 0 ≤ F.getD k 0 ∧ F.getD k 0 ≤ l.getD k 0 ∧ l.getD k 0 ≤ 1000000 := fun k hk => by
    have := hF k hk; have := a2 _ (getD_mem hk); omega
  have hR2 := right_pos hR lF.symm hF (r := q - K) (by omega) (by omega)
  obtain ⟨b1, b2, b3, b4⟩ := (right_iff _ _).1 hR2
  have nn : ∀ x ∈ subZ l F, 0 ≤ x := fun x hx => by
    obtain ⟨k, hk, rfl⟩ := subZ_mem lF.symm hx
    have := hF k hk; omega
  have mem := plainB_mem (least := least) (fun x hx => by have := b2 x hx; omega) b3 b4
  refine ⟨hx, fun y hy => ?_, b1, fun y hy => by have := b2 y hy; exact ⟨by omega, by omega⟩, plain_yes hR2 hm, mem, fun y hy => by have := mem y hy; exact ⟨by omega, by omega⟩, ?_⟩
  · obtain ⟨k, hk, rfl⟩ := mem_getD hy
    have := hx k (by omega)
    exact ⟨by omega, by omega⟩
  · rw [spread_plain nn (by omega) (by rw [subZ_sum lF.symm]; omega)]

end Go.Proofs.Ytoojdifigfgfcaa
