/-
  Contracts: Count and Right, of package label and of the document's own answer.
-/
import Derived.Test.YtdbaphmhfoajgaaTexts
namespace Go.Proofs.Ytdbaphmhfoajgaa
open Go.RowKit
set_option linter.unusedVariables false
set_option linter.unusedSimpArgs false

/-- May a label have the rune? -/
def okR (r : Nat) : Bool := decide (32 ≤ r ∧ r ≠ 127 ∧ r ≠ 65533)
theorem okR_yes {r : Nat} (h : okR r = true) : 32 ≤ r ∧ r ≠ 127 ∧ r ≠ 65533 := of_decide_eq_true h
theorem okR_no {r : Nat} (h : okR r = false) : ¬ (32 ≤ r ∧ r ≠ 127 ∧ r ≠ 65533) := of_decide_eq_false h
/-- Is the text a right label? -/
def rightB (l : List UInt8) : Bool := (runes l).all (fun p => okR p.1) && (decide (1 ≤ (runes l).length) && decide ((runes l).length ≤ 12))
theorem rightB_yes {l : List UInt8} (h : rightB l = true) : (∀ p ∈ runes l, okR p.1 = true) ∧ 1 ≤ (runes l).length ∧ (runes l).length ≤ 12 := by
  unfold rightB at h
  simp only [Bool.and_eq_true, List.all_eq_true, decide_eq_true_eq] at h
  exact ⟨h.1, h.2.1, h.2.2⟩
theorem rightB_of {l : List UInt8} (h1 : ∀ p ∈ runes l, okR p.1 = true) (h2 : 1 ≤ (runes l).length) (h3 : (runes l).length ≤ 12) : rightB l = true := by
  unfold rightB
  simp only [Bool.and_eq_true, List.all_eq_true, decide_eq_true_eq]
  exact ⟨h1, h2, h3⟩
theorem rightB_long {l : List UInt8} (h : 12 < (runes l).length) : rightB l = false := by
  unfold rightB
  rw [show decide ((runes l).length ≤ 12) = false from decide_eq_false (by omega)]
  simp
theorem rightB_bad {l : List UInt8} {k r : Nat} {x : List UInt8} (h : (runes l)[k]? = some (r, x)) (hr : okR r = false) : rightB l = false := by
  have hm := List.mem_of_getElem? h
  have : (runes l).all (fun p => okR p.1) = false := by
    rw [List.all_eq_false]
    exact ⟨_, hm, by simp [hr]⟩
  unfold rightB
  rw [this]
  rfl
/-- The first k runes are such as may be. -/
def OkTo (l : List UInt8) (k : Nat) : Prop := ∀ i r x, i < k → (runes l)[i]? = some (r, x) → okR r = true
theorem okTo_zero (l : List UInt8) : OkTo l 0 := fun i r x h => absurd h (Nat.not_lt_zero _)
theorem okTo_next {l : List UInt8} {k r : Nat} {x : List UInt8} (h : OkTo l k) (hk : (runes l)[k]? = some (r, x)) (hr : okR r = true) : OkTo l (k + 1) := by
  intro i r' x' hi he
  by_cases e : i = k
  · subst e; rw [hk] at he; cases he; exact hr
  · exact h i r' x' (by omega) he
theorem okTo_all {l : List UInt8} (h : OkTo l (runes l).length) : ∀ p ∈ runes l, okR p.1 = true := by
  intro p hp
  obtain ⟨i, hi, he⟩ := List.mem_iff_getElem.1 hp
  refine h i p.1 p.2 hi ?_
  rw [List.getElem?_eq_getElem hi, he]
theorem rightB_end {l : List UInt8} (h : OkTo l (runes l).length) (h12 : (runes l).length ≤ 12) : rightB l = decide (0 < ((runes l).length : Int)) := by
  by_cases h1 : 1 ≤ (runes l).length
  · rw [rightB_of (okTo_all h) h1 h12, decide_eq_true (by omega)]
  · unfold rightB
    rw [decide_eq_false (show ¬ 1 ≤ (runes l).length from h1), decide_eq_false (show ¬ (0 : Int) < ((runes l).length : Int) by omega)]
    simp

set_option maxRecDepth 100000 in
theorem Allowed_any (r : Nat) (w : World) (h : r ≤ 2147483647) : Calls Try.prog 54 #[.int .i32 r] w fun e w' => e = .returned (.bool (okR r)) ∧ w' = w := by
  by_cases h1 : 32 ≤ r <;> by_cases h2 : r = 127 <;> by_cases h3 : r = 65533
  all_goals
    have hb : okR r = decide (32 ≤ r ∧ r ≠ 127 ∧ r ≠ 65533) := rfl
    have Hb := Lib.hid hb
    clear hb
    have i1 : ((r : Int) == 127) = decide (r = 127) := by rw [Bool.eq_iff_iff]; simp; omega
    have i2 : ((r : Int) == 65533) = decide (r = 65533) := by rw [Bool.eq_iff_iff]; simp; omega
    go_enter Try.func54, Try.ntmps54
    go_wp2
    go_ret
    exact ⟨ret_b (by rw [Hb.out]; simp_all), rfl⟩
end Go.Proofs.Ytdbaphmhfoajgaa
