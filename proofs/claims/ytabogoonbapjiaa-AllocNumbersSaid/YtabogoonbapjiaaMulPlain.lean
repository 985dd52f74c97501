/-
  Plain facts on products of numbers of 64 bits.
-/
import Derived.Test.YtabogoonbapjiaaPlain
namespace Go.Proofs.Ytabogoonbapjiaa
open Go.RowKit
set_option linter.unusedVariables false

theorem parts (x y : Int) (h1 : 0 ≤ x) (h2 : 0 ≤ y) : ∃ hi lo : Int, hi * 18446744073709551616 + lo = x * y ∧ 0 ≤ hi ∧ 0 ≤ lo ∧ lo < 18446744073709551616 := by
  have := Int.mul_nonneg h1 h2
  exact ⟨x * y / 18446744073709551616, x * y % 18446744073709551616, by omega, by omega, by omega, by omega⟩
theorem parts_hi {x y hi lo m n : Int} (h : hi * 18446744073709551616 + lo = x * y) (h1 : 0 ≤ x) (h2 : 0 ≤ y) (hx : x ≤ m) (hy : y ≤ n) (hm : m * n < 340282366920938463463374607431768211456) (hl : 0 ≤ lo) : hi < 18446744073709551616 := by
  have a := Int.mul_le_mul hx hy h2 (by omega)
  omega
/-- A product of two numbers, by their sizes. -/
theorem mul_same {a b x y : Int} (h : a = x ∧ b = y ∨ a = -x ∧ b = -y) : a * b = x * y := by
  rcases h with ⟨rfl, rfl⟩ | ⟨rfl, rfl⟩
  · rfl
  · exact Int.neg_mul_neg x y
theorem mul_other {a b x y : Int} (h : a = x ∧ b = -y ∨ a = -x ∧ b = y) : a * b = -(x * y) := by
  rcases h with ⟨rfl, rfl⟩ | ⟨rfl, rfl⟩
  · exact Int.mul_neg a y
  · exact Int.neg_mul x b
/-- Go's own division takes a product back where it fits. -/
theorem back_fit {a b : Int} (hb : b ≠ 0) (h : fitB (a * b) = true) : (wrap64 (a * b)).tdiv b = a := by
  have := (fitB_iff _).1 h
  rw [show wrap64 (a * b) = a * b from by unfold wrap64; omega]
  exact Int.mul_tdiv_cancel a hb
theorem wrap_off (x : Int) : ∃ k : Int, wrap64 x = x + k * 18446744073709551616 ∧ -9223372036854775808 ≤ wrap64 x ∧ wrap64 x ≤ 9223372036854775807 := by
  unfold wrap64
  exact ⟨-((x + 9223372036854775808) / 18446744073709551616), by omega, by omega, by omega⟩
theorem tdiv_near (x b : Int) : x.tdiv b * b = x - x.tmod b := by
  have := Int.mul_tdiv_add_tmod x b
  rw [Int.mul_comm] at this; omega
theorem tmod_near (x b : Int) (hb : b ≠ 0) : -(b.natAbs : Int) < x.tmod b ∧ x.tmod b < b.natAbs := by
  have h1 := Int.natAbs_tmod x b
  have h2 := Nat.mod_lt x.natAbs (y := b.natAbs) (by omega)
  omega
/-- .. and does not where it does not fit. -/
theorem back_off {a b : Int} (hb : b ≠ 0) (b1 : -9223372036854775808 ≤ b) (b2 : b ≤ 9223372036854775807) (h : fitB (a * b) = false) : (wrap64 (a * b)).tdiv b ≠ a := by
  intro e
  obtain ⟨k, hk, l1, l2⟩ := wrap_off (a * b)
  have hn : ¬ (-9223372036854775808 ≤ a * b ∧ a * b ≤ 9223372036854775807) := fun hh => by rw [(fitB_iff _).2 hh] at h; cases h
  have t := tdiv_near (wrap64 (a * b)) b
  have u := tmod_near (wrap64 (a * b)) b hb
  rw [e] at t
  generalize (wrap64 (a * b)).tmod b = r at *
  generalize wrap64 (a * b) = v at *
  generalize a * b = p at *
  by_cases k0 : k = 0
  · subst k0; omega
  · omega
/-- The quotient itself: how great it is. -/
theorem quo_bd {v b : Int} (v1 : -9223372036854775808 ≤ v) (v2 : v ≤ 9223372036854775807) (hb : b ≠ 0) (h : ¬ (b = -1 ∧ v = -9223372036854775808)) : -9223372036854775808 ≤ v.tdiv b ∧ v.tdiv b ≤ 9223372036854775807 := by
  have t : (v.tdiv b).natAbs = v.natAbs / b.natAbs := Int.natAbs_tdiv v b
  have hb' : 1 ≤ b.natAbs := by omega
  have m : v.natAbs / b.natAbs ≤ v.natAbs := Nat.div_le_self _ _
  by_cases h1 : b.natAbs = 1
  · rcases (show b = 1 ∨ b = -1 by omega) with rfl | rfl
    · simp; omega
    · simp at h ⊢; omega
  · have m2 : v.natAbs / b.natAbs ≤ v.natAbs / 2 := Nat.div_le_div_left (by omega) (by omega)
    omega
theorem quo_yes {a b : Int} (hb : b ≠ 0) (a1 : -9223372036854775808 ≤ a) (a2 : a ≤ 9223372036854775807) (h : fitB (a * b) = true) : (wrap64 ((wrap64 (a * b)).tdiv b) != a) = false := by
  rw [back_fit hb h, IntWalk.wrap64_in a ⟨a1, a2⟩]
  simp
theorem quo_no {a b : Int} (hb : b ≠ 0) (b1 : -9223372036854775808 ≤ b) (b2 : b ≤ 9223372036854775807) (hx : ¬ (b = -1 ∧ a = -9223372036854775808)) (a1 : -9223372036854775808 ≤ a) (a2 : a ≤ 9223372036854775807) (h : fitB (a * b) = false) : (wrap64 ((wrap64 (a * b)).tdiv b) != a) = true := by
  have off := back_off hb b1 b2 h
  obtain ⟨k, hk, l1, l2⟩ := wrap_off (a * b)
  have hv : ¬ (b = -1 ∧ wrap64 (a * b) = -9223372036854775808) := by
    rintro ⟨rfl, e⟩
    have hn : ¬ (-9223372036854775808 ≤ a * -1 ∧ a * -1 ≤ 9223372036854775807) := fun hh => by rw [(fitB_iff _).2 hh] at h; cases h
    rw [e] at hk
    omega
  have := quo_bd l1 l2 hb hv
  rw [IntWalk.wrap64_in _ this]
  simpa using off
end Go.Proofs.Ytabogoonbapjiaa
