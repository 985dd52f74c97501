/-
  Plain facts under Share: a product divided, and the document's own way to it, bit by bit.
-/
import Derived.Test.YtabogoonbapjiaaPlain
import Derived.Lib.RabinKarpLaws
namespace Go.Proofs.Ytabogoonbapjiaa
open Go.RowKit
set_option linter.unusedVariables false

theorem bit_of {p : Int} (h1 : 0 ≤ p) (h2 : p ≤ 9223372036854775807) : bits .and .i64 p 1 = p % 2 := by
  obtain ⟨n, rfl⟩ := Int.eq_ofNat_of_zero_le h1
  rw [and_one n (by omega)]
  omega
/-- What the search keeps behind the first bits: their part's quotient and rest. -/
def Part (a c P q r : Int) : Prop := q * c + r = a * P ∧ 0 ≤ r ∧ r < c ∧ 0 ≤ q
theorem part_zero {a c : Int} (hc : 1 ≤ c) : Part a c 0 0 0 := ⟨by simp, by omega, by omega, by omega⟩
/-- One bit more, that is 0: the rest doubled is below. -/
theorem part_0a {a c P q r : Int} (h : Part a c P q r) (hr : 2 * r < c) : Part a c (2 * P) (2 * q) (2 * r) := by
  obtain ⟨h1, h2, h3, h4⟩ := h
  refine ⟨?_, by omega, by omega, by omega⟩
  rw [Int.mul_left_comm, ← h1, Int.mul_assoc]; omega
theorem part_0b {a c P q r : Int} (h : Part a c P q r) (hr : c ≤ 2 * r) : Part a c (2 * P) (2 * q + 1) (2 * r - c) := by
  obtain ⟨h1, h2, h3, h4⟩ := h
  refine ⟨?_, by omega, by omega, by omega⟩
  rw [Int.mul_left_comm, ← h1, Int.add_mul, Int.mul_assoc]; omega
theorem part_1a {a c P q r x y : Int} (h : Part a c P q r) (ha : x * c + y = a) (x0 : 0 ≤ x) (y0 : 0 ≤ y) (hr : r + y < c) : Part a c (P + 1) (q + x) (r + y) := by
  obtain ⟨h1, h2, h3, h4⟩ := h
  refine ⟨?_, by omega, by omega, by omega⟩
  rw [Int.mul_add, Int.mul_one, ← h1, Int.add_mul]; omega
theorem part_1b {a c P q r x y : Int} (h : Part a c P q r) (ha : x * c + y = a) (x0 : 0 ≤ x) (y0 : 0 ≤ y) (y1 : y < c) (hr : c ≤ r + y) : Part a c (P + 1) (q + x + 1) (r + y - c) := by
  obtain ⟨h1, h2, h3, h4⟩ := h
  refine ⟨?_, by omega, by omega, by omega⟩
  rw [Int.mul_add, Int.mul_one, ← h1, Int.add_mul, Int.add_mul]; omega
/-- A part's quotient that is too great: so is the whole's. -/
theorem part_off {a b c P n r : Int} (h : n * c + r = a * P) (r0 : 0 ≤ r) (hc : 1 ≤ c) (a0 : 0 ≤ a) (hP : P ≤ b) (hn : 9223372036854775808 ≤ n) : fitB (a * b / c) = false := by
  have m : a * P ≤ a * b := Int.mul_le_mul_of_nonneg_left hP a0
  have : n ≤ a * b / c := (Int.le_ediv_iff_mul_le (by omega)).2 (by omega)
  exact fitB_no (by omega)
theorem part_off2 {a b c P q r x y : Int} (h : Part a c P q r) (ha : x * c + y = a) (y0 : 0 ≤ y) (hc : 1 ≤ c) (a0 : 0 ≤ a) (hP : P + 1 ≤ b) (hn : 9223372036854775808 ≤ q + x) : fitB (a * b / c) = false := by
  obtain ⟨h1, h2, h3, h4⟩ := h
  refine part_off (P := P + 1) (n := q + x) (r := r + y) ?_ (by omega) hc a0 hP hn
  rw [Int.mul_add, Int.mul_one, ← h1, Int.add_mul]; omega
theorem part_end {a b c q r : Int} (h : Part a c b q r) : a * b / c = q := by
  obtain ⟨h1, h2, h3, h4⟩ := h
  rw [← h1, Int.mul_comm, Int.mul_add_ediv_left _ _ (by omega), Int.ediv_eq_zero_of_lt h2 h3]
  omega
/-- The bits of a number from one on. -/
theorem pre_step (b : Int) (i : Int) (hi : 0 ≤ i) : b / 2 ^ i.toNat = 2 * (b / 2 ^ (i + 1).toNat) + b / 2 ^ i.toNat % 2 := by
  obtain ⟨n, rfl⟩ := Int.eq_ofNat_of_zero_le hi
  have e : ((n : Int) + 1).toNat = n + 1 := by omega
  rw [e, Int.toNat_natCast, Int.pow_succ, ← Int.ediv_ediv_of_nonneg (Int.pow_nonneg (by decide))]
  omega
theorem pre_le (b : Int) (n : Nat) (hb : 0 ≤ b) : b / 2 ^ n ≤ b ∧ 0 ≤ b / 2 ^ n := by
  have p : (0 : Int) < 2 ^ n := Int.pow_pos (by decide)
  have q : (1 : Int) ≤ 2 ^ n := by omega
  exact ⟨Int.ediv_le_self _ hb, Int.ediv_nonneg hb (by omega)⟩
theorem pre_top (b : Int) (h1 : 0 ≤ b) (h2 : b ≤ 9223372036854775807) : b / 2 ^ ((62 : Int) + 1).toNat = 0 :=
  Int.ediv_eq_zero_of_lt h1 (by show b < 9223372036854775808; omega)
end Go.Proofs.Ytabogoonbapjiaa
