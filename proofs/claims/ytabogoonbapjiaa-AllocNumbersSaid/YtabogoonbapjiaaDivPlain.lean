/-
  Plain facts under math/bits.Div64: the quotient, half by half.
-/
import Derived.Test.YtabogoonbapjiaaPlain
import Derived.Lib.BitFns
import Derived.Laws.Bits64b
namespace Go.Proofs.Ytabogoonbapjiaa
open Go.RowKit
set_option linter.unusedVariables false

/-- What one half's search keeps: the digit tried and its rest. -/
def Half (b1 u Q q r : Int) : Prop := q * b1 + r = u ∧ Q ≤ q ∧ 0 ≤ r
theorem half_start {b1 b0 u v Y Q : Int} (hY : Y = b1 * 4294967296 + b0) (B1 : 1 ≤ b1) (B0 : 0 ≤ b0) (v2 : v < 4294967296) (Q0 : 0 ≤ Q) (hQ : Q * Y ≤ u * 4294967296 + v) :
    Half b1 u Q (u / b1) (u - u / b1 * b1) := by
  have e := Int.emod_nonneg u (b := b1) (by omega)
  have d := Int.mul_ediv_add_emod u b1
  rw [Int.mul_comm] at d
  refine ⟨by omega, ?_, by omega⟩
  refine (Int.le_ediv_iff_mul_le (by omega)).2 ?_
  rw [hY, Int.mul_add, ← Int.mul_assoc] at hQ
  have := Int.mul_nonneg Q0 B0
  omega
theorem half_big {b1 b0 u v Y Q q r : Int} (h : Half b1 u Q q r) (hY : Y = b1 * 4294967296 + b0) (hu : u < Y) (v2 : v < 4294967296) (hQ : Q * Y ≤ u * 4294967296 + v) (Q0 : 0 ≤ Q) (hY0 : 1 ≤ Y) (hq : 4294967296 ≤ q) : Q + 1 ≤ q := by
  have : Q < 4294967296 := by
    refine Int.lt_of_mul_lt_mul_right (a := Y) ?_ (by omega)
    omega
  omega
theorem half_test {b1 b0 u v Y Q q r : Int} (h : Half b1 u Q q r) (hY : Y = b1 * 4294967296 + b0) (hQ' : u * 4294967296 + v < Q * Y + Y) (hQ : Q * Y ≤ u * 4294967296 + v) (hY0 : 1 ≤ Y) (ht : 4294967296 * r + v < q * b0) : Q + 1 ≤ q := by
  obtain ⟨h1, h2, h3⟩ := h
  have e : q * Y = q * b1 * 4294967296 + q * b0 := by rw [hY, Int.mul_add, Int.mul_assoc]
  have : Q * Y < q * Y := by omega
  have := Int.lt_of_mul_lt_mul_right this (by omega)
  omega
theorem half_stop {b1 b0 u v Y Q q r : Int} (h : Half b1 u Q q r) (hY : Y = b1 * 4294967296 + b0) (hQ' : u * 4294967296 + v < Q * Y + Y) (hY0 : 1 ≤ Y) (ht : q * b0 ≤ 4294967296 * r + v) : q = Q := by
  obtain ⟨h1, h2, h3⟩ := h
  have e : q * Y = q * b1 * 4294967296 + q * b0 := by rw [hY, Int.mul_add, Int.mul_assoc]
  have e2 : (Q + 1) * Y = Q * Y + Y := by rw [Int.add_mul, Int.one_mul]
  have : q * Y < (Q + 1) * Y := by omega
  have := Int.lt_of_mul_lt_mul_right this (by omega)
  omega
theorem half_step {b1 u Q q r : Int} (h : Half b1 u Q q r) (B1 : 1 ≤ b1) (hq : Q + 1 ≤ q) : Half b1 u Q (q - 1) (r + b1) := by
  obtain ⟨h1, h2, h3⟩ := h
  refine ⟨?_, by omega, by omega⟩
  rw [Int.sub_mul]; omega
theorem half_break {b1 b0 u v Y Q q r : Int} (h : Half b1 u Q q r) (hY : Y = b1 * 4294967296 + b0) (hu : u < Y) (v1 : 0 ≤ v) (B1 : 1 ≤ b1) (B0 : 0 ≤ b0) (B2 : b0 < 4294967296) (hQ' : u * 4294967296 + v < Q * Y + Y) (hY0 : 1 ≤ Y) (Q0 : 0 ≤ Q) (hr : 4294967296 ≤ r) : q = Q := by
  refine half_stop h hY hQ' hY0 ?_
  obtain ⟨h1, h2, h3⟩ := h
  have : q < 4294967296 := by
    refine Int.lt_of_mul_lt_mul_right (a := b1) ?_ (by omega)
    omega
  have := Int.mul_le_mul (show q ≤ 4294967295 by omega) (show b0 ≤ 4294967295 by omega) B0 (by omega)
  omega
/-- The product that the test forms fits. -/
theorem half_mul {q b0 : Int} (q0 : 0 ≤ q) (q1 : q < 4294967296) (B0 : 0 ≤ b0) (B2 : b0 < 4294967296) : 0 ≤ q * b0 ∧ q * b0 ≤ 18446744065119617025 :=
  ⟨Int.mul_nonneg q0 B0, Int.mul_le_mul (show q ≤ 4294967295 by omega) (show b0 ≤ 4294967295 by omega) B0 (by omega)⟩
theorem half_next {u v Y Q : Int} (hQ : Q * Y ≤ u * 4294967296 + v) (hQ' : u * 4294967296 + v < Q * Y + Y) (hY : Y < 18446744073709551616) (v1 : 0 ≤ v) (v2 : v < 4294967296) (u1 : 0 ≤ u) :
    IntKind.u64.wrap (IntKind.u64.wrap (IntKind.u64.wrap (u * 4294967296) + v) - IntKind.u64.wrap (Q * Y)) = u * 4294967296 + v - Q * Y := by
  simp only [IntKind.wrap_u64]; omega
/-- One round of the search: it goes on, or breaks off, or stops; where it ends the digit is found. -/
theorem half_cases {b1 b0 u v Y Q q r : Int} (h : Half b1 u Q q r) (hY : Y = b1 * 4294967296 + b0) (hu : u < Y) (v1 : 0 ≤ v) (v2 : v < 4294967296) (B1 : 1 ≤ b1) (B0 : 0 ≤ b0) (B2 : b0 < 4294967296)
    (hQ : Q * Y ≤ u * 4294967296 + v) (hQ' : u * 4294967296 + v < Q * Y + Y) (hY0 : 1 ≤ Y) (Q0 : 0 ≤ Q) :
    (4294967296 ≤ q ∧ r + b1 < 4294967296 ∧ Q + 1 ≤ q) ∨ (q < 4294967296 ∧ (0 ≤ q * b0 ∧ q * b0 ≤ 18446744065119617025) ∧ 4294967296 * r + v < q * b0 ∧ r + b1 < 4294967296 ∧ Q + 1 ≤ q) ∨
    (4294967296 ≤ q ∧ 4294967296 ≤ r + b1 ∧ q - 1 = Q) ∨ (q < 4294967296 ∧ (0 ≤ q * b0 ∧ q * b0 ≤ 18446744065119617025) ∧ 4294967296 * r + v < q * b0 ∧ 4294967296 ≤ r + b1 ∧ q - 1 = Q) ∨
    (q < 4294967296 ∧ (0 ≤ q * b0 ∧ q * b0 ≤ 18446744065119617025) ∧ q * b0 ≤ 4294967296 * r + v ∧ q = Q) := by
  have q0 : 0 ≤ q := by have := h.2.1; omega
  have br : Q + 1 ≤ q → 4294967296 ≤ r + b1 → q - 1 = Q := fun a b => half_break (half_step h B1 a) hY hu v1 B1 B0 B2 hQ' hY0 Q0 b
  by_cases c1 : 4294967296 ≤ q
  · have s := half_big h hY hu v2 hQ Q0 hY0 c1
    by_cases c2 : r + b1 < 4294967296
    · exact .inl ⟨c1, c2, s⟩
    · exact .inr (.inr (.inl ⟨c1, by omega, br s (by omega)⟩))
  · have m := half_mul q0 (by omega) B0 B2
    by_cases c3 : 4294967296 * r + v < q * b0
    · have s := half_test h hY hQ' hQ hY0 c3
      by_cases c2 : r + b1 < 4294967296
      · exact .inr (.inl ⟨by omega, m, c3, c2, s⟩)
      · exact .inr (.inr (.inr (.inl ⟨by omega, m, c3, by omega, br s (by omega)⟩)))
    · exact .inr (.inr (.inr (.inr ⟨by omega, m, by omega, half_stop h hY hQ' hY0 (by omega)⟩)))
/-- What the search begins with. -/
theorem half_begin {b1 b0 u v Y Q : Int} (hY : Y = b1 * 4294967296 + b0) (U1 : 0 ≤ u) (U2 : u ≤ 18446744073709551615) (B1 : 1 ≤ b1) (B2 : b1 ≤ 4294967295) (B0 : 0 ≤ b0) (v2 : v < 4294967296) (Q0 : 0 ≤ Q) (hQ : Q * Y ≤ u * 4294967296 + v) :
    ∃ q r : Int, u / b1 = q ∧ u - q * b1 = r ∧ Half b1 u Q q r ∧ 0 ≤ q ∧ q ≤ 18446744073709551615 ∧ 0 ≤ r ∧ r < 4294967296 ∧ 0 ≤ q * b1 ∧ q * b1 ≤ u := by
  have st := half_start hY B1 B0 v2 Q0 hQ
  have q0 : 0 ≤ u / b1 := Int.ediv_nonneg U1 (by omega)
  have p0 : 0 ≤ u / b1 * b1 := Int.mul_nonneg q0 (by omega)
  have l := Int.emod_lt_of_pos u (b := b1) (by omega)
  have d := Int.mul_ediv_add_emod u b1
  rw [Int.mul_comm] at d
  have r0 := st.2.2
  have : u / b1 * 1 ≤ u / b1 * b1 := Int.mul_le_mul_of_nonneg_left (by omega) q0
  exact ⟨_, _, rfl, rfl, st, q0, by omega, r0, by omega, p0, by omega⟩
theorem quo_bds (V Y : Int) (V0 : 0 ≤ V) (hY : 1 ≤ Y) : V / Y * Y ≤ V ∧ V < V / Y * Y + Y ∧ 0 ≤ V / Y := by
  have e := Int.emod_nonneg V (b := Y) (by omega)
  have l := Int.emod_lt_of_pos V (b := Y) (by omega)
  have d := Int.mul_ediv_add_emod V Y
  rw [Int.mul_comm] at d
  exact ⟨by omega, by omega, Int.ediv_nonneg V0 (by omega)⟩
/-- Both halves together. -/
theorem whole {u v1 v0 Y Q1 Q0 : Int} (a : Q1 * Y ≤ u * 4294967296 + v1) (hY : 1 ≤ Y)
    (c : Q0 * Y ≤ (u * 4294967296 + v1 - Q1 * Y) * 4294967296 + v0) (d : (u * 4294967296 + v1 - Q1 * Y) * 4294967296 + v0 < Q0 * Y + Y) :
    Q1 * 4294967296 + Q0 = (u * 18446744073709551616 + (v1 * 4294967296 + v0)) / Y := by
  have e : u * 18446744073709551616 + (v1 * 4294967296 + v0) = ((u * 4294967296 + v1 - Q1 * Y) * 4294967296 + v0 - Q0 * Y) + Y * (Q1 * 4294967296 + Q0) := by
    rw [Int.mul_add, ← Int.mul_assoc, Int.mul_comm Y Q1, Int.mul_comm Y Q0]; omega
  rw [e, Int.add_mul_ediv_left _ _ (by omega), Int.ediv_eq_zero_of_lt (by omega) (by omega)]
  omega

/-! ### The shift -/
theorem bl : ∀ (f x : Nat), x < 2 ^ f → x ≠ 0 → 2 ^ Lib.bitLenAux f x ≤ 2 * x ∧ x < 2 ^ Lib.bitLenAux f x
  | 0, x, h, h0 => by simp at h; omega
  | f + 1, x, h, h0 => by
    rw [Lib.bitLenAux, if_neg h0]
    by_cases h2 : x / 2 = 0
    · have hz : Lib.bitLenAux f (x / 2) = 0 := by rw [h2]; cases f <;> simp [Lib.bitLenAux]
      rw [hz]; simp; omega
    · have := bl f (x / 2) (by rw [Nat.pow_succ] at h; omega) h2
      rw [Nat.pow_add]
      generalize 2 ^ Lib.bitLenAux f (x / 2) = p at *
      omega
/-- What the shift makes of a number: its top bit is the word's. -/
theorem norm (y : Nat) (y1 : y ≠ 0) (y2 : y < 9223372036854775808) : 1 ≤ 64 - Lib.bitLen y ∧ 1 ≤ Lib.bitLen y ∧ 9223372036854775808 ≤ y * 2 ^ (64 - Lib.bitLen y) ∧ y * 2 ^ (64 - Lib.bitLen y) < 18446744073709551616 := by
  obtain ⟨h1, h2⟩ := bl 64 y (by omega) y1
  have h3 : Lib.bitLen y ≤ 63 := Lib.bitLen_le y 63 (by omega) (by omega)
  change 2 ^ Lib.bitLen y ≤ 2 * y at h1
  change y < 2 ^ Lib.bitLen y at h2
  have e : 2 ^ Lib.bitLen y * 2 ^ (64 - Lib.bitLen y) = 18446744073709551616 := by rw [← Nat.pow_add, show Lib.bitLen y + (64 - Lib.bitLen y) = 64 by omega]
  have a := Nat.mul_le_mul_right (2 ^ (64 - Lib.bitLen y)) h1
  have p : 0 < 2 ^ (64 - Lib.bitLen y) := Nat.pow_pos (by omega)
  have b := Nat.mul_lt_mul_of_pos_right h2 p
  rw [Nat.mul_assoc] at a
  have h4 : 1 ≤ Lib.bitLen y := by
    by_cases z : Lib.bitLen y = 0
    · rw [z] at h2; simp at h2; omega
    · omega
  omega
theorem cast_lt {a : Nat} (h : a < 18446744073709551616) : (a : Int) < 18446744073709551616 := by omega
theorem cast_lin (c d : Nat) : ((c * 18446744073709551616 + d : Nat) : Int) = (c : Int) * 18446744073709551616 + d := by omega
theorem cast_eq {a b c d k : Nat} (h : a * 18446744073709551616 + b = (c * 18446744073709551616 + d) * k) : (a : Int) * 18446744073709551616 + b = ((c : Int) * 18446744073709551616 + d) * (k : Int) := by
  have h2 : ((a * 18446744073709551616 + b : Nat) : Int) = (((c * 18446744073709551616 + d) * k : Nat) : Int) := congrArg (fun n : Nat => (n : Int)) h
  rw [Int.natCast_mul (c * 18446744073709551616 + d) k, cast_lin, cast_lin] at h2
  exact h2
theorem mask32 {a : Int} (h1 : 0 ≤ a) (h2 : a < 18446744073709551616) : bits .and .u64 a 4294967295 = a % 4294967296 := by
  obtain ⟨a, rfl⟩ := Int.eq_ofNat_of_zero_le h1
  have h := bits_and_u64_nat a 4294967295 (by omega) (by omega)
  rw [show a &&& 4294967295 = a % 4294967296 from Nat.and_two_pow_sub_one_eq_mod a 32] at h
  exact h
/-- The two words under the shift. -/
theorem words (hi lo : Nat) (s : Nat) (s1 : 1 ≤ s) (s2 : s ≤ 63) (l2 : lo < 18446744073709551616) (hh : hi * 2 ^ s < 18446744073709551616) :
    bits .or .u64 ((hi * 2 ^ s : Nat) : Int) ((lo / 2 ^ (64 - s) : Nat) : Int) = ((hi * 2 ^ s + lo / 2 ^ (64 - s) : Nat) : Int) ∧
    (hi * 2 ^ s + lo / 2 ^ (64 - s)) * 18446744073709551616 + lo * 2 ^ s % 18446744073709551616 = (hi * 18446744073709551616 + lo) * 2 ^ s ∧
    lo / 2 ^ (64 - s) < 2 ^ s := by
  have e : 2 ^ (64 - s) * 2 ^ s = 18446744073709551616 := by rw [← Nat.pow_add, show 64 - s + s = 64 by omega]
  have l : lo / 2 ^ (64 - s) < 2 ^ s := by
    refine (Nat.div_lt_iff_lt_mul (Nat.pow_pos (by omega))).2 ?_
    rw [Nat.mul_comm, e]; exact l2
  have p : 0 < 2 ^ s := Nat.pow_pos (by omega)
  have d : lo * 2 ^ s / 18446744073709551616 = lo / 2 ^ (64 - s) := by rw [← e]; exact Nat.mul_div_mul_right _ _ p
  have o := bits_or_u64_nat (hi * 2 ^ s) (lo / 2 ^ (64 - s)) hh (by have := Nat.div_le_self lo (2 ^ (64 - s)); omega)
  have o2 : hi * 2 ^ s ||| lo / 2 ^ (64 - s) = hi * 2 ^ s + lo / 2 ^ (64 - s) := by
    rw [Nat.mul_comm hi]; exact (Nat.two_pow_add_eq_or_of_lt l hi).symm
  refine ⟨by rw [o, o2], ?_, l⟩
  have m := Nat.div_add_mod (lo * 2 ^ s) 18446744073709551616
  rw [d] at m
  rw [Nat.add_mul, Nat.add_mul, Nat.mul_right_comm hi 18446744073709551616]
  omega
end Go.Proofs.Ytabogoonbapjiaa
