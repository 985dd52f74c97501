/-
  The contracts of package ints once more, each in two: the number fits and has a name, or it does not fit.
-/
import Derived.Test.YtaoicdpjnlcngaaKnown
namespace Go.Proofs.Ytaoicdpjnlcngaa
open Go.RowKit
set_option linter.unusedVariables false

theorem Add_yes {a b s : Int} (w : World) (a1 : -9223372036854775808 ≤ a) (a2 : a ≤ 9223372036854775807) (b1 : -9223372036854775808 ≤ b) (b2 : b ≤ 9223372036854775807) (h : a + b = s) (s1 : -9223372036854775808 ≤ s) (s2 : s ≤ 9223372036854775807) :
    Calls Try.prog 16 #[.int .i64 a, .int .i64 b] w fun e w' => e = .returned (.tuple #[.int .i64 s, .bool true]) ∧ w = w' := by
  have c := Add_any a b w a1 a2 b1 b2
  rw [h, pick_yes (fitB_yes s1 s2), fitB_yes s1 s2] at c
  exact c
theorem Add_no {a b : Int} (w : World) (a1 : -9223372036854775808 ≤ a) (a2 : a ≤ 9223372036854775807) (b1 : -9223372036854775808 ≤ b) (b2 : b ≤ 9223372036854775807) (h : fitB (a + b) = false) :
    Calls Try.prog 16 #[.int .i64 a, .int .i64 b] w fun e w' => e = .returned (.tuple #[.int .i64 0, .bool false]) ∧ w = w' := by
  have c := Add_any a b w a1 a2 b1 b2
  rw [pick_no h, h] at c
  exact c

theorem Sub_yes {a b s : Int} (w : World) (a1 : -9223372036854775808 ≤ a) (a2 : a ≤ 9223372036854775807) (b1 : -9223372036854775808 ≤ b) (b2 : b ≤ 9223372036854775807) (h : a - b = s) (s1 : -9223372036854775808 ≤ s) (s2 : s ≤ 9223372036854775807) :
    Calls Try.prog 17 #[.int .i64 a, .int .i64 b] w fun e w' => e = .returned (.tuple #[.int .i64 s, .bool true]) ∧ w = w' := by
  have c := Sub_any a b w a1 a2 b1 b2
  rw [h, pick_yes (fitB_yes s1 s2), fitB_yes s1 s2] at c
  exact c
theorem Sub_no {a b : Int} (w : World) (a1 : -9223372036854775808 ≤ a) (a2 : a ≤ 9223372036854775807) (b1 : -9223372036854775808 ≤ b) (b2 : b ≤ 9223372036854775807) (h : fitB (a - b) = false) :
    Calls Try.prog 17 #[.int .i64 a, .int .i64 b] w fun e w' => e = .returned (.tuple #[.int .i64 0, .bool false]) ∧ w = w' := by
  have c := Sub_any a b w a1 a2 b1 b2
  rw [pick_no h, h] at c
  exact c

theorem Mul_yes {a b s : Int} (w : World) (a1 : -9223372036854775808 ≤ a) (a2 : a ≤ 9223372036854775807) (b1 : -9223372036854775808 ≤ b) (b2 : b ≤ 9223372036854775807) (h : a * b = s) (s1 : -9223372036854775808 ≤ s) (s2 : s ≤ 9223372036854775807) :
    Calls Try.prog 18 #[.int .i64 a, .int .i64 b] w fun e w' => e = .returned (.tuple #[.int .i64 s, .bool true]) ∧ w = w' := by
  have c := Mul_any a b w a1 a2 b1 b2
  rw [h, pick_yes (fitB_yes s1 s2), fitB_yes s1 s2] at c
  exact c
theorem Mul_no {a b : Int} (w : World) (a1 : -9223372036854775808 ≤ a) (a2 : a ≤ 9223372036854775807) (b1 : -9223372036854775808 ≤ b) (b2 : b ≤ 9223372036854775807) (h : fitB (a * b) = false) :
    Calls Try.prog 18 #[.int .i64 a, .int .i64 b] w fun e w' => e = .returned (.tuple #[.int .i64 0, .bool false]) ∧ w = w' := by
  have c := Mul_any a b w a1 a2 b1 b2
  rw [pick_no h, h] at c
  exact c

theorem Floor_yes {a b s : Int} (w : World) (a1 : -9223372036854775808 ≤ a) (a2 : a ≤ 9223372036854775807) (b1 : 1 ≤ b) (b2 : b ≤ 9223372036854775807) (h : a - a % b = s) (s1 : -9223372036854775808 ≤ s) (s2 : s ≤ 9223372036854775807) :
    Calls Try.prog 19 #[.int .i64 a, .int .i64 b] w fun e w' => e = .returned (.tuple #[.int .i64 s, .bool true]) ∧ w = w' := by
  have c := Floor_any a b w a1 a2 b1 b2
  rw [h, pick_yes (fitB_yes s1 s2), fitB_yes s1 s2] at c
  exact c
theorem Floor_no {a b : Int} (w : World) (a1 : -9223372036854775808 ≤ a) (a2 : a ≤ 9223372036854775807) (b1 : 1 ≤ b) (b2 : b ≤ 9223372036854775807) (h : fitB (a - a % b) = false) :
    Calls Try.prog 19 #[.int .i64 a, .int .i64 b] w fun e w' => e = .returned (.tuple #[.int .i64 0, .bool false]) ∧ w = w' := by
  have c := Floor_any a b w a1 a2 b1 b2
  rw [pick_no h, h] at c
  exact c

theorem Share_yes {a b c q : Int} (w : World) (a1 : 0 ≤ a) (a2 : a ≤ 9223372036854775807) (b1 : 0 ≤ b) (b2 : b ≤ 9223372036854775807) (c1 : 1 ≤ c) (c2 : c ≤ 9223372036854775807) (h : a * b / c = q) (s1 : -9223372036854775808 ≤ q) (s2 : q ≤ 9223372036854775807) :
    Calls Try.prog 11 #[.int .i64 a, .int .i64 b, .int .i64 c] w (Drawn (.returned (.tuple #[.int .i64 q, .bool true])) w) := by
  have t := Share_any a b c w a1 a2 b1 b2 c1 c2
  rw [h, pick_yes (fitB_yes s1 s2), fitB_yes s1 s2] at t
  exact t
/-- Go's quotient of a product that fits. -/
theorem div_back {a b p : Int} (ha : a ≠ 0) (b1 : -9223372036854775808 ≤ b) (b2 : b ≤ 9223372036854775807) (h : a * b = p) : (wrap64 (p.tdiv a) != b) = false := by
  rw [← h, Int.mul_tdiv_cancel_left b ha, IntWalk.wrap64_in b ⟨b1, b2⟩]
  simp
/-- A floor is a multiple. -/
theorem floor_mul {a b f : Int} (h : a - a % b = f) : f % b = 0 ∧ f.tmod b = 0 := by
  have d : b ∣ f := by rw [← h]; exact Int.dvd_self_sub_emod
  exact ⟨Int.emod_eq_zero_of_dvd d, Int.tmod_eq_zero_of_dvd d⟩
/-- A floor that does not fit is of a number below 0. -/
theorem floor_low {a b : Int} (hb : 1 ≤ b) (a2 : a ≤ 9223372036854775807) (h : fitB (a - a % b) = false) : a < 0 := by
  by_cases ha : a < 0
  · exact ha
  · exfalso
    have d := Int.mul_ediv_add_emod a b
    have q := Int.mul_nonneg (show 0 ≤ b by omega) (Int.ediv_nonneg (show 0 ≤ a by omega) (show 0 ≤ b by omega))
    have r := Int.emod_nonneg a (b := b) (by omega)
    rw [fitB_yes (by omega) (by omega)] at h
    cases h
end Go.Proofs.Ytaoicdpjnlcngaa
