/-
  The contract of Share in package ints.
-/
import Derived.Test.YtabogoonbapjiaaDivAny
namespace Go.Proofs.Ytabogoonbapjiaa
open Go.RowKit
set_option linter.unusedVariables false

/-- The call ends so; of the world it has at most drawn. -/
def Drawn (x : Ending) (w : World) (e : Ending) (w' : World) : Prop := e = x ∧ ∃ n : Nat, w' = w.drewN n

set_option maxHeartbeats 400000 in
theorem Share_bad (a b c : Int) (w : World) (h : a < 0 ∨ b < 0 ∨ c < 1) :
    Calls Try.prog 29 #[.int .i64 a, .int .i64 b, .int .i64 c] w fun e w' => e = .returned (.tuple #[.int .i64 0, .bool false]) ∧ w = w' := by
  by_cases h1 : a < 0
  · clear h
    go_enter Try.func29, Try.ntmps29
    go_wp2
    go_ret2
    exact ⟨rfl, rfl⟩
  by_cases h2 : b < 0
  · clear h
    go_enter Try.func29, Try.ntmps29
    go_wp2
    go_ret2
    exact ⟨rfl, rfl⟩
  have h3 : c < 1 := by omega
  clear h
  go_enter Try.func29, Try.ntmps29
  go_wp2
  go_ret2
  exact ⟨rfl, rfl⟩

set_option maxHeartbeats 400000 in
theorem Share_any (a b c : Int) (w : World) (a1 : 0 ≤ a) (a2 : a ≤ 9223372036854775807) (b1 : 0 ≤ b) (b2 : b ≤ 9223372036854775807) (c1 : 1 ≤ c) (c2 : c ≤ 9223372036854775807) :
    Calls Try.prog 29 #[.int .i64 a, .int .i64 b, .int .i64 c] w (Drawn (.returned (.tuple #[.int .i64 (pick (a * b / c)), .bool (fitB (a * b / c))])) w) := by
  obtain ⟨hi, lo, hp, p1, p2, p3⟩ := parts a b a1 b1
  have M := fun w => Mul64_to a b hi lo w a1 (by omega) b1 (by omega) hp p2 p3
  have M := Lib.hid M
  by_cases hh : c ≤ hi
  · have m : (hi * 18446744073709551616) / c ≤ a * b / c := Int.ediv_le_ediv (by omega) (by omega)
    have n : 18446744073709551616 ≤ (hi * 18446744073709551616) / c := (Int.le_ediv_iff_mul_le (by omega)).2 (by omega)
    have e5 : fitB (a * b / c) = false := fitB_no (by omega)
    refine (show Calls Try.prog 29 #[.int .i64 a, .int .i64 b, .int .i64 c] w (fun e w' => e = .returned (.tuple #[.int .i64 0, .bool false]) ∧ w = w') from ?_).mono (fun e w' h => ⟨h.1.trans (ret2_no e5), 0, h.2.symm⟩)
    clear m n e5 hp
    go_enter Try.func29, Try.ntmps29
    go_wp2_with fail
    refine (M.out _).mono ?_; rintro e w' ⟨rfl, rfl⟩
    go_wp2
    go_ret2
    exact ⟨rfl, rfl⟩
  · have hh : hi < c := by omega
    have D := fun w => Div64_any hi lo c w p1 hh c2 p2 p3
    rw [hp] at D
    obtain ⟨q, hq⟩ : ∃ q, a * b / c = q := ⟨_, rfl⟩
    have q0 : 0 ≤ q := by rw [← hq]; exact Int.ediv_nonneg (by omega) (by omega)
    have q1 : q ≤ 18446744073709551615 := by
      have : q < 18446744073709551616 := by rw [← hq]; exact Int.ediv_lt_of_lt_mul (by omega) (by omega)
      omega
    rw [hq] at D ⊢
    have D := Lib.hid D
    clear hp hq
    go_enter Try.func29, Try.ntmps29
    go_wp2_with fail
    refine (M.out _).mono ?_; rintro e w' ⟨rfl, rfl⟩
    go_wp2_with fail
    refine (D.out _).mono ?_; rintro e w' ⟨r, n, rfl, rfl⟩
    go_wp2_with (go_at_call 41; refine (Above_any _ _ q0 q1).mono ?_; rintro e w' ⟨rfl, rfl⟩)
    go_ret2
    exact ⟨rfl, n, rfl⟩
end Go.Proofs.Ytabogoonbapjiaa
