/-
  The walk of the law IntsRules at a first number of 0.
-/
import Derived.Test.YtaoicdpjnlcngaaYes
namespace Go.Proofs.Ytaoicdpjnlcngaa
open Go.RowKit
set_option linter.unusedVariables false

set_option maxRecDepth 100000 in
set_option maxHeartbeats 1000000 in
theorem Rules_zero (b : Int) (w : World) (b1 : -9223372036854775808 ≤ b) (b2 : b ≤ 9223372036854775807) :
    Calls Try.prog 5 #[.int .i64 0, .int .i64 b] w (Drawn (.returned (.bool true)) w) := by
  go_enter Try.func5, Try.ntmps5
  go_wp2_with fail
  refine (Add_yes (s := b) _ (by omega) (by omega) b1 b2 (by omega) b1 b2).mono ?_; rintro e w' ⟨rfl, rfl⟩
  go_wp2_with fail
  refine (Sub_yes (s := 0) _ b1 b2 b1 b2 (by omega) (by omega) (by omega)).mono ?_; rintro e w' ⟨rfl, rfl⟩
  go_wp2_with fail
  refine (Add_yes (s := b) _ b1 b2 (by omega) (by omega) (by omega) b1 b2).mono ?_; rintro e w' ⟨rfl, rfl⟩
  go_wp2_with fail
  refine (Mul_yes (s := 0) _ (by omega) (by omega) b1 b2 (by omega) (by omega) (by omega)).mono ?_; rintro e w' ⟨rfl, rfl⟩
  go_wp2_with fail
  refine (Mul_yes (s := 0) _ b1 b2 (by omega) (by omega) (by omega) (by omega) (by omega)).mono ?_; rintro e w' ⟨rfl, rfl⟩
  go_wp2_with fail
  by_cases hb : b < 1
  · refine (Floor_bad _ _ _ hb).mono ?_; rintro e w' ⟨rfl, rfl⟩
    go_wp2_with (go_at_call 15; refine (Known_any _).mono ?_; rintro e w' ⟨rfl, n, rfl⟩)
    go_ret
    exact ⟨rfl, n, rfl⟩
  · refine (Floor_yes (s := 0) _ (by omega) (by omega) (by omega) b2 (by rw [Int.zero_emod]; omega) (by omega) (by omega)).mono ?_; rintro e w' ⟨rfl, rfl⟩
    go_wp2_with (go_at_call 15; refine (Known_any _).mono ?_; rintro e w' ⟨rfl, n, rfl⟩)
    go_ret
    exact ⟨rfl, n, rfl⟩
end Go.Proofs.Ytaoicdpjnlcngaa
