/-
  The contract of known, chapter 1's runs; of same, all of two numbers.
-/
import Derived.Test.YtaoicdpjnlcngaaShare
import Derived.Test.YtaoicdpjnlcngaaRefShare
namespace Go.Proofs.Ytaoicdpjnlcngaa
open Go.RowKit
set_option linter.unusedVariables false

theorem Share_known (w : World) : Calls Try.prog 11 #[.int .i64 4611686018427387904, .int .i64 6, .int .i64 4] w (Drawn (.returned (.tuple #[.int .i64 6917529027641081856, .bool true])) w) := by
  have c := Share_any 4611686018427387904 6 4 w (by omega) (by omega) (by omega) (by omega) (by omega) (by omega)
  have e : (4611686018427387904 : Int) * 6 / 4 = 6917529027641081856 := by decide
  rw [e, pick_yes (fitB_yes (by omega) (by omega)), fitB_yes (by omega) (by omega)] at c
  exact c
theorem Floor_known (w : World) : Calls Try.prog 19 #[.int .i64 (-1), .int .i64 5] w fun e w' => e = .returned (.tuple #[.int .i64 (-5), .bool true]) ∧ w = w' := by
  have c := Floor_any (-1) 5 w (by omega) (by omega) (by omega) (by omega)
  have e : (-1 : Int) - -1 % 5 = -5 := by decide
  rw [e, pick_yes (fitB_yes (by omega) (by omega)), fitB_yes (by omega) (by omega)] at c
  exact c
theorem Add_known (w : World) : Calls Try.prog 16 #[.int .i64 9223372036854775807, .int .i64 1] w fun e w' => e = .returned (.tuple #[.int .i64 0, .bool false]) ∧ w = w' := by
  have c := Add_any 9223372036854775807 1 w (by omega) (by omega) (by omega) (by omega)
  rw [pick_no (fitB_no (by omega)), fitB_no (by omega)] at c
  exact c

set_option maxHeartbeats 400000 in
theorem Known_any (w : World) : Calls Try.prog 15 #[] w (Drawn (.returned (.bool true)) w) := by
  go_enter Try.func15, Try.ntmps15
  go_wp2_with fail
  refine (Share_known _).mono ?_; rintro e w' ⟨rfl, n, rfl⟩
  go_wp2_with fail
  refine (Floor_known _).mono ?_; rintro e w' ⟨rfl, rfl⟩
  go_wp2_with fail
  refine (Add_known _).mono ?_; rintro e w' ⟨rfl, rfl⟩
  go_wp2
  go_ret
  exact ⟨rfl, n, rfl⟩

set_option maxHeartbeats 400000 in
theorem Same_any (a b : Int) (w : World) (a1 : -9223372036854775808 ≤ a) (a2 : a ≤ 9223372036854775807) (b1 : -9223372036854775808 ≤ b) (b2 : b ≤ 9223372036854775807) :
    Calls Try.prog 10 #[.int .i64 a, .int .i64 b] w (fun e w' => e = .returned (.bool true) ∧ w = w') := by
  by_cases hb : b < 1
  · go_enter Try.func10, Try.ntmps10
    go_wp2_with fail
    refine (Add_any _ _ _ a1 a2 b1 b2).mono ?_; rintro e w' ⟨rfl, rfl⟩
    go_wp2_with fail
    refine (RefAdd_any _ _ _ a1 a2 b1 b2).mono ?_; rintro e w' ⟨rfl, rfl⟩
    go_wp2_with fail
    refine (Sub_any _ _ _ a1 a2 b1 b2).mono ?_; rintro e w' ⟨rfl, rfl⟩
    go_wp2_with fail
    refine (RefSub_any _ _ _ a1 a2 b1 b2).mono ?_; rintro e w' ⟨rfl, rfl⟩
    go_wp2_with fail
    refine (Mul_any _ _ _ a1 a2 b1 b2).mono ?_; rintro e w' ⟨rfl, rfl⟩
    go_wp2_with fail
    refine (RefMul_any _ _ _ a1 a2 b1 b2).mono ?_; rintro e w' ⟨rfl, rfl⟩
    go_wp2_with fail
    refine (Floor_bad _ _ _ hb).mono ?_; rintro e w' ⟨rfl, rfl⟩
    go_wp2_with fail
    refine (RefFloor_bad _ _ _ hb).mono ?_; rintro e w' ⟨rfl, rfl⟩
    go_wp2
    go_ret
    exact ⟨rfl, rfl⟩
  · have hb : 1 ≤ b := by omega
    go_enter Try.func10, Try.ntmps10
    go_wp2_with fail
    refine (Add_any _ _ _ a1 a2 b1 b2).mono ?_; rintro e w' ⟨rfl, rfl⟩
    go_wp2_with fail
    refine (RefAdd_any _ _ _ a1 a2 b1 b2).mono ?_; rintro e w' ⟨rfl, rfl⟩
    go_wp2_with fail
    refine (Sub_any _ _ _ a1 a2 b1 b2).mono ?_; rintro e w' ⟨rfl, rfl⟩
    go_wp2_with fail
    refine (RefSub_any _ _ _ a1 a2 b1 b2).mono ?_; rintro e w' ⟨rfl, rfl⟩
    go_wp2_with fail
    refine (Mul_any _ _ _ a1 a2 b1 b2).mono ?_; rintro e w' ⟨rfl, rfl⟩
    go_wp2_with fail
    refine (RefMul_any _ _ _ a1 a2 b1 b2).mono ?_; rintro e w' ⟨rfl, rfl⟩
    go_wp2_with fail
    refine (Floor_any _ _ _ a1 a2 hb b2).mono ?_; rintro e w' ⟨rfl, rfl⟩
    go_wp2_with fail
    refine (RefFloor_any _ _ _ a1 a2 hb b2).mono ?_; rintro e w' ⟨rfl, rfl⟩
    go_wp2
    go_ret
    exact ⟨rfl, rfl⟩
end Go.Proofs.Ytaoicdpjnlcngaa
