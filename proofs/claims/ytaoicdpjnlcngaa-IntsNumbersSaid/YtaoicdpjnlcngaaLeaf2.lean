/-
  The contracts of the leaves of package ints, and of the document's own: Floor, and the small ones under Mul and Share.
-/
import Derived.Test.YtaoicdpjnlcngaaLeaf
namespace Go.Proofs.Ytaoicdpjnlcngaa
open Go.RowKit
set_option linter.unusedVariables false

set_option maxHeartbeats 400000 in
theorem Size_any (a : Int) (w : World) (a1 : -9223372036854775808 ≤ a) (a2 : a ≤ 9223372036854775807) :
    Calls Try.prog 29 #[.int .i64 a] w fun e w' => e = .returned (.int .u64 a.natAbs) ∧ w = w' := by
  by_cases ha : a < 0
  · go_enter Try.func29, Try.ntmps29
    go_wp2
    go_ret
    exact ⟨ret1 (size_neg a1 ha), rfl⟩
  · have e := Lib.hid (show a = a.natAbs by omega)
    go_enter Try.func29, Try.ntmps29
    go_wp2
    go_ret
    exact ⟨ret1 e.out, rfl⟩

set_option maxHeartbeats 400000 in
theorem Above_any (a : Int) (w : World) (a1 : 0 ≤ a) (a2 : a ≤ 18446744073709551615) :
    Calls Try.prog 26 #[.int .u64 a] w fun e w' => e = .returned (.tuple #[.int .i64 (pick a), .bool (fitB a)]) ∧ w = w' := by
  by_cases ha : a ≤ 9223372036854775807
  · have Fin := Lib.hid (ret2_yes (fitB_yes (x := a) (by omega) ha))
    go_enter Try.func26, Try.ntmps26
    go_wp2
    go_ret2
    exact ⟨Fin.out, rfl⟩
  · have Fin := Lib.hid (ret2_no (fitB_no (x := a) (by omega)))
    go_enter Try.func26, Try.ntmps26
    go_wp2
    go_ret2
    exact ⟨Fin.out, rfl⟩

set_option maxHeartbeats 400000 in
theorem Below_any (a : Int) (w : World) (a1 : 0 ≤ a) (a2 : a ≤ 18446744073709551615) :
    Calls Try.prog 30 #[.int .u64 a] w fun e w' => e = .returned (.tuple #[.int .i64 (pick (-a)), .bool (fitB (-a))]) ∧ w = w' := by
  by_cases ha : a ≤ 9223372036854775808
  · have Fin := Lib.hid (ret2_yes (fitB_yes (x := -a) (by omega) (by omega)))
    go_enter Try.func30, Try.ntmps30
    go_wp2
    go_ret2
    rw [below_eq a1 ha]
    exact ⟨Fin.out, rfl⟩
  · have Fin := Lib.hid (ret2_no (fitB_no (x := -a) (by omega)))
    go_enter Try.func30, Try.ntmps30
    go_wp2
    go_ret2
    exact ⟨Fin.out, rfl⟩

set_option maxHeartbeats 400000 in
theorem SignHalf_any (a : Int) (w : World) (a1 : -9223372036854775808 ≤ a) (a2 : a ≤ 9223372036854775807) :
    Calls Try.prog 28 #[.int .i64 a] w fun e w' => e = .returned (.int .u64 (sgn a)) ∧ w = w' := by
  go_enter Try.func28, Try.ntmps28
  go_wp2
  go_ret
  exact ⟨ret1 (sgn_eq a1 a2), rfl⟩

set_option maxHeartbeats 400000 in
theorem Floor_bad (a b : Int) (w : World) (hb : b < 1) :
    Calls Try.prog 19 #[.int .i64 a, .int .i64 b] w fun e w' => e = .returned (.tuple #[.int .i64 0, .bool false]) ∧ w = w' := by
  go_enter Try.func19, Try.ntmps19
  go_wp2
  go_ret2
  exact ⟨rfl, rfl⟩
set_option maxHeartbeats 400000 in
theorem RefFloor_bad (a b : Int) (w : World) (hb : b < 1) :
    Calls Try.prog 23 #[.int .i64 a, .int .i64 b] w fun e w' => e = .returned (.tuple #[.int .i64 0, .bool false]) ∧ w = w' := by
  go_enter Try.func23, Try.ntmps23
  go_wp2
  go_ret2
  exact ⟨rfl, rfl⟩

set_option maxHeartbeats 400000 in
theorem Floor_any (a b : Int) (w : World) (a1 : -9223372036854775808 ≤ a) (a2 : a ≤ 9223372036854775807) (b1 : 1 ≤ b) (b2 : b ≤ 9223372036854775807) :
    Calls Try.prog 19 #[.int .i64 a, .int .i64 b] w fun e w' => e = .returned (.tuple #[.int .i64 (pick (a - a % b)), .bool (fitB (a - a % b))]) ∧ w = w' := by
  have r1 := Int.emod_nonneg a (b := b) (by omega)
  have r2 := Int.emod_lt_of_pos a (b := b) (by omega)
  by_cases ha : a < 0
  · by_cases hr : a % b = 0
    · have ht := tmod_neg hr
      rw [hr, Int.sub_zero]
      clear r1 r2 hr
      go_enter Try.func19, Try.ntmps19
      go_wp2_with (go_at_call 17; refine (Sub_any _ _ _ (by omega) (by omega) (by omega) (by omega)).mono ?_; rintro e w' ⟨rfl, rfl⟩)
      go_ret2
      exact ⟨rfl, rfl⟩
    · have ht := tmod_neg' ha b1 hr
      clear hr
      go_enter Try.func19, Try.ntmps19
      go_wp2_with (go_at_call 17; refine (Sub_any _ _ _ (by omega) (by omega) (by omega) (by omega)).mono ?_; rintro e w' ⟨rfl, rfl⟩)
      go_ret2
      exact ⟨rfl, rfl⟩
  · go_enter Try.func19, Try.ntmps19
    go_wp2_with (go_at_call 17; refine (Sub_any _ _ _ (by omega) (by omega) (by omega) (by omega)).mono ?_; rintro e w' ⟨rfl, rfl⟩)
    go_ret2
    exact ⟨rfl, rfl⟩
set_option maxHeartbeats 400000 in
theorem RefFloor_any (a b : Int) (w : World) (a1 : -9223372036854775808 ≤ a) (a2 : a ≤ 9223372036854775807) (b1 : 1 ≤ b) (b2 : b ≤ 9223372036854775807) :
    Calls Try.prog 23 #[.int .i64 a, .int .i64 b] w fun e w' => e = .returned (.tuple #[.int .i64 (pick (a - a % b)), .bool (fitB (a - a % b))]) ∧ w = w' := by
  have r1 := Int.emod_nonneg a (b := b) (by omega)
  have r2 := Int.emod_lt_of_pos a (b := b) (by omega)
  by_cases ha : a < 0
  · by_cases hr : a % b = 0
    · have ht := tmod_neg hr
      rw [hr, Int.sub_zero]
      clear r1 r2 hr
      go_enter Try.func23, Try.ntmps23
      go_wp2_with (go_at_call 21; refine (RefSub_any _ _ _ (by omega) (by omega) (by omega) (by omega)).mono ?_; rintro e w' ⟨rfl, rfl⟩)
      go_ret2
      exact ⟨rfl, rfl⟩
    · have ht := tmod_neg' ha b1 hr
      clear hr
      go_enter Try.func23, Try.ntmps23
      go_wp2_with (go_at_call 21; refine (RefSub_any _ _ _ (by omega) (by omega) (by omega) (by omega)).mono ?_; rintro e w' ⟨rfl, rfl⟩)
      go_ret2
      exact ⟨rfl, rfl⟩
  · go_enter Try.func23, Try.ntmps23
    go_wp2_with (go_at_call 21; refine (RefSub_any _ _ _ (by omega) (by omega) (by omega) (by omega)).mono ?_; rintro e w' ⟨rfl, rfl⟩)
    go_ret2
    exact ⟨rfl, rfl⟩
end Go.Proofs.Ytaoicdpjnlcngaa
