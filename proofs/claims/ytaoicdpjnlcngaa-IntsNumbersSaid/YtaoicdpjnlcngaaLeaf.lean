/-
  The contracts of the leaves of package ints, and of the document's own.
-/
import Derived.Test.YtaoicdpjnlcngaaRows
import Derived.Test.YtaoicdpjnlcngaaPlain
import Derived.WalkKit
import Derived.WalkSpells
import Derived.WalkLawsBesides
import Derived.Lib.Hide
namespace Go.Proofs.Ytaoicdpjnlcngaa
open Go.RowKit
set_option linter.unusedVariables false

set_option maxHeartbeats 400000 in
theorem Add_any (a b : Int) (w : World) (a1 : -9223372036854775808 ≤ a) (a2 : a ≤ 9223372036854775807) (b1 : -9223372036854775808 ≤ b) (b2 : b ≤ 9223372036854775807) :
    Calls Try.prog 16 #[.int .i64 a, .int .i64 b] w fun e w' => e = .returned (.tuple #[.int .i64 (pick (a + b)), .bool (fitB (a + b))]) ∧ w = w' := by
  by_cases h : -9223372036854775808 ≤ a + b ∧ a + b ≤ 9223372036854775807
  · obtain ⟨h1, h2⟩ := h
    have fin := ret2_yes (fitB_yes h1 h2)
    have Fin := Lib.hid fin
    clear fin
    by_cases ha : a < 0 <;> by_cases hb : b < 0 <;> by_cases hs : a + b < 0
    all_goals first | omega | skip
    all_goals
      go_enter Try.func16, Try.ntmps16
      go_wp2
      go_ret2
      exact ⟨Fin.out, rfl⟩
  · have fin := ret2_no (fitB_no h)
    have Fin := Lib.hid fin
    clear fin
    by_cases ha : a < 0
    · have hb : b < 0 := by omega
      have hw := wrap_lo (x := a + b) (by omega) (by omega)
      clear h
      go_enter Try.func16, Try.ntmps16
      go_wp2
      go_ret2
      exact ⟨Fin.out, rfl⟩
    · have hb : ¬ b < 0 := by omega
      have hw := wrap_hi (x := a + b) (by omega) (by omega)
      clear h
      go_enter Try.func16, Try.ntmps16
      go_wp2
      go_ret2
      exact ⟨Fin.out, rfl⟩

set_option maxHeartbeats 400000 in
theorem Sub_any (a b : Int) (w : World) (a1 : -9223372036854775808 ≤ a) (a2 : a ≤ 9223372036854775807) (b1 : -9223372036854775808 ≤ b) (b2 : b ≤ 9223372036854775807) :
    Calls Try.prog 17 #[.int .i64 a, .int .i64 b] w fun e w' => e = .returned (.tuple #[.int .i64 (pick (a - b)), .bool (fitB (a - b))]) ∧ w = w' := by
  by_cases h : -9223372036854775808 ≤ a - b ∧ a - b ≤ 9223372036854775807
  · obtain ⟨h1, h2⟩ := h
    have fin := ret2_yes (fitB_yes h1 h2)
    have Fin := Lib.hid fin
    clear fin
    by_cases ha : a < 0 <;> by_cases hb : b < 0 <;> by_cases hs : a - b < 0
    all_goals first | omega | skip
    all_goals
      go_enter Try.func17, Try.ntmps17
      go_wp2
      go_ret2
      exact ⟨Fin.out, rfl⟩
  · have fin := ret2_no (fitB_no h)
    have Fin := Lib.hid fin
    clear fin
    by_cases ha : a < 0
    · have hb : ¬ b < 0 := by omega
      have hw := wrap_lo (x := a - b) (by omega) (by omega)
      clear h
      go_enter Try.func17, Try.ntmps17
      go_wp2
      go_ret2
      exact ⟨Fin.out, rfl⟩
    · have hb : b < 0 := by omega
      have hw := wrap_hi (x := a - b) (by omega) (by omega)
      clear h
      go_enter Try.func17, Try.ntmps17
      go_wp2
      go_ret2
      exact ⟨Fin.out, rfl⟩

set_option maxHeartbeats 400000 in
theorem RefAdd_any (a b : Int) (w : World) (a1 : -9223372036854775808 ≤ a) (a2 : a ≤ 9223372036854775807) (b1 : -9223372036854775808 ≤ b) (b2 : b ≤ 9223372036854775807) :
    Calls Try.prog 20 #[.int .i64 a, .int .i64 b] w fun e w' => e = .returned (.tuple #[.int .i64 (pick (a + b)), .bool (fitB (a + b))]) ∧ w = w' := by
  by_cases h : -9223372036854775808 ≤ a + b ∧ a + b ≤ 9223372036854775807
  · obtain ⟨h1, h2⟩ := h
    have fin := ret2_yes (fitB_yes h1 h2)
    have Fin := Lib.hid fin
    clear fin
    by_cases hb : b < 0
    · go_enter Try.func20, Try.ntmps20
      go_wp2
      go_ret2
      exact ⟨Fin.out, rfl⟩
    by_cases hb : 0 < b
    all_goals
      go_enter Try.func20, Try.ntmps20
      go_wp2
      go_ret2
      exact ⟨Fin.out, rfl⟩
  · have fin := ret2_no (fitB_no h)
    have Fin := Lib.hid fin
    clear fin
    by_cases hb : b < 0
    · have hx : a < -9223372036854775808 - b := by omega
      clear h
      go_enter Try.func20, Try.ntmps20
      go_wp2
      go_ret2
      exact ⟨Fin.out, rfl⟩
    · have hb : 0 < b := by omega
      have hx : 9223372036854775807 - b < a := by omega
      clear h
      go_enter Try.func20, Try.ntmps20
      go_wp2
      go_ret2
      exact ⟨Fin.out, rfl⟩

set_option maxHeartbeats 400000 in
theorem RefSub_any (a b : Int) (w : World) (a1 : -9223372036854775808 ≤ a) (a2 : a ≤ 9223372036854775807) (b1 : -9223372036854775808 ≤ b) (b2 : b ≤ 9223372036854775807) :
    Calls Try.prog 21 #[.int .i64 a, .int .i64 b] w fun e w' => e = .returned (.tuple #[.int .i64 (pick (a - b)), .bool (fitB (a - b))]) ∧ w = w' := by
  by_cases h : -9223372036854775808 ≤ a - b ∧ a - b ≤ 9223372036854775807
  · obtain ⟨h1, h2⟩ := h
    have fin := ret2_yes (fitB_yes h1 h2)
    have Fin := Lib.hid fin
    clear fin
    by_cases hb : b < 0
    · go_enter Try.func21, Try.ntmps21
      go_wp2
      go_ret2
      exact ⟨Fin.out, rfl⟩
    by_cases hb : 0 < b
    all_goals
      go_enter Try.func21, Try.ntmps21
      go_wp2
      go_ret2
      exact ⟨Fin.out, rfl⟩
  · have fin := ret2_no (fitB_no h)
    have Fin := Lib.hid fin
    clear fin
    by_cases hb : b < 0
    · have hx : 9223372036854775807 + b < a := by omega
      clear h
      go_enter Try.func21, Try.ntmps21
      go_wp2
      go_ret2
      exact ⟨Fin.out, rfl⟩
    · have hb : 0 < b := by omega
      have hx : a < -9223372036854775808 + b := by omega
      clear h
      go_enter Try.func21, Try.ntmps21
      go_wp2
      go_ret2
      exact ⟨Fin.out, rfl⟩
end Go.Proofs.Ytaoicdpjnlcngaa
