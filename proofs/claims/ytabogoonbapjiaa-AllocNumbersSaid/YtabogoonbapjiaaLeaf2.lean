/-
  The contracts of the leaves of package ints, and of the document's own: Floor, and the small ones under Mul and Share.
-/
import Derived.Test.YtabogoonbapjiaaLeaf
namespace Go.Proofs.Ytabogoonbapjiaa
open Go.RowKit
set_option linter.unusedVariables false

set_option maxHeartbeats 400000 in
theorem Above_any (a : Int) (w : World) (a1 : 0 ≤ a) (a2 : a ≤ 18446744073709551615) :
    Calls Try.prog 41 #[.int .u64 a] w fun e w' => e = .returned (.tuple #[.int .i64 (pick a), .bool (fitB a)]) ∧ w = w' := by
  by_cases ha : a ≤ 9223372036854775807
  · have Fin := Lib.hid (ret2_yes (fitB_yes (x := a) (by omega) ha))
    go_enter Try.func41, Try.ntmps41
    go_wp2
    go_ret2
    exact ⟨Fin.out, rfl⟩
  · have Fin := Lib.hid (ret2_no (fitB_no (x := a) (by omega)))
    go_enter Try.func41, Try.ntmps41
    go_wp2
    go_ret2
    exact ⟨Fin.out, rfl⟩

set_option maxHeartbeats 400000 in
theorem SignHalf_any (a : Int) (w : World) (a1 : -9223372036854775808 ≤ a) (a2 : a ≤ 9223372036854775807) :
    Calls Try.prog 46 #[.int .i64 a] w fun e w' => e = .returned (.int .u64 (sgn a)) ∧ w = w' := by
  go_enter Try.func46, Try.ntmps46
  go_wp2
  go_ret
  exact ⟨ret1 (sgn_eq a1 a2), rfl⟩

end Go.Proofs.Ytabogoonbapjiaa
