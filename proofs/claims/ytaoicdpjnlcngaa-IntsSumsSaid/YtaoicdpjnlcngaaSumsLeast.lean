/-
  The walk of the law IntsSums at the least number, which has no contrary.
-/
import Derived.Test.YtaoicdpjnlcngaaSumsPlain
namespace Go.Proofs.Ytaoicdpjnlcngaa
open Go.RowKit
set_option linter.unusedVariables false

set_option maxHeartbeats 400000 in
theorem Sums_least_short (A : Option Addr) (n cap : Nat) (at_ : Int) (w : World) (n3 : n ≤ 100) :
    Calls Try.prog 7 #[.slice A n cap, .int .i64 (-9223372036854775808), .int .i64 at_] w (fun e w' => e = .returned (.bool true) ∧ Below w.heap.size w w') := by
  go_enter Try.func7, Try.ntmps7
  go_wp2_with (go_at_call 15; refine (Known_any _).mono ?_; rintro e w' ⟨rfl, n5, rfl⟩)
  go_ret
  exact ⟨rfl, below_drewN (Below.refl _ _) n5⟩
set_option maxHeartbeats 400000 in
theorem Sums_least_long (ad : Addr) (n cap : Nat) (at_ : Int) (w : World) (n3 : 100 < n) (n1 : n ≤ cap) (n2 : cap ≤ 9223372036854775807) :
    Calls Try.prog 7 #[.slice (some ad) n cap, .int .i64 (-9223372036854775808), .int .i64 at_] w (fun e w' => e = .returned (.bool true) ∧ Below w.heap.size w w') := by
  go_enter Try.func7, Try.ntmps7
  go_wp2_with (go_at_call 15; refine (Known_any _).mono ?_; rintro e w' ⟨rfl, n5, rfl⟩)
  go_ret
  exact ⟨rfl, below_drewN (Below.refl _ _) n5⟩
end Go.Proofs.Ytaoicdpjnlcngaa
