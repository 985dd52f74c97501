/-
  Two lists of quotes that are the same: Same.
-/
import Derived.Test.YtdeofifidjbolaaIpEq
import Derived.Test.YtdeofifidjbolaaImJoin
import Derived.Deep.QuietTactic
import Derived.BigQuiet
namespace Go.Proofs.Ytdeofifidjbolaa
open Go.RowKit
set_option linter.unusedVariables false
set_option linter.unusedSimpArgs false

set_option maxRecDepth 100000 in
set_option maxHeartbeats 4000000 in
theorem SameQ_yes (A B : Option Addr) (n ca cb : Nat) (L : List Qt) (w : World) (hn : n ≤ 1000) (hA : Hid (HV fQt w A n L)) (hB : Hid (HV fQt w B n L)) :
    Calls Try.prog 23 #[.slice A n ca, .slice B n cb] w fun e w' => e = .returned (.bool true) ∧ Below w.heap.size w w' := by
  have dn : ((n : Int) != (n : Int)) = false := by simp
  have hln := hA.out.1
  have hex : Hid (∀ k, k < n → ∃ y, L[k]? = some y) := Lib.hid (fun k hk => ⟨_, List.getElem?_eq_getElem (by omega)⟩)
  have hVA : Hid (HV fQt w A n L) := Lib.hid hA.out
  have hVB : Hid (HV fQt w B n L) := Lib.hid hB.out
  clear hA hB hln
  go_enter Try.func23, Try.ntmps23
  go_wp2_with fail
  go_loopw [5] (fun iv wr => ∃ (k d : Nat), iv = .int .i64 (k : Int) ∧ k ≤ n ∧ wr = w.drewN d) (fun iv _ => n - (intOf iv).toNat)
  case atStart => exact ⟨0, 0, rfl, by omega, rfl⟩
  case round =>
    obtain ⟨k, d, rfl, hk, rfl⟩ := hrel
    by_cases hlt : k < n
    · have d1 : decide ((k : Int) < (n : Int)) = true := decide_eq_true (by omega)
      have d3 : (k : Int) < (n : Int) := by omega
      have hk1 : k + 1 ≤ n := hlt
      obtain ⟨y, hy⟩ := hex.out k hlt
      obtain ⟨ba, offa, rfl, y0, y1, y2, y3, y4, y5⟩ := hVA.out.atQ hy
      obtain ⟨bb, offb, rfl, x0, x1, x2, x3, x4, x5⟩ := hVB.out.atQ hy
      obtain ⟨yp, yn, yi, ys, yj, yt⟩ := y
      simp only at y0 y1 y2 y3 y4 y5 x0 x1 x2 x3 x4 x5
      have hne : ∀ W : World, (binOp .neq 37 (.agg #[.int .i64 yp, .int .i64 yn, .int .i64 yi, .int .i64 ys, .int .i64 yj, .int .i64 yt]) (.agg #[.int .i64 yp, .int .i64 yn, .int .i64 yi, .int .i64 ys, .int .i64 yj, .int .i64 yt])).run Try.prog W = .ok (.bool false) W := fun W => by rw [neq_quote]; simp
      replace hy := Lib.hid hy
      clear hlt
      go_wp2_with fail
      go_quiet (fail)
      go_wp2_with fail
      go_roundw
      case rel => exact ⟨k + 1, _, by go_num, hk1, rfl⟩
      case measure => simp [intOf]; omega
    · obtain rfl : n = k := by omega
      have d1 : decide ((n : Int) < (n : Int)) = false := by simp
      have fin := Lib.hid (below_drewN (Below.refl w.heap.size w) d)
      clear hlt hk
      go_wp2_with fail
      go_ret
      exact ⟨rfl, fin.out⟩
end Go.Proofs.Ytdeofifidjbolaa
