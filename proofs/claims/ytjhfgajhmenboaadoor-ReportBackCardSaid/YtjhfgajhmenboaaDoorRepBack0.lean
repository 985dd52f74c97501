/-
  Slices of rows; texts that are not the same.
-/
import Derived.Test.YtjhfgajhmenboaaDoorRepLaw
import Derived.Test.YtjhfgajhmenboaaDoorRepFacts
import Derived.Test.YtjhfgajhmenboaaDoorRepTFacts
namespace Go.Proofs.YtjhfgajhmenboaaDoor
open Go.RowKit
set_option linter.unusedVariables false
set_option linter.unusedSimpArgs false

theorem slice_bytes (A : Option Addr) (n c k : Nat) (hk : k ≤ c) (W : World) : (Instr.sliceAt 26 (.slice A n c) none (some (.int .i64 (k : Int))) none).run Tryd.prog W = .ok (.slice A k c) W := by
  rw [run_sliceAt_slice W _ _ _ _ _ (by kernel_rfl), run_slice_h W _ A n c (by kernel_rfl) .i64 (k : Int) (by omega) (by omega)]
  have h : (sizeOf (Tryd.prog.elem 26)).run Tryd.prog W = .ok 1 W := by kernel_rfl
  rw [h]
  cases A <;> simp [sliced, Result.andThen, Addr.add]
theorem slice_reps (A : Option Addr) (n c k : Nat) (hk : k ≤ c) (W : World) : (Instr.sliceAt 33 (.slice A n c) none (some (.int .i64 (k : Int))) none).run Tryd.prog W = .ok (.slice A k c) W := by
  rw [run_sliceAt_slice W _ _ _ _ _ (by kernel_rfl), run_slice_h W _ A n c (by kernel_rfl) .i64 (k : Int) (by omega) (by omega)]
  have h : (sizeOf (Tryd.prog.elem 33)).run Tryd.prog W = .ok 8 W := by kernel_rfl
  rw [h]
  cases A <;> simp [sliced, Result.andThen, Addr.add]
theorem strl_ne {a b : List UInt8} (h : a ≠ b) : ((str a).toList == (str b).toList) = false := by
  rw [str_tl, str_tl]
  simpa using h
end Go.Proofs.YtjhfgajhmenboaaDoor
