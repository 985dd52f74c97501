/-
  The law's known: chapter 12's run.
-/
import Derived.Test.YtoojdifigfgfcaaSpRef
import Derived.Test.YtoojdifigfgfcaaPrKnown
namespace Go.Proofs.Ytoojdifigfgfcaa
open Go.RowKit
set_option linter.unusedVariables false
set_option linter.unusedSimpArgs false

set_option maxRecDepth 100000 in
set_option maxHeartbeats 1600000 in
theorem Known_any (w : World) : Calls Try.prog 10 #[] w fun e w' => e = .returned (.bool true) ∧ Below w.heap.size w w' := by
  have HA := SShare_any (some ⟨w.heap.size, 0, none⟩) 2 2 [10, 10] 50 1 10 (w.alloc (.cells #[.int .i64 10, .int .i64 10] 2)) (by omega) (by omega) (by omega) (by omega) (by omega) (by omega) (by omega) (by omega) (Lib.hid (holds_lit w [10, 10] 2 (small_I64 (by decide))))
  rw [known_c] at HA
  replace HA := Lib.hid HA
  go_enter Try.func10, Try.ntmps10
  go_wp2_with fail
  refine HA.out.mono ?_
  rintro e w1 ⟨v, rfl, r1, b1⟩
  obtain ⟨A1, c1, rfl, H1, -, -, -, -⟩ := r1.slice (small_I64 (by decide))
  simp only [List.length_cons, List.length_nil, Nat.zero_add, Nat.reduceAdd] at H1
  have B1 := Lib.hid (((Below.refl w.heap.size w).alloc (Nat.le_refl _) (.cells #[.int .i64 10, .int .i64 10] 2)).trans (b1.mono (by simp)))
  have HS := Lib.hid (Same_yes A1 (some ⟨w1.heap.size, 0, none⟩) 2 c1 2 [7, 3] (w1.alloc (.cells #[.int .i64 7, .int .i64 3] 2)) (by omega) (Lib.hid (H1.alloc _)) (Lib.hid (holds_lit w1 [7, 3] 2 (small_I64 (by decide)))))
  clear r1 b1 H1 HA
  go_wp2_with fail
  refine HS.out.mono ?_
  rintro e w2 ⟨rfl, q, rfl⟩
  have B2 := Lib.hid (below_drewN (B1.out.alloc B1.out.size (.cells #[.int .i64 7, .int .i64 3] 2)) q)
  go_wp2_with fail
  go_ret
  exact ⟨rfl, B2.out⟩
end Go.Proofs.Ytoojdifigfgfcaa
