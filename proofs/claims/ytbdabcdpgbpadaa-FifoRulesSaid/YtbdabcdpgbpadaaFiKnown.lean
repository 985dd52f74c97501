/-
  The law's known: chapter 10's runs.
-/
import Derived.Test.YtbdabcdpgbpadaaFiSizes
namespace Go.Proofs.Ytbdabcdpgbpadaa
open Go.RowKit
set_option linter.unusedVariables false
set_option linter.unusedSimpArgs false

theorem share_a : shareL [5, 5, 5] 7 = [5, 2, 0] := by kernel_rfl
theorem share_b : shareL [5] 6 = [] := by kernel_rfl
theorem right_c : rightL [] 0 = true := by kernel_rfl
theorem small_I64 {l : List Int} (h : l.all (fun x => decide (-1000000 ≤ x) && decide (x ≤ 1000000)) = true) : ∀ x ∈ l, I64 x := fun x hx => by
  have := List.all_eq_true.1 h x hx
  simp only [Bool.and_eq_true, decide_eq_true_eq] at this
  exact ⟨by omega, by omega⟩

set_option maxRecDepth 100000 in
set_option maxHeartbeats 1600000 in
theorem Known_any (w : World) : Calls Try.prog 12 #[] w fun e w' => e = .returned (.bool true) ∧ Below w.heap.size w w' := by
  have HA := Lib.hid (FShare_any (some ⟨w.heap.size, 0, none⟩) 3 3 [5, 5, 5] 7 (w.alloc (.cells #[.int .i64 5, .int .i64 5, .int .i64 5] 2)) (by omega) (by omega) (by omega) (Lib.hid (holds_lit w [5, 5, 5] 2 (small_I64 (by decide)))))
  go_enter Try.func12, Try.ntmps12
  go_wp2_with fail
  refine HA.out.mono ?_
  rintro e w1 ⟨v, rfl, r1, b1⟩
  rw [share_a] at r1
  obtain ⟨A1, c1, rfl, H1, -, -, -, -⟩ := r1.slice (small_I64 (by decide))
  simp only [List.length_cons, List.length_nil, Nat.zero_add, Nat.reduceAdd] at H1
  have B1 := Lib.hid (((Below.refl w.heap.size w).alloc (Nat.le_refl _) (.cells #[.int .i64 5, .int .i64 5, .int .i64 5] 2)).trans (b1.mono (by simp)))
  have HS := Lib.hid (Same_yes A1 (some ⟨w1.heap.size, 0, none⟩) 3 c1 3 [5, 2, 0] (w1.alloc (.cells #[.int .i64 5, .int .i64 2, .int .i64 0] 2)) (by omega) (Lib.hid (H1.alloc _)) (Lib.hid (holds_lit w1 [5, 2, 0] 2 (small_I64 (by decide)))))
  clear r1 b1 H1 HA
  go_wp2_with fail
  refine HS.out.mono ?_
  rintro e w2 ⟨rfl, q, rfl⟩
  have B2 := Lib.hid (below_drewN (B1.out.alloc B1.out.size (.cells #[.int .i64 5, .int .i64 2, .int .i64 0] 2)) q)
  obtain ⟨W, hW⟩ : ∃ W, (w1.alloc (.cells #[.int .i64 5, .int .i64 2, .int .i64 0] 2)).drewN q = W := ⟨_, rfl⟩
  rw [hW] at B2 ⊢
  clear hW HS
  have HB := Lib.hid (FShare_any (some ⟨W.heap.size, 0, none⟩) 1 1 [5] 6 (W.alloc (.cells #[.int .i64 5] 2)) (by omega) (by omega) (by omega) (Lib.hid (holds_lit W [5] 2 (small_I64 (by decide)))))
  go_wp2_with fail
  refine HB.out.mono ?_
  rintro e w3 ⟨v, rfl, r3, b3⟩
  rw [share_b] at r3
  obtain ⟨A3, c3, rfl, -, -, -, -, -⟩ := r3.slice (by simp)
  have B3 := Lib.hid ((B2.out.alloc B2.out.size (.cells #[.int .i64 5] 2)).trans (b3.mono (by simpa using Nat.le_succ_of_le B2.out.size)))
  clear r3 b3 HB
  have HC := FRight_any none 0 0 [] 0 w3 (by omega) (by omega) (by omega) (Lib.hid (holds_none _ _))
  rw [right_c] at HC
  replace HC := Lib.hid HC
  go_wp2_with fail
  refine HC.out.mono ?_
  rintro e w4 ⟨rfl, rfl⟩
  go_wp2_with fail
  go_ret
  exact ⟨rfl, B3.out⟩
end Go.Proofs.Ytbdabcdpgbpadaa
