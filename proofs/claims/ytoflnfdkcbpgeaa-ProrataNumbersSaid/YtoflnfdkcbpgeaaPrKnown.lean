/-
  The law's known: chapter 11's runs; what the laws draw.
-/
import Derived.Test.YtoflnfdkcbpgeaaPrFacts
import Derived.Test.YtoflnfdkcbpgeaaFiSizes
namespace Go.Proofs.Ytoflnfdkcbpgeaa
open Go.RowKit
set_option linter.unusedVariables false
set_option linter.unusedSimpArgs false

theorem small_I64 {l : List Int} (h : l.all (fun x => decide (-1000000 ≤ x) && decide (x ≤ 1000000)) = true) : ∀ x ∈ l, I64 x := fun x hx => by
  have := List.all_eq_true.1 h x hx
  simp only [Bool.and_eq_true, decide_eq_true_eq] at this
  exact ⟨by omega, by omega⟩
/-- What the laws draw: right numbers, and a part of their sum. -/
theorem drawn_part (xs : List Int) (small : Int) : ∃ m k : Nat, sumL (sizeL xs) = (m : Int) ∧ withinN small m = k ∧ m ≤ 40000000 ∧ k ≤ m ∧ (sizeL xs).length ≤ 40 ∧ rightL (sizeL xs) k = true := by
  have ok := size_ok xs
  have hl := size_len xs
  obtain ⟨b1, b2⟩ := sumL_bound (sizeL xs) 1000000 (fun x hx => by have := ok x hx; omega)
  have hle := withinN_le small (sumL (sizeL xs)).toNat
  refine ⟨(sumL (sizeL xs)).toNat, withinN small (sumL (sizeL xs)).toNat, by omega, rfl, by omega, hle, by omega, (right_iff _ _).2 ⟨by omega, ok, by omega, by omega⟩⟩

set_option maxRecDepth 100000 in
set_option maxHeartbeats 1600000 in
theorem Known_any (w : World) : Calls Try.prog 14 #[] w fun e w' => e = .returned (.bool true) ∧ Below w.heap.size w w' := by
  have HA := PPlain_any (some ⟨w.heap.size, 0, none⟩) 3 3 [6, 3, 1] 1 5 (w.alloc (.cells #[.int .i64 6, .int .i64 3, .int .i64 1] 2)) (by omega) (by omega) (by omega) (by omega) (by omega) (Lib.hid (holds_lit w [6, 3, 1] 2 (small_I64 (by decide))))
  rw [known_a] at HA
  replace HA := Lib.hid HA
  go_enter Try.func14, Try.ntmps14
  go_wp2_with fail
  refine HA.out.mono ?_
  rintro e w1 ⟨v, rfl, r1, b1⟩
  obtain ⟨A1, c1, rfl, H1, -, -, -, -⟩ := r1.slice (small_I64 (by decide))
  simp only [List.length_cons, List.length_nil, Nat.zero_add, Nat.reduceAdd] at H1
  have B1 := Lib.hid (((Below.refl w.heap.size w).alloc (Nat.le_refl _) (.cells #[.int .i64 6, .int .i64 3, .int .i64 1] 2)).trans (b1.mono (by simp)))
  have HS := Lib.hid (Same_yes A1 (some ⟨w1.heap.size, 0, none⟩) 3 c1 3 [4, 1, 0] (w1.alloc (.cells #[.int .i64 4, .int .i64 1, .int .i64 0] 2)) (by omega) (Lib.hid (H1.alloc _)) (Lib.hid (holds_lit w1 [4, 1, 0] 2 (small_I64 (by decide)))))
  clear r1 b1 H1 HA
  go_wp2_with fail
  refine HS.out.mono ?_
  rintro e w2 ⟨rfl, q, rfl⟩
  have B2 := Lib.hid (below_drewN (B1.out.alloc B1.out.size (.cells #[.int .i64 4, .int .i64 1, .int .i64 0] 2)) q)
  obtain ⟨W, hW⟩ : ∃ W, (w1.alloc (.cells #[.int .i64 4, .int .i64 1, .int .i64 0] 2)).drewN q = W := ⟨_, rfl⟩
  rw [hW] at B2 ⊢
  clear hW HS
  have HB := PShare_any (some ⟨W.heap.size, 0, none⟩) 3 3 [6, 3, 1] 2 9 1 5 (W.alloc (.cells #[.int .i64 6, .int .i64 3, .int .i64 1] 2)) (by omega) (by omega) (by omega) (by omega) (by omega) (by omega) (by omega) (by omega) (by omega) (Lib.hid (holds_lit W [6, 3, 1] 2 (small_I64 (by decide))))
  rw [known_b] at HB
  replace HB := Lib.hid HB
  go_wp2_with fail
  refine HB.out.mono ?_
  rintro e w3 ⟨v, rfl, r3, b3⟩
  obtain ⟨A3, c3, rfl, H3, -, -, -, -⟩ := r3.slice (small_I64 (by decide))
  simp only [List.length_cons, List.length_nil, Nat.zero_add, Nat.reduceAdd] at H3
  have B3 := Lib.hid ((B2.out.alloc B2.out.size (.cells #[.int .i64 6, .int .i64 3, .int .i64 1] 2)).trans (b3.mono (by simpa using Nat.le_succ_of_le B2.out.size)))
  have HS := Lib.hid (Same_yes A3 (some ⟨w3.heap.size, 0, none⟩) 3 c3 3 [3, 1, 1] (w3.alloc (.cells #[.int .i64 3, .int .i64 1, .int .i64 1] 2)) (by omega) (Lib.hid (H3.alloc _)) (Lib.hid (holds_lit w3 [3, 1, 1] 2 (small_I64 (by decide)))))
  clear r3 b3 H3 HB
  go_wp2_with fail
  refine HS.out.mono ?_
  rintro e w4 ⟨rfl, q2, rfl⟩
  have B4 := Lib.hid (below_drewN (B3.out.alloc B3.out.size (.cells #[.int .i64 3, .int .i64 1, .int .i64 1] 2)) q2)
  go_wp2_with fail
  go_ret
  exact ⟨rfl, B4.out⟩
end Go.Proofs.Ytoflnfdkcbpgeaa
