/-
  Contracts: within, isKind, right.
-/
import Derived.Test.YtjhfgajhmenboaaDoorRep
namespace Go.Proofs.YtjhfgajhmenboaaDoor
open Go.RowKit
set_option linter.unusedVariables false
set_option linter.unusedSimpArgs false

set_option maxRecDepth 100000 in
set_option maxHeartbeats 1000000 in
theorem Within3_yes (n a b : Int) (w : World) (h1 : a ≤ n) (h2 : n ≤ b) : Calls Tryd.prog 44 #[.int .i64 n, .int .i64 a, .int .i64 b] w fun e w' => e = .returned (.bool true) ∧ w' = w := by
  have d1 : decide (a ≤ n) = true := decide_eq_true (by omega)
  have d2 : decide (n ≤ b) = true := decide_eq_true (by omega)
  go_enter Tryd.func44, Tryd.ntmps44
  go_wp2_with fail
  go_ret
  exact ⟨rfl, rfl⟩
set_option maxRecDepth 100000 in
set_option maxHeartbeats 1000000 in
theorem Within3_low (n a b : Int) (w : World) (h1 : n < a) : Calls Tryd.prog 44 #[.int .i64 n, .int .i64 a, .int .i64 b] w fun e w' => e = .returned (.bool false) ∧ w' = w := by
  have d1 : decide (a ≤ n) = false := decide_eq_false (by omega)
  go_enter Tryd.func44, Tryd.ntmps44
  go_wp2_with fail
  go_ret
  exact ⟨rfl, rfl⟩
set_option maxRecDepth 100000 in
set_option maxHeartbeats 1000000 in
theorem Within3_high (n a b : Int) (w : World) (h1 : a ≤ n) (h2 : b < n) : Calls Tryd.prog 44 #[.int .i64 n, .int .i64 a, .int .i64 b] w fun e w' => e = .returned (.bool false) ∧ w' = w := by
  have d1 : decide (a ≤ n) = true := decide_eq_true (by omega)
  have d2 : decide (n ≤ b) = false := decide_eq_false (by omega)
  go_enter Tryd.func44, Tryd.ntmps44
  go_wp2_with fail
  go_ret
  exact ⟨rfl, rfl⟩
theorem Within3_no (n a b : Int) (w : World) (h : ¬ (a ≤ n ∧ n ≤ b)) : Calls Tryd.prog 44 #[.int .i64 n, .int .i64 a, .int .i64 b] w fun e w' => e = .returned (.bool false) ∧ w' = w := by
  by_cases h1 : n < a
  · exact Within3_low n a b w h1
  · exact Within3_high n a b w (by omega) (by omega)
set_option maxRecDepth 100000 in
set_option maxHeartbeats 1000000 in
theorem IsKind_1 (w : World) : Calls Tryd.prog 43 #[.int .i64 1] w fun e w' => e = .returned (.bool true) ∧ w' = w := by
  go_enter Tryd.func43, Tryd.ntmps43
  go_wp2_with fail
  go_ret
  exact ⟨rfl, rfl⟩
set_option maxRecDepth 100000 in
set_option maxHeartbeats 1000000 in
theorem IsKind_2 (w : World) : Calls Tryd.prog 43 #[.int .i64 2] w fun e w' => e = .returned (.bool true) ∧ w' = w := by
  go_enter Tryd.func43, Tryd.ntmps43
  go_wp2_with fail
  go_ret
  exact ⟨rfl, rfl⟩
set_option maxRecDepth 100000 in
set_option maxHeartbeats 1000000 in
theorem IsKind_3 (w : World) : Calls Tryd.prog 43 #[.int .i64 3] w fun e w' => e = .returned (.bool true) ∧ w' = w := by
  go_enter Tryd.func43, Tryd.ntmps43
  go_wp2_with fail
  go_ret
  exact ⟨rfl, rfl⟩
set_option maxRecDepth 100000 in
set_option maxHeartbeats 1000000 in
theorem IsKind_4 (w : World) : Calls Tryd.prog 43 #[.int .i64 4] w fun e w' => e = .returned (.bool true) ∧ w' = w := by
  go_enter Tryd.func43, Tryd.ntmps43
  go_wp2_with fail
  go_ret
  exact ⟨rfl, rfl⟩
set_option maxRecDepth 100000 in
set_option maxHeartbeats 1000000 in
theorem IsKind_5 (w : World) : Calls Tryd.prog 43 #[.int .i64 5] w fun e w' => e = .returned (.bool true) ∧ w' = w := by
  go_enter Tryd.func43, Tryd.ntmps43
  go_wp2_with fail
  go_ret
  exact ⟨rfl, rfl⟩
theorem IsKind_yes (k : Int) (w : World) (h1 : 1 ≤ k) (h2 : k ≤ 5) : Calls Tryd.prog 43 #[.int .i64 k] w fun e w' => e = .returned (.bool true) ∧ w' = w := by
  have : k = 1 ∨ k = 2 ∨ k = 3 ∨ k = 4 ∨ k = 5 := by omega
  rcases this with rfl | rfl | rfl | rfl | rfl
  · exact IsKind_1 w
  · exact IsKind_2 w
  · exact IsKind_3 w
  · exact IsKind_4 w
  · exact IsKind_5 w
set_option maxRecDepth 100000 in
set_option maxHeartbeats 1000000 in
theorem IsKind_no (k : Int) (w : World) (h : ¬ (1 ≤ k ∧ k ≤ 5)) : Calls Tryd.prog 43 #[.int .i64 k] w fun e w' => e = .returned (.bool false) ∧ w' = w := by
  have d1 : (k == 1) = false := by simp; omega
  have d2 : (k == 2) = false := by simp; omega
  have d3 : (k == 3) = false := by simp; omega
  have d4 : (k == 4) = false := by simp; omega
  have d5 : (k == 5) = false := by simp; omega
  go_enter Tryd.func43, Tryd.ntmps43
  go_wp2_with fail
  go_ret
  exact ⟨rfl, rfl⟩
set_option maxRecDepth 100000 in
set_option maxHeartbeats 1000000 in
theorem PRight_ok (k i n s p q l y : Int) (w : World) (hk : 1 ≤ k ∧ k ≤ 5) (hn : 0 ≤ n ∧ n ≤ 255) (hs : 0 ≤ s ∧ s ≤ 2) (hy : 0 ≤ y ∧ y ≤ 255) : Calls Tryd.prog 23 #[.agg #[.int .i64 k, .int .i64 i, .int .i64 n, .int .i64 s, .int .i64 p, .int .i64 q, .int .i64 l, .int .i64 y]] w fun e w' => e = .returned (.bool true) ∧ Below w.heap.size w w' := by
  go_enter Tryd.func23, Tryd.ntmps23
  go_wp2_with fail
  refine (IsKind_yes k _ hk.1 hk.2).mono ?_
  rintro e w1 ⟨rfl, rfl⟩
  go_wp2_with fail
  refine (Within3_yes n 0 255 _ hn.1 hn.2).mono ?_
  rintro e w1 ⟨rfl, rfl⟩
  go_wp2_with fail
  refine (Within3_yes s 0 2 _ hs.1 hs.2).mono ?_
  rintro e w1 ⟨rfl, rfl⟩
  go_wp2_with fail
  refine (Within3_yes y 0 255 _ hy.1 hy.2).mono ?_
  rintro e w1 ⟨rfl, rfl⟩
  go_wp2_with fail
  go_ret
  exact ⟨rfl, (Below.refl _ w).alloc (Nat.le_refl _) _⟩
set_option maxRecDepth 100000 in
set_option maxHeartbeats 1000000 in
theorem PRight_k (k i n s p q l y : Int) (w : World)  (hk : ¬ (1 ≤ k ∧ k ≤ 5)) : Calls Tryd.prog 23 #[.agg #[.int .i64 k, .int .i64 i, .int .i64 n, .int .i64 s, .int .i64 p, .int .i64 q, .int .i64 l, .int .i64 y]] w fun e w' => e = .returned (.bool false) ∧ Below w.heap.size w w' := by
  go_enter Tryd.func23, Tryd.ntmps23
  go_wp2_with fail
  refine (IsKind_no k _ hk).mono ?_
  rintro e w1 ⟨rfl, rfl⟩
  go_wp2_with fail
  go_ret
  exact ⟨rfl, (Below.refl _ w).alloc (Nat.le_refl _) _⟩
set_option maxRecDepth 100000 in
set_option maxHeartbeats 1000000 in
theorem PRight_n (k i n s p q l y : Int) (w : World) (hk : 1 ≤ k ∧ k ≤ 5) (hn : ¬ (0 ≤ n ∧ n ≤ 255)) : Calls Tryd.prog 23 #[.agg #[.int .i64 k, .int .i64 i, .int .i64 n, .int .i64 s, .int .i64 p, .int .i64 q, .int .i64 l, .int .i64 y]] w fun e w' => e = .returned (.bool false) ∧ Below w.heap.size w w' := by
  go_enter Tryd.func23, Tryd.ntmps23
  go_wp2_with fail
  refine (IsKind_yes k _ hk.1 hk.2).mono ?_
  rintro e w1 ⟨rfl, rfl⟩
  go_wp2_with fail
  refine (Within3_no n 0 255 _ hn).mono ?_
  rintro e w1 ⟨rfl, rfl⟩
  go_wp2_with fail
  go_ret
  exact ⟨rfl, (Below.refl _ w).alloc (Nat.le_refl _) _⟩
set_option maxRecDepth 100000 in
set_option maxHeartbeats 1000000 in
theorem PRight_s (k i n s p q l y : Int) (w : World) (hk : 1 ≤ k ∧ k ≤ 5) (hn : 0 ≤ n ∧ n ≤ 255) (hs : ¬ (0 ≤ s ∧ s ≤ 2)) : Calls Tryd.prog 23 #[.agg #[.int .i64 k, .int .i64 i, .int .i64 n, .int .i64 s, .int .i64 p, .int .i64 q, .int .i64 l, .int .i64 y]] w fun e w' => e = .returned (.bool false) ∧ Below w.heap.size w w' := by
  go_enter Tryd.func23, Tryd.ntmps23
  go_wp2_with fail
  refine (IsKind_yes k _ hk.1 hk.2).mono ?_
  rintro e w1 ⟨rfl, rfl⟩
  go_wp2_with fail
  refine (Within3_yes n 0 255 _ hn.1 hn.2).mono ?_
  rintro e w1 ⟨rfl, rfl⟩
  go_wp2_with fail
  refine (Within3_no s 0 2 _ hs).mono ?_
  rintro e w1 ⟨rfl, rfl⟩
  go_wp2_with fail
  go_ret
  exact ⟨rfl, (Below.refl _ w).alloc (Nat.le_refl _) _⟩
set_option maxRecDepth 100000 in
set_option maxHeartbeats 1000000 in
theorem PRight_y (k i n s p q l y : Int) (w : World) (hk : 1 ≤ k ∧ k ≤ 5) (hn : 0 ≤ n ∧ n ≤ 255) (hs : 0 ≤ s ∧ s ≤ 2) (hy : ¬ (0 ≤ y ∧ y ≤ 255)) : Calls Tryd.prog 23 #[.agg #[.int .i64 k, .int .i64 i, .int .i64 n, .int .i64 s, .int .i64 p, .int .i64 q, .int .i64 l, .int .i64 y]] w fun e w' => e = .returned (.bool false) ∧ Below w.heap.size w w' := by
  go_enter Tryd.func23, Tryd.ntmps23
  go_wp2_with fail
  refine (IsKind_yes k _ hk.1 hk.2).mono ?_
  rintro e w1 ⟨rfl, rfl⟩
  go_wp2_with fail
  refine (Within3_yes n 0 255 _ hn.1 hn.2).mono ?_
  rintro e w1 ⟨rfl, rfl⟩
  go_wp2_with fail
  refine (Within3_yes s 0 2 _ hs.1 hs.2).mono ?_
  rintro e w1 ⟨rfl, rfl⟩
  go_wp2_with fail
  refine (Within3_no y 0 255 _ hy).mono ?_
  rintro e w1 ⟨rfl, rfl⟩
  go_wp2_with fail
  go_ret
  exact ⟨rfl, (Below.refl _ w).alloc (Nat.le_refl _) _⟩
theorem PRight_any (r : Q) (w : World) : Calls Tryd.prog 23 #[r.val] w fun e w' => e = .returned (.bool (decide r.Right)) ∧ Below w.heap.size w w' := by
  obtain ⟨k, i, n, s, p, q, l, y⟩ := r
  show Calls Tryd.prog 23 #[.agg #[.int .i64 k, .int .i64 i, .int .i64 n, .int .i64 s, .int .i64 p, .int .i64 q, .int .i64 l, .int .i64 y]] w _
  by_cases hk : 1 ≤ k ∧ k ≤ 5
  · by_cases hn : 0 ≤ n ∧ n ≤ 255
    · by_cases hs : 0 ≤ s ∧ s ≤ 2
      · by_cases hy : 0 ≤ y ∧ y ≤ 255
        · rw [decide_eq_true (show (Q.mk k i n s p q l y).Right from ⟨hk, hn, hs, hy⟩)]
          exact PRight_ok k i n s p q l y w hk hn hs hy
        · rw [decide_eq_false (show ¬ (Q.mk k i n s p q l y).Right from fun h => hy h.2.2.2)]
          exact PRight_y k i n s p q l y w hk hn hs hy
      · rw [decide_eq_false (show ¬ (Q.mk k i n s p q l y).Right from fun h => hs h.2.2.1)]
        exact PRight_s k i n s p q l y w hk hn hs
    · rw [decide_eq_false (show ¬ (Q.mk k i n s p q l y).Right from fun h => hn h.2.1)]
      exact PRight_n k i n s p q l y w hk hn
  · rw [decide_eq_false (show ¬ (Q.mk k i n s p q l y).Right from fun h => hk h.1)]
    exact PRight_k k i n s p q l y w hk
end Go.Proofs.YtjhfgajhmenboaaDoor
