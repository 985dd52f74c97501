/-
  Right, the other kinds: of the program.
-/
import Derived.Test.YtdbaphmhfoajgaaCmdLeaf
namespace Go.Proofs.Ytdbaphmhfoajgaa
open Go.RowKit
set_option linter.unusedVariables false
set_option linter.unusedSimpArgs false

set_option maxRecDepth 100000 in
set_option maxHeartbeats 1000000 in
theorem PR2_idok (i n s p q l t : Int) (S : List UInt8) (w : World) (hL : True) (h0 : 1 ≤ i) (h1 : i ≤ 1099511627776) :
    Calls Try.prog 12 #[.agg #[.int .i64 2, .int .i64 i, .int .i64 n, .int .i64 s, .int .i64 p, .int .i64 q, .int .i64 l, .int .i64 t, .string (str S)]] w fun e w' => e = .returned (.int .i64 0) ∧ Below w.heap.size w w' := by
  have did0 : decide (i < 1) = false := decide_eq_false (by omega)
  have did1 : decide (1099511627776 < i) = false := decide_eq_false (by omega)
  go_enter Try.func12, Try.ntmps12
  go_wp2_with fail
  refine (IsKind_yes 2 _ (by omega) (by omega)).mono ?_
  rintro e w1 ⟨rfl, rfl⟩
  go_wp2_with fail
  refine (Within3_yes i (1) (1099511627776) _ (by omega) (by omega)).mono ?_
  rintro e w1 ⟨rfl, rfl⟩
  go_wp2_with fail
  refine (HasQty_2 _).mono ?_
  rintro e w1 ⟨rfl, rfl⟩
  go_wp2_with fail
  refine (HasPrice_2 _).mono ?_
  rintro e w1 ⟨rfl, rfl⟩
  go_wp2_with fail
  go_ret
  exact ⟨rfl, (Below.refl _ w).alloc (Nat.le_refl _) _⟩

set_option maxRecDepth 100000 in
set_option maxHeartbeats 1000000 in
theorem PR2_idbad (i n s p q l t : Int) (S : List UInt8) (w : World) (hL : True) (h0 : ¬ (1 ≤ i ∧ i ≤ 1099511627776)) :
    Calls Try.prog 12 #[.agg #[.int .i64 2, .int .i64 i, .int .i64 n, .int .i64 s, .int .i64 p, .int .i64 q, .int .i64 l, .int .i64 t, .string (str S)]] w fun e w' => e = .returned (.int .i64 1) ∧ Below w.heap.size w w' := by
  go_enter Try.func12, Try.ntmps12
  go_wp2_with fail
  refine (IsKind_yes 2 _ (by omega) (by omega)).mono ?_
  rintro e w1 ⟨rfl, rfl⟩
  go_wp2_with fail
  refine (Within3_no i (1) (1099511627776) _ (by omega)).mono ?_
  rintro e w1 ⟨rfl, rfl⟩
  go_wp2_with fail
  go_ret
  exact ⟨rfl, (Below.refl _ w).alloc (Nat.le_refl _) _⟩

set_option maxRecDepth 100000 in
set_option maxHeartbeats 1000000 in
theorem PR3_idok_qtok (i n s p q l t : Int) (S : List UInt8) (w : World) (hL : True) (h0 : 1 ≤ i) (h1 : i ≤ 1099511627776) (h2 : 1 ≤ q) (h3 : q ≤ 1000000) :
    Calls Try.prog 12 #[.agg #[.int .i64 3, .int .i64 i, .int .i64 n, .int .i64 s, .int .i64 p, .int .i64 q, .int .i64 l, .int .i64 t, .string (str S)]] w fun e w' => e = .returned (.int .i64 0) ∧ Below w.heap.size w w' := by
  have did0 : decide (i < 1) = false := decide_eq_false (by omega)
  have did1 : decide (1099511627776 < i) = false := decide_eq_false (by omega)
  have dqty0 : decide (q < 1) = false := decide_eq_false (by omega)
  have dqty1 : decide (1000000 < q) = false := decide_eq_false (by omega)
  go_enter Try.func12, Try.ntmps12
  go_wp2_with fail
  refine (IsKind_yes 3 _ (by omega) (by omega)).mono ?_
  rintro e w1 ⟨rfl, rfl⟩
  go_wp2_with fail
  refine (Within3_yes i (1) (1099511627776) _ (by omega) (by omega)).mono ?_
  rintro e w1 ⟨rfl, rfl⟩
  go_wp2_with fail
  refine (HasQty_3 _).mono ?_
  rintro e w1 ⟨rfl, rfl⟩
  go_wp2_with fail
  refine (Within3_yes q (1) (1000000) _ (by omega) (by omega)).mono ?_
  rintro e w1 ⟨rfl, rfl⟩
  go_wp2_with fail
  refine (HasPrice_3 _).mono ?_
  rintro e w1 ⟨rfl, rfl⟩
  go_wp2_with fail
  go_ret
  exact ⟨rfl, (Below.refl _ w).alloc (Nat.le_refl _) _⟩

set_option maxRecDepth 100000 in
set_option maxHeartbeats 1000000 in
theorem PR3_idok_qtbad (i n s p q l t : Int) (S : List UInt8) (w : World) (hL : True) (h0 : 1 ≤ i) (h1 : i ≤ 1099511627776) (h2 : ¬ (1 ≤ q ∧ q ≤ 1000000)) :
    Calls Try.prog 12 #[.agg #[.int .i64 3, .int .i64 i, .int .i64 n, .int .i64 s, .int .i64 p, .int .i64 q, .int .i64 l, .int .i64 t, .string (str S)]] w fun e w' => e = .returned (.int .i64 24) ∧ Below w.heap.size w w' := by
  have did0 : decide (i < 1) = false := decide_eq_false (by omega)
  have did1 : decide (1099511627776 < i) = false := decide_eq_false (by omega)
  go_enter Try.func12, Try.ntmps12
  go_wp2_with fail
  refine (IsKind_yes 3 _ (by omega) (by omega)).mono ?_
  rintro e w1 ⟨rfl, rfl⟩
  go_wp2_with fail
  refine (Within3_yes i (1) (1099511627776) _ (by omega) (by omega)).mono ?_
  rintro e w1 ⟨rfl, rfl⟩
  go_wp2_with fail
  refine (HasQty_3 _).mono ?_
  rintro e w1 ⟨rfl, rfl⟩
  go_wp2_with fail
  refine (Within3_no q (1) (1000000) _ (by omega)).mono ?_
  rintro e w1 ⟨rfl, rfl⟩
  go_wp2_with fail
  go_ret
  exact ⟨rfl, (Below.refl _ w).alloc (Nat.le_refl _) _⟩

set_option maxRecDepth 100000 in
set_option maxHeartbeats 1000000 in
theorem PR3_idbad (i n s p q l t : Int) (S : List UInt8) (w : World) (hL : True) (h0 : ¬ (1 ≤ i ∧ i ≤ 1099511627776)) :
    Calls Try.prog 12 #[.agg #[.int .i64 3, .int .i64 i, .int .i64 n, .int .i64 s, .int .i64 p, .int .i64 q, .int .i64 l, .int .i64 t, .string (str S)]] w fun e w' => e = .returned (.int .i64 1) ∧ Below w.heap.size w w' := by
  go_enter Try.func12, Try.ntmps12
  go_wp2_with fail
  refine (IsKind_yes 3 _ (by omega) (by omega)).mono ?_
  rintro e w1 ⟨rfl, rfl⟩
  go_wp2_with fail
  refine (Within3_no i (1) (1099511627776) _ (by omega)).mono ?_
  rintro e w1 ⟨rfl, rfl⟩
  go_wp2_with fail
  go_ret
  exact ⟨rfl, (Below.refl _ w).alloc (Nat.le_refl _) _⟩

set_option maxRecDepth 100000 in
set_option maxHeartbeats 1000000 in
theorem PR4_idok_qtok_prok (i n s p q l t : Int) (S : List UInt8) (w : World) (hL : True) (h0 : 1 ≤ i) (h1 : i ≤ 1099511627776) (h2 : 1 ≤ q) (h3 : q ≤ 1000000) (h4 : -2000000 ≤ p) (h5 : p ≤ 2000000) :
    Calls Try.prog 12 #[.agg #[.int .i64 4, .int .i64 i, .int .i64 n, .int .i64 s, .int .i64 p, .int .i64 q, .int .i64 l, .int .i64 t, .string (str S)]] w fun e w' => e = .returned (.int .i64 0) ∧ Below w.heap.size w w' := by
  have did0 : decide (i < 1) = false := decide_eq_false (by omega)
  have did1 : decide (1099511627776 < i) = false := decide_eq_false (by omega)
  have dqty0 : decide (q < 1) = false := decide_eq_false (by omega)
  have dqty1 : decide (1000000 < q) = false := decide_eq_false (by omega)
  have dprice0 : decide (p < -2000000) = false := decide_eq_false (by omega)
  have dprice1 : decide (2000000 < p) = false := decide_eq_false (by omega)
  go_enter Try.func12, Try.ntmps12
  go_wp2_with fail
  refine (IsKind_yes 4 _ (by omega) (by omega)).mono ?_
  rintro e w1 ⟨rfl, rfl⟩
  go_wp2_with fail
  refine (Within3_yes i (1) (1099511627776) _ (by omega) (by omega)).mono ?_
  rintro e w1 ⟨rfl, rfl⟩
  go_wp2_with fail
  refine (HasQty_4 _).mono ?_
  rintro e w1 ⟨rfl, rfl⟩
  go_wp2_with fail
  refine (Within3_yes q (1) (1000000) _ (by omega) (by omega)).mono ?_
  rintro e w1 ⟨rfl, rfl⟩
  go_wp2_with fail
  refine (HasPrice_4 _).mono ?_
  rintro e w1 ⟨rfl, rfl⟩
  go_wp2_with fail
  refine (Within3_yes p (-2000000) (2000000) _ (by omega) (by omega)).mono ?_
  rintro e w1 ⟨rfl, rfl⟩
  go_wp2_with fail
  go_ret
  exact ⟨rfl, (Below.refl _ w).alloc (Nat.le_refl _) _⟩

set_option maxRecDepth 100000 in
set_option maxHeartbeats 1000000 in
theorem PR4_idok_qtok_prbad (i n s p q l t : Int) (S : List UInt8) (w : World) (hL : True) (h0 : 1 ≤ i) (h1 : i ≤ 1099511627776) (h2 : 1 ≤ q) (h3 : q ≤ 1000000) (h4 : ¬ (-2000000 ≤ p ∧ p ≤ 2000000)) :
    Calls Try.prog 12 #[.agg #[.int .i64 4, .int .i64 i, .int .i64 n, .int .i64 s, .int .i64 p, .int .i64 q, .int .i64 l, .int .i64 t, .string (str S)]] w fun e w' => e = .returned (.int .i64 23) ∧ Below w.heap.size w w' := by
  have did0 : decide (i < 1) = false := decide_eq_false (by omega)
  have did1 : decide (1099511627776 < i) = false := decide_eq_false (by omega)
  have dqty0 : decide (q < 1) = false := decide_eq_false (by omega)
  have dqty1 : decide (1000000 < q) = false := decide_eq_false (by omega)
  go_enter Try.func12, Try.ntmps12
  go_wp2_with fail
  refine (IsKind_yes 4 _ (by omega) (by omega)).mono ?_
  rintro e w1 ⟨rfl, rfl⟩
  go_wp2_with fail
  refine (Within3_yes i (1) (1099511627776) _ (by omega) (by omega)).mono ?_
  rintro e w1 ⟨rfl, rfl⟩
  go_wp2_with fail
  refine (HasQty_4 _).mono ?_
  rintro e w1 ⟨rfl, rfl⟩
  go_wp2_with fail
  refine (Within3_yes q (1) (1000000) _ (by omega) (by omega)).mono ?_
  rintro e w1 ⟨rfl, rfl⟩
  go_wp2_with fail
  refine (HasPrice_4 _).mono ?_
  rintro e w1 ⟨rfl, rfl⟩
  go_wp2_with fail
  refine (Within3_no p (-2000000) (2000000) _ (by omega)).mono ?_
  rintro e w1 ⟨rfl, rfl⟩
  go_wp2_with fail
  go_ret
  exact ⟨rfl, (Below.refl _ w).alloc (Nat.le_refl _) _⟩

set_option maxRecDepth 100000 in
set_option maxHeartbeats 1000000 in
theorem PR4_idok_qtbad (i n s p q l t : Int) (S : List UInt8) (w : World) (hL : True) (h0 : 1 ≤ i) (h1 : i ≤ 1099511627776) (h2 : ¬ (1 ≤ q ∧ q ≤ 1000000)) :
    Calls Try.prog 12 #[.agg #[.int .i64 4, .int .i64 i, .int .i64 n, .int .i64 s, .int .i64 p, .int .i64 q, .int .i64 l, .int .i64 t, .string (str S)]] w fun e w' => e = .returned (.int .i64 24) ∧ Below w.heap.size w w' := by
  have did0 : decide (i < 1) = false := decide_eq_false (by omega)
  have did1 : decide (1099511627776 < i) = false := decide_eq_false (by omega)
  go_enter Try.func12, Try.ntmps12
  go_wp2_with fail
  refine (IsKind_yes 4 _ (by omega) (by omega)).mono ?_
  rintro e w1 ⟨rfl, rfl⟩
  go_wp2_with fail
  refine (Within3_yes i (1) (1099511627776) _ (by omega) (by omega)).mono ?_
  rintro e w1 ⟨rfl, rfl⟩
  go_wp2_with fail
  refine (HasQty_4 _).mono ?_
  rintro e w1 ⟨rfl, rfl⟩
  go_wp2_with fail
  refine (Within3_no q (1) (1000000) _ (by omega)).mono ?_
  rintro e w1 ⟨rfl, rfl⟩
  go_wp2_with fail
  go_ret
  exact ⟨rfl, (Below.refl _ w).alloc (Nat.le_refl _) _⟩

set_option maxRecDepth 100000 in
set_option maxHeartbeats 1000000 in
theorem PR4_idbad (i n s p q l t : Int) (S : List UInt8) (w : World) (hL : True) (h0 : ¬ (1 ≤ i ∧ i ≤ 1099511627776)) :
    Calls Try.prog 12 #[.agg #[.int .i64 4, .int .i64 i, .int .i64 n, .int .i64 s, .int .i64 p, .int .i64 q, .int .i64 l, .int .i64 t, .string (str S)]] w fun e w' => e = .returned (.int .i64 1) ∧ Below w.heap.size w w' := by
  go_enter Try.func12, Try.ntmps12
  go_wp2_with fail
  refine (IsKind_yes 4 _ (by omega) (by omega)).mono ?_
  rintro e w1 ⟨rfl, rfl⟩
  go_wp2_with fail
  refine (Within3_no i (1) (1099511627776) _ (by omega)).mono ?_
  rintro e w1 ⟨rfl, rfl⟩
  go_wp2_with fail
  go_ret
  exact ⟨rfl, (Below.refl _ w).alloc (Nat.le_refl _) _⟩

end Go.Proofs.Ytdbaphmhfoajgaa
