/-
  Right, the other kinds: of the document.
-/
import Derived.Test.YtdbaphmhfoajgaaCmdLeaf
namespace Go.Proofs.Ytdbaphmhfoajgaa
open Go.RowKit
set_option linter.unusedVariables false
set_option linter.unusedSimpArgs false

set_option maxRecDepth 100000 in
set_option maxHeartbeats 1000000 in
theorem RR2_idok (i n s p q l t : Int) (S : List UInt8) (w : World) (hL : True) (h0 : 1 ≤ i) (h1 : i ≤ 1099511627776) :
    Calls Try.prog 13 #[.agg #[.int .i64 2, .int .i64 i, .int .i64 n, .int .i64 s, .int .i64 p, .int .i64 q, .int .i64 l, .int .i64 t, .string (str S)]] w fun e w' => e = .returned (.int .i64 0) ∧ Below w.heap.size w w' := by
  have did0 : decide (i < 1) = false := decide_eq_false (by omega)
  have did1 : decide (1099511627776 < i) = false := decide_eq_false (by omega)
  go_enter Try.func13, Try.ntmps13
  go_wp2_with fail
  go_ret
  exact ⟨rfl, (Below.refl _ w).alloc (Nat.le_refl _) _⟩

set_option maxRecDepth 100000 in
set_option maxHeartbeats 1000000 in
theorem RR2_idlow (i n s p q l t : Int) (S : List UInt8) (w : World) (hL : True) (h0 : i < 1) :
    Calls Try.prog 13 #[.agg #[.int .i64 2, .int .i64 i, .int .i64 n, .int .i64 s, .int .i64 p, .int .i64 q, .int .i64 l, .int .i64 t, .string (str S)]] w fun e w' => e = .returned (.int .i64 1) ∧ Below w.heap.size w w' := by
  have did0 : decide (i < 1) = true := decide_eq_true (by omega)
  go_enter Try.func13, Try.ntmps13
  go_wp2_with fail
  go_ret
  exact ⟨rfl, (Below.refl _ w).alloc (Nat.le_refl _) _⟩

set_option maxRecDepth 100000 in
set_option maxHeartbeats 1000000 in
theorem RR2_idhigh (i n s p q l t : Int) (S : List UInt8) (w : World) (hL : True) (h0 : 1 ≤ i) (h1 : 1099511627776 < i) :
    Calls Try.prog 13 #[.agg #[.int .i64 2, .int .i64 i, .int .i64 n, .int .i64 s, .int .i64 p, .int .i64 q, .int .i64 l, .int .i64 t, .string (str S)]] w fun e w' => e = .returned (.int .i64 1) ∧ Below w.heap.size w w' := by
  have did0 : decide (i < 1) = false := decide_eq_false (by omega)
  have did1 : decide (1099511627776 < i) = true := decide_eq_true (by omega)
  go_enter Try.func13, Try.ntmps13
  go_wp2_with fail
  go_ret
  exact ⟨rfl, (Below.refl _ w).alloc (Nat.le_refl _) _⟩

set_option maxRecDepth 100000 in
set_option maxHeartbeats 1000000 in
theorem RR3_idok_qtok (i n s p q l t : Int) (S : List UInt8) (w : World) (hL : True) (h0 : 1 ≤ i) (h1 : i ≤ 1099511627776) (h2 : 1 ≤ q) (h3 : q ≤ 1000000) :
    Calls Try.prog 13 #[.agg #[.int .i64 3, .int .i64 i, .int .i64 n, .int .i64 s, .int .i64 p, .int .i64 q, .int .i64 l, .int .i64 t, .string (str S)]] w fun e w' => e = .returned (.int .i64 0) ∧ Below w.heap.size w w' := by
  have did0 : decide (i < 1) = false := decide_eq_false (by omega)
  have did1 : decide (1099511627776 < i) = false := decide_eq_false (by omega)
  have dqty0 : decide (q < 1) = false := decide_eq_false (by omega)
  have dqty1 : decide (1000000 < q) = false := decide_eq_false (by omega)
  go_enter Try.func13, Try.ntmps13
  go_wp2_with fail
  go_ret
  exact ⟨rfl, (Below.refl _ w).alloc (Nat.le_refl _) _⟩

set_option maxRecDepth 100000 in
set_option maxHeartbeats 1000000 in
theorem RR3_idok_qtlow (i n s p q l t : Int) (S : List UInt8) (w : World) (hL : True) (h0 : 1 ≤ i) (h1 : i ≤ 1099511627776) (h2 : q < 1) :
    Calls Try.prog 13 #[.agg #[.int .i64 3, .int .i64 i, .int .i64 n, .int .i64 s, .int .i64 p, .int .i64 q, .int .i64 l, .int .i64 t, .string (str S)]] w fun e w' => e = .returned (.int .i64 24) ∧ Below w.heap.size w w' := by
  have did0 : decide (i < 1) = false := decide_eq_false (by omega)
  have did1 : decide (1099511627776 < i) = false := decide_eq_false (by omega)
  have dqty0 : decide (q < 1) = true := decide_eq_true (by omega)
  go_enter Try.func13, Try.ntmps13
  go_wp2_with fail
  go_ret
  exact ⟨rfl, (Below.refl _ w).alloc (Nat.le_refl _) _⟩

set_option maxRecDepth 100000 in
set_option maxHeartbeats 1000000 in
theorem RR3_idok_qthigh (i n s p q l t : Int) (S : List UInt8) (w : World) (hL : True) (h0 : 1 ≤ i) (h1 : i ≤ 1099511627776) (h2 : 1 ≤ q) (h3 : 1000000 < q) :
    Calls Try.prog 13 #[.agg #[.int .i64 3, .int .i64 i, .int .i64 n, .int .i64 s, .int .i64 p, .int .i64 q, .int .i64 l, .int .i64 t, .string (str S)]] w fun e w' => e = .returned (.int .i64 24) ∧ Below w.heap.size w w' := by
  have did0 : decide (i < 1) = false := decide_eq_false (by omega)
  have did1 : decide (1099511627776 < i) = false := decide_eq_false (by omega)
  have dqty0 : decide (q < 1) = false := decide_eq_false (by omega)
  have dqty1 : decide (1000000 < q) = true := decide_eq_true (by omega)
  go_enter Try.func13, Try.ntmps13
  go_wp2_with fail
  go_ret
  exact ⟨rfl, (Below.refl _ w).alloc (Nat.le_refl _) _⟩

set_option maxRecDepth 100000 in
set_option maxHeartbeats 1000000 in
theorem RR3_idlow (i n s p q l t : Int) (S : List UInt8) (w : World) (hL : True) (h0 : i < 1) :
    Calls Try.prog 13 #[.agg #[.int .i64 3, .int .i64 i, .int .i64 n, .int .i64 s, .int .i64 p, .int .i64 q, .int .i64 l, .int .i64 t, .string (str S)]] w fun e w' => e = .returned (.int .i64 1) ∧ Below w.heap.size w w' := by
  have did0 : decide (i < 1) = true := decide_eq_true (by omega)
  go_enter Try.func13, Try.ntmps13
  go_wp2_with fail
  go_ret
  exact ⟨rfl, (Below.refl _ w).alloc (Nat.le_refl _) _⟩

set_option maxRecDepth 100000 in
set_option maxHeartbeats 1000000 in
theorem RR3_idhigh (i n s p q l t : Int) (S : List UInt8) (w : World) (hL : True) (h0 : 1 ≤ i) (h1 : 1099511627776 < i) :
    Calls Try.prog 13 #[.agg #[.int .i64 3, .int .i64 i, .int .i64 n, .int .i64 s, .int .i64 p, .int .i64 q, .int .i64 l, .int .i64 t, .string (str S)]] w fun e w' => e = .returned (.int .i64 1) ∧ Below w.heap.size w w' := by
  have did0 : decide (i < 1) = false := decide_eq_false (by omega)
  have did1 : decide (1099511627776 < i) = true := decide_eq_true (by omega)
  go_enter Try.func13, Try.ntmps13
  go_wp2_with fail
  go_ret
  exact ⟨rfl, (Below.refl _ w).alloc (Nat.le_refl _) _⟩

set_option maxRecDepth 100000 in
set_option maxHeartbeats 1000000 in
theorem RR4_idok_qtok_prok (i n s p q l t : Int) (S : List UInt8) (w : World) (hL : True) (h0 : 1 ≤ i) (h1 : i ≤ 1099511627776) (h2 : 1 ≤ q) (h3 : q ≤ 1000000) (h4 : -2000000 ≤ p) (h5 : p ≤ 2000000) :
    Calls Try.prog 13 #[.agg #[.int .i64 4, .int .i64 i, .int .i64 n, .int .i64 s, .int .i64 p, .int .i64 q, .int .i64 l, .int .i64 t, .string (str S)]] w fun e w' => e = .returned (.int .i64 0) ∧ Below w.heap.size w w' := by
  have did0 : decide (i < 1) = false := decide_eq_false (by omega)
  have did1 : decide (1099511627776 < i) = false := decide_eq_false (by omega)
  have dqty0 : decide (q < 1) = false := decide_eq_false (by omega)
  have dqty1 : decide (1000000 < q) = false := decide_eq_false (by omega)
  have dprice0 : decide (p < -2000000) = false := decide_eq_false (by omega)
  have dprice1 : decide (2000000 < p) = false := decide_eq_false (by omega)
  go_enter Try.func13, Try.ntmps13
  go_wp2_with fail
  go_ret
  exact ⟨rfl, (Below.refl _ w).alloc (Nat.le_refl _) _⟩

set_option maxRecDepth 100000 in
set_option maxHeartbeats 1000000 in
theorem RR4_idok_qtok_prlow (i n s p q l t : Int) (S : List UInt8) (w : World) (hL : True) (h0 : 1 ≤ i) (h1 : i ≤ 1099511627776) (h2 : 1 ≤ q) (h3 : q ≤ 1000000) (h4 : p < -2000000) :
    Calls Try.prog 13 #[.agg #[.int .i64 4, .int .i64 i, .int .i64 n, .int .i64 s, .int .i64 p, .int .i64 q, .int .i64 l, .int .i64 t, .string (str S)]] w fun e w' => e = .returned (.int .i64 23) ∧ Below w.heap.size w w' := by
  have did0 : decide (i < 1) = false := decide_eq_false (by omega)
  have did1 : decide (1099511627776 < i) = false := decide_eq_false (by omega)
  have dqty0 : decide (q < 1) = false := decide_eq_false (by omega)
  have dqty1 : decide (1000000 < q) = false := decide_eq_false (by omega)
  have dprice0 : decide (p < -2000000) = true := decide_eq_true (by omega)
  go_enter Try.func13, Try.ntmps13
  go_wp2_with fail
  go_ret
  exact ⟨rfl, (Below.refl _ w).alloc (Nat.le_refl _) _⟩

set_option maxRecDepth 100000 in
set_option maxHeartbeats 1000000 in
theorem RR4_idok_qtok_prhigh (i n s p q l t : Int) (S : List UInt8) (w : World) (hL : True) (h0 : 1 ≤ i) (h1 : i ≤ 1099511627776) (h2 : 1 ≤ q) (h3 : q ≤ 1000000) (h4 : -2000000 ≤ p) (h5 : 2000000 < p) :
    Calls Try.prog 13 #[.agg #[.int .i64 4, .int .i64 i, .int .i64 n, .int .i64 s, .int .i64 p, .int .i64 q, .int .i64 l, .int .i64 t, .string (str S)]] w fun e w' => e = .returned (.int .i64 23) ∧ Below w.heap.size w w' := by
  have did0 : decide (i < 1) = false := decide_eq_false (by omega)
  have did1 : decide (1099511627776 < i) = false := decide_eq_false (by omega)
  have dqty0 : decide (q < 1) = false := decide_eq_false (by omega)
  have dqty1 : decide (1000000 < q) = false := decide_eq_false (by omega)
  have dprice0 : decide (p < -2000000) = false := decide_eq_false (by omega)
  have dprice1 : decide (2000000 < p) = true := decide_eq_true (by omega)
  go_enter Try.func13, Try.ntmps13
  go_wp2_with fail
  go_ret
  exact ⟨rfl, (Below.refl _ w).alloc (Nat.le_refl _) _⟩

set_option maxRecDepth 100000 in
set_option maxHeartbeats 1000000 in
theorem RR4_idok_qtlow (i n s p q l t : Int) (S : List UInt8) (w : World) (hL : True) (h0 : 1 ≤ i) (h1 : i ≤ 1099511627776) (h2 : q < 1) :
    Calls Try.prog 13 #[.agg #[.int .i64 4, .int .i64 i, .int .i64 n, .int .i64 s, .int .i64 p, .int .i64 q, .int .i64 l, .int .i64 t, .string (str S)]] w fun e w' => e = .returned (.int .i64 24) ∧ Below w.heap.size w w' := by
  have did0 : decide (i < 1) = false := decide_eq_false (by omega)
  have did1 : decide (1099511627776 < i) = false := decide_eq_false (by omega)
  have dqty0 : decide (q < 1) = true := decide_eq_true (by omega)
  go_enter Try.func13, Try.ntmps13
  go_wp2_with fail
  go_ret
  exact ⟨rfl, (Below.refl _ w).alloc (Nat.le_refl _) _⟩

set_option maxRecDepth 100000 in
set_option maxHeartbeats 1000000 in
theorem RR4_idok_qthigh (i n s p q l t : Int) (S : List UInt8) (w : World) (hL : True) (h0 : 1 ≤ i) (h1 : i ≤ 1099511627776) (h2 : 1 ≤ q) (h3 : 1000000 < q) :
    Calls Try.prog 13 #[.agg #[.int .i64 4, .int .i64 i, .int .i64 n, .int .i64 s, .int .i64 p, .int .i64 q, .int .i64 l, .int .i64 t, .string (str S)]] w fun e w' => e = .returned (.int .i64 24) ∧ Below w.heap.size w w' := by
  have did0 : decide (i < 1) = false := decide_eq_false (by omega)
  have did1 : decide (1099511627776 < i) = false := decide_eq_false (by omega)
  have dqty0 : decide (q < 1) = false := decide_eq_false (by omega)
  have dqty1 : decide (1000000 < q) = true := decide_eq_true (by omega)
  go_enter Try.func13, Try.ntmps13
  go_wp2_with fail
  go_ret
  exact ⟨rfl, (Below.refl _ w).alloc (Nat.le_refl _) _⟩

set_option maxRecDepth 100000 in
set_option maxHeartbeats 1000000 in
theorem RR4_idlow (i n s p q l t : Int) (S : List UInt8) (w : World) (hL : True) (h0 : i < 1) :
    Calls Try.prog 13 #[.agg #[.int .i64 4, .int .i64 i, .int .i64 n, .int .i64 s, .int .i64 p, .int .i64 q, .int .i64 l, .int .i64 t, .string (str S)]] w fun e w' => e = .returned (.int .i64 1) ∧ Below w.heap.size w w' := by
  have did0 : decide (i < 1) = true := decide_eq_true (by omega)
  go_enter Try.func13, Try.ntmps13
  go_wp2_with fail
  go_ret
  exact ⟨rfl, (Below.refl _ w).alloc (Nat.le_refl _) _⟩

set_option maxRecDepth 100000 in
set_option maxHeartbeats 1000000 in
theorem RR4_idhigh (i n s p q l t : Int) (S : List UInt8) (w : World) (hL : True) (h0 : 1 ≤ i) (h1 : 1099511627776 < i) :
    Calls Try.prog 13 #[.agg #[.int .i64 4, .int .i64 i, .int .i64 n, .int .i64 s, .int .i64 p, .int .i64 q, .int .i64 l, .int .i64 t, .string (str S)]] w fun e w' => e = .returned (.int .i64 1) ∧ Below w.heap.size w w' := by
  have did0 : decide (i < 1) = false := decide_eq_false (by omega)
  have did1 : decide (1099511627776 < i) = true := decide_eq_true (by omega)
  go_enter Try.func13, Try.ntmps13
  go_wp2_with fail
  go_ret
  exact ⟨rfl, (Below.refl _ w).alloc (Nat.le_refl _) _⟩

end Go.Proofs.Ytdbaphmhfoajgaa
