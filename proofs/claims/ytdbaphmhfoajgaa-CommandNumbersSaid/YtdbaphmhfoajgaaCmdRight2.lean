/-
  Right, a New, the other ways: of the program.
-/
import Derived.Test.YtdbaphmhfoajgaaCmdLeaf
namespace Go.Proofs.Ytdbaphmhfoajgaa
open Go.RowKit
set_option linter.unusedVariables false
set_option linter.unusedSimpArgs false

set_option maxRecDepth 100000 in
set_option maxHeartbeats 1000000 in
theorem PR1_idok_sisell_tiok_qtok_leok_lanone_prok_inlow (i n s p q l t : Int) (S : List UInt8) (w : World) (hL : S.length ≤ 140737488355328) (h0 : 1 ≤ i) (h1 : i ≤ 1099511627776) (h2 : s = 2) (h3 : 1 ≤ t) (h4 : t ≤ 3) (h5 : 1 ≤ q) (h6 : q ≤ 1000000) (h7 : 0 ≤ l) (h8 : l ≤ q) (h9 : S = []) (h10 : -2000000 ≤ p) (h11 : p ≤ 2000000) (h12 : n < 0) :
    Calls Try.prog 12 #[.agg #[.int .i64 1, .int .i64 i, .int .i64 n, .int .i64 s, .int .i64 p, .int .i64 q, .int .i64 l, .int .i64 t, .string (str S)]] w fun e w' => e = .returned (.int .i64 20) ∧ Below w.heap.size w w' := by
  have did0 : decide (i < 1) = false := decide_eq_false (by omega)
  have did1 : decide (1099511627776 < i) = false := decide_eq_false (by omega)
  subst h2
  have dtime0 : decide (t < 1) = false := decide_eq_false (by omega)
  have dtime1 : decide (3 < t) = false := decide_eq_false (by omega)
  have dqty0 : decide (q < 1) = false := decide_eq_false (by omega)
  have dqty1 : decide (1000000 < q) = false := decide_eq_false (by omega)
  have dleast0 : decide (l < 0) = false := decide_eq_false (by omega)
  have dleast1 : decide (q < l) = false := decide_eq_false (by omega)
  subst h9
  have nil0 := str_none
  have dprice0 : decide (p < -2000000) = false := decide_eq_false (by omega)
  have dprice1 : decide (2000000 < p) = false := decide_eq_false (by omega)
  have dinst0 : decide (n < 0) = true := decide_eq_true (by omega)
  go_enter Try.func12, Try.ntmps12
  go_wp2_with fail
  refine (IsKind_yes 1 _ (by omega) (by omega)).mono ?_
  rintro e w1 ⟨rfl, rfl⟩
  go_wp2_with fail
  refine (Within3_yes i (1) (1099511627776) _ (by omega) (by omega)).mono ?_
  rintro e w1 ⟨rfl, rfl⟩
  go_wp2_with fail
  refine (HasQty_1 _).mono ?_
  rintro e w1 ⟨rfl, rfl⟩
  go_wp2_with fail
  refine (Within3_yes q (1) (1000000) _ (by omega) (by omega)).mono ?_
  rintro e w1 ⟨rfl, rfl⟩
  go_wp2_with fail
  refine (Within3_yes l (0) (q) _ (by omega) (by omega)).mono ?_
  rintro e w1 ⟨rfl, rfl⟩
  go_wp2_with fail
  refine (HasPrice_1 _).mono ?_
  rintro e w1 ⟨rfl, rfl⟩
  go_wp2_with fail
  refine (Within3_yes p (-2000000) (2000000) _ (by omega) (by omega)).mono ?_
  rintro e w1 ⟨rfl, rfl⟩
  go_wp2_with fail
  go_ret
  exact ⟨rfl, (Below.refl _ w).alloc (Nat.le_refl _) _⟩

set_option maxRecDepth 100000 in
set_option maxHeartbeats 1000000 in
theorem PR1_idok_sisell_tiok_qtok_leok_lanone_prok_inhigh (i n s p q l t : Int) (S : List UInt8) (w : World) (hL : S.length ≤ 140737488355328) (h0 : 1 ≤ i) (h1 : i ≤ 1099511627776) (h2 : s = 2) (h3 : 1 ≤ t) (h4 : t ≤ 3) (h5 : 1 ≤ q) (h6 : q ≤ 1000000) (h7 : 0 ≤ l) (h8 : l ≤ q) (h9 : S = []) (h10 : -2000000 ≤ p) (h11 : p ≤ 2000000) (h12 : 0 ≤ n) (h13 : 255 < n) :
    Calls Try.prog 12 #[.agg #[.int .i64 1, .int .i64 i, .int .i64 n, .int .i64 s, .int .i64 p, .int .i64 q, .int .i64 l, .int .i64 t, .string (str S)]] w fun e w' => e = .returned (.int .i64 20) ∧ Below w.heap.size w w' := by
  have did0 : decide (i < 1) = false := decide_eq_false (by omega)
  have did1 : decide (1099511627776 < i) = false := decide_eq_false (by omega)
  subst h2
  have dtime0 : decide (t < 1) = false := decide_eq_false (by omega)
  have dtime1 : decide (3 < t) = false := decide_eq_false (by omega)
  have dqty0 : decide (q < 1) = false := decide_eq_false (by omega)
  have dqty1 : decide (1000000 < q) = false := decide_eq_false (by omega)
  have dleast0 : decide (l < 0) = false := decide_eq_false (by omega)
  have dleast1 : decide (q < l) = false := decide_eq_false (by omega)
  subst h9
  have nil0 := str_none
  have dprice0 : decide (p < -2000000) = false := decide_eq_false (by omega)
  have dprice1 : decide (2000000 < p) = false := decide_eq_false (by omega)
  have dinst0 : decide (n < 0) = false := decide_eq_false (by omega)
  have dinst1 : decide (255 < n) = true := decide_eq_true (by omega)
  go_enter Try.func12, Try.ntmps12
  go_wp2_with fail
  refine (IsKind_yes 1 _ (by omega) (by omega)).mono ?_
  rintro e w1 ⟨rfl, rfl⟩
  go_wp2_with fail
  refine (Within3_yes i (1) (1099511627776) _ (by omega) (by omega)).mono ?_
  rintro e w1 ⟨rfl, rfl⟩
  go_wp2_with fail
  refine (HasQty_1 _).mono ?_
  rintro e w1 ⟨rfl, rfl⟩
  go_wp2_with fail
  refine (Within3_yes q (1) (1000000) _ (by omega) (by omega)).mono ?_
  rintro e w1 ⟨rfl, rfl⟩
  go_wp2_with fail
  refine (Within3_yes l (0) (q) _ (by omega) (by omega)).mono ?_
  rintro e w1 ⟨rfl, rfl⟩
  go_wp2_with fail
  refine (HasPrice_1 _).mono ?_
  rintro e w1 ⟨rfl, rfl⟩
  go_wp2_with fail
  refine (Within3_yes p (-2000000) (2000000) _ (by omega) (by omega)).mono ?_
  rintro e w1 ⟨rfl, rfl⟩
  go_wp2_with fail
  go_ret
  exact ⟨rfl, (Below.refl _ w).alloc (Nat.le_refl _) _⟩

set_option maxRecDepth 100000 in
set_option maxHeartbeats 1000000 in
theorem PR1_idok_sisell_tiok_qtok_leok_lanone_prbad (i n s p q l t : Int) (S : List UInt8) (w : World) (hL : S.length ≤ 140737488355328) (h0 : 1 ≤ i) (h1 : i ≤ 1099511627776) (h2 : s = 2) (h3 : 1 ≤ t) (h4 : t ≤ 3) (h5 : 1 ≤ q) (h6 : q ≤ 1000000) (h7 : 0 ≤ l) (h8 : l ≤ q) (h9 : S = []) (h10 : ¬ (-2000000 ≤ p ∧ p ≤ 2000000)) :
    Calls Try.prog 12 #[.agg #[.int .i64 1, .int .i64 i, .int .i64 n, .int .i64 s, .int .i64 p, .int .i64 q, .int .i64 l, .int .i64 t, .string (str S)]] w fun e w' => e = .returned (.int .i64 23) ∧ Below w.heap.size w w' := by
  have did0 : decide (i < 1) = false := decide_eq_false (by omega)
  have did1 : decide (1099511627776 < i) = false := decide_eq_false (by omega)
  subst h2
  have dtime0 : decide (t < 1) = false := decide_eq_false (by omega)
  have dtime1 : decide (3 < t) = false := decide_eq_false (by omega)
  have dqty0 : decide (q < 1) = false := decide_eq_false (by omega)
  have dqty1 : decide (1000000 < q) = false := decide_eq_false (by omega)
  have dleast0 : decide (l < 0) = false := decide_eq_false (by omega)
  have dleast1 : decide (q < l) = false := decide_eq_false (by omega)
  subst h9
  have nil0 := str_none
  go_enter Try.func12, Try.ntmps12
  go_wp2_with fail
  refine (IsKind_yes 1 _ (by omega) (by omega)).mono ?_
  rintro e w1 ⟨rfl, rfl⟩
  go_wp2_with fail
  refine (Within3_yes i (1) (1099511627776) _ (by omega) (by omega)).mono ?_
  rintro e w1 ⟨rfl, rfl⟩
  go_wp2_with fail
  refine (HasQty_1 _).mono ?_
  rintro e w1 ⟨rfl, rfl⟩
  go_wp2_with fail
  refine (Within3_yes q (1) (1000000) _ (by omega) (by omega)).mono ?_
  rintro e w1 ⟨rfl, rfl⟩
  go_wp2_with fail
  refine (Within3_yes l (0) (q) _ (by omega) (by omega)).mono ?_
  rintro e w1 ⟨rfl, rfl⟩
  go_wp2_with fail
  refine (HasPrice_1 _).mono ?_
  rintro e w1 ⟨rfl, rfl⟩
  go_wp2_with fail
  refine (Within3_no p (-2000000) (2000000) _ (by omega)).mono ?_
  rintro e w1 ⟨rfl, rfl⟩
  go_wp2_with fail
  go_ret
  exact ⟨rfl, (Below.refl _ w).alloc (Nat.le_refl _) _⟩

set_option maxRecDepth 100000 in
set_option maxHeartbeats 1000000 in
theorem PR1_idok_sisell_tiok_qtok_leok_lagood_prok_inok (i n s p q l t : Int) (S : List UInt8) (w : World) (hL : S.length ≤ 140737488355328) (h0 : 1 ≤ i) (h1 : i ≤ 1099511627776) (h2 : s = 2) (h3 : 1 ≤ t) (h4 : t ≤ 3) (h5 : 1 ≤ q) (h6 : q ≤ 1000000) (h7 : 0 ≤ l) (h8 : l ≤ q) (h9 : S ≠ []) (h10 : rightB S = true) (h11 : -2000000 ≤ p) (h12 : p ≤ 2000000) (h13 : 0 ≤ n) (h14 : n ≤ 255) :
    Calls Try.prog 12 #[.agg #[.int .i64 1, .int .i64 i, .int .i64 n, .int .i64 s, .int .i64 p, .int .i64 q, .int .i64 l, .int .i64 t, .string (str S)]] w fun e w' => e = .returned (.int .i64 0) ∧ Below w.heap.size w w' := by
  have did0 : decide (i < 1) = false := decide_eq_false (by omega)
  have did1 : decide (1099511627776 < i) = false := decide_eq_false (by omega)
  subst h2
  have dtime0 : decide (t < 1) = false := decide_eq_false (by omega)
  have dtime1 : decide (3 < t) = false := decide_eq_false (by omega)
  have dqty0 : decide (q < 1) = false := decide_eq_false (by omega)
  have dqty1 : decide (1000000 < q) = false := decide_eq_false (by omega)
  have dleast0 : decide (l < 0) = false := decide_eq_false (by omega)
  have dleast1 : decide (q < l) = false := decide_eq_false (by omega)
  have ne0 := str_ne h9
  have ne1 : (!(str S).toList.isEmpty) = true := by simpa using ne0
  have HR := Lib.hid h10
  clear h10
  have dprice0 : decide (p < -2000000) = false := decide_eq_false (by omega)
  have dprice1 : decide (2000000 < p) = false := decide_eq_false (by omega)
  have dinst0 : decide (n < 0) = false := decide_eq_false (by omega)
  have dinst1 : decide (255 < n) = false := decide_eq_false (by omega)
  clear h9
  go_enter Try.func12, Try.ntmps12
  go_wp2_with fail
  refine (IsKind_yes 1 _ (by omega) (by omega)).mono ?_
  rintro e w1 ⟨rfl, rfl⟩
  go_wp2_with fail
  refine (Within3_yes i (1) (1099511627776) _ (by omega) (by omega)).mono ?_
  rintro e w1 ⟨rfl, rfl⟩
  go_wp2_with fail
  refine (HasQty_1 _).mono ?_
  rintro e w1 ⟨rfl, rfl⟩
  go_wp2_with fail
  refine (Within3_yes q (1) (1000000) _ (by omega) (by omega)).mono ?_
  rintro e w1 ⟨rfl, rfl⟩
  go_wp2_with fail
  refine (Within3_yes l (0) (q) _ (by omega) (by omega)).mono ?_
  rintro e w1 ⟨rfl, rfl⟩
  go_wp2_with fail
  refine (Right_any S _).mono ?_
  rintro e w1 ⟨rfl, hb⟩
  rw [HR.out]
  obtain ⟨k0, k1, k2, k3, k4, k5, k6, k7, k8⟩ := cmd_at (boxed hb)
  have hB := Lib.hid (boxed_below hb)
  clear hb
  go_wp2_with fail
  refine (HasPrice_1 _).mono ?_
  rintro e w1 ⟨rfl, rfl⟩
  go_wp2_with fail
  refine (Within3_yes p (-2000000) (2000000) _ (by omega) (by omega)).mono ?_
  rintro e w1 ⟨rfl, rfl⟩
  go_wp2_with fail
  go_ret
  exact ⟨rfl, hB.out⟩

set_option maxRecDepth 100000 in
set_option maxHeartbeats 1000000 in
theorem PR1_idok_sisell_tiok_qtok_leok_lagood_prok_inlow (i n s p q l t : Int) (S : List UInt8) (w : World) (hL : S.length ≤ 140737488355328) (h0 : 1 ≤ i) (h1 : i ≤ 1099511627776) (h2 : s = 2) (h3 : 1 ≤ t) (h4 : t ≤ 3) (h5 : 1 ≤ q) (h6 : q ≤ 1000000) (h7 : 0 ≤ l) (h8 : l ≤ q) (h9 : S ≠ []) (h10 : rightB S = true) (h11 : -2000000 ≤ p) (h12 : p ≤ 2000000) (h13 : n < 0) :
    Calls Try.prog 12 #[.agg #[.int .i64 1, .int .i64 i, .int .i64 n, .int .i64 s, .int .i64 p, .int .i64 q, .int .i64 l, .int .i64 t, .string (str S)]] w fun e w' => e = .returned (.int .i64 20) ∧ Below w.heap.size w w' := by
  have did0 : decide (i < 1) = false := decide_eq_false (by omega)
  have did1 : decide (1099511627776 < i) = false := decide_eq_false (by omega)
  subst h2
  have dtime0 : decide (t < 1) = false := decide_eq_false (by omega)
  have dtime1 : decide (3 < t) = false := decide_eq_false (by omega)
  have dqty0 : decide (q < 1) = false := decide_eq_false (by omega)
  have dqty1 : decide (1000000 < q) = false := decide_eq_false (by omega)
  have dleast0 : decide (l < 0) = false := decide_eq_false (by omega)
  have dleast1 : decide (q < l) = false := decide_eq_false (by omega)
  have ne0 := str_ne h9
  have ne1 : (!(str S).toList.isEmpty) = true := by simpa using ne0
  have HR := Lib.hid h10
  clear h10
  have dprice0 : decide (p < -2000000) = false := decide_eq_false (by omega)
  have dprice1 : decide (2000000 < p) = false := decide_eq_false (by omega)
  have dinst0 : decide (n < 0) = true := decide_eq_true (by omega)
  clear h9
  go_enter Try.func12, Try.ntmps12
  go_wp2_with fail
  refine (IsKind_yes 1 _ (by omega) (by omega)).mono ?_
  rintro e w1 ⟨rfl, rfl⟩
  go_wp2_with fail
  refine (Within3_yes i (1) (1099511627776) _ (by omega) (by omega)).mono ?_
  rintro e w1 ⟨rfl, rfl⟩
  go_wp2_with fail
  refine (HasQty_1 _).mono ?_
  rintro e w1 ⟨rfl, rfl⟩
  go_wp2_with fail
  refine (Within3_yes q (1) (1000000) _ (by omega) (by omega)).mono ?_
  rintro e w1 ⟨rfl, rfl⟩
  go_wp2_with fail
  refine (Within3_yes l (0) (q) _ (by omega) (by omega)).mono ?_
  rintro e w1 ⟨rfl, rfl⟩
  go_wp2_with fail
  refine (Right_any S _).mono ?_
  rintro e w1 ⟨rfl, hb⟩
  rw [HR.out]
  obtain ⟨k0, k1, k2, k3, k4, k5, k6, k7, k8⟩ := cmd_at (boxed hb)
  have hB := Lib.hid (boxed_below hb)
  clear hb
  go_wp2_with fail
  refine (HasPrice_1 _).mono ?_
  rintro e w1 ⟨rfl, rfl⟩
  go_wp2_with fail
  refine (Within3_yes p (-2000000) (2000000) _ (by omega) (by omega)).mono ?_
  rintro e w1 ⟨rfl, rfl⟩
  go_wp2_with fail
  go_ret
  exact ⟨rfl, hB.out⟩

set_option maxRecDepth 100000 in
set_option maxHeartbeats 1000000 in
theorem PR1_idok_sisell_tiok_qtok_leok_lagood_prok_inhigh (i n s p q l t : Int) (S : List UInt8) (w : World) (hL : S.length ≤ 140737488355328) (h0 : 1 ≤ i) (h1 : i ≤ 1099511627776) (h2 : s = 2) (h3 : 1 ≤ t) (h4 : t ≤ 3) (h5 : 1 ≤ q) (h6 : q ≤ 1000000) (h7 : 0 ≤ l) (h8 : l ≤ q) (h9 : S ≠ []) (h10 : rightB S = true) (h11 : -2000000 ≤ p) (h12 : p ≤ 2000000) (h13 : 0 ≤ n) (h14 : 255 < n) :
    Calls Try.prog 12 #[.agg #[.int .i64 1, .int .i64 i, .int .i64 n, .int .i64 s, .int .i64 p, .int .i64 q, .int .i64 l, .int .i64 t, .string (str S)]] w fun e w' => e = .returned (.int .i64 20) ∧ Below w.heap.size w w' := by
  have did0 : decide (i < 1) = false := decide_eq_false (by omega)
  have did1 : decide (1099511627776 < i) = false := decide_eq_false (by omega)
  subst h2
  have dtime0 : decide (t < 1) = false := decide_eq_false (by omega)
  have dtime1 : decide (3 < t) = false := decide_eq_false (by omega)
  have dqty0 : decide (q < 1) = false := decide_eq_false (by omega)
  have dqty1 : decide (1000000 < q) = false := decide_eq_false (by omega)
  have dleast0 : decide (l < 0) = false := decide_eq_false (by omega)
  have dleast1 : decide (q < l) = false := decide_eq_false (by omega)
  have ne0 := str_ne h9
  have ne1 : (!(str S).toList.isEmpty) = true := by simpa using ne0
  have HR := Lib.hid h10
  clear h10
  have dprice0 : decide (p < -2000000) = false := decide_eq_false (by omega)
  have dprice1 : decide (2000000 < p) = false := decide_eq_false (by omega)
  have dinst0 : decide (n < 0) = false := decide_eq_false (by omega)
  have dinst1 : decide (255 < n) = true := decide_eq_true (by omega)
  clear h9
  go_enter Try.func12, Try.ntmps12
  go_wp2_with fail
  refine (IsKind_yes 1 _ (by omega) (by omega)).mono ?_
  rintro e w1 ⟨rfl, rfl⟩
  go_wp2_with fail
  refine (Within3_yes i (1) (1099511627776) _ (by omega) (by omega)).mono ?_
  rintro e w1 ⟨rfl, rfl⟩
  go_wp2_with fail
  refine (HasQty_1 _).mono ?_
  rintro e w1 ⟨rfl, rfl⟩
  go_wp2_with fail
  refine (Within3_yes q (1) (1000000) _ (by omega) (by omega)).mono ?_
  rintro e w1 ⟨rfl, rfl⟩
  go_wp2_with fail
  refine (Within3_yes l (0) (q) _ (by omega) (by omega)).mono ?_
  rintro e w1 ⟨rfl, rfl⟩
  go_wp2_with fail
  refine (Right_any S _).mono ?_
  rintro e w1 ⟨rfl, hb⟩
  rw [HR.out]
  obtain ⟨k0, k1, k2, k3, k4, k5, k6, k7, k8⟩ := cmd_at (boxed hb)
  have hB := Lib.hid (boxed_below hb)
  clear hb
  go_wp2_with fail
  refine (HasPrice_1 _).mono ?_
  rintro e w1 ⟨rfl, rfl⟩
  go_wp2_with fail
  refine (Within3_yes p (-2000000) (2000000) _ (by omega) (by omega)).mono ?_
  rintro e w1 ⟨rfl, rfl⟩
  go_wp2_with fail
  go_ret
  exact ⟨rfl, hB.out⟩

set_option maxRecDepth 100000 in
set_option maxHeartbeats 1000000 in
theorem PR1_idok_sisell_tiok_qtok_leok_lagood_prbad (i n s p q l t : Int) (S : List UInt8) (w : World) (hL : S.length ≤ 140737488355328) (h0 : 1 ≤ i) (h1 : i ≤ 1099511627776) (h2 : s = 2) (h3 : 1 ≤ t) (h4 : t ≤ 3) (h5 : 1 ≤ q) (h6 : q ≤ 1000000) (h7 : 0 ≤ l) (h8 : l ≤ q) (h9 : S ≠ []) (h10 : rightB S = true) (h11 : ¬ (-2000000 ≤ p ∧ p ≤ 2000000)) :
    Calls Try.prog 12 #[.agg #[.int .i64 1, .int .i64 i, .int .i64 n, .int .i64 s, .int .i64 p, .int .i64 q, .int .i64 l, .int .i64 t, .string (str S)]] w fun e w' => e = .returned (.int .i64 23) ∧ Below w.heap.size w w' := by
  have did0 : decide (i < 1) = false := decide_eq_false (by omega)
  have did1 : decide (1099511627776 < i) = false := decide_eq_false (by omega)
  subst h2
  have dtime0 : decide (t < 1) = false := decide_eq_false (by omega)
  have dtime1 : decide (3 < t) = false := decide_eq_false (by omega)
  have dqty0 : decide (q < 1) = false := decide_eq_false (by omega)
  have dqty1 : decide (1000000 < q) = false := decide_eq_false (by omega)
  have dleast0 : decide (l < 0) = false := decide_eq_false (by omega)
  have dleast1 : decide (q < l) = false := decide_eq_false (by omega)
  have ne0 := str_ne h9
  have ne1 : (!(str S).toList.isEmpty) = true := by simpa using ne0
  have HR := Lib.hid h10
  clear h10
  clear h9
  go_enter Try.func12, Try.ntmps12
  go_wp2_with fail
  refine (IsKind_yes 1 _ (by omega) (by omega)).mono ?_
  rintro e w1 ⟨rfl, rfl⟩
  go_wp2_with fail
  refine (Within3_yes i (1) (1099511627776) _ (by omega) (by omega)).mono ?_
  rintro e w1 ⟨rfl, rfl⟩
  go_wp2_with fail
  refine (HasQty_1 _).mono ?_
  rintro e w1 ⟨rfl, rfl⟩
  go_wp2_with fail
  refine (Within3_yes q (1) (1000000) _ (by omega) (by omega)).mono ?_
  rintro e w1 ⟨rfl, rfl⟩
  go_wp2_with fail
  refine (Within3_yes l (0) (q) _ (by omega) (by omega)).mono ?_
  rintro e w1 ⟨rfl, rfl⟩
  go_wp2_with fail
  refine (Right_any S _).mono ?_
  rintro e w1 ⟨rfl, hb⟩
  rw [HR.out]
  obtain ⟨k0, k1, k2, k3, k4, k5, k6, k7, k8⟩ := cmd_at (boxed hb)
  have hB := Lib.hid (boxed_below hb)
  clear hb
  go_wp2_with fail
  refine (HasPrice_1 _).mono ?_
  rintro e w1 ⟨rfl, rfl⟩
  go_wp2_with fail
  refine (Within3_no p (-2000000) (2000000) _ (by omega)).mono ?_
  rintro e w1 ⟨rfl, rfl⟩
  go_wp2_with fail
  go_ret
  exact ⟨rfl, hB.out⟩

set_option maxRecDepth 100000 in
set_option maxHeartbeats 1000000 in
theorem PR1_idok_sisell_tiok_qtok_leok_labad (i n s p q l t : Int) (S : List UInt8) (w : World) (hL : S.length ≤ 140737488355328) (h0 : 1 ≤ i) (h1 : i ≤ 1099511627776) (h2 : s = 2) (h3 : 1 ≤ t) (h4 : t ≤ 3) (h5 : 1 ≤ q) (h6 : q ≤ 1000000) (h7 : 0 ≤ l) (h8 : l ≤ q) (h9 : S ≠ []) (h10 : rightB S = false) :
    Calls Try.prog 12 #[.agg #[.int .i64 1, .int .i64 i, .int .i64 n, .int .i64 s, .int .i64 p, .int .i64 q, .int .i64 l, .int .i64 t, .string (str S)]] w fun e w' => e = .returned (.int .i64 29) ∧ Below w.heap.size w w' := by
  have did0 : decide (i < 1) = false := decide_eq_false (by omega)
  have did1 : decide (1099511627776 < i) = false := decide_eq_false (by omega)
  subst h2
  have dtime0 : decide (t < 1) = false := decide_eq_false (by omega)
  have dtime1 : decide (3 < t) = false := decide_eq_false (by omega)
  have dqty0 : decide (q < 1) = false := decide_eq_false (by omega)
  have dqty1 : decide (1000000 < q) = false := decide_eq_false (by omega)
  have dleast0 : decide (l < 0) = false := decide_eq_false (by omega)
  have dleast1 : decide (q < l) = false := decide_eq_false (by omega)
  have ne0 := str_ne h9
  have ne1 : (!(str S).toList.isEmpty) = true := by simpa using ne0
  have HR := Lib.hid h10
  clear h10
  clear h9
  go_enter Try.func12, Try.ntmps12
  go_wp2_with fail
  refine (IsKind_yes 1 _ (by omega) (by omega)).mono ?_
  rintro e w1 ⟨rfl, rfl⟩
  go_wp2_with fail
  refine (Within3_yes i (1) (1099511627776) _ (by omega) (by omega)).mono ?_
  rintro e w1 ⟨rfl, rfl⟩
  go_wp2_with fail
  refine (HasQty_1 _).mono ?_
  rintro e w1 ⟨rfl, rfl⟩
  go_wp2_with fail
  refine (Within3_yes q (1) (1000000) _ (by omega) (by omega)).mono ?_
  rintro e w1 ⟨rfl, rfl⟩
  go_wp2_with fail
  refine (Within3_yes l (0) (q) _ (by omega) (by omega)).mono ?_
  rintro e w1 ⟨rfl, rfl⟩
  go_wp2_with fail
  refine (Right_any S _).mono ?_
  rintro e w1 ⟨rfl, hb⟩
  rw [HR.out]
  obtain ⟨k0, k1, k2, k3, k4, k5, k6, k7, k8⟩ := cmd_at (boxed hb)
  have hB := Lib.hid (boxed_below hb)
  clear hb
  go_wp2_with fail
  go_ret
  exact ⟨rfl, hB.out⟩

set_option maxRecDepth 100000 in
set_option maxHeartbeats 1000000 in
theorem PR1_idok_sisell_tiok_qtok_lebad (i n s p q l t : Int) (S : List UInt8) (w : World) (hL : S.length ≤ 140737488355328) (h0 : 1 ≤ i) (h1 : i ≤ 1099511627776) (h2 : s = 2) (h3 : 1 ≤ t) (h4 : t ≤ 3) (h5 : 1 ≤ q) (h6 : q ≤ 1000000) (h7 : ¬ (0 ≤ l ∧ l ≤ q)) :
    Calls Try.prog 12 #[.agg #[.int .i64 1, .int .i64 i, .int .i64 n, .int .i64 s, .int .i64 p, .int .i64 q, .int .i64 l, .int .i64 t, .string (str S)]] w fun e w' => e = .returned (.int .i64 28) ∧ Below w.heap.size w w' := by
  have did0 : decide (i < 1) = false := decide_eq_false (by omega)
  have did1 : decide (1099511627776 < i) = false := decide_eq_false (by omega)
  subst h2
  have dtime0 : decide (t < 1) = false := decide_eq_false (by omega)
  have dtime1 : decide (3 < t) = false := decide_eq_false (by omega)
  have dqty0 : decide (q < 1) = false := decide_eq_false (by omega)
  have dqty1 : decide (1000000 < q) = false := decide_eq_false (by omega)
  go_enter Try.func12, Try.ntmps12
  go_wp2_with fail
  refine (IsKind_yes 1 _ (by omega) (by omega)).mono ?_
  rintro e w1 ⟨rfl, rfl⟩
  go_wp2_with fail
  refine (Within3_yes i (1) (1099511627776) _ (by omega) (by omega)).mono ?_
  rintro e w1 ⟨rfl, rfl⟩
  go_wp2_with fail
  refine (HasQty_1 _).mono ?_
  rintro e w1 ⟨rfl, rfl⟩
  go_wp2_with fail
  refine (Within3_yes q (1) (1000000) _ (by omega) (by omega)).mono ?_
  rintro e w1 ⟨rfl, rfl⟩
  go_wp2_with fail
  refine (Within3_no l (0) (q) _ (by omega)).mono ?_
  rintro e w1 ⟨rfl, rfl⟩
  go_wp2_with fail
  go_ret
  exact ⟨rfl, (Below.refl _ w).alloc (Nat.le_refl _) _⟩

set_option maxRecDepth 100000 in
set_option maxHeartbeats 1000000 in
theorem PR1_idok_sisell_tiok_qtbad (i n s p q l t : Int) (S : List UInt8) (w : World) (hL : S.length ≤ 140737488355328) (h0 : 1 ≤ i) (h1 : i ≤ 1099511627776) (h2 : s = 2) (h3 : 1 ≤ t) (h4 : t ≤ 3) (h5 : ¬ (1 ≤ q ∧ q ≤ 1000000)) :
    Calls Try.prog 12 #[.agg #[.int .i64 1, .int .i64 i, .int .i64 n, .int .i64 s, .int .i64 p, .int .i64 q, .int .i64 l, .int .i64 t, .string (str S)]] w fun e w' => e = .returned (.int .i64 24) ∧ Below w.heap.size w w' := by
  have did0 : decide (i < 1) = false := decide_eq_false (by omega)
  have did1 : decide (1099511627776 < i) = false := decide_eq_false (by omega)
  subst h2
  have dtime0 : decide (t < 1) = false := decide_eq_false (by omega)
  have dtime1 : decide (3 < t) = false := decide_eq_false (by omega)
  go_enter Try.func12, Try.ntmps12
  go_wp2_with fail
  refine (IsKind_yes 1 _ (by omega) (by omega)).mono ?_
  rintro e w1 ⟨rfl, rfl⟩
  go_wp2_with fail
  refine (Within3_yes i (1) (1099511627776) _ (by omega) (by omega)).mono ?_
  rintro e w1 ⟨rfl, rfl⟩
  go_wp2_with fail
  refine (HasQty_1 _).mono ?_
  rintro e w1 ⟨rfl, rfl⟩
  go_wp2_with fail
  refine (Within3_no q (1) (1000000) _ (by omega)).mono ?_
  rintro e w1 ⟨rfl, rfl⟩
  go_wp2_with fail
  go_ret
  exact ⟨rfl, (Below.refl _ w).alloc (Nat.le_refl _) _⟩

set_option maxRecDepth 100000 in
set_option maxHeartbeats 1000000 in
theorem PR1_idok_sisell_tilow (i n s p q l t : Int) (S : List UInt8) (w : World) (hL : S.length ≤ 140737488355328) (h0 : 1 ≤ i) (h1 : i ≤ 1099511627776) (h2 : s = 2) (h3 : t < 1) :
    Calls Try.prog 12 #[.agg #[.int .i64 1, .int .i64 i, .int .i64 n, .int .i64 s, .int .i64 p, .int .i64 q, .int .i64 l, .int .i64 t, .string (str S)]] w fun e w' => e = .returned (.int .i64 27) ∧ Below w.heap.size w w' := by
  have did0 : decide (i < 1) = false := decide_eq_false (by omega)
  have did1 : decide (1099511627776 < i) = false := decide_eq_false (by omega)
  subst h2
  have dtime0 : decide (t < 1) = true := decide_eq_true (by omega)
  go_enter Try.func12, Try.ntmps12
  go_wp2_with fail
  refine (IsKind_yes 1 _ (by omega) (by omega)).mono ?_
  rintro e w1 ⟨rfl, rfl⟩
  go_wp2_with fail
  refine (Within3_yes i (1) (1099511627776) _ (by omega) (by omega)).mono ?_
  rintro e w1 ⟨rfl, rfl⟩
  go_wp2_with fail
  go_ret
  exact ⟨rfl, (Below.refl _ w).alloc (Nat.le_refl _) _⟩

set_option maxRecDepth 100000 in
set_option maxHeartbeats 1000000 in
theorem PR1_idok_sisell_tihigh (i n s p q l t : Int) (S : List UInt8) (w : World) (hL : S.length ≤ 140737488355328) (h0 : 1 ≤ i) (h1 : i ≤ 1099511627776) (h2 : s = 2) (h3 : 1 ≤ t) (h4 : 3 < t) :
    Calls Try.prog 12 #[.agg #[.int .i64 1, .int .i64 i, .int .i64 n, .int .i64 s, .int .i64 p, .int .i64 q, .int .i64 l, .int .i64 t, .string (str S)]] w fun e w' => e = .returned (.int .i64 27) ∧ Below w.heap.size w w' := by
  have did0 : decide (i < 1) = false := decide_eq_false (by omega)
  have did1 : decide (1099511627776 < i) = false := decide_eq_false (by omega)
  subst h2
  have dtime0 : decide (t < 1) = false := decide_eq_false (by omega)
  have dtime1 : decide (3 < t) = true := decide_eq_true (by omega)
  go_enter Try.func12, Try.ntmps12
  go_wp2_with fail
  refine (IsKind_yes 1 _ (by omega) (by omega)).mono ?_
  rintro e w1 ⟨rfl, rfl⟩
  go_wp2_with fail
  refine (Within3_yes i (1) (1099511627776) _ (by omega) (by omega)).mono ?_
  rintro e w1 ⟨rfl, rfl⟩
  go_wp2_with fail
  go_ret
  exact ⟨rfl, (Below.refl _ w).alloc (Nat.le_refl _) _⟩

set_option maxRecDepth 100000 in
set_option maxHeartbeats 1000000 in
theorem PR1_idok_sibad (i n s p q l t : Int) (S : List UInt8) (w : World) (hL : S.length ≤ 140737488355328) (h0 : 1 ≤ i) (h1 : i ≤ 1099511627776) (h2 : s ≠ 1) (h3 : s ≠ 2) :
    Calls Try.prog 12 #[.agg #[.int .i64 1, .int .i64 i, .int .i64 n, .int .i64 s, .int .i64 p, .int .i64 q, .int .i64 l, .int .i64 t, .string (str S)]] w fun e w' => e = .returned (.int .i64 21) ∧ Below w.heap.size w w' := by
  have did0 : decide (i < 1) = false := decide_eq_false (by omega)
  have did1 : decide (1099511627776 < i) = false := decide_eq_false (by omega)
  have e1 : (s != 1) = true := by simpa using h2
  have e2 : (s != 2) = true := by simpa using h3
  clear h2 h3
  go_enter Try.func12, Try.ntmps12
  go_wp2_with fail
  refine (IsKind_yes 1 _ (by omega) (by omega)).mono ?_
  rintro e w1 ⟨rfl, rfl⟩
  go_wp2_with fail
  refine (Within3_yes i (1) (1099511627776) _ (by omega) (by omega)).mono ?_
  rintro e w1 ⟨rfl, rfl⟩
  go_wp2_with fail
  go_ret
  exact ⟨rfl, (Below.refl _ w).alloc (Nat.le_refl _) _⟩

set_option maxRecDepth 100000 in
set_option maxHeartbeats 1000000 in
theorem PR1_idbad (i n s p q l t : Int) (S : List UInt8) (w : World) (hL : S.length ≤ 140737488355328) (h0 : ¬ (1 ≤ i ∧ i ≤ 1099511627776)) :
    Calls Try.prog 12 #[.agg #[.int .i64 1, .int .i64 i, .int .i64 n, .int .i64 s, .int .i64 p, .int .i64 q, .int .i64 l, .int .i64 t, .string (str S)]] w fun e w' => e = .returned (.int .i64 1) ∧ Below w.heap.size w w' := by
  go_enter Try.func12, Try.ntmps12
  go_wp2_with fail
  refine (IsKind_yes 1 _ (by omega) (by omega)).mono ?_
  rintro e w1 ⟨rfl, rfl⟩
  go_wp2_with fail
  refine (Within3_no i (1) (1099511627776) _ (by omega)).mono ?_
  rintro e w1 ⟨rfl, rfl⟩
  go_wp2_with fail
  go_ret
  exact ⟨rfl, (Below.refl _ w).alloc (Nat.le_refl _) _⟩

end Go.Proofs.Ytdbaphmhfoajgaa
