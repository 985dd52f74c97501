/-
  The walk of the law IntsShares.
-/
import Derived.Test.YtaoicdpjnlcngaaYes
namespace Go.Proofs.Ytaoicdpjnlcngaa
open Go.RowKit
set_option linter.unusedVariables false

theorem size_name {m a : Int} (hm : 0 < m) : ∃ x : Int, 0 ≤ x ∧ x < m ∧ ((a < 0 ∧ -a.tmod m = x) ∨ (¬ a < 0 ∧ Hid (a % m = x))) := by
  by_cases h : a < 0
  · exact ⟨(-a) % m, Int.emod_nonneg _ (by omega), Int.emod_lt_of_pos _ hm, .inl ⟨h, by rw [← Int.neg_tmod, Int.tmod_eq_emod_of_nonneg (by omega)]⟩⟩
  · exact ⟨a % m, Int.emod_nonneg _ (by omega), Int.emod_lt_of_pos _ hm, .inr ⟨h, Lib.hid rfl⟩⟩
theorem quo_le {p z : Int} (p0 : 0 ≤ p) (z1 : 1 ≤ z) : 0 ≤ p / z ∧ p / z ≤ p ∧ p / z * z ≤ p ∧ p < p / z * z + z := by
  have e := Int.emod_nonneg p (b := z) (by omega)
  have l := Int.emod_lt_of_pos p (b := z) (by omega)
  have d := Int.mul_ediv_add_emod p z
  rw [Int.mul_comm] at d
  exact ⟨Int.ediv_nonneg p0 (by omega), Int.ediv_le_self z p0, by omega, by omega⟩
theorem prod_bd {x y : Int} (x0 : 0 ≤ x) (x1 : x < 2147483648) (y0 : 0 ≤ y) (y1 : y ≤ 2147483648) : 0 ≤ x * y ∧ x * y ≤ 4611686016279904256 :=
  ⟨Int.mul_nonneg x0 y0, Int.mul_le_mul (show x ≤ 2147483647 by omega) y1 y0 (by omega)⟩

set_option maxRecDepth 100000 in
set_option maxHeartbeats 4000000 in
theorem Shares_walk (a b c : Int) (w : World) (a1 : -2147483648 ≤ a) (a2 : a ≤ 2147483647) (b1 : -2147483648 ≤ b) (b2 : b ≤ 2147483647) (c1 : -2147483648 ≤ c) (c2 : c ≤ 2147483647) :
    Calls Try.prog 6 #[.int .i32 a, .int .i32 b, .int .i32 c] w (Drawn (.returned (.bool true)) w) := by
  obtain ⟨x, x0, x1, hx⟩ := size_name (m := 2147483648) (a := a) (by decide)
  obtain ⟨y, y0, y1, hy⟩ := size_name (m := 2147483648) (a := b) (by decide)
  obtain ⟨v, v0, v1, hv⟩ := size_name (m := 1073741824) (a := c) (by decide)
  obtain ⟨z, hz⟩ : ∃ z, v + 1 = z := ⟨_, rfl⟩
  have z1 : 1 ≤ z := by omega
  have z2 : z ≤ 1073741824 := by omega
  obtain ⟨p0, p1⟩ := prod_bd x0 x1 y0 (by omega)
  obtain ⟨p2, p3⟩ := prod_bd x0 x1 (y := y + 1) (by omega) (by omega)
  obtain ⟨q0, q1, q2, q3⟩ := quo_le p0 z1
  obtain ⟨r0, r1, r2, r3⟩ := quo_le p2 z1
  have mono : x * y / z ≤ x * (y + 1) / z := Int.ediv_le_ediv (by omega) (by rw [Int.mul_add]; omega)
  obtain ⟨q, hq⟩ : ∃ q, x * y / z = q := ⟨_, rfl⟩
  obtain ⟨r, hr⟩ : ∃ r, x * (y + 1) / z = r := ⟨_, rfl⟩
  rw [hq] at q0 q1 q2 q3 mono
  rw [hr] at r0 r1 mono
  have z0 : 0 ≤ q * z := Int.mul_nonneg q0 (by omega)
  have S1 := Lib.hid (fun w => Share_yes (q := q) w x0 (by omega) y0 (by omega) z1 (by omega) hq (by omega) (by omega))
  have S2 := Lib.hid (fun w => Share_yes (q := r) w x0 (by omega) (show 0 ≤ y + 1 by omega) (by omega) z1 (by omega) hr (by omega) (by omega))
  have S3 := Lib.hid (fun w => Share_yes (q := x) w x0 (by omega) (show 0 ≤ z by omega) (by omega) z1 (by omega) (Int.mul_ediv_cancel x (by omega)) (by omega) (by omega))
  have S4 := Lib.hid (fun w => Share_yes (q := q) w y0 (by omega) x0 (by omega) z1 (by omega) (by rw [Int.mul_comm]; exact hq) (by omega) (by omega))
  have Hz := Lib.hid hz
  clear hq hr p2 p3 r1 r2 r3 hz
  rcases hx with ⟨ha, Hx⟩ | ⟨ha, Hx⟩ <;> rcases hy with ⟨hb, Hy⟩ | ⟨hb, Hy⟩ <;> rcases hv with ⟨hc, Hv⟩ | ⟨hc, Hv⟩
  all_goals
    go_enter Try.func6, Try.ntmps6
    go_wp2_with fail
    try rw [Hx.out]
    try rw [Hy.out]
    try rw [Hv.out]
    rw [Hz.out]
    refine (S1.out _).mono ?_; rintro e w' ⟨rfl, n1, rfl⟩
    go_wp2_with fail
    refine (S2.out _).mono ?_; rintro e w' ⟨rfl, n2, rfl⟩
    go_wp2_with fail
    refine (S3.out _).mono ?_; rintro e w' ⟨rfl, n3, rfl⟩
    go_wp2_with fail
    refine (S4.out _).mono ?_; rintro e w' ⟨rfl, n4, rfl⟩
    go_wp2_with (go_at_call 15; refine (Known_any _).mono ?_; rintro e w' ⟨rfl, n5, rfl⟩)
    go_ret
    exact ⟨rfl, _, rfl⟩
end Go.Proofs.Ytaoicdpjnlcngaa
