/-
  The keep's product with all its prices so much higher is a right one too.
-/
import Derived.Test.YtdeofifidjbolaaKeepProduct
import Derived.Test.YtdeofifidjbolaaGcRd
namespace Go.Proofs.Ytdeofifidjbolaa
open Go.RowKit
set_option linter.unusedVariables false
set_option linter.unusedSimpArgs false

theorem shift_chk (A1 A2 : Option Addr) (c1 c2 n : Nat) (T kw r o l pp s : Int) (hn : 2 ≤ n) (hn5 : n ≤ 5) (hT : 1 ≤ T) (hT10 : T ≤ 10) (w1 : 0 ≤ kw) (w2 : kw ≤ 60) (r1 : 1 ≤ r) (r2 : r ≤ 3) (o1 : 0 ≤ o) (o2 : o ≤ 9) (l1 : 1 ≤ l) (l2 : l ≤ 5) (p1 : 0 ≤ pp) (p2 : pp ≤ 100) (s1 : 0 ≤ s) (s2 : s ≤ 500) :
    chk ⟨[206, 169], A1, n, c1, T, -20 * T + T * s, 100 * T + T * s, T * (5 + kw), r, o, l, pp, A2, n, c2, fun i => 10 * (i : Int) + 3, fun i => T * (10 + (i : Int)) + T * s⟩ = 0 := by
  rw [chk_eq]
  have h1 : prodB [206, 169] = true := by decide
  have h2 : rmB n (fun i => 10 * (i : Int) + 3) = true := decide_eq_true ⟨hn, by omega, fun i hi => ⟨by show 0 ≤ 10 * (i : Int) + 3; omega, by show 10 * (i : Int) + 3 ≤ 1199; omega, fun h => by show 10 * ((i - 1 : Nat) : Int) + 3 < 10 * (i : Int) + 3; omega⟩⟩
  have m1 : T * (5 + kw) ≤ T * 65 := Int.mul_le_mul_of_nonneg_left (by omega) (by omega)
  have m2 : 0 ≤ T * (5 + kw) := Int.mul_nonneg (by omega) (by omega)
  have m5 : T * s ≤ T * 500 := Int.mul_le_mul_of_nonneg_left (by omega) (by omega)
  have m6 : 0 ≤ T * s := Int.mul_nonneg (by omega) (by omega)
  have up : ∀ x : Int, T ∣ x → (x + T * s).tmod T = 0 := fun x h => Int.tmod_eq_zero_of_dvd (Int.dvd_add h (Int.dvd_mul_right T s))
  have h3 : otB ⟨[206, 169], A1, n, c1, T, -20 * T + T * s, 100 * T + T * s, T * (5 + kw), r, o, l, pp, A2, n, c2, fun i => 10 * (i : Int) + 3, fun i => T * (10 + (i : Int)) + T * s⟩ = true :=
    decide_eq_true ⟨hT, by show T ≤ 1000; omega, fun i hi => up _ (Int.dvd_mul_right T _), up _ (Int.dvd_mul_left _ T), up _ (Int.dvd_mul_left _ T), Int.mul_tmod_right T _⟩
  have h4 : rbB ⟨[206, 169], A1, n, c1, T, -20 * T + T * s, 100 * T + T * s, T * (5 + kw), r, o, l, pp, A2, n, c2, fun i => 10 * (i : Int) + 3, fun i => T * (10 + (i : Int)) + T * s⟩ = true :=
    decide_eq_true (by show ¬ (-20 * T + T * s < -1000000 ∨ 100 * T + T * s ≤ -20 * T + T * s ∨ 1000000 < 100 * T + T * s ∨ T * (5 + kw) < 0 ∨ 100 * T + T * s - (-20 * T + T * s) < T * (5 + kw)); omega)
  have h5 : rsB ⟨[206, 169], A1, n, c1, T, -20 * T + T * s, 100 * T + T * s, T * (5 + kw), r, o, l, pp, A2, n, c2, fun i => 10 * (i : Int) + 3, fun i => T * (10 + (i : Int)) + T * s⟩ = true :=
    decide_eq_true ⟨rfl, fun i hi => by
      have hi' : i < n := hi
      have m3 : T * (10 + (i : Int)) ≤ T * 15 := Int.mul_le_mul_of_nonneg_left (by omega) (by omega)
      have m4 : 0 ≤ T * (10 + (i : Int)) := Int.mul_nonneg (by omega) (by omega)
      show -20 * T + T * s ≤ T * (10 + (i : Int)) + T * s ∧ T * (10 + (i : Int)) + T * s ≤ 100 * T + T * s
      omega⟩
  have h6 : shB ⟨[206, 169], A1, n, c1, T, -20 * T + T * s, 100 * T + T * s, T * (5 + kw), r, o, l, pp, A2, n, c2, fun i => 10 * (i : Int) + 3, fun i => T * (10 + (i : Int)) + T * s⟩ = true :=
    decide_eq_true ⟨⟨o1, by show o ≤ 1000000; omega⟩, ⟨l1, by show l ≤ 1000; omega⟩, ⟨p1, p2⟩⟩
  rw [if_neg (by rw [h1]; decide), if_neg (by rw [h2]; decide), if_neg (by rw [h3]; decide), if_neg (by rw [h4]; decide), if_neg (by rw [h5]; decide), if_neg (by show ¬ (r < 1 ∨ 3 < r); omega), if_neg (by rw [h6]; decide)]
end Go.Proofs.Ytdeofifidjbolaa
