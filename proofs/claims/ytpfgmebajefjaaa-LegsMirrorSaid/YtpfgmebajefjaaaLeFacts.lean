/-
  Plain: what the laws of legs say of the two prices of a spread of the keep's product.
-/
import Derived.Test.YtpfgmebajefjaaaLeKeep
namespace Go.Proofs.Ytpfgmebajefjaaa
open Go.RowKit
set_option linter.unusedVariables false
set_option linter.unusedSimpArgs false

theorem tick_in {T a : Int} (h1 : 1 ≤ T) (h2 : T ≤ 10) (h3 : -200 ≤ a) (h4 : a ≤ 200) : -2000 ≤ T * a ∧ T * a ≤ 2000 := by
  have b1 : T * a ≤ T * 200 := Int.mul_le_mul_of_nonneg_left h4 (by omega)
  have b2 : T * -200 ≤ T * a := Int.mul_le_mul_of_nonneg_left h3 (by omega)
  omega
theorem rules15 {p : PD} {T K : Int} (h : p.Keep15 T K) {s : Int} {i j : Nat} (hs : legsL p s = ((i : Int), (j : Int), true)) (hi : i < p.n1) (hj : j < p.n1) {m : Int} (h1 : -K ≤ m) (h2 : m ≤ K) :
    ∃ a b : Int, pricesL p s (T * m) = (a, b, 0) ∧ a - b = T * m ∧ priceL p i a = 0 ∧ priceL p j b = 0 ∧ -2000 ≤ a ∧ a ≤ 2000 ∧ -2000 ≤ b ∧ b ≤ 2000 ∧ -2000 ≤ T * m ∧ T * m ≤ 2000 ∧ -2000 ≤ p.R j ∧ p.R j ≤ 2000 ∧
      ((priceL p i (p.R j + T * m) = 0 ∧ b = p.R j) ∨ (priceL p i (p.R j + T * m) ≠ 0 ∧ (a = p.high ∨ a = p.low))) := by
  have t1 := h.self.T1
  have t2 := h.self.T2
  have k2 := h.self.K2
  have n5 := h.self.nb
  have eR : p.R j = T * (10 + (j : Int)) := h.self.settle j hj
  obtain ⟨sh, hsh⟩ : ∃ v, shiftB (-20) 100 (10 + (j : Int) + m) = v := ⟨_, rfl⟩
  have e := h.self.prices hs hj h1 h2
  simp only [hsh] at e
  unfold shiftB at hsh
  have hc : (10 + (j : Int) + m < -20 ∧ sh = -20 - (10 + (j : Int) + m)) ∨ (-20 ≤ 10 + (j : Int) + m ∧ 10 + (j : Int) + m ≤ 100 ∧ sh = 0) := by
    repeat' split at hsh
    all_goals omega
  have b1 := tick_in t1 t2 (a := 10 + (j : Int) + m + sh) (by omega) (by omega)
  have b2 := tick_in t1 t2 (a := 10 + (j : Int) + sh) (by omega) (by omega)
  have b3 := tick_in t1 t2 (a := m) (by omega) (by omega)
  have b4 := tick_in t1 t2 (a := 10 + (j : Int)) (by omega) (by omega)
  refine ⟨_, _, e, ?_, ?_, ?_, b1.1, b1.2, b2.1, b2.2, b3.1, b3.2, by omega, by omega, ?_⟩
  · rw [← Int.mul_sub]; congr 1; omega
  · rw [h.self.month hi, if_neg (by omega)]
  · rw [h.self.month hj, if_neg (by omega)]
  · rw [eR, ← Int.mul_add, h.self.month hi, h.self.high, h.self.low]
    rcases hc with ⟨c1, c2⟩ | ⟨c1, c2, c3⟩
    · right
      refine ⟨by rw [if_pos (by omega)]; decide, .inr ?_⟩
      congr 1; omega
    · left
      refine ⟨if_neg (by omega), ?_⟩
      congr 1; omega
theorem turned_legs {p : PD} {T K : Int} (h : p.Keep15 T K) (A : Option Addr) (c : Nat) (s : Int) : legsL (p.turned A c) s = legsL p s := by
  have z1 := h.self.z
  have z2 := (h.turn A c).z
  unfold legsL
  rw [z1, z2]
  rfl
theorem mirror15 {p : PD} {T K : Int} (h : p.Keep15 T K) {s : Int} {i j : Nat} (hs : legsL p s = ((i : Int), (j : Int), true)) (hi : i < p.n1) (hj : j < p.n1) {m : Int} (h1 : -K ≤ m) (h2 : m ≤ K) (A : Option Addr) (c : Nat) :
    ∃ a b : Int, pricesL p s (T * m) = (a, b, 0) ∧ pricesL (p.turned A c) s (-(T * m)) = (-a, -b, 0) ∧ -2000 ≤ a ∧ a ≤ 2000 ∧ -2000 ≤ b ∧ b ≤ 2000 ∧ -2000 ≤ T * m ∧ T * m ≤ 2000 ∧ (T * m + T > p.wide ↔ K < m + 1) ∧
      (m + 1 ≤ K → pricesL p s (T * m + T) = (a + T, b, 0) ∨ pricesL p s (T * m + T) = (a, b - T, 0)) := by
  have t1 := h.self.T1
  have t2 := h.self.T2
  have k2 := h.self.K2
  have n5 := h.self.nb
  obtain ⟨sh, hsh⟩ : ∃ v, shiftB (-20) 100 (10 + (j : Int) + m) = v := ⟨_, rfl⟩
  have e := h.self.prices hs hj h1 h2
  simp only [hsh] at e
  obtain ⟨sg, hsg⟩ : ∃ v, shiftB (-100) 20 (-10 - (j : Int) + -m) = v := ⟨_, rfl⟩
  have e2 := (h.turn A c).prices (s := s) (i := (i : Int)) (j := j) (by rw [turned_legs h]; exact hs) hj (m := -m) (by omega) (by omega)
  simp only [hsg] at e2
  rw [Int.mul_neg] at e2
  unfold shiftB at hsh hsg
  have hc : (10 + (j : Int) + m < -20 ∧ sh = -20 - (10 + (j : Int) + m)) ∨ (-20 ≤ 10 + (j : Int) + m ∧ 10 + (j : Int) + m ≤ 100 ∧ sh = 0) := by
    repeat' split at hsh
    all_goals omega
  have hd : sg = -sh := by
    repeat' split at hsg
    all_goals omega
  subst hd
  have b1 := tick_in t1 t2 (a := 10 + (j : Int) + m + sh) (by omega) (by omega)
  have b2 := tick_in t1 t2 (a := 10 + (j : Int) + sh) (by omega) (by omega)
  have b3 := tick_in t1 t2 (a := m) (by omega) (by omega)
  have u1 : T * (-10 - (j : Int) + -m + -sh) = -(T * (10 + (j : Int) + m + sh)) := by rw [← Int.mul_neg]; congr 1; omega
  have u2 : T * (-10 - (j : Int) + -sh) = -(T * (10 + (j : Int) + sh)) := by rw [← Int.mul_neg]; congr 1; omega
  rw [u1, u2] at e2
  have et : T * m + T = T * (m + 1) := by rw [Int.mul_add, Int.mul_one]
  refine ⟨_, _, e, e2, b1.1, b1.2, b2.1, b2.2, b3.1, b3.2, ?_, fun hm => ?_⟩
  · rw [et, h.self.wide]
    exact ⟨fun g => Int.lt_of_mul_lt_mul_left g (by omega), fun g => Int.mul_lt_mul_of_pos_left g (by omega)⟩
  · obtain ⟨sk, hsk⟩ : ∃ v, shiftB (-20) 100 (10 + (j : Int) + (m + 1)) = v := ⟨_, rfl⟩
    have e3 := h.self.prices hs hj (m := m + 1) (by omega) hm
    simp only [hsk] at e3
    rw [et, e3]
    unfold shiftB at hsk
    have hk : (10 + (j : Int) + (m + 1) < -20 ∧ sk = -20 - (10 + (j : Int) + (m + 1))) ∨ (-20 ≤ 10 + (j : Int) + (m + 1) ∧ 10 + (j : Int) + (m + 1) ≤ 100 ∧ sk = 0) := by
      repeat' split at hsk
      all_goals omega
    by_cases g : 10 + (j : Int) + m < -20
    · right
      have v1 : 10 + (j : Int) + (m + 1) + sk = 10 + (j : Int) + m + sh := by omega
      have v2 : 10 + (j : Int) + sk = 10 + (j : Int) + sh - 1 := by omega
      rw [v1, v2, Int.mul_sub, Int.mul_one]
    · left
      have v1 : 10 + (j : Int) + (m + 1) + sk = 10 + (j : Int) + m + sh + 1 := by omega
      have v2 : 10 + (j : Int) + sk = 10 + (j : Int) + sh := by omega
      rw [v1, v2, Int.mul_add T _ 1, Int.mul_one]
end Go.Proofs.Ytpfgmebajefjaaa
