/-
  Plain: the keep's product in ticks, and the prices of its spreads.
-/
import Derived.Test.YtpfgmebajefjaaaLe
import Derived.Test.YtpfgmebajefjaaaKeepShort
namespace Go.Proofs.Ytpfgmebajefjaaa
open Go.RowKit
set_option linter.unusedVariables false
set_option linter.unusedSimpArgs false

theorem right_gen (A1 A2 : Option Addr) (c1 c2 n : Nat) (T kw r o l pp lo hi : Int) (f : Nat → Int) (hn : 2 ≤ n) (hn5 : n ≤ 5) (hT : 1 ≤ T) (hT10 : T ≤ 10) (w1 : 0 ≤ kw) (w2 : kw ≤ 60) (r1 : 1 ≤ r) (r2 : r ≤ 3) (o1 : 0 ≤ o) (o2 : o ≤ 9) (l1 : 1 ≤ l) (l2 : l ≤ 5) (p1 : 0 ≤ pp) (p2 : pp ≤ 100)
    (b1 : -1000 ≤ lo) (b2 : hi ≤ 1000) (b3 : 65 ≤ hi - lo) (hf : ∀ i, i < n → lo ≤ f i ∧ f i ≤ hi) :
    chk ⟨[206, 169], A1, n, c1, T, T * lo, T * hi, T * (5 + kw), r, o, l, pp, A2, n, c2, fun i => 10 * (i : Int) + 3, fun i => T * f i⟩ = 0 := by
  rw [chk_eq]
  have h1 : prodB [206, 169] = true := by decide
  have h2 : rmB n (fun i => 10 * (i : Int) + 3) = true := decide_eq_true ⟨hn, by omega, fun i hi => ⟨by show 0 ≤ 10 * (i : Int) + 3; omega, by show 10 * (i : Int) + 3 ≤ 1199; omega, fun h => by show 10 * ((i - 1 : Nat) : Int) + 3 < 10 * (i : Int) + 3; omega⟩⟩
  have m1 : T * (5 + kw) ≤ T * (hi - lo) := Int.mul_le_mul_of_nonneg_left (by omega) (by omega)
  rw [Int.mul_sub] at m1
  have m2 : 0 ≤ T * (5 + kw) := Int.mul_nonneg (by omega) (by omega)
  have m3 : T * lo < T * hi := Int.mul_lt_mul_of_pos_left (by omega) (by omega)
  have m4 : T * hi ≤ 10 * 1000 := Int.le_trans (Int.mul_le_mul_of_nonneg_left b2 (by omega)) (by omega)
  have m5 : 10 * -1000 ≤ T * lo := Int.le_trans (by omega) (Int.mul_le_mul_of_nonneg_left b1 (by omega))
  have h3 : otB ⟨[206, 169], A1, n, c1, T, T * lo, T * hi, T * (5 + kw), r, o, l, pp, A2, n, c2, fun i => 10 * (i : Int) + 3, fun i => T * f i⟩ = true :=
    decide_eq_true ⟨hT, by show T ≤ 1000; omega, fun i hi => Int.mul_tmod_right T _, Int.mul_tmod_right T _, Int.mul_tmod_right T _, Int.mul_tmod_right T _⟩
  have h4 : rbB ⟨[206, 169], A1, n, c1, T, T * lo, T * hi, T * (5 + kw), r, o, l, pp, A2, n, c2, fun i => 10 * (i : Int) + 3, fun i => T * f i⟩ = true :=
    decide_eq_true (by show ¬ (T * lo < -1000000 ∨ T * hi ≤ T * lo ∨ 1000000 < T * hi ∨ T * (5 + kw) < 0 ∨ T * hi - T * lo < T * (5 + kw)); omega)
  have h5 : rsB ⟨[206, 169], A1, n, c1, T, T * lo, T * hi, T * (5 + kw), r, o, l, pp, A2, n, c2, fun i => 10 * (i : Int) + 3, fun i => T * f i⟩ = true :=
    decide_eq_true ⟨rfl, fun i hi' => ⟨Int.mul_le_mul_of_nonneg_left (hf i hi').1 (by omega), Int.mul_le_mul_of_nonneg_left (hf i hi').2 (by omega)⟩⟩
  have h6 : shB ⟨[206, 169], A1, n, c1, T, T * lo, T * hi, T * (5 + kw), r, o, l, pp, A2, n, c2, fun i => 10 * (i : Int) + 3, fun i => T * f i⟩ = true :=
    decide_eq_true ⟨⟨o1, by show o ≤ 1000000; omega⟩, ⟨l1, by show l ≤ 1000; omega⟩, ⟨p1, p2⟩⟩
  rw [if_neg (by rw [h1]; decide), if_neg (by rw [h2]; decide), if_neg (by rw [h3]; decide), if_neg (by rw [h4]; decide), if_neg (by rw [h5]; decide), if_neg (by show ¬ (r < 1 ∨ 3 < r); omega), if_neg (by rw [h6]; decide)]
/-- A product in ticks of T: its band, its spreads' band, its settled prices. -/
structure PD.Ticks (p : PD) (T K lo hi : Int) (f : Nat → Int) : Prop where
  z : chk p = 0
  T1 : 1 ≤ T
  T2 : T ≤ 10
  K1 : 5 ≤ K
  K2 : K ≤ 65
  tick : p.tick = T
  low : p.low = T * lo
  high : p.high = T * hi
  wide : p.wide = T * K
  settle : ∀ i, i < p.n1 → p.R i = T * f i
  n2 : p.n2 = p.n1
  na : 2 ≤ p.n1
  nb : p.n1 ≤ 5
/-- The product whose band and settled prices are turned about 0. -/
def PD.turned (p : PD) (A : Option Addr) (c : Nat) : PD := { p with low := -p.high, high := -p.low, A2 := A, c2 := c, R := fun i => -p.R i }
/-- What the laws ask of the keep's product. -/
structure PD.Keep15 (p : PD) (T K : Int) : Prop where
  self : p.Ticks T K (-20) 100 (fun i => 10 + (i : Int))
  turn : ∀ A c, (p.turned A c).Ticks T K (-100) 20 (fun i => -10 - (i : Int))
theorem keepP_keep (p : PD) (A1 : Option Addr) (c1 : Nat) (A2 : Option Addr) (c2 : Nat) : ∃ T K, (keepP p A1 c1 A2 c2).Keep15 T K := by
  have q1 := withinN_le p.n1 3
  have q2 := withinN_le p.tick 9
  have q3 := withinN_le p.rule 2
  have q4 := withinN_le p.top 9
  have q5 := withinN_le p.least 4
  have q6 := withinN_le p.part 100
  have q7 := withinN_le p.wide 60
  have h1 := right_gen A1 A2 c1 c2 (2 + withinN p.n1 3) (1 + (withinN p.tick 9 : Int)) (withinN p.wide 60) (1 + (withinN p.rule 2 : Int)) (withinN p.top 9) (1 + (withinN p.least 4 : Int)) (withinN p.part 100) (-20) 100 (fun i => 10 + (i : Int)) (by omega) (by omega) (by omega) (by omega) (by omega) (by omega) (by omega) (by omega) (by omega) (by omega) (by omega) (by omega) (by omega) (by omega) (by omega) (by omega) (by omega) (fun i hi => ⟨by show -20 ≤ 10 + (i : Int); omega, by show 10 + (i : Int) ≤ 100; omega⟩)
  have h2 := fun A c => right_gen A1 A c1 c (2 + withinN p.n1 3) (1 + (withinN p.tick 9 : Int)) (withinN p.wide 60) (1 + (withinN p.rule 2 : Int)) (withinN p.top 9) (1 + (withinN p.least 4 : Int)) (withinN p.part 100) (-100) 20 (fun i => -10 - (i : Int)) (by omega) (by omega) (by omega) (by omega) (by omega) (by omega) (by omega) (by omega) (by omega) (by omega) (by omega) (by omega) (by omega) (by omega) (by omega) (by omega) (by omega) (fun i hi => ⟨by show -100 ≤ -10 - (i : Int); omega, by show -10 - (i : Int) ≤ 20; omega⟩)
  have e1 : (1 + (withinN p.tick 9 : Int)) * -20 = -20 * (1 + (withinN p.tick 9 : Int)) := Int.mul_comm _ _
  have e2 : (1 + (withinN p.tick 9 : Int)) * 100 = 100 * (1 + (withinN p.tick 9 : Int)) := Int.mul_comm _ _
  have e3 : (1 + (withinN p.tick 9 : Int)) * -100 = -(100 * (1 + (withinN p.tick 9 : Int))) := by omega
  have e4 : (1 + (withinN p.tick 9 : Int)) * 20 = -(-20 * (1 + (withinN p.tick 9 : Int))) := by omega
  have e5 : ∀ i : Nat, (1 + (withinN p.tick 9 : Int)) * (-10 - (i : Int)) = -((1 + (withinN p.tick 9 : Int)) * (10 + (i : Int))) := fun i => by rw [show -10 - (i : Int) = -(10 + (i : Int)) by omega, Int.mul_neg]
  refine ⟨1 + (withinN p.tick 9 : Int), 5 + (withinN p.wide 60 : Int), ⟨?_, by omega, by omega, by omega, by omega, rfl, e1.symm, e2.symm, rfl, fun i hi => rfl, rfl, ?_, ?_⟩, fun A c => ⟨?_, by omega, by omega, by omega, by omega, rfl, e3.symm, e4.symm, rfl, fun i hi => (e5 i).symm, rfl, ?_, ?_⟩⟩
  · rw [e1, e2] at h1; exact h1
  · show 2 ≤ 2 + withinN p.n1 3; omega
  · show 2 + withinN p.n1 3 ≤ 5; omega
  · have h3 := h2 A c
    simp only [e3, e4, e5] at h3
    exact h3
  · show 2 ≤ 2 + withinN p.n1 3; omega
  · show 2 + withinN p.n1 3 ≤ 5; omega
theorem KProd15 (p : PD) (w : World) (h : Hid (p.Fit w)) :
    Calls Try.prog 12 #[p.val] w fun e w' => ∃ P : PD, e = .returned P.val ∧ (∃ T K, P.Keep15 T K) ∧ P.Ok w' ∧ Below w.heap.size w w' :=
  (KProduct_any p w h).mono fun e w' ⟨A1, c1, A2, c2, h1, h2, h3⟩ => ⟨_, h1, keepP_keep p A1 c1 A2 c2, h2, h3⟩
theorem shift_mul {T l h x : Int} (hT : 1 ≤ T) : shiftB (T * l) (T * h) (T * x) = T * shiftB l h x := by
  have e : ∀ a b : Int, (T * a < T * b) ↔ a < b := fun a b => ⟨fun g => Int.lt_of_mul_lt_mul_left g (by omega), fun g => Int.mul_lt_mul_of_pos_left g (by omega)⟩
  unfold shiftB
  by_cases c1 : h < x
  · rw [if_pos c1, if_pos ((e _ _).2 c1), Int.mul_sub]
  · rw [if_neg c1, if_neg (fun g => c1 ((e _ _).1 g))]
    by_cases c2 : x < l
    · rw [if_pos c2, if_pos ((e _ _).2 c2), Int.mul_sub]
    · rw [if_neg c2, if_neg (fun g => c2 ((e _ _).1 g)), Int.mul_zero]
theorem PD.Ticks.cnt {p : PD} {T K lo hi : Int} {f : Nat → Int} (h : p.Ticks T K lo hi f) : cntL p = p.n1 + p.n1 * (p.n1 - 1) / 2 ∧ 1 ≤ p.n1 * (p.n1 - 1) / 2 ∧ p.n1 * (p.n1 - 1) / 2 ≤ 10 ∧ ((p.n1 : Int) * ((p.n1 : Int) - 1)) / 2 - 1 = ((p.n1 * (p.n1 - 1) / 2 - 1 : Nat) : Int) ∧ (p.n1 : Int) * ((p.n1 : Int) - 1) ≤ 20 ∧ 0 ≤ (p.n1 : Int) * ((p.n1 : Int) - 1) := by
  have a := h.na
  have b := h.nb
  have c : cntL p = p.n1 + p.n1 * (p.n1 - 1) / 2 := by unfold cntL; rw [if_pos h.z]
  have d : p.n1 = 2 ∨ p.n1 = 3 ∨ p.n1 = 4 ∨ p.n1 = 5 := by omega
  refine ⟨c, ?_⟩
  rcases d with e | e | e | e <;> rw [e] <;> decide
/-- A spread of such a product. -/
theorem PD.Ticks.spread {p : PD} {T K lo hi : Int} {f : Nat → Int} (h : p.Ticks T K lo hi f) {k : Nat} (hk : k < p.n1 * (p.n1 - 1) / 2) : ∃ i j : Nat, legsL p ((p.n1 : Int) + (k : Int)) = ((i : Int), (j : Int), true) ∧ i < p.n1 ∧ j < p.n1 := by
  have c := h.cnt.1
  obtain ⟨-, i, j, e, h1, h2⟩ := legs_range (p := p) (inst := (p.n1 : Int) + (k : Int)) (by omega) (by omega)
  exact ⟨i, j, by rw [e, decide_eq_true (by omega)], h1, h2⟩
theorem PD.Ticks.price {p : PD} {T K lo hi : Int} {f : Nat → Int} (h : p.Ticks T K lo hi f) {s i j : Int} (hs : legsL p s = (i, j, true)) {m : Int} (h1 : -K ≤ m) (h2 : m ≤ K) : priceL p s (T * m) = 0 := by
  have hin : 0 ≤ s ∧ s < cntL p := by
    apply Classical.byContradiction
    intro g
    rw [legs_none g] at hs
    cases hs
  have hT := h.T1
  have a1 : T * m ≤ T * K := Int.mul_le_mul_of_nonneg_left h2 (by omega)
  have a2 : T * -K ≤ T * m := Int.mul_le_mul_of_nonneg_left h1 (by omega)
  rw [Int.mul_neg] at a2
  unfold priceL
  rw [if_neg (by simp [h.z]), if_neg (by omega), h.tick, if_neg (by simp [Int.mul_tmod_right]), hs, if_pos rfl, h.wide, if_neg (by omega)]
/-- A month's price, in ticks. -/
theorem PD.Ticks.month {p : PD} {T K lo hi : Int} {f : Nat → Int} (h : p.Ticks T K lo hi f) {i : Nat} (hi' : i < p.n1) (m : Int) : priceL p i (T * m) = if m < lo ∨ hi < m then 23 else 0 := by
  have c := h.cnt.1
  have hT := h.T1
  have e : ∀ a b : Int, (T * a < T * b) ↔ a < b := fun a b => ⟨fun g => Int.lt_of_mul_lt_mul_left g (by omega), fun g => Int.mul_lt_mul_of_pos_left g (by omega)⟩
  have hl : (legsL p (i : Int)).2.2 = false := by
    obtain ⟨-, a, b, e, -, -⟩ := legs_range (p := p) (inst := (i : Int)) (by omega) (by omega)
    rw [e]
    exact decide_eq_false (by omega)
  unfold priceL
  rw [if_neg (by simp [h.z]), if_neg (by omega), h.tick, if_neg (by simp [Int.mul_tmod_right]), hl, if_neg (by decide), h.low, h.high]
  simp only [e]
/-- The two prices of a spread, in ticks. -/
theorem PD.Ticks.prices {p : PD} {T K lo hi : Int} {f : Nat → Int} (h : p.Ticks T K lo hi f) {s i : Int} {j : Nat} (hs : legsL p s = (i, (j : Int), true)) (hj : j < p.n1) {m : Int} (h1 : -K ≤ m) (h2 : m ≤ K) :
    pricesL p s (T * m) = (T * (f j + m + shiftB lo hi (f j + m)), T * (f j + shiftB lo hi (f j + m)), 0) := by
  have e : farL p s = T * f j := by unfold farL; rw [hs]; exact h.settle j hj
  unfold pricesL
  rw [if_neg (by simp [h.z]), if_neg (by simp [hs]), if_neg (by simp [h.price hs h1 h2]), e, h.low, h.high, ← Int.mul_add, shift_mul h.T1]
  simp only [Int.mul_add]
end Go.Proofs.Ytpfgmebajefjaaa
