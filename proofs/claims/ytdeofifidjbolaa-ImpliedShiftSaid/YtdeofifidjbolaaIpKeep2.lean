/-
  The keep's product: what it is mirrored, and with all its prices so much higher.
-/
import Derived.Test.YtdeofifidjbolaaIpKeep
namespace Go.Proofs.Ytdeofifidjbolaa
open Go.RowKit
set_option linter.unusedVariables false
set_option linter.unusedSimpArgs false

theorem mirror_chk (A1 A2 : Option Addr) (c1 c2 n : Nat) (T kw r o l pp : Int) (hn : 2 ≤ n) (hn5 : n ≤ 5) (hT : 1 ≤ T) (hT10 : T ≤ 10) (w1 : 0 ≤ kw) (w2 : kw ≤ 60) (r1 : 1 ≤ r) (r2 : r ≤ 3) (o1 : 0 ≤ o) (o2 : o ≤ 9) (l1 : 1 ≤ l) (l2 : l ≤ 5) (p1 : 0 ≤ pp) (p2 : pp ≤ 100) :
    chk ⟨[206, 169], A1, n, c1, T, -(100 * T), 100 * T, T * (5 + kw), r, o, l, pp, A2, n, c2, fun i => 10 * (i : Int) + 3, fun _ => 0⟩ = 0 := by
  rw [chk_eq]
  have h1 : prodB [206, 169] = true := by decide
  have h2 : rmB n (fun i => 10 * (i : Int) + 3) = true := decide_eq_true ⟨hn, by omega, fun i hi => ⟨by show 0 ≤ 10 * (i : Int) + 3; omega, by show 10 * (i : Int) + 3 ≤ 1199; omega, fun h => by show 10 * ((i - 1 : Nat) : Int) + 3 < 10 * (i : Int) + 3; omega⟩⟩
  have m1 : T * (5 + kw) ≤ T * 65 := Int.mul_le_mul_of_nonneg_left (by omega) (by omega)
  have m2 : 0 ≤ T * (5 + kw) := Int.mul_nonneg (by omega) (by omega)
  have up : ∀ x : Int, T ∣ x → x.tmod T = 0 := fun x h => Int.tmod_eq_zero_of_dvd h
  have h3 : otB ⟨[206, 169], A1, n, c1, T, -(100 * T), 100 * T, T * (5 + kw), r, o, l, pp, A2, n, c2, fun i => 10 * (i : Int) + 3, fun _ => 0⟩ = true :=
    decide_eq_true ⟨hT, by show T ≤ 1000; omega, fun i hi => up _ (Int.dvd_zero T), up _ (Int.dvd_neg.2 (Int.dvd_mul_left _ T)), up _ (Int.dvd_mul_left _ T), Int.mul_tmod_right T _⟩
  have h4 : rbB ⟨[206, 169], A1, n, c1, T, -(100 * T), 100 * T, T * (5 + kw), r, o, l, pp, A2, n, c2, fun i => 10 * (i : Int) + 3, fun _ => 0⟩ = true :=
    decide_eq_true (by show ¬ (-(100 * T) < -1000000 ∨ 100 * T ≤ -(100 * T) ∨ 1000000 < 100 * T ∨ T * (5 + kw) < 0 ∨ 100 * T - -(100 * T) < T * (5 + kw)); omega)
  have h5 : rsB ⟨[206, 169], A1, n, c1, T, -(100 * T), 100 * T, T * (5 + kw), r, o, l, pp, A2, n, c2, fun i => 10 * (i : Int) + 3, fun _ => 0⟩ = true :=
    decide_eq_true ⟨rfl, fun i hi => by
      show -(100 * T) ≤ 0 ∧ (0 : Int) ≤ 100 * T
      omega⟩
  have h6 : shB ⟨[206, 169], A1, n, c1, T, -(100 * T), 100 * T, T * (5 + kw), r, o, l, pp, A2, n, c2, fun i => 10 * (i : Int) + 3, fun _ => 0⟩ = true :=
    decide_eq_true ⟨⟨o1, by show o ≤ 1000000; omega⟩, ⟨l1, by show l ≤ 1000; omega⟩, ⟨p1, p2⟩⟩
  rw [if_neg (by rw [h1]; decide), if_neg (by rw [h2]; decide), if_neg (by rw [h3]; decide), if_neg (by rw [h4]; decide), if_neg (by rw [h5]; decide), if_neg (by show ¬ (r < 1 ∨ 3 < r); omega), if_neg (by rw [h6]; decide)]
/-- What the laws of mirrored and of higher prices ask besides. -/
structure PD.Keep2 (p : PD) : Prop where
  mir : ∀ (A2 : Option Addr) (c2 : Nat), chk ⟨p.code, p.A1, p.n1, p.c1, p.tick, -p.high, p.high, p.wide, p.rule, p.top, p.least, p.part, A2, p.n1, c2, p.Q, fun _ => 0⟩ = 0
  shf : ∀ (s : Int) (A2 : Option Addr) (c2 : Nat), 0 ≤ s → s ≤ 500 → chk ⟨p.code, p.A1, p.n1, p.c1, p.tick, p.low + p.tick * s, p.high + p.tick * s, p.wide, p.rule, p.top, p.least, p.part, A2, p.n1, c2, p.Q, fun i => p.R i + p.tick * s⟩ = 0
  lo1 : -200 ≤ p.low
  lo2 : p.low ≤ 0
  r : ∀ i, i < p.n1 → 0 ≤ p.R i ∧ p.R i ≤ 1000
theorem keepP_keep2 (p : PD) (A1 : Option Addr) (c1 : Nat) (A2 : Option Addr) (c2 : Nat) : (keepP p A1 c1 A2 c2).Keep2 := by
  have a := withinN_le p.n1 3
  have b := withinN_le p.tick 9
  have := withinN_le p.rule 2
  have := withinN_le p.top 9
  have := withinN_le p.least 4
  have := withinN_le p.part 100
  have := withinN_le p.wide 60
  refine ⟨fun A2 c2 => ?_, fun s A2 c2 s1 s2 => ?_, by show -200 ≤ -20 * (1 + (withinN p.tick 9 : Int)); omega, by show -20 * (1 + (withinN p.tick 9 : Int)) ≤ 0; omega, fun i hi => ?_⟩
  · exact mirror_chk A1 A2 c1 c2 (2 + withinN p.n1 3) (1 + (withinN p.tick 9 : Int)) (withinN p.wide 60) (1 + (withinN p.rule 2 : Int)) (withinN p.top 9) (1 + (withinN p.least 4 : Int)) (withinN p.part 100) (by omega) (by omega) (by omega) (by omega) (by omega) (by omega) (by omega) (by omega) (by omega) (by omega) (by omega) (by omega) (by omega) (by omega)
  · exact shift_chk A1 A2 c1 c2 (2 + withinN p.n1 3) (1 + (withinN p.tick 9 : Int)) (withinN p.wide 60) (1 + (withinN p.rule 2 : Int)) (withinN p.top 9) (1 + (withinN p.least 4 : Int)) (withinN p.part 100) s (by omega) (by omega) (by omega) (by omega) (by omega) (by omega) (by omega) (by omega) (by omega) (by omega) (by omega) (by omega) (by omega) (by omega) s1 s2
  · have hi' : i < 2 + withinN p.n1 3 := hi
    show 0 ≤ (1 + (withinN p.tick 9 : Int)) * (10 + (i : Int)) ∧ (1 + (withinN p.tick 9 : Int)) * (10 + (i : Int)) ≤ 1000
    have m1 : (1 + (withinN p.tick 9 : Int)) * (10 + (i : Int)) ≤ (1 + (withinN p.tick 9 : Int)) * 15 := Int.mul_le_mul_of_nonneg_left (by omega) (by omega)
    have m2 : 0 ≤ (1 + (withinN p.tick 9 : Int)) * (10 + (i : Int)) := Int.mul_nonneg (by omega) (by omega)
    omega
theorem KProd14b (p : PD) (w : World) (h : Hid (p.Fit w)) :
    Calls Try.prog 17 #[p.val] w fun e w' => ∃ P : PD, e = .returned P.val ∧ P.Keep ∧ P.Keep2 ∧ P.Ok w' ∧ Below w.heap.size w w' :=
  (KProduct_any p w h).mono fun e w' ⟨A1, c1, A2, c2, h1, h2, h3⟩ => ⟨_, h1, keepP_keep p A1 c1 A2 c2, keepP_keep2 p A1 c1 A2 c2, h2, h3⟩
theorem made_zero (n : Nat) : (madeCells #[.int .i64 0] n).toList = (List.range n).map (fun _ => Value.int .i64 0) := by
  apply List.ext_getElem?
  intro j
  rcases Nat.lt_or_ge j n with hj | hj
  · simp only [madeCells, Array.toList_map, List.getElem?_map, Array.toList_range, List.getElem?_range hj, Option.map_some]
    have : j % (#[Value.int .i64 0] : Array Value).size = 0 := Nat.mod_one j
    rw [this]; rfl
  · rw [List.getElem?_eq_none (by simp [madeCells]; omega), List.getElem?_eq_none (by simp; omega)]
end Go.Proofs.Ytdeofifidjbolaa
