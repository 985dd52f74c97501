/-
  The keep's product is a right one; what names are; what Find answers.
-/
import Derived.Test.YtbigmbpclikenaaKeepProduct
import Derived.Test.YtbigmbpclikenaaRdCheck
import Derived.Test.YtbigmbpclikenaaRdName
import Derived.Test.YtbigmbpclikenaaRefFind
namespace Go.Proofs.Ytbigmbpclikenaa
open Go.RowKit
set_option linter.unusedVariables false
set_option linter.unusedSimpArgs false

theorem right_chk (A1 A2 : Option Addr) (c1 c2 n : Nat) (T kw r o l pp : Int) (hn : 2 ≤ n) (hn5 : n ≤ 5) (hT : 1 ≤ T) (hT10 : T ≤ 10) (w1 : 0 ≤ kw) (w2 : kw ≤ 60) (r1 : 1 ≤ r) (r2 : r ≤ 3) (o1 : 0 ≤ o) (o2 : o ≤ 9) (l1 : 1 ≤ l) (l2 : l ≤ 5) (p1 : 0 ≤ pp) (p2 : pp ≤ 100) :
    chk ⟨[206, 169], A1, n, c1, T, -20 * T, 100 * T, T * (5 + kw), r, o, l, pp, A2, n, c2, fun i => 10 * (i : Int) + 3, fun i => T * (10 + (i : Int))⟩ = 0 := by
  rw [chk_eq]
  have h1 : prodB [206, 169] = true := by decide
  have h2 : rmB n (fun i => 10 * (i : Int) + 3) = true := decide_eq_true ⟨hn, by omega, fun i hi => ⟨by show 0 ≤ 10 * (i : Int) + 3; omega, by show 10 * (i : Int) + 3 ≤ 1199; omega, fun h => by show 10 * ((i - 1 : Nat) : Int) + 3 < 10 * (i : Int) + 3; omega⟩⟩
  have m1 : T * (5 + kw) ≤ T * 65 := Int.mul_le_mul_of_nonneg_left (by omega) (by omega)
  have m2 : 0 ≤ T * (5 + kw) := Int.mul_nonneg (by omega) (by omega)
  have h3 : otB ⟨[206, 169], A1, n, c1, T, -20 * T, 100 * T, T * (5 + kw), r, o, l, pp, A2, n, c2, fun i => 10 * (i : Int) + 3, fun i => T * (10 + (i : Int))⟩ = true :=
    decide_eq_true ⟨hT, by show T ≤ 1000; omega, fun i hi => Int.mul_tmod_right T _, Int.mul_tmod_left (-20) T, Int.mul_tmod_left 100 T, Int.mul_tmod_right T _⟩
  have h4 : rbB ⟨[206, 169], A1, n, c1, T, -20 * T, 100 * T, T * (5 + kw), r, o, l, pp, A2, n, c2, fun i => 10 * (i : Int) + 3, fun i => T * (10 + (i : Int))⟩ = true :=
    decide_eq_true (by show ¬ (-20 * T < -1000000 ∨ 100 * T ≤ -20 * T ∨ 1000000 < 100 * T ∨ T * (5 + kw) < 0 ∨ 100 * T - -20 * T < T * (5 + kw)); omega)
  have h5 : rsB ⟨[206, 169], A1, n, c1, T, -20 * T, 100 * T, T * (5 + kw), r, o, l, pp, A2, n, c2, fun i => 10 * (i : Int) + 3, fun i => T * (10 + (i : Int))⟩ = true :=
    decide_eq_true ⟨rfl, fun i hi => by
      have hi' : i < n := hi
      have m3 : T * (10 + (i : Int)) ≤ T * 15 := Int.mul_le_mul_of_nonneg_left (by omega) (by omega)
      have m4 : 0 ≤ T * (10 + (i : Int)) := Int.mul_nonneg (by omega) (by omega)
      show -20 * T ≤ T * (10 + (i : Int)) ∧ T * (10 + (i : Int)) ≤ 100 * T
      omega⟩
  have h6 : shB ⟨[206, 169], A1, n, c1, T, -20 * T, 100 * T, T * (5 + kw), r, o, l, pp, A2, n, c2, fun i => 10 * (i : Int) + 3, fun i => T * (10 + (i : Int))⟩ = true :=
    decide_eq_true ⟨⟨o1, by show o ≤ 1000000; omega⟩, ⟨l1, by show l ≤ 1000; omega⟩, ⟨p1, p2⟩⟩
  rw [if_neg (by rw [h1]; decide), if_neg (by rw [h2]; decide), if_neg (by rw [h3]; decide), if_neg (by rw [h4]; decide), if_neg (by rw [h5]; decide), if_neg (by show ¬ (r < 1 ∨ 3 < r); omega), if_neg (by rw [h6]; decide)]
theorem keepP_chk (p : PD) (A1 : Option Addr) (c1 : Nat) (A2 : Option Addr) (c2 : Nat) : chk (keepP p A1 c1 A2 c2) = 0 := by
  have := withinN_le p.n1 3
  have := withinN_le p.tick 9
  have := withinN_le p.rule 2
  have := withinN_le p.top 9
  have := withinN_le p.least 4
  have := withinN_le p.part 100
  have := withinN_le p.wide 60
  exact right_chk A1 A2 c1 c2 _ _ _ _ _ _ _ (by omega) (by omega) (by omega) (by omega) (by omega) (by omega) (by omega) (by omega) (by omega) (by omega) (by omega) (by omega) (by omega) (by omega)
theorem legs_rise : ∀ n, n < 7 → ∀ k, k < 21 → k < n + n * (n - 1) / 2 → (legsN n k).1 ≤ (legsN n k).2.1 := by decide
theorem name_split {p : PD} {inst : Int} (h0 : 0 ≤ inst) (h : inst < cntL p) : ∃ i j : Nat, legsL p inst = ((i : Int), (j : Int), decide (i ≠ j)) ∧ i < p.n1 ∧ j < p.n1 ∧ i ≤ j ∧ codeE p.code (p.Q i) = 0 ∧ codeE p.code (p.Q j) = 0 ∧
    nameL p inst = if i = j then codeL p.code (p.Q i) else codeL p.code (p.Q i) ++ 45 :: codeL p.code (p.Q j) := by
  have hz := (legs_range h0 h).1
  have hf := chk_facts hz
  obtain ⟨i, j, e1, e2, hi, hj, e⟩ := name_at h0 h
  have es := legs_spread h0 h
  rw [e1, e2] at es
  have le : i ≤ j := by
    obtain ⟨k, rfl⟩ : ∃ k : Nat, inst = k := ⟨inst.toNat, by omega⟩
    have hk : k < cntL p := by omega
    have hc : cntL p = p.n1 + p.n1 * (p.n1 - 1) / 2 := by unfold cntL; rw [if_pos hz]
    have hn := chk_zero hz
    have := legs_rise p.n1 (by omega) k (Nat.lt_of_lt_of_le hk (cntL_le p)) (hc ▸ hk)
    rw [← legs_is hz, e1, e2] at this
    omega
  have ok : ∀ i, i < p.n1 → codeE p.code (p.Q i) = 0 := fun i hi => by
    obtain ⟨q1, q2, _⟩ := hf.2.2.2.1 i hi
    obtain ⟨m, hm⟩ : ∃ m : Nat, p.Q i = m := ⟨(p.Q i).toNat, by omega⟩
    rw [hm]
    exact codeE_ok hf.1 (by omega)
  have rise : ∀ i j : Nat, i < j → j < p.n1 → p.Q i < p.Q j := fun i j hij hj => by
    induction j with
    | zero => omega
    | succ j ih =>
      have q := (hf.2.2.2.1 (j + 1) hj).2.2 (by omega)
      rw [Nat.add_sub_cancel] at q
      by_cases c : i = j
      · subst c; exact q
      · have := ih (by omega) (by omega); omega
  refine ⟨i, j, ?_, hi, hj, le, ok i hi, ok j hj, ?_⟩
  · obtain ⟨⟨x, y, z⟩, el⟩ : ∃ l, legsL p inst = l := ⟨_, rfl⟩
    rw [el] at e1 e2 es
    simp only at e1 e2 es
    rw [el, e1, e2, es]
    congr 2
    by_cases c : i = j
    · subst c; simp
    · rw [decide_eq_true c]; exact bne_iff_ne.2 (by omega)
  · rw [e]
    by_cases c : i = j
    · rw [if_pos c, if_pos c]
    · rw [if_neg c, if_neg c]
      exact (spread_ok (ok i hi) (ok j hj) (rise i j (by omega) hj)).2
theorem find_cases (p : PD) (l : List UInt8) : ∀ d k, findFrom p l d k = (0, false) ∨ ∃ m : Nat, k ≤ m ∧ m < k + d ∧ findFrom p l d k = ((m : Int), true) ∧ nameL p m = l := by
  intro d
  induction d with
  | zero => intro k; exact .inl rfl
  | succ d ih =>
    intro k
    rw [findFrom_succ]
    by_cases c : nameL p k = l
    · rw [if_pos c]; exact .inr ⟨k, Nat.le_refl _, by omega, rfl, c⟩
    · rw [if_neg c]
      rcases ih (k + 1) with e | ⟨m, h1, h2, e, e2⟩
      · exact .inl e
      · exact .inr ⟨m, by omega, by omega, e, e2⟩
theorem findI_cases (p : PD) (l : List UInt8) : findI p l = (0, false) ∨ ∃ m : Nat, m < cntL p ∧ findI p l = ((m : Int), true) ∧ nameL p m = l := by
  rcases find_cases p l (cntL p) 0 with e | ⟨m, _, h2, e, e2⟩
  · exact .inl e
  · exact .inr ⟨m, by omega, e, e2⟩
end Go.Proofs.Ytbigmbpclikenaa
