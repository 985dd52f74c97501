/-
  Implied quotes: a quote's legs and itself are a spread and its months.
-/
import Derived.Test.YtdeofifidjbolaaImFacts2
import Derived.Test.YtdeofifidjbolaaGcRd
namespace Go.Proofs.Ytdeofifidjbolaa
open Go.RowKit
set_option linter.unusedVariables false
set_option linter.unusedSimpArgs false

theorem legs_apart14 : ∀ n, n < 7 → ∀ k, k < 21 → ∀ m, m < k → k < n + n * (n - 1) / 2 → ¬ ((legsN n m).1 = (legsN n k).1 ∧ (legsN n m).2.1 = (legsN n k).2.1) := by decide +kernel
theorem legs_any14 : ∀ n, n < 7 → ∀ j, j < n → ∀ i, i < j → (List.range 21).any (fun k => decide (n ≤ k) && decide (k < n + n * (n - 1) / 2) && decide (legsN n k = ((i : Int), (j : Int), true))) = true := by decide +kernel
theorem legs_there14 (n : Nat) (hn : n < 7) (j : Nat) (hj : j < n) (i : Nat) (hi : i < j) : ∃ k, k < 21 ∧ n ≤ k ∧ k < n + n * (n - 1) / 2 ∧ legsN n k = ((i : Int), (j : Int), true) := by
  obtain ⟨k, hk, h⟩ := List.any_eq_true.1 (legs_any14 n hn j hj i hi)
  simp only [Bool.and_eq_true, decide_eq_true_eq] at h
  exact ⟨k, List.mem_range.1 hk, h.1.1, h.1.2, h.2⟩
theorem leg_sum (u v : Int) : legPrice u v 1 - v = u := by
  unfold legPrice
  rw [if_neg (by decide), if_neg (by decide)]
  omega
theorem leg_more (u v : Int) : v - legPrice u v 0 = u := by
  unfold legPrice
  rw [if_pos rfl]
  omega
theorem leg_less (u v : Int) : u - v = legPrice u v (-1) := by
  unfold legPrice
  rw [if_neg (by decide), if_pos rfl]
theorem spread_hit14 (p : PD) (near far : Int) (k : Nat) (hm : (legsL p k).1 = near ∧ (legsL p k).2.1 = far) : ∀ (d k0 : Nat), (∀ m : Nat, k0 ≤ m → m < k → ¬ ((legsL p m).1 = near ∧ (legsL p m).2.1 = far)) → k0 ≤ k → k < k0 + d → spreadFrom p near far d k0 = ((k : Int), true) := by
  intro d
  induction d with
  | zero => intro k0 _ h1 h2; omega
  | succ d ih =>
    intro k0 hall h1 h2
    rw [spreadFrom_succ]
    by_cases c : k0 = k
    · subst c; rw [if_pos hm]
    · rw [if_neg (hall k0 (Nat.le_refl _) (by omega))]
      exact ih (k0 + 1) (fun m g1 g2 => hall m (by omega) g2) (by omega) (by omega)
/-- Two months, the near one first, have a spread. -/
theorem spread_two {p : PD} (hz : chk p = 0) {i j : Nat} (hij : i < j) (hj : j < p.n1) : ∃ k : Nat, (spreadI p (i : Int) (j : Int)).1 = (k : Int) ∧ p.n1 ≤ k ∧ k < cntL p ∧ legsL p (k : Int) = ((i : Int), (j : Int), true) := by
  have hn := chk_zero hz
  have hc : cntL p = p.n1 + p.n1 * (p.n1 - 1) / 2 := by unfold cntL; rw [if_pos hz]
  obtain ⟨k, h21, hk1, hk2, hl⟩ := legs_there14 p.n1 (by omega) j hj i hij
  have hlk : legsL p (k : Int) = ((i : Int), (j : Int), true) := by rw [legs_is hz]; exact hl
  refine ⟨k, ?_, hk1, by omega, hlk⟩
  unfold spreadI
  rw [spread_hit14 p (i : Int) (j : Int) k (by rw [hlk]; exact ⟨rfl, rfl⟩) _ _ (fun m g1 g2 => ?_) hk1 (by omega)]
  have := legs_apart14 p.n1 (by omega) k h21 m g2 hk2
  rw [legs_is hz]
  rw [hl] at this
  exact this
/-- What the law asks of a quote's two legs. -/
structure LegsOk (p : PD) (T : List Tp) (inst : Int) (q : Qt) : Prop where
  i1 : 0 ≤ q.i1 ∧ q.i1 < T.length
  i2 : 0 ≤ q.i2 ∧ q.i2 < T.length
  s1 : q.s1 = 1 ∨ q.s1 = 2
  s2 : q.s2 = 1 ∨ q.s2 = 2
  h1 : (topAt T q.i1).has q.s1 = true
  h2 : (topAt T q.i2).has q.s2 = true
  n1 : q.n ≤ (topAt T q.i1).qty q.s1
  n2 : q.n ≤ (topAt T q.i2).qty q.s2
  found : (legsL p inst = (q.i1, q.i2, true) ∧ (topAt T q.i1).price q.s1 - (topAt T q.i2).price q.s2 = q.p) ∨ (legsL p q.i1 = (inst, q.i2, true) ∧ q.p - (topAt T q.i2).price q.s2 = (topAt T q.i1).price q.s1) ∨ (legsL p q.i1 = (q.i2, inst, true) ∧ (topAt T q.i2).price q.s2 - q.p = (topAt T q.i1).price q.s1)
theorem joinQ_mem {T : List Tp} {a sa b sb how : Int} {q : Qt} (h : q ∈ joinQ T a sa b sb how) : q = ⟨legPrice ((topAt T a).price sa) ((topAt T b).price sb) how, min ((topAt T a).qty sa) ((topAt T b).qty sb), a, sa, b, sb⟩ ∧ (topAt T a).has sa = true ∧ (topAt T b).has sb = true := by
  unfold joinQ at h
  rcases joinO_case (topAt T a) (topAt T b) a sa b sb how with ⟨e, _⟩ | ⟨e, h1, h2, _⟩
  · rw [e] at h; cases h
  · rw [e] at h
    simp only [Option.toList_some, List.mem_cons, List.not_mem_nil, or_false] at h
    exact ⟨h, h1, h2⟩
theorem laterQ_rule {p : PD} (hz : chk p = 0) {T : List Tp} (hT : T.length = cntL p) {inst : Nat} {side : Int} (hd : side = 1 ∨ side = 2) {q : Qt} (d : Nat) (m : Nat) (hm : inst < m) (hmd : m + d ≤ p.n1) (h : q ∈ laterQ p T inst side d m) : LegsOk p T inst q := by
  have hle : p.n1 ≤ cntL p := by unfold cntL; rw [if_pos hz]; omega
  induction d generalizing m with
  | zero => cases h
  | succ d ih =>
    rw [laterQ] at h
    rcases List.mem_append.1 h with h | h
    · obtain ⟨k, e, k1, k2, hl⟩ := spread_two hz hm (show m < p.n1 by omega)
      rw [e] at h
      obtain ⟨rfl, h1, h2⟩ := joinQ_mem h
      refine ⟨⟨by show (0 : Int) ≤ (k : Int); omega, by show (k : Int) < _; omega⟩, ⟨by show (0 : Int) ≤ (m : Int); omega, by show (m : Int) < _; omega⟩, hd, hd, h1, h2, Int.min_le_left _ _, Int.min_le_right _ _, .inr (.inl ⟨hl, leg_sum _ _⟩)⟩
    · exact ih (m + 1) (by omega) (by omega) (by exact_mod_cast h)
theorem earlierQ_rule {p : PD} (hz : chk p = 0) {T : List Tp} (hT : T.length = cntL p) {inst : Nat} (hin : inst < p.n1) {side : Int} (hd : side = 1 ∨ side = 2) {q : Qt} (d : Nat) (m : Nat) (hmd : m + d ≤ inst) (h : q ∈ earlierQ p T inst side d m) : LegsOk p T inst q := by
  have hle : p.n1 ≤ cntL p := by unfold cntL; rw [if_pos hz]; omega
  induction d generalizing m with
  | zero => cases h
  | succ d ih =>
    rw [earlierQ] at h
    rcases List.mem_append.1 h with h | h
    · obtain ⟨k, e, k1, k2, hl⟩ := spread_two hz (show m < inst by omega) hin
      rw [e] at h
      obtain ⟨rfl, h1, h2⟩ := joinQ_mem h
      refine ⟨⟨by show (0 : Int) ≤ (k : Int); omega, by show (k : Int) < _; omega⟩, ⟨by show (0 : Int) ≤ (m : Int); omega, by show (m : Int) < _; omega⟩, by show 3 - side = 1 ∨ 3 - side = 2; omega, hd, h1, h2, Int.min_le_left _ _, Int.min_le_right _ _, .inr (.inr ⟨hl, leg_more _ _⟩)⟩
    · exact ih (m + 1) (by omega) (by exact_mod_cast h)
theorem allQ_rule {p : PD} {T : List Tp} {inst side : Int} {q : Qt} (h : q ∈ allQ p T inst side) : LegsOk p T inst q := by
  unfold allQ at h
  by_cases c : askB p T.length inst side = true
  · rw [if_pos c] at h
    obtain ⟨hz, hlen, h0, hlt, hd⟩ := (askB_iff _ _ _ _).1 c
    have hle : p.n1 ≤ cntL p := by unfold cntL; rw [if_pos hz]; omega
    obtain ⟨k, rfl⟩ : ∃ k : Nat, inst = (k : Int) := ⟨inst.toNat, by omega⟩
    obtain ⟨-, i, j, hleg, hi1, hj1⟩ := legs_range (p := p) (inst := (k : Int)) h0 (by omega)
    by_cases e : (legsL p (k : Int)).2.2 = true
    · rw [if_pos e] at h
      have hl : legsL p (k : Int) = ((i : Int), (j : Int), true) := by
        rw [hleg] at e ⊢
        simp only at e
        rw [e]
      rw [hl] at h
      obtain ⟨rfl, h1, h2⟩ := joinQ_mem h
      refine ⟨⟨by show (0 : Int) ≤ (i : Int); omega, by show (i : Int) < _; omega⟩, ⟨by show (0 : Int) ≤ (j : Int); omega, by show (j : Int) < _; omega⟩, hd, by show 3 - side = 1 ∨ 3 - side = 2; omega, h1, h2, Int.min_le_left _ _, Int.min_le_right _ _, .inl ⟨hl, leg_less _ _⟩⟩
    · rw [if_neg e] at h
      have hk : k < p.n1 := by
        rw [hleg] at e
        simp only [decide_eq_true_eq] at e
        omega
      rcases List.mem_append.1 h with h | h
      · exact laterQ_rule hz hlen hd (p.n1 - (k + 1)) (k + 1) (by omega) (by omega) (by simpa using h)
      · exact earlierQ_rule hz hlen hk hd k 0 (by omega) (by simpa using h)
  · rw [if_neg c] at h; cases h
end Go.Proofs.Ytdeofifidjbolaa
