/-
  Plain facts of BookRules: what is found, filled, counted; the top is at the first place of the first level.
-/
import Derived.Test.YtlknlicokacoiaaBkRulesP
namespace Go.Proofs.Ytlknlicokacoiaa
open Go.RowKit
set_option linter.unusedVariables false
set_option linter.unusedSimpArgs false

theorem find_cases (L : List Or) (i : Int) : (findO L i = (zeroO, false)) ∨ ∃ A e C, cutO i L = some (A, e, C) ∧ findO L i = (e, true) ∧ e ∈ L ∧ e.i = i := by
  cases h : cutO i L with
  | none => exact .inl (by unfold findO; rw [h])
  | some t =>
    obtain ⟨A, e, C⟩ := t
    obtain ⟨h1, h2, -⟩ := cutO_some h
    exact .inr ⟨A, e, C, rfl, by unfold findO; rw [h], by rw [h1]; simp, h2⟩
theorem fill_ok {L : List Or} {i n : Int} {A C : List Or} {e : Or} (h : cutO i L = some (A, e, C)) (h1 : 1 ≤ n) (h2 : n ≤ e.n) : ∃ L', fillO L i n = (0, L') := by
  unfold fillO
  rw [h]
  simp only
  rw [if_neg (by omega)]
  split
  · exact ⟨_, rfl⟩
  · exact ⟨_, rfl⟩
theorem sum_take : ∀ {l : List Int}, (∀ c ∈ l, 1 ≤ c) → ∀ i, 0 ≤ (l.take i).sum ∧ (l.take i).sum ≤ l.sum ∧ (l.length : Int) ≤ l.sum := by
  intro l
  induction l with
  | nil => intro _ i; simp
  | cons x l ih =>
    intro h i
    have h0 := h x (by simp)
    have ih' := ih (fun c hc => h c (by simp [hc]))
    cases i with
    | zero => have := ih' 0; simp at this ⊢; omega
    | succ i => have := ih' i; simp at this ⊢; omega
/-- How many orders stand in the first i levels. -/
def cntO (L : List Or) (s : Int) (i : Nat) : Int := (((ladO L s).take i).map Lv.c).sum
theorem cnt_zero (L : List Or) (s : Int) : cntO L s 0 = 0 := by unfold cntO; simp
theorem cnt_next {L : List Or} {s : Int} {i : Nat} {y : Lv} (h : (ladO L s)[i]? = some y) : cntO L s (i + 1) = cntO L s i + y.c := by
  unfold cntO
  rw [List.take_add_one, h]; simp
theorem cnt_all {L : List Or} (h : LOk L) (s : Int) : cntO L s (ladO L s).length = ((L.filter (fun x => decide (x.s = s))).length : Int) := by
  unfold cntO
  rw [List.take_of_length_le (Nat.le_refl _), (lad_is h s).many]
theorem cnt_bd {L : List Or} (h : LOk L) (s : Int) (i : Nat) : 0 ≤ cntO L s i ∧ cntO L s i ≤ 250 ∧ (ladO L s).length ≤ 250 := by
  have hl := lad_is h s
  have h1 : ∀ c ∈ (ladO L s).map Lv.c, 1 ≤ c := fun c hc => by
    obtain ⟨y, hy, rfl⟩ := List.mem_map.1 hc
    obtain ⟨-, e2, e3⟩ := hl.each y hy
    have : 0 < (atO L s y.p).length := List.length_pos_iff.2 e3
    omega
  have h2 := sum_take h1 i
  have h3 := hl.many
  have h4 := List.length_filter_le (fun x : Or => decide (x.s = s)) L
  have h5 := h.room
  unfold cntO
  rw [List.map_take]
  rw [List.length_map] at h2
  omega
theorem two_sides {L : List Or} (h : LOk L) : ((L.filter (fun x => decide (x.s = 1))).length : Int) + ((L.filter (fun x => decide (x.s = 2))).length : Int) = (L.length : Int) := by
  have hf := fun x hx => (h.fit x hx).1
  clear h
  induction L with
  | nil => simp
  | cons x L ih =>
    have ih' := ih (fun y hy => hf y (by simp [hy]))
    rcases hf x (by simp) with e | e
    · simp [List.filter_cons, e] at ih' ⊢; omega
    · simp [List.filter_cons, e] at ih' ⊢; omega
theorem lad_next {L : List Or} (h : LOk L) {s : Int} {i : Nat} {y z : Lv} (hy : (ladO L s)[i]? = some y) (hz : (ladO L s)[i + 1]? = some z) : bet s y.p z.p = true := by
  have hp := (lad_is h s).sorted
  rw [List.pairwise_iff_getElem] at hp
  obtain ⟨h1, e1⟩ := List.getElem?_eq_some_iff.1 hy
  obtain ⟨h2, e2⟩ := List.getElem?_eq_some_iff.1 hz
  have := hp i (i + 1) h1 h2 (by omega)
  rw [e1, e2] at this
  exact this
theorem at_mem {L : List Or} {s p : Int} {x : Or} (h : x ∈ atO L s p) : x ∈ L ∧ x.s = s ∧ x.p = p := by
  obtain ⟨h1, h2⟩ := List.mem_filter.1 h
  exact ⟨h1, by simpa using h2⟩
theorem at_next_i {L : List Or} {m : Nat} (h : Ru m L) {s p : Int} {k : Nat} {x y : Or} (hx : (atO L s p)[k]? = some x) (hy : (atO L s p)[k + 1]? = some y) : x.i < y.i := by
  have hp := h.at_up s p
  rw [List.pairwise_iff_getElem] at hp
  obtain ⟨h1, e1⟩ := List.getElem?_eq_some_iff.1 hx
  obtain ⟨h2, e2⟩ := List.getElem?_eq_some_iff.1 hy
  have := hp k (k + 1) h1 h2 (by omega)
  rw [e1, e2] at this
  exact this
theorem at_top {L : List Or} (h : LOk L) {s : Int} {i k : Nat} {y : Lv} {x : Or} (hy : (ladO L s)[i]? = some y) (hx : (atO L s y.p)[k]? = some x) (ht : x.t = true) : i = 0 ∧ k = 0 := by
  obtain ⟨m1, m2, m3⟩ := at_mem (List.mem_of_getElem? hx)
  obtain ⟨z, l, e1, e2, r, e3, e4⟩ := top_first h m1 m2 ht
  constructor
  · rcases Nat.eq_zero_or_pos i with h0 | h0
    · exact h0
    · have hp := (lad_is h s).sorted
      rw [List.pairwise_iff_getElem] at hp
      obtain ⟨h1, e5⟩ := List.getElem?_eq_some_iff.1 hy
      have h2 : 0 < (ladO L s).length := by omega
      have := hp 0 i h2 h1 h0
      have ez : (ladO L s)[0] = z := by
        have : (ladO L s)[0]? = some z := by rw [e1]; rfl
        exact (List.getElem?_eq_some_iff.1 this).2
      rw [e5, ez, e2, ← m3, bet_self] at this; cases this
  · rcases Nat.eq_zero_or_pos k with h0 | h0
    · exact h0
    · rw [← m3, e3] at hx
      obtain ⟨j, rfl⟩ : ∃ j, k = j + 1 := ⟨k - 1, by omega⟩
      rw [List.getElem?_cons_succ] at hx
      have := e4 x (List.mem_of_getElem? hx)
      rw [this] at ht; cases ht
theorem sumO_take {l : List Or} {k : Nat} {x : Or} (h : l[k]? = some x) : sumO (l.take (k + 1)) = sumO (l.take k) + x.n := by
  rw [List.take_add_one, h, sumO_app]; simp [sumO]
theorem sumO_bd {l : List Or} (h : ∀ x ∈ l, 1 ≤ x.n ∧ x.n ≤ 1000000) : 0 ≤ sumO l ∧ sumO l ≤ 1000000 * l.length := by
  induction l with
  | nil => simp [sumO]
  | cons x l ih =>
    have h1 := h x (by simp)
    have h2 := ih (fun y hy => h y (by simp [hy]))
    rw [sumO, List.length_cons]; push_cast; omega
theorem at_len {L : List Or} (h : LOk L) (s p : Int) : (atO L s p).length ≤ 250 := by
  have := List.length_filter_le (fun x : Or => decide (x.s = s) && decide (x.p = p)) L
  have h5 := h.room
  unfold atO; omega
theorem at_sum_bd {L : List Or} (h : LOk L) (s p : Int) (k : Nat) : 0 ≤ sumO ((atO L s p).take k) ∧ sumO ((atO L s p).take k) ≤ 250000000 := by
  have h1 := sumO_bd (l := (atO L s p).take k) (fun x hx => by
    obtain ⟨a, -, -⟩ := at_mem ((List.take_sublist _ _).subset hx)
    have := h.fit x a; exact ⟨this.2.1, this.2.2.1⟩)
  have h2 := at_len h s p
  have h3 : ((atO L s p).take k).length ≤ 250 := by rw [List.length_take]; omega
  omega
end Go.Proofs.Ytlknlicokacoiaa
