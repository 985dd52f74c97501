/-
  What the law FifoRules makes of two goes: plain lists.
-/
import Derived.Test.YtoflnfdkcbpgeaaPrKnown
namespace Go.Proofs.Ytoflnfdkcbpgeaa
open Go.RowKit
set_option linter.unusedVariables false
set_option linter.unusedSimpArgs false

/-- What is left of the first k, and where: the places in P, what they lack in L. -/
structure Gone (S a : List Int) (k : Nat) (L : List Int) (P : List Nat) : Prop where
  len : P.length = L.length
  few : L.length ≤ k
  each : ∀ j, j < L.length → P.getD j 0 < k ∧ a.getD (P.getD j 0) 0 < S.getD (P.getD j 0) 0 ∧ L.getD j 0 = S.getD (P.getD j 0) 0 - a.getD (P.getD j 0) 0 ∧ sumL (L.take j) = sumL (S.take (P.getD j 0)) - sumL (a.take (P.getD j 0))
  sum : sumL L = sumL (S.take k) - sumL (a.take k)
  all : ∀ i, i < k → a.getD i 0 < S.getD i 0 → ∃ j, j < L.length ∧ P.getD j 0 = i
  inj : ∀ j j', j < L.length → j' < L.length → P.getD j 0 = P.getD j' 0 → j = j'
theorem gone_nil (S a : List Int) : Gone S a 0 [] [] := ⟨rfl, Nat.le_refl _, fun j h => by simp at h, by simp [sumL], fun i h => absurd h (by omega), fun j j' h => by simp at h⟩
theorem natD_left {l m : List Nat} {j : Nat} (h : j < l.length) : (l ++ m).getD j 0 = l.getD j 0 := by simp [List.getD, List.getElem?_append_left h]
theorem natD_last (l : List Nat) (x : Nat) : (l ++ [x]).getD l.length 0 = x := by simp [List.getD]
theorem Gone.skip {S a : List Int} {k : Nat} {L : List Int} {P : List Nat} (h : Gone S a k L P) (hS : k < S.length) (ha : k < a.length) (he : a.getD k 0 = S.getD k 0) : Gone S a (k + 1) L P := by
  refine ⟨h.len, by have := h.few; omega, fun j hj => ?_, ?_, fun i hi hl => ?_, h.inj⟩
  · obtain ⟨a1, a2, a3, a4⟩ := h.each j hj
    exact ⟨by omega, a2, a3, a4⟩
  · rw [sumL_take S k hS, sumL_take a k ha, h.sum, he]; omega
  · rcases Nat.lt_or_ge i k with h1 | h1
    · exact h.all i h1 hl
    · obtain rfl : i = k := by omega
      omega
theorem Gone.take {S a : List Int} {k : Nat} {L : List Int} {P : List Nat} (h : Gone S a k L P) (hS : k < S.length) (ha : k < a.length) (he : a.getD k 0 < S.getD k 0) : Gone S a (k + 1) (L ++ [S.getD k 0 - a.getD k 0]) (P ++ [k]) := by
  have hlen := h.len
  have ll : (L ++ [S.getD k 0 - a.getD k 0]).length = L.length + 1 := by simp
  have each : ∀ j, j < L.length → (P ++ [k]).getD j 0 = P.getD j 0 := fun j hj => natD_left (by omega)
  have last : (P ++ [k]).getD L.length 0 = k := by rw [← hlen]; exact natD_last P k
  refine ⟨by simp [hlen], by have := h.few; omega, fun j hj => ?_, ?_, fun i hi hl => ?_, fun j j' hj hj' e => ?_⟩
  · rw [ll] at hj
    rcases Nat.lt_or_ge j L.length with h1 | h1
    · obtain ⟨a1, a2, a3, a4⟩ := h.each j h1
      rw [each j h1, getD_left h1, List.take_append_of_le_length (by omega)]
      exact ⟨by omega, a2, a3, a4⟩
    · obtain rfl : j = L.length := by omega
      rw [last, getD_last, List.take_left]
      exact ⟨by omega, he, rfl, h.sum⟩
  · rw [sumL_append, sumL_take S k hS, sumL_take a k ha, h.sum]
    simp only [sumL]; omega
  · rw [ll]
    rcases Nat.lt_or_ge i k with h1 | h1
    · obtain ⟨j, hj, e⟩ := h.all i h1 hl
      exact ⟨j, by omega, by rw [each j hj]; exact e⟩
    · obtain rfl : i = k := by omega
      exact ⟨L.length, by omega, last⟩
  · rw [ll] at hj hj'
    rcases Nat.lt_or_ge j L.length with h1 | h1 <;> rcases Nat.lt_or_ge j' L.length with h2 | h2
    · rw [each j h1, each j' h2] at e
      exact h.inj j j' h1 h2 e
    · obtain rfl : j' = L.length := by omega
      rw [each j h1, last] at e
      have := (h.each j h1).1
      omega
    · obtain rfl : j = L.length := by omega
      rw [last, each j' h2] at e
      have := (h.each j' h2).1
      omega
    · omega
/-- The row in which some are added already. -/
def Added (a x : List Int) (P : List Nat) (n t : Nat) (Y : List Int) : Prop :=
  Y.length = n ∧ ∀ i, i < n → (∀ j, j < t → P.getD j 0 ≠ i) → Y.getD i 0 = a.getD i 0
def AddedX (a x : List Int) (P : List Nat) (n t : Nat) (Y : List Int) : Prop := Added a x P n t Y ∧ ∀ j, j < t → Y.getD (P.getD j 0) 0 = x.getD (P.getD j 0) 0
theorem added_zero (a x : List Int) (P : List Nat) (n : Nat) (h : a.length = n) : AddedX a x P n 0 a := ⟨⟨h, fun _ _ _ => rfl⟩, fun j hj => absurd hj (by omega)⟩
theorem getD_set_same {l : List Int} {i : Nat} (v : Int) (h : i < l.length) : (l.set i v).getD i 0 = v := by simp [List.getD, h]
theorem getD_set_far {l : List Int} {i j : Nat} (v : Int) (h : i ≠ j) : (l.set i v).getD j 0 = l.getD j 0 := by simp [List.getD, h]
theorem AddedX.next {a x : List Int} {P : List Nat} {n t : Nat} {Y : List Int} {v : Int} (h : AddedX a x P n t Y) (hp : P.getD t 0 < n) (hv : v = x.getD (P.getD t 0) 0) (hi : ∀ j, j < t → P.getD j 0 ≠ P.getD t 0) : AddedX a x P n (t + 1) (Y.set (P.getD t 0) v) := by
  obtain ⟨⟨h1, h2⟩, h3⟩ := h
  refine ⟨⟨by rw [List.length_set]; exact h1, fun i hin hj => ?_⟩, fun j hj => ?_⟩
  · rw [getD_set_far _ (hj t (by omega))]
    exact h2 i hin (fun j hj' => hj j (by omega))
  · rcases Nat.lt_or_ge j t with g | g
    · rw [getD_set_far _ (fun e => hi j g e.symm)]
      exact h3 j g
    · obtain rfl : j = t := by omega
      rw [getD_set_same _ (by omega), hv]

section
variable {S : List Int} {k m : Nat}
/-- What is added: the second go's share of a place makes up the share of both. -/
theorem second_go {L : List Int} {P : List Nat} (hS : ∀ x ∈ S, 1 ≤ x ∧ x ≤ 1000000) (hm : m ≤ k) (h : Gone S (fillL S (m : Int)) S.length L P) {j : Nat} (hj : j < L.length) :
    (fillL S (m : Int)).getD (P.getD j 0) 0 + (fillL L ((k : Int) - (m : Int))).getD j 0 = (fillL S (k : Int)).getD (P.getD j 0) 0 := by
  have h0 : ∀ x ∈ S, 0 ≤ x := fun x hx => by have := hS x hx; omega
  obtain ⟨a1, a2, a3, a4⟩ := h.each j hj
  have hL : ∀ x ∈ L, 0 ≤ x := fun x hx => by
    obtain ⟨i, hi, e⟩ := mem_getD hx
    obtain ⟨_, b2, b3, _⟩ := h.each i hi
    omega
  rw [fill_at L _ j hL (by omega) hj, a3, a4, fill_sums S _ _ h0 (by omega)]
  rw [fill_at S _ _ h0 (by omega) a1] at a2 ⊢
  rw [fill_at S _ _ h0 (by omega) a1]
  have hn : 0 ≤ sumL (S.take (P.getD j 0)) := sum_nonneg (fun x hx => h0 x (List.mem_of_mem_take hx))
  omega
theorem first_full {L : List Int} {P : List Nat} (hS : ∀ x ∈ S, 1 ≤ x ∧ x ≤ 1000000) (hm : m ≤ k) {i : Nat} (hi : i < S.length) (he : ¬ (fillL S (m : Int)).getD i 0 < S.getD i 0) : (fillL S (m : Int)).getD i 0 = (fillL S (k : Int)).getD i 0 := by
  have h0 : ∀ x ∈ S, 0 ≤ x := fun x hx => by have := hS x hx; omega
  rw [fill_at S _ _ h0 (by omega) hi] at he ⊢
  rw [fill_at S _ _ h0 (by omega) hi]
  have hn : 0 ≤ sumL (S.take i) := sum_nonneg (fun x hx => h0 x (List.mem_of_mem_take hx))
  have := hS _ (getD_mem hi)
  omega
theorem both_goes {L : List Int} {P : List Nat} {Y : List Int} (hS : ∀ x ∈ S, 1 ≤ x ∧ x ≤ 1000000) (hm : m ≤ k) (h : Gone S (fillL S (m : Int)) S.length L P) (hY : AddedX (fillL S (m : Int)) (fillL S (k : Int)) P S.length L.length Y) : Y = fillL S (k : Int) := by
  obtain ⟨⟨h1, h2⟩, h3⟩ := hY
  refine ext_getD (by rw [h1, fill_len]) (fun i hi => ?_)
  rw [h1] at hi
  by_cases he : (fillL S (m : Int)).getD i 0 < S.getD i 0
  · obtain ⟨j, hj, e⟩ := h.all i hi he
    have := h3 j hj
    rw [e] at this
    exact this
  · rw [h2 i hi (fun j hj e => ?_)]
    · exact first_full (L := L) (P := P) hS hm hi he
    · have := (h.each j hj).2.1
      rw [e] at this
      exact he this
theorem left_right {L : List Int} {P : List Nat} (hS : ∀ x ∈ S, 1 ≤ x ∧ x ≤ 1000000) (hl : S.length ≤ 40) (hm : m ≤ k) (hk : (k : Int) ≤ sumL S) (h : Gone S (fillL S (m : Int)) S.length L P) : rightL L ((k : Int) - (m : Int)) = true := by
  have h0 : ∀ x ∈ S, 0 ≤ x := fun x hx => by have := hS x hx; omega
  refine (right_iff _ _).2 ⟨by have := h.few; omega, fun x hx => ?_, by omega, ?_⟩
  · obtain ⟨i, hi, e⟩ := mem_getD hx
    obtain ⟨b1, b2, b3, _⟩ := h.each i hi
    have := hS _ (getD_mem b1)
    rw [fill_at S _ _ h0 (by omega) b1] at b2 b3
    have hn : 0 ≤ sumL (S.take (P.getD i 0)) := sum_nonneg (fun x hx => h0 x (List.mem_of_mem_take hx))
    omega
  · have hs := h.sum
    rw [List.take_of_length_le (by omega), List.take_of_length_le (by rw [fill_len]; omega), fill_all S _ h0 (by omega) (by omega)] at hs
    omega
/-- Nobody stands behind one that lacks something. -/
theorem fill_behind_none (hS : ∀ x ∈ S, 1 ≤ x ∧ x ≤ 1000000) {i : Nat} (hi : i + 1 < S.length) (he : (fillL S (k : Int)).getD i 0 < S.getD i 0) : (fillL S (k : Int)).getD (i + 1) 0 = 0 := by
  have h0 : ∀ x ∈ S, 0 ≤ x := fun x hx => by have := hS x hx; omega
  rw [fill_at S _ _ h0 (by omega) (by omega)] at he
  rw [fill_at S _ _ h0 (by omega) hi, sumL_take S i (by omega)]
  have hn : 0 ≤ sumL (S.take i) := sum_nonneg (fun x hx => h0 x (List.mem_of_mem_take hx))
  have := hS _ (getD_mem hi)
  omega
end
end Go.Proofs.Ytoflnfdkcbpgeaa
