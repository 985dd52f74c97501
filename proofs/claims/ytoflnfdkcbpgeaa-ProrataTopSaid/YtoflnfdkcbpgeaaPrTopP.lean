/-
  What the law ProrataTop makes of what is left, and where: plain lists.
-/
import Derived.Test.YtoflnfdkcbpgeaaFiRulesP
import Derived.Test.YtoflnfdkcbpgeaaPrRulesP
namespace Go.Proofs.Ytoflnfdkcbpgeaa
open Go.RowKit
set_option linter.unusedVariables false
set_option linter.unusedSimpArgs false

/-- The places of those that lack something, among the first k. -/
structure At (R : List Int) (k : Nat) (P : List Nat) : Prop where
  len : P.length = (posL (R.take k)).length
  each : ∀ j, j < P.length → P.getD j 0 < k ∧ 0 < R.getD (P.getD j 0) 0 ∧ (posL (R.take (P.getD j 0))).length = j
  all : ∀ i, i < k → 0 < R.getD i 0 → ∃ j, j < P.length ∧ P.getD j 0 = i
theorem pos_none (R : List Int) : posL (R.take 0) = [] := by rw [List.take_zero]; with_unfolding_all rfl
theorem at_nil (R : List Int) : At R 0 [] := ⟨by rw [pos_none]; rfl, fun j h => by simp at h, fun i h => absurd h (by omega)⟩
theorem At.skip {R : List Int} {k : Nat} {P : List Nat} (h : At R k P) (hk : k < R.length) (h0 : ¬ 0 < R.getD k 0) : At R (k + 1) P := by
  refine ⟨by rw [pos_skip hk h0]; exact h.len, fun j hj => ?_, fun i hi hp => ?_⟩
  · obtain ⟨a, b, c⟩ := h.each j hj; exact ⟨by omega, b, c⟩
  · rcases Nat.lt_or_ge i k with h1 | h1
    · exact h.all i h1 hp
    · obtain rfl : i = k := by omega
      exact absurd hp h0
theorem At.take {R : List Int} {k : Nat} {P : List Nat} (h : At R k P) (hk : k < R.length) (h0 : 0 < R.getD k 0) : At R (k + 1) (P ++ [k]) := by
  have ll : (P ++ [k]).length = P.length + 1 := by simp
  refine ⟨by rw [pos_more hk h0, ll, h.len]; simp, fun j hj => ?_, fun i hi hp => ?_⟩
  · rw [ll] at hj
    rcases Nat.lt_or_ge j P.length with h1 | h1
    · obtain ⟨a, b, c⟩ := h.each j h1
      rw [natD_left h1]
      exact ⟨by omega, b, c⟩
    · obtain rfl : j = P.length := by omega
      rw [natD_last]
      exact ⟨by omega, h0, h.len.symm⟩
  · rw [ll]
    rcases Nat.lt_or_ge i k with h1 | h1
    · obtain ⟨j, hj, e⟩ := h.all i h1 hp
      exact ⟨j, by omega, by rw [natD_left hj]; exact e⟩
    · obtain rfl : i = k := by omega
      exact ⟨P.length, by omega, natD_last P i⟩
theorem At.inj {R : List Int} {k : Nat} {P : List Nat} (h : At R k P) {i j : Nat} (hi : i < P.length) (hj : j < P.length) (e : P.getD i 0 = P.getD j 0) : i = j := by
  have a := (h.each i hi).2.2
  have b := (h.each j hj).2.2
  rw [e] at a
  omega
/-- What is added at a place makes up what both have. -/
theorem At.sum {F R E : List Int} {P : List Nat} (hl : F.length = R.length) (h : At R R.length P) {j : Nat} (hj : j < P.length) : F.getD (P.getD j 0) 0 + E.getD j 0 = (addZ F (spreadL R E)).getD (P.getD j 0) 0 := by
  obtain ⟨a, b, c⟩ := h.each j hj
  rw [addZ_get (by rw [spread_len]; exact hl) (by omega), spread_get _ _ _ a, if_pos b, c]
theorem At.done {F R E : List Int} {P : List Nat} {Y : List Int} (hl : F.length = R.length) (h : At R R.length P) (hY : AddedX F (addZ F (spreadL R E)) P R.length P.length Y) : Y = addZ F (spreadL R E) := by
  have la : (addZ F (spreadL R E)).length = R.length := by rw [addZ_len (by rw [spread_len]; exact hl)]; exact hl
  obtain ⟨⟨h1, h2⟩, h3⟩ := hY
  refine ext_getD (by rw [h1, la]) (fun i hi => ?_)
  rw [h1] at hi
  by_cases hp : 0 < R.getD i 0
  · obtain ⟨j, hj, e⟩ := h.all i hi hp
    have := h3 j hj
    rw [e] at this
    exact this
  · rw [h2 i hi (fun j hj e => by have := (h.each j hj).2.1; rw [e] at this; exact hp this)]
    rw [addZ_get (by rw [spread_len]; exact hl) (by omega), spread_get _ _ _ hi, if_neg hp]
    omega
/-- All that the walk is told. -/
theorem top_parts {S : List Int} {p : Nat} {m least k K : Int} (hR : rightL S k = true) (hm : 1 ≤ least) (ho : 0 ≤ m) (hp : p < S.length) (hK : min (min (S.getD p 0) m) k = K) :
    ∃ F R E : List Int, (List.replicate S.length 0).set p K = F ∧ F.length = S.length ∧ R.length = S.length ∧ (∀ i, i < S.length → i ≠ p → R.getD i 0 = S.getD i 0) ∧ R.getD p 0 = S.getD p 0 - K ∧
      plainL (posL R) least (k - K) = E ∧ E.length = (posL R).length ∧ (∀ x ∈ E, 0 ≤ x ∧ x ≤ 1000000) ∧ (∀ x ∈ posL R, 0 ≤ x ∧ x ≤ 1000000) ∧ (posL R).length ≤ S.length ∧ (∀ x ∈ F, 0 ≤ x ∧ x ≤ 1000000) ∧
      topL S (p : Int) m least k = addZ F (spreadL R E) ∧ (∀ x ∈ addZ F (spreadL R E), 0 ≤ x ∧ x ≤ 1000000) := by
  obtain ⟨a1, a2, a3, a4⟩ := (right_iff _ _).1 hR
  have h0 : ∀ x ∈ S, 0 ≤ x := fun x hx => by have := a2 x hx; omega
  have eK : topK S (p : Int) m k = K := by rw [topK_in hp]; exact hK
  have eF := first_in (k := K) hp
  have lF := first_len S.length (p : Int) K
  have fit : ∀ i, i < S.length → 0 ≤ (firstL S.length (p : Int) K).getD i 0 ∧ (firstL S.length (p : Int) K).getD i 0 ≤ S.getD i 0 := fun i hi => by
    have := first_fit (top := (p : Int)) (most := m) (q := k) h0 a3 ho hi
    rw [eK] at this; exact this
  have sF := first_sum S (p : Int) m k
  have kf := topK_fit (top := (p : Int)) (most := m) h0 a3 ho
  rw [eK] at sF kf
  obtain ⟨g1, g2, g3, g4, g5, g6, g7, g8⟩ := top_facts (F := firstL S.length (p : Int) K) (K := K) hR hm lF fit sF kf.2
  have hR2 := right_pos hR lF.symm fit (r := k - K) (by omega) (by omega)
  obtain ⟨b1, b2, b3, b4⟩ := (right_iff _ _).1 hR2
  have eT := top_yes (top := (p : Int)) (least := least) hR hm ho
  rw [topB_eq, eK] at eT
  refine ⟨firstL S.length (p : Int) K, subZ S (firstL S.length (p : Int) K), plainL (posL (subZ S (firstL S.length (p : Int) K))) least (k - K), eF.symm, lF, subZ_len lF.symm, fun i hi hne => ?_, ?_, rfl, ?_, plain_mem _ _ _, fun x hx => by have := b2 x hx; omega, ?_, fun x hx => ?_, ?_, ?_⟩
  · rw [subZ_get lF.symm hi, first_get _ _ _ hi, if_neg (by omega)]; omega
  · rw [subZ_get lF.symm hp, first_get _ _ _ hp, if_pos rfl]
  · rw [g5, plainB_len]
  · have := pos_len (subZ S (firstL S.length (p : Int) K)); rw [subZ_len lF.symm] at this; exact this
  · obtain ⟨i, hi, rfl⟩ := mem_getD hx
    have := g1 i (by omega)
    omega
  · rw [eT, g5, g8]
  · rw [g5, g8, ← eT]; exact top_mem _ _ _ _ _
end Go.Proofs.Ytoflnfdkcbpgeaa
