/-
  What the laws ask of shares by size: plain lists.
-/
import Derived.Test.YtabogoonbapjiaaPrRef
namespace Go.Proofs.Ytabogoonbapjiaa
open Go.RowKit
set_option linter.unusedVariables false
set_option linter.unusedSimpArgs false

section
variable {l : List Int} {top most least q : Int}
theorem first_ll (l : List Int) (top k : Int) : l.length = (firstL l.length top k).length := (first_len _ _ _).symm
theorem restT_len (l : List Int) (top k : Int) : (subZ l (firstL l.length top k)).length = l.length := subZ_len (first_ll l top k)
theorem restT_nonneg (h : ∀ x ∈ l, 0 ≤ x) (hq : 0 ≤ q) (hm : 0 ≤ most) : ∀ x ∈ subZ l (firstL l.length top (topK l top most q)), 0 ≤ x := fun y hy => by
  obtain ⟨k, hk, rfl⟩ := subZ_mem (first_ll _ _ _) hy
  have := first_fit (top := top) h hq hm hk
  omega
theorem restT_sum (l : List Int) (top most q : Int) : sumL (subZ l (firstL l.length top (topK l top most q))) = sumL l - topK l top most q := by
  rw [subZ_sum (first_ll _ _ _), first_sum]
theorem topB_len (l : List Int) (top most least q : Int) : (topB l top most least q).length = l.length := by
  rw [topB_eq, addZ_len (by rw [plainB_len, restT_len, first_len]), first_len]
/-- The top has what is its turn; nobody has more than its quantity. -/
theorem topB_fit (h : ∀ x ∈ l, 0 ≤ x) (hq : 0 ≤ q) (hs : q ≤ sumL l) (hm : 0 ≤ most) {k : Nat} (hk : k < l.length) : (firstL l.length top (topK l top most q)).getD k 0 ≤ (topB l top most least q).getD k 0 ∧ (topB l top most least q).getD k 0 ≤ l.getD k 0 := by
  have kf := topK_fit (top := top) h hq hm
  have ks := restT_sum l top most q
  rw [topB_eq, addZ_get (by rw [plainB_len, restT_len, first_len]) (by rw [first_len]; exact hk)]
  have a := plainB_fit (least := least) (restT_nonneg (top := top) h hq hm) (q := q - topK l top most q) (by omega) (by omega) (k := k) (by rw [restT_len]; exact hk)
  have b := by_fit (least := least) (restT_nonneg (top := top) h hq hm) (q := q - topK l top most q) (by omega) (by omega) (k := k) (by rw [restT_len]; exact hk)
  rw [subZ_get (first_ll _ _ _) hk] at a
  omega
theorem topB_sum (h : ∀ x ∈ l, 0 ≤ x) (hq : 0 ≤ q) (hs : q ≤ sumL l) (hm : 0 ≤ most) : sumL (topB l top most least q) = q := by
  have kf := topK_fit (top := top) h hq hm
  have ks := restT_sum l top most q
  rw [topB_eq, addZ_sum (by rw [plainB_len, restT_len, first_len]), first_sum, plainB_sum (restT_nonneg h hq hm) (by omega) (by omega)]
  omega
theorem plain_mem (l : List Int) (least q : Int) : ∀ y ∈ plainL l least q, 0 ≤ y ∧ y ≤ 1000000 := by
  cases e : rightL l q && decide (1 ≤ least) with
  | false => rw [plain_no e]; intro y hy; cases hy
  | true =>
    rw [Bool.and_eq_true] at e
    rw [plain_yes e.1 (of_decide_eq_true e.2)]
    obtain ⟨a1, a2, a3, a4⟩ := (right_iff _ _).1 e.1
    exact plainB_mem (fun x hx => by have := a2 x hx; omega) a3 a4
theorem plain_few (l : List Int) (least q : Int) : (plainL l least q).length ≤ 250 := by
  cases e : rightL l q && decide (1 ≤ least) with
  | false => rw [plain_no e]; simp
  | true =>
    rw [Bool.and_eq_true] at e
    rw [plain_yes e.1 (of_decide_eq_true e.2), plainB_len]
    exact ((right_iff _ _).1 e.1).1
theorem top_mem (l : List Int) (top most least q : Int) : ∀ y ∈ topL l top most least q, 0 ≤ y ∧ y ≤ 1000000 := by
  cases e : rightL l q && decide (1 ≤ least) && decide (0 ≤ most) with
  | false => rw [top_no e]; intro y hy; cases hy
  | true =>
    rw [Bool.and_eq_true, Bool.and_eq_true] at e
    have hm := of_decide_eq_true e.2
    rw [top_yes e.1.1 (of_decide_eq_true e.1.2) hm]
    obtain ⟨a1, a2, a3, a4⟩ := (right_iff _ _).1 e.1.1
    have h0 : ∀ x ∈ l, 0 ≤ x := fun x hx => by have := a2 x hx; omega
    intro y hy
    obtain ⟨k, hk, rfl⟩ := mem_getD hy
    rw [topB_len] at hk
    have a := topB_fit (top := top) (least := least) h0 a3 a4 hm hk
    have b := first_fit (top := top) h0 a3 hm hk
    have c := a2 _ (getD_mem hk)
    omega
theorem top_few (l : List Int) (top most least q : Int) : (topL l top most least q).length ≤ 250 := by
  cases e : rightL l q && decide (1 ≤ least) && decide (0 ≤ most) with
  | false => rw [top_no e]; simp
  | true =>
    rw [Bool.and_eq_true, Bool.and_eq_true] at e
    rw [top_yes e.1.1 (of_decide_eq_true e.1.2) (of_decide_eq_true e.2), topB_len]
    exact ((right_iff _ _).1 e.1.1).1
theorem small_of {m : List Int} (h : ∀ y ∈ m, 0 ≤ y ∧ y ≤ 1000000) : ∀ y ∈ m, I64 y := fun y hy => by have := h y hy; exact ⟨by omega, by omega⟩
theorem sub_zeros (l : List Int) : subZ l (List.replicate l.length 0) = l := by
  refine ext_getD (by rw [subZ_len (by simp)]) (fun i hi => ?_)
  rw [subZ_len (by simp)] at hi
  rw [subZ_get (by simp) hi]
  simp [List.getD, hi]
theorem zeros_add (l : List Int) : addZ (List.replicate l.length 0) l = l := by
  refine ext_getD (by rw [addZ_len (by simp)]; simp) (fun i hi => ?_)
  rw [addZ_len (by simp), List.length_replicate] at hi
  rw [addZ_get (by simp) (by simpa using hi)]
  simp [List.getD, hi]
theorem first_none (n : Nat) (top : Int) : firstL n top 0 = List.replicate n 0 := by
  refine ext_getD (by rw [first_len]; simp) (fun i hi => ?_)
  rw [first_len] at hi
  rw [first_get _ _ _ hi]
  simp [List.getD, hi]
/-- A top whose turn is nothing is none. -/
theorem top_none (hm : 0 ≤ most) (hK : topK l top most q = 0) : topL l top most least q = plainL l least q := by
  cases e : rightL l q && decide (1 ≤ least) with
  | false => rw [plain_no e, top_no (by rw [e]; rfl)]
  | true =>
    rw [Bool.and_eq_true] at e
    have h1 := of_decide_eq_true e.2
    rw [plain_yes e.1 h1, top_yes e.1 h1 hm, topB_eq, hK, first_none, sub_zeros, Int.sub_zero]
    have := zeros_add (plainB l least q)
    rw [plainB_len] at this
    exact this
/-- What is shared by size without a rest. -/
theorem plainB_even {m : List Int} (h : ∀ x ∈ l, 0 ≤ x) (hs : q ≤ sumL l) (hq : 0 ≤ q) (e : byL l least q = m) (hm : sumL m = q) : plainB l least q = m := by
  have hl : m.length = l.length := by rw [← e, by_len]
  refine ext_getD (by rw [plainB_len, hl]) (fun i hi => ?_)
  rw [plainB_len] at hi
  rw [plainB_get hi, fill_at _ _ i (restB_nonneg h hq hs) (by rw [e]; omega) (by rw [restB_len]; exact hi)]
  have a := restB_nonneg (least := least) h hq hs _ (getD_mem (show i < (subZ l (byL l least q)).length by rw [restB_len]; exact hi))
  have b := sum_nonneg (l := (subZ l (byL l least q)).take i) (fun x hx => restB_nonneg h hq hs x (List.mem_of_mem_take hx))
  rw [e] at a b ⊢
  omega
theorem byK_at {A x : Int} (h : 1 ≤ x * q / A) : byK A q 1 x = x * q / A := by
  have : byK A q 1 x = bif decide (1 ≤ x * q / A) then x * q / A else 0 := by with_unfolding_all rfl
  rw [this, decide_eq_true h]; rfl
theorem byK_low {A x : Int} (h : x * q / A = 0) : byK A q 1 x = 0 := by
  have : byK A q 1 x = bif decide (1 ≤ x * q / A) then x * q / A else 0 := by with_unfolding_all rfl
  rw [this, h]; rfl
theorem by_all (h : ∀ x ∈ l, 1 ≤ x) : byL l 1 (sumL l) = l := by
  have h0 : ∀ x ∈ l, 0 ≤ x := fun x hx => by have := h x hx; omega
  refine ext_getD (by_len _ _ _) (fun i hi => ?_)
  rw [by_len] at hi
  have a := h _ (getD_mem hi)
  have b := sum_ge h0 hi
  rw [by_get _ _ _ hi]
  have e : l.getD i 0 * sumL l / sumL l = l.getD i 0 := Int.mul_ediv_cancel _ (by omega)
  rw [byK_at (by rw [e]; exact a), e]
/-- All of it is all. -/
theorem plain_all (hR : rightL l (sumL l) = true) : plainL l 1 (sumL l) = l := by
  obtain ⟨a1, a2, a3, a4⟩ := (right_iff _ _).1 hR
  rw [plain_yes hR (by omega)]
  exact plainB_even (fun x hx => by have := a2 x hx; omega) (by omega) a3 (by_all (fun x hx => (a2 x hx).1)) rfl
end
end Go.Proofs.Ytabogoonbapjiaa
