/-
  Shares by size: plain lists, nothing of the program.
-/
import Derived.Test.YtabogoonbapjiaaFi
namespace Go.Proofs.Ytabogoonbapjiaa
open Go.RowKit
set_option linter.unusedVariables false
set_option linter.unusedSimpArgs false

/-- Two lists, place by place. -/
def addZ (a b : List Int) : List Int := List.zipWith (· + ·) a b
def subZ (a b : List Int) : List Int := List.zipWith (· - ·) a b
theorem addZ_len {a b : List Int} (h : a.length = b.length) : (addZ a b).length = a.length := by simp [addZ, h]
theorem subZ_len {a b : List Int} (h : a.length = b.length) : (subZ a b).length = a.length := by simp [subZ, h]
theorem addZ_get {a b : List Int} (h : a.length = b.length) {k : Nat} (hk : k < a.length) : (addZ a b).getD k 0 = a.getD k 0 + b.getD k 0 := by
  simp [addZ, List.getD, List.getElem?_zipWith, List.getElem?_eq_getElem hk, List.getElem?_eq_getElem (show k < b.length by omega)]
theorem subZ_get {a b : List Int} (h : a.length = b.length) {k : Nat} (hk : k < a.length) : (subZ a b).getD k 0 = a.getD k 0 - b.getD k 0 := by
  simp [subZ, List.getD, List.getElem?_zipWith, List.getElem?_eq_getElem hk, List.getElem?_eq_getElem (show k < b.length by omega)]
theorem addZ_sum {a b : List Int} (h : a.length = b.length) : sumL (addZ a b) = sumL a + sumL b := by
  induction a generalizing b with
  | nil => cases b with | nil => rfl | cons y b => simp at h
  | cons x a ih =>
    cases b with
    | nil => simp at h
    | cons y b =>
      have := ih (b := b) (by simpa using h)
      simp only [addZ, List.zipWith_cons_cons, sumL] at this ⊢
      omega
theorem subZ_sum {a b : List Int} (h : a.length = b.length) : sumL (subZ a b) = sumL a - sumL b := by
  induction a generalizing b with
  | nil => cases b with | nil => rfl | cons y b => simp at h
  | cons x a ih =>
    cases b with
    | nil => simp at h
    | cons y b =>
      have := ih (b := b) (by simpa using h)
      simp only [subZ, List.zipWith_cons_cons, sumL] at this ⊢
      omega
theorem addZ_mem {a b : List Int} (h : a.length = b.length) {y : Int} (hy : y ∈ addZ a b) : ∃ k, k < a.length ∧ y = a.getD k 0 + b.getD k 0 := by
  obtain ⟨k, hk, e⟩ := mem_getD hy
  rw [addZ_len h] at hk
  exact ⟨k, hk, by rw [← e, addZ_get h hk]⟩
theorem subZ_mem {a b : List Int} (h : a.length = b.length) {y : Int} (hy : y ∈ subZ a b) : ∃ k, k < a.length ∧ y = a.getD k 0 - b.getD k 0 := by
  obtain ⟨k, hk, e⟩ := mem_getD hy
  rw [subZ_len h] at hk
  exact ⟨k, hk, by rw [← e, subZ_get h hk]⟩

/-- One order's share by size; less than the least is nothing. -/
def byK (A q least x : Int) : Int := bif decide (least ≤ x * q / A) then x * q / A else 0
theorem byK_zero (A q least : Int) : byK A q least 0 = 0 := by
  unfold byK; rw [Int.zero_mul, Int.zero_ediv]; cases decide (least ≤ 0) <;> rfl
theorem quo_fit {A q x : Int} (hx : 0 ≤ x) (hq : 0 ≤ q) (hA : q ≤ A) : 0 ≤ x * q / A ∧ x * q / A ≤ x := by
  rcases (show A = 0 ∨ 0 < A by omega) with rfl | h
  · rw [Int.ediv_zero]; omega
  · exact ⟨Int.ediv_nonneg (Int.mul_nonneg hx hq) (by omega), Int.ediv_le_of_le_mul h (Int.mul_le_mul_of_nonneg_left hA hx)⟩
theorem byK_fit {A q least x : Int} (hx : 0 ≤ x) (hq : 0 ≤ q) (hA : q ≤ A) : 0 ≤ byK A q least x ∧ byK A q least x ≤ x ∧ byK A q least x ≤ x * q / A := by
  obtain ⟨a, b⟩ := quo_fit hx hq hA
  unfold byK
  cases decide (least ≤ x * q / A) with
  | true => exact ⟨a, b, Int.le_refl _⟩
  | false => exact ⟨Int.le_refl _, hx, a⟩
def byL (l : List Int) (least q : Int) : List Int := l.map (byK (sumL l) q least)
theorem by_len (l : List Int) (least q : Int) : (byL l least q).length = l.length := by simp [byL]
theorem by_get (l : List Int) (least q : Int) {k : Nat} (hk : k < l.length) : (byL l least q).getD k 0 = byK (sumL l) q least (l.getD k 0) := by
  simp [byL, List.getD, List.getElem?_eq_getElem hk]
theorem nonneg_get {l : List Int} (h : ∀ x ∈ l, 0 ≤ x) {k : Nat} (hk : k < l.length) : 0 ≤ l.getD k 0 := h _ (getD_mem hk)
theorem by_fit {l : List Int} {least q : Int} (h : ∀ x ∈ l, 0 ≤ x) (hq : 0 ≤ q) (hs : q ≤ sumL l) {k : Nat} (hk : k < l.length) : 0 ≤ (byL l least q).getD k 0 ∧ (byL l least q).getD k 0 ≤ l.getD k 0 := by
  rw [by_get l least q hk]
  have := byK_fit (A := sumL l) (least := least) (nonneg_get h hk) hq hs
  exact ⟨this.1, this.2.1⟩
theorem by_part (l : List Int) (A q least : Int) (h : ∀ x ∈ l, 0 ≤ x) (hq : 0 ≤ q) (hA : q ≤ A) : A * sumL (l.map (byK A q least)) ≤ sumL l * q := by
  induction l with
  | nil => simp [sumL]
  | cons x l ih =>
    have i := ih (fun y hy => h y (by simp [hy]))
    obtain ⟨_, _, c⟩ := byK_fit (A := A) (least := least) (h x (by simp)) hq hA
    have d : A * (x * q / A) ≤ x * q := by
      have e := Int.mul_ediv_add_emod (x * q) A
      rcases (show A = 0 ∨ 0 < A by omega) with rfl | h0
      · rw [Int.zero_mul]; exact Int.mul_nonneg (h x (by simp)) hq
      · have := Int.emod_nonneg (x * q) (show A ≠ 0 by omega); omega
    have f := Int.mul_le_mul_of_nonneg_left c (show 0 ≤ A by omega)
    simp only [List.map_cons, sumL]
    rw [Int.mul_add, Int.add_mul]
    omega
theorem by_nonneg {l : List Int} {least q : Int} (h : ∀ x ∈ l, 0 ≤ x) (hq : 0 ≤ q) (hs : q ≤ sumL l) : ∀ y ∈ byL l least q, 0 ≤ y := fun y hy => by
  obtain ⟨k, hk, rfl⟩ := mem_getD hy
  rw [by_len] at hk
  exact (by_fit h hq hs hk).1
theorem by_sum {l : List Int} {least q : Int} (h : ∀ x ∈ l, 0 ≤ x) (hq : 0 ≤ q) (hs : q ≤ sumL l) : sumL (byL l least q) ≤ q ∧ 0 ≤ sumL (byL l least q) := by
  refine ⟨?_, sum_nonneg (by_nonneg h hq hs)⟩
  rcases (show sumL l = 0 ∨ 0 < sumL l by omega) with h0 | h0
  · have : ∀ m : List Int, sumL (m.map (byK (sumL l) q least)) = 0 := fun m => by
      induction m with
      | nil => rfl
      | cons x m ih =>
        rw [List.map_cons, sumL, ih, h0]
        unfold byK
        rw [Int.ediv_zero]
        cases decide (least ≤ 0) <;> rfl
    unfold byL; rw [this]; omega
  · have := by_part l (sumL l) q least h hq hs
    unfold byL
    exact Int.le_of_mul_le_mul_left this h0
/-- By size, then by arrival. -/
def plainB (l : List Int) (least q : Int) : List Int := addZ (byL l least q) (fillL (subZ l (byL l least q)) (q - sumL (byL l least q)))
theorem restB_len (l : List Int) (least q : Int) : (subZ l (byL l least q)).length = l.length := subZ_len (by_len l least q).symm
theorem plainB_len (l : List Int) (least q : Int) : (plainB l least q).length = l.length := by
  unfold plainB; rw [addZ_len (by rw [fill_len, restB_len, by_len]), by_len]
theorem restB_nonneg {l : List Int} {least q : Int} (h : ∀ x ∈ l, 0 ≤ x) (hq : 0 ≤ q) (hs : q ≤ sumL l) : ∀ x ∈ subZ l (byL l least q), 0 ≤ x := fun y hy => by
  obtain ⟨k, hk, rfl⟩ := subZ_mem (by_len l least q).symm hy
  have := by_fit (least := least) h hq hs hk
  omega
theorem plainB_get {l : List Int} {least q : Int} {k : Nat} (hk : k < l.length) : (plainB l least q).getD k 0 = (byL l least q).getD k 0 + (fillL (subZ l (byL l least q)) (q - sumL (byL l least q))).getD k 0 := by
  unfold plainB
  exact addZ_get (by rw [fill_len, restB_len, by_len]) (by rw [by_len]; exact hk)
theorem plainB_fit {l : List Int} {least q : Int} (h : ∀ x ∈ l, 0 ≤ x) (hq : 0 ≤ q) (hs : q ≤ sumL l) {k : Nat} (hk : k < l.length) : (byL l least q).getD k 0 ≤ (plainB l least q).getD k 0 ∧ (plainB l least q).getD k 0 ≤ l.getD k 0 := by
  rw [plainB_get hk]
  have a := by_fit (least := least) h hq hs hk
  have b := by_sum (least := least) h hq hs
  have c := fill_at (subZ l (byL l least q)) (q - sumL (byL l least q)) k (restB_nonneg h hq hs) (by omega) (by rw [restB_len]; exact hk)
  rw [subZ_get (by_len l least q).symm hk] at c
  omega
theorem plainB_sum {l : List Int} {least q : Int} (h : ∀ x ∈ l, 0 ≤ x) (hq : 0 ≤ q) (hs : q ≤ sumL l) : sumL (plainB l least q) = q := by
  unfold plainB
  rw [addZ_sum (by rw [fill_len, restB_len, by_len])]
  have b := by_sum (least := least) h hq hs
  rw [fill_all _ _ (restB_nonneg h hq hs) (by omega) (by rw [subZ_sum (by_len l least q).symm]; omega)]
  omega
/-- What the call answers. -/
def plainL (l : List Int) (least q : Int) : List Int := bif rightL l q && decide (1 ≤ least) then plainB l least q else []
/-- Of what the top has first. -/
def firstL (n : Nat) (top : Int) (k : Int) : List Int := bif decide (0 ≤ top) && decide (top < (n : Int)) then (List.replicate n 0).set top.toNat k else List.replicate n 0
def topK (l : List Int) (top most q : Int) : Int := bif decide (0 ≤ top) && decide (top < (l.length : Int)) then min (min (l.getD top.toNat 0) most) q else 0
def topB (l : List Int) (top most least q : Int) : List Int := addZ (firstL l.length top (topK l top most q)) (plainB (subZ l (firstL l.length top (topK l top most q))) least (q - topK l top most q))
def topL (l : List Int) (top most least q : Int) : List Int := bif rightL l q && decide (1 ≤ least) && decide (0 ≤ most) then topB l top most least q else []
theorem first_len (n : Nat) (top k : Int) : (firstL n top k).length = n := by
  unfold firstL
  cases decide (0 ≤ top) && decide (top < (n : Int)) <;> simp
theorem first_get (n : Nat) (top k : Int) {i : Nat} (hi : i < n) : (firstL n top k).getD i 0 = if (i : Int) = top then k else 0 := by
  unfold firstL
  by_cases h : 0 ≤ top ∧ top < (n : Int)
  · obtain ⟨t, rfl⟩ := Int.eq_ofNat_of_zero_le h.1
    have e : (decide (0 ≤ (t : Int)) && decide ((t : Int) < (n : Int))) = true := by simp; omega
    rw [e, cond_true, Int.toNat_natCast]
    by_cases ht : i = t
    · subst ht; simp [List.getD, hi]
    · have h2 : ¬ ((i : Int) = (t : Int)) := by omega
      rw [if_neg h2]
      simp [List.getD, List.getElem?_set, hi, Ne.symm ht]
  · have e : (decide (0 ≤ top) && decide (top < (n : Int))) = false := by
      cases h1 : decide (0 ≤ top) with
      | false => rfl
      | true => exact decide_eq_false (fun h2 => h ⟨of_decide_eq_true h1, h2⟩)
    have h2 : ¬ ((i : Int) = top) := by omega
    rw [e, cond_false, if_neg h2]
    simp [List.getD, hi]
theorem sum_zeros (n : Nat) : sumL (List.replicate n 0) = 0 := by
  induction n with
  | zero => rfl
  | succ n ih => rw [List.replicate_succ, sumL, ih]; rfl
theorem sum_set (l : List Int) (k : Nat) (x : Int) (h : k < l.length) : sumL (l.set k x) = sumL l - l.getD k 0 + x := by
  induction l generalizing k with
  | nil => simp at h
  | cons y l ih =>
    cases k with
    | zero => simp [sumL]; omega
    | succ k => have := ih k (by simpa using h); simp only [List.set_cons_succ, sumL, List.getD_cons_succ]; omega
theorem topK_out {l : List Int} {top most q : Int} (h : ¬ (0 ≤ top ∧ top < (l.length : Int))) : topK l top most q = 0 := by
  unfold topK
  have e : (decide (0 ≤ top) && decide (top < (l.length : Int))) = false := by
    cases h1 : decide (0 ≤ top) with
    | false => rfl
    | true => exact decide_eq_false (fun h2 => h ⟨of_decide_eq_true h1, h2⟩)
  rw [e]; rfl
theorem topK_in {l : List Int} {t : Nat} {most q : Int} (h : t < l.length) : topK l (t : Int) most q = min (min (l.getD t 0) most) q := by
  unfold topK
  have e : (decide (0 ≤ (t : Int)) && decide ((t : Int) < (l.length : Int))) = true := by simp; omega
  rw [e]; rfl
theorem topK_fit {l : List Int} {top most q : Int} (h : ∀ x ∈ l, 0 ≤ x) (hq : 0 ≤ q) (hm : 0 ≤ most) : 0 ≤ topK l top most q ∧ topK l top most q ≤ q := by
  by_cases ht : 0 ≤ top ∧ top < (l.length : Int)
  · obtain ⟨t, rfl⟩ := Int.eq_ofNat_of_zero_le ht.1
    have a := nonneg_get h (show t < l.length by omega)
    rw [topK_in (show t < l.length by omega)]
    omega
  · rw [topK_out ht]; omega
theorem first_out {n : Nat} {top k : Int} (h : ¬ (0 ≤ top ∧ top < (n : Int))) : firstL n top k = List.replicate n 0 := by
  unfold firstL
  have e : (decide (0 ≤ top) && decide (top < (n : Int))) = false := by
    cases h1 : decide (0 ≤ top) with
    | false => rfl
    | true => exact decide_eq_false (fun h2 => h ⟨of_decide_eq_true h1, h2⟩)
  rw [e]; rfl
theorem first_in {n t : Nat} {k : Int} (h : t < n) : firstL n (t : Int) k = (List.replicate n 0).set t k := by
  unfold firstL
  have e : (decide (0 ≤ (t : Int)) && decide ((t : Int) < (n : Int))) = true := by simp; omega
  rw [e]; rfl
theorem first_sum (l : List Int) (top most q : Int) : sumL (firstL l.length top (topK l top most q)) = topK l top most q := by
  by_cases ht : 0 ≤ top ∧ top < (l.length : Int)
  · obtain ⟨t, rfl⟩ := Int.eq_ofNat_of_zero_le ht.1
    rw [first_in (by omega), sum_set _ _ _ (by simp; omega), sum_zeros]
    have : (List.replicate l.length (0 : Int)).getD t 0 = 0 := by simp [List.getD, show t < l.length by omega]
    omega
  · rw [first_out ht, sum_zeros, topK_out ht]
theorem first_fit {l : List Int} {top most q : Int} (h : ∀ x ∈ l, 0 ≤ x) (hq : 0 ≤ q) (hm : 0 ≤ most) {k : Nat} (hk : k < l.length) : 0 ≤ (firstL l.length top (topK l top most q)).getD k 0 ∧ (firstL l.length top (topK l top most q)).getD k 0 ≤ l.getD k 0 := by
  rw [first_get _ _ _ hk]
  have a := nonneg_get h hk
  split
  · rename_i e
    subst e
    rw [topK_in hk]
    omega
  · omega

/-- Those that lack something. -/
def posL (r : List Int) : List Int := r.filter (fun x => decide (0 < x))
/-- Numbers for those that lack something, at their places. -/
def spreadL : List Int → List Int → List Int
  | [], _ => []
  | x :: r, z => bif decide (0 < x) then z.headD 0 :: spreadL r z.tail else 0 :: spreadL r z
theorem pos_yes {x : Int} (r : List Int) (h : 0 < x) : posL (x :: r) = x :: posL r := by simp [posL, h]
theorem pos_no {x : Int} (r : List Int) (h : ¬ 0 < x) : posL (x :: r) = posL r := by simp [posL, h]
theorem pos_append (r s : List Int) : posL (r ++ s) = posL r ++ posL s := by simp [posL]
theorem spread_len (r z : List Int) : (spreadL r z).length = r.length := by
  induction r generalizing z with
  | nil => rfl
  | cons x r ih => unfold spreadL; cases decide (0 < x) <;> simp [ih]
theorem spread_yes {x : Int} (r : List Int) (y : Int) (z : List Int) (h : 0 < x) : spreadL (x :: r) (y :: z) = y :: spreadL r z := by
  simp [spreadL, h]
theorem spread_no {x : Int} (r z : List Int) (h : ¬ 0 < x) : spreadL (x :: r) z = 0 :: spreadL r z := by
  simp [spreadL, h]
theorem spread_get (r z : List Int) (k : Nat) (hk : k < r.length) : (spreadL r z).getD k 0 = if 0 < r.getD k 0 then z.getD (posL (r.take k)).length 0 else 0 := by
  induction r generalizing z k with
  | nil => simp at hk
  | cons x r ih =>
    cases k with
    | zero =>
      by_cases h : 0 < x
      · cases z <;> simp [spreadL, h, posL]
      · simp [spreadL, h]
    | succ k =>
      by_cases h : 0 < x
      · have := ih z.tail k (by simpa using hk)
        simp only [spreadL, h, decide_true, cond_true, List.getD_cons_succ, List.take_succ_cons, this, pos_yes _ h, List.length_cons]
        cases z <;> simp
      · have := ih z k (by simpa using hk)
        simp only [spreadL, h, decide_false, cond_false, List.getD_cons_succ, List.take_succ_cons, this, pos_no _ h]
theorem take_snoc {r : List Int} {k : Nat} (hk : k < r.length) : r.take (k + 1) = r.take k ++ [r.getD k 0] := by
  rw [List.take_add_one]; simp [List.getD, List.getElem?_eq_getElem hk]
theorem pos_more {r : List Int} {k : Nat} (hk : k < r.length) (h : 0 < r.getD k 0) : posL (r.take (k + 1)) = posL (r.take k) ++ [r.getD k 0] := by
  rw [take_snoc hk, pos_append, pos_yes _ h]; rfl
theorem pos_skip {r : List Int} {k : Nat} (hk : k < r.length) (h : ¬ 0 < r.getD k 0) : posL (r.take (k + 1)) = posL (r.take k) := by
  rw [take_snoc hk, pos_append, pos_no _ h]; simp [posL]
theorem pos_count {r : List Int} {k : Nat} (hk : k < r.length) (h : 0 < r.getD k 0) : (posL (r.take k)).length < (posL r).length := by
  have e : posL r = posL (r.take (k + 1)) ++ posL (r.drop (k + 1)) := by rw [← pos_append, List.take_append_drop]
  rw [e, pos_more hk h]
  simp only [List.length_append, List.length_cons, List.length_nil]; omega
theorem pos_len (r : List Int) : (posL r).length ≤ r.length := List.length_filter_le _ _
theorem pos_mem {r : List Int} {x : Int} (h : x ∈ posL r) : x ∈ r ∧ 0 < x := by
  unfold posL at h
  rw [List.mem_filter] at h
  exact ⟨h.1, of_decide_eq_true h.2⟩
theorem pos_sum {r : List Int} (h : ∀ x ∈ r, 0 ≤ x) : sumL (posL r) = sumL r := by
  induction r with
  | nil => rfl
  | cons x r ih =>
    have i := ih (fun y hy => h y (by simp [hy]))
    by_cases h0 : 0 < x
    · rw [pos_yes _ h0, sumL, sumL, i]
    · have := h x (by simp)
      rw [pos_no _ h0, i, sumL]; omega
theorem pos_map {r : List Int} (f : Int → Int) (h : ∀ x ∈ r, 0 ≤ x) (h0 : f 0 = 0) : sumL ((posL r).map f) = sumL (r.map f) := by
  induction r with
  | nil => rfl
  | cons x r ih =>
    have i := ih (fun y hy => h y (by simp [hy]))
    by_cases hx : 0 < x
    · rw [pos_yes _ hx, List.map_cons, List.map_cons, sumL, sumL, i]
    · have := h x (by simp)
      obtain rfl : x = 0 := by omega
      rw [pos_no _ hx, i, List.map_cons, sumL, h0]; omega
theorem fill_cons (x : Int) (l : List Int) (q : Int) : fillL (x :: l) q = min x q :: fillL l (q - min x q) := by with_unfolding_all rfl
theorem spread_fill {r : List Int} {q : Int} (h : ∀ x ∈ r, 0 ≤ x) (hq : 0 ≤ q) : spreadL r (fillL (posL r) q) = fillL r q := by
  induction r generalizing q with
  | nil => with_unfolding_all rfl
  | cons x r ih =>
    by_cases hx : 0 < x
    · rw [pos_yes _ hx, fill_cons, fill_cons, spread_yes _ _ _ hx, ih (fun y hy => h y (by simp [hy])) (by omega)]
    · have := h x (by simp)
      obtain rfl : x = 0 := by omega
      have e : min 0 q = 0 := by omega
      rw [pos_no _ hx, fill_cons, spread_no _ _ hx, ih (fun y hy => h y (by simp [hy])) hq, e, Int.sub_zero]
theorem spread_map {r : List Int} {q : Int} (f : Int → Int) (h : ∀ x ∈ r, 0 ≤ x) (h0 : f 0 = 0) (hq : 0 ≤ q) :
    spreadL r (addZ ((posL r).map f) (fillL (subZ (posL r) ((posL r).map f)) q)) = addZ (r.map f) (fillL (subZ r (r.map f)) q) := by
  induction r generalizing q with
  | nil => rfl
  | cons x r ih =>
    by_cases hx : 0 < x
    · have i := ih (q := q - min (x - f x) q) (fun y hy => h y (by simp [hy])) (by omega)
      have e : ∀ s : List Int, addZ ((x :: s).map f) (fillL (subZ (x :: s) ((x :: s).map f)) q) = (f x + min (x - f x) q) :: addZ (s.map f) (fillL (subZ s (s.map f)) (q - min (x - f x) q)) := fun s => by
        show addZ (f x :: s.map f) (fillL ((x - f x) :: subZ s (s.map f)) q) = _
        rw [fill_cons]; rfl
      rw [pos_yes _ hx, e, e, spread_yes _ _ _ hx, i]
    · have := h x (by simp)
      obtain rfl : x = 0 := by omega
      have i := ih (q := q) (fun y hy => h y (by simp [hy])) hq
      have e : addZ (((0 : Int) :: r).map f) (fillL (subZ (0 :: r) (((0 : Int) :: r).map f)) q) = 0 :: addZ (r.map f) (fillL (subZ r (r.map f)) q) := by
        show addZ (f 0 :: r.map f) (fillL ((0 - f 0) :: subZ r (r.map f)) q) = _
        have e2 : min (0 - f 0) q = 0 := by omega
        rw [fill_cons, e2, Int.sub_zero, h0]
        rfl
      rw [pos_no _ hx, e, spread_no _ _ hx, i]
theorem spread_plain {r : List Int} {least q : Int} (h : ∀ x ∈ r, 0 ≤ x) (hq : 0 ≤ q) (hs : q ≤ sumL r) : spreadL r (plainB (posL r) least q) = plainB r least q := by
  have b := by_sum (least := least) h hq hs
  have e1 : byL (posL r) least q = (posL r).map (byK (sumL r) q least) := by unfold byL; rw [pos_sum h]
  have e2 : sumL (byL (posL r) least q) = sumL (byL r least q) := by rw [e1]; exact pos_map _ h (byK_zero _ _ _)
  unfold plainB
  rw [e2, e1]
  exact spread_map _ h (byK_zero _ _ _) (by omega)
/-- Is what they lack right, if the list was? -/
theorem right_pos {l b : List Int} {q r : Int} (hR : rightL l q = true) (hl : l.length = b.length) (hb : ∀ k, k < l.length → 0 ≤ b.getD k 0 ∧ b.getD k 0 ≤ l.getD k 0) (h0 : 0 ≤ r) (h1 : r + sumL b ≤ sumL l) : rightL (posL (subZ l b)) r = true := by
  obtain ⟨a1, a2, a3, a4⟩ := (right_iff _ _).1 hR
  have nn : ∀ x ∈ subZ l b, 0 ≤ x := fun x hx => by
    obtain ⟨k, hk, rfl⟩ := subZ_mem hl hx
    have := hb k hk; omega
  refine (right_iff _ _).2 ⟨?_, fun x hx => ?_, h0, by rw [pos_sum nn, subZ_sum hl]; omega⟩
  · have := pos_len (subZ l b); rw [subZ_len hl] at this; omega
  · obtain ⟨m, m0⟩ := pos_mem hx
    obtain ⟨k, hk, rfl⟩ := subZ_mem hl m
    have := hb k hk
    have := a2 _ (getD_mem hk)
    omega
/-- A row that is turned into another place by place: its first k are so. -/
def mixL (F G : List Int) (k : Nat) : List Int := F.take k ++ G.drop k
theorem mix_zero (F G : List Int) : mixL F G 0 = G := by simp [mixL]
theorem mix_full {F G : List Int} {n : Nat} (hF : F.length = n) (hG : G.length = n) : mixL F G n = F := by
  unfold mixL
  rw [List.take_of_length_le (by omega), List.drop_eq_nil_of_le (by omega), List.append_nil]
theorem mix_len {F G : List Int} {n k : Nat} (hF : F.length = n) (hG : G.length = n) (hk : k ≤ n) : (mixL F G k).length = n := by simp [mixL]; omega
theorem mix_get {F G : List Int} {n k : Nat} (hF : F.length = n) (hG : G.length = n) (hk : k < n) : (mixL F G k).getD k 0 = G.getD k 0 := by
  have hl : (F.take k).length = k := by rw [List.length_take]; omega
  unfold mixL
  simp [List.getD, List.getElem?_append_right (show (F.take k).length ≤ k by omega), hl]
theorem mix_set {F G : List Int} {n k : Nat} (hF : F.length = n) (hG : G.length = n) (hk : k < n) : (mixL F G k).set k (F.getD k 0) = mixL F G (k + 1) := by
  have hl : (F.take k).length = k := by rw [List.length_take]; omega
  have hk2 : k < F.length := by omega
  have hk3 : k < G.length := by omega
  have e : F.getD k 0 = F[k] := by simp [List.getD, List.getElem?_eq_getElem hk2]
  unfold mixL
  rw [e, List.set_append_right _ _ (by omega), hl, Nat.sub_self, List.drop_eq_getElem_cons hk3, List.set_cons_zero, List.take_add_one, List.getElem?_eq_getElem hk2, Option.toList_some, List.append_assoc]
  rfl
theorem mix_skip {F G : List Int} {n k : Nat} (hF : F.length = n) (hG : G.length = n) (hk : k < n) (h : F.getD k 0 = G.getD k 0) : mixL F G (k + 1) = mixL F G k := by
  rw [← mix_set hF hG hk]
  have hm := mix_get hF hG hk
  have hl := mix_len hF hG (Nat.le_of_lt hk)
  rw [h, ← hm]
  have e : (mixL F G k).getD k 0 = (mixL F G k)[k] := by simp [List.getD, List.getElem?_eq_getElem (show k < (mixL F G k).length by omega)]
  rw [e, List.set_getElem_self]
theorem cur_skip {F : List Int} {n k : Nat} (h : F.length = n) (hk : k < n) (h0 : F.getD k 0 = 0) : curL F n (k + 1) = curL F n k := by
  have hk2 : k < F.length := by omega
  have e : F[k] = 0 := by simpa [List.getD, List.getElem?_eq_getElem hk2] using h0
  with_unfolding_all
  show F.take (k + 1) ++ List.replicate (n - (k + 1)) 0 = F.take k ++ List.replicate (n - k) 0
  rw [List.take_add_one, List.getElem?_eq_getElem hk2, Option.toList_some, e, show n - k = (n - (k + 1)) + 1 by omega, List.replicate_succ, List.append_assoc]
  rfl
theorem known_a : plainL [6, 3, 1] 1 5 = [4, 1, 0] := by kernel_rfl
theorem known_b : topL [6, 3, 1] 2 9 1 5 = [3, 1, 1] := by kernel_rfl
attribute [irreducible] addZ subZ byK byL plainB plainL firstL topK topB topL posL spreadL mixL
end Go.Proofs.Ytabogoonbapjiaa
