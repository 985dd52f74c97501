/-
  Shares by arrival: plain lists, nothing of the program.
-/
import Derived.Test.YtabogoonbapjiaaNum
namespace Go.Proofs.Ytabogoonbapjiaa
open Go.RowKit
set_option linter.unusedVariables false
set_option linter.unusedSimpArgs false

/-- An order's quantity. -/
def okQ (x : Int) : Bool := decide (1 ≤ x) && decide (x ≤ 1000000)
theorem okQ_iff (x : Int) : okQ x = true ↔ (1 ≤ x ∧ x ≤ 1000000) := by unfold okQ; simp
/-- May so much be shared by these? -/
def rightL (l : List Int) (q : Int) : Bool := decide (l.length ≤ 250) && l.all okQ && decide (0 ≤ q) && decide (q ≤ sumL l)
theorem right_iff (l : List Int) (q : Int) : rightL l q = true ↔ (l.length ≤ 250 ∧ (∀ x ∈ l, 1 ≤ x ∧ x ≤ 1000000) ∧ 0 ≤ q ∧ q ≤ sumL l) := by
  unfold rightL
  simp only [Bool.and_eq_true, decide_eq_true_eq, List.all_eq_true, okQ_iff]
  constructor
  · rintro ⟨⟨⟨h1, h2⟩, h3⟩, h4⟩; exact ⟨h1, h2, h3, h4⟩
  · rintro ⟨h1, h2, h3, h4⟩; exact ⟨⟨⟨h1, h2⟩, h3⟩, h4⟩
theorem right_no {l : List Int} {q : Int} (h : ¬ (l.length ≤ 250 ∧ (∀ x ∈ l, 1 ≤ x ∧ x ≤ 1000000) ∧ 0 ≤ q ∧ q ≤ sumL l)) : rightL l q = false := by
  cases e : rightL l q with
  | false => rfl
  | true => exact absurd ((right_iff l q).1 e) h
/-- To each as much as may be. -/
def fillL : List Int → Int → List Int
  | [], _ => []
  | x :: l, q => min x q :: fillL l (q - min x q)
def shareL (l : List Int) (q : Int) : List Int := bif rightL l q then fillL l q else []
theorem share_yes {l : List Int} {q : Int} (h : rightL l q = true) : shareL l q = fillL l q := by unfold shareL; rw [h]; rfl
theorem share_no {l : List Int} {q : Int} (h : rightL l q = false) : shareL l q = [] := by unfold shareL; rw [h]; rfl
theorem fill_len (l : List Int) (q : Int) : (fillL l q).length = l.length := by
  induction l generalizing q with
  | nil => rfl
  | cons x l ih => simp [fillL, ih]
theorem fill_get (l : List Int) (q : Int) (k : Nat) (h : k < l.length) : (fillL l q).getD k 0 = min (l.getD k 0) (q - sumL ((fillL l q).take k)) := by
  induction l generalizing q k with
  | nil => simp at h
  | cons x l ih =>
    cases k with
    | zero => simp [fillL, sumL]
    | succ k =>
      have := ih (q - min x q) k (by simpa using h)
      simp only [fillL, List.getD_cons_succ, List.take_succ_cons, sumL]
      rw [this]
      omega
theorem fill_sums (l : List Int) (q : Int) (k : Nat) (hl : ∀ x ∈ l, 0 ≤ x) (hq : 0 ≤ q) : sumL ((fillL l q).take k) = min q (sumL (l.take k)) := by
  induction l generalizing q k with
  | nil => simp [fillL, sumL]; omega
  | cons x l ih =>
    cases k with
    | zero => simp [sumL]; omega
    | succ k =>
      have h0 := hl x (by simp)
      have := ih (q - min x q) k (fun y hy => hl y (by simp [hy])) (by omega)
      have b : 0 ≤ sumL (l.take k) := by
        have h : ∀ m : List Int, (∀ y ∈ m, 0 ≤ y) → 0 ≤ sumL m := by
          intro m
          induction m with
          | nil => intro _; simp [sumL]
          | cons y m im => intro hm; have := im (fun z hz => hm z (by simp [hz])); have := hm y (by simp); simp only [sumL]; omega
        exact h _ (fun y hy => hl y (by simp [List.mem_of_mem_take hy]))
      simp only [fillL, List.take_succ_cons, sumL, this]
      omega
theorem sum_nonneg {l : List Int} (h : ∀ x ∈ l, 0 ≤ x) : 0 ≤ sumL l := by
  induction l with
  | nil => simp [sumL]
  | cons y m im => have := im (fun z hz => h z (by simp [hz])); have := h y (by simp); simp only [sumL]; omega
theorem sum_take_le {l : List Int} (h : ∀ x ∈ l, 0 ≤ x) (k : Nat) : sumL (l.take k) ≤ sumL l := by
  have e := sumL_append (l.take k) (l.drop k)
  rw [List.take_append_drop] at e
  have := sum_nonneg (l := l.drop k) (fun x hx => h x (List.mem_of_mem_drop hx))
  omega
/-- A share tells by what stands ahead of it. -/
theorem fill_at (l : List Int) (q : Int) (k : Nat) (hl : ∀ x ∈ l, 0 ≤ x) (hq : 0 ≤ q) (h : k < l.length) : (fillL l q).getD k 0 = min (l.getD k 0) (q - min q (sumL (l.take k))) := by
  rw [fill_get l q k h, fill_sums l q k hl hq]
theorem fill_all (l : List Int) (q : Int) (hl : ∀ x ∈ l, 0 ≤ x) (hq : 0 ≤ q) (hs : q ≤ sumL l) : sumL (fillL l q) = q := by
  have := fill_sums l q l.length hl hq
  rw [List.take_of_length_le (by rw [fill_len]; omega), List.take_of_length_le (by omega)] at this
  omega
theorem fill_mem (l : List Int) (q : Int) (hl : ∀ x ∈ l, 0 ≤ x ∧ x ≤ 1000000) (hq : 0 ≤ q) : ∀ y ∈ fillL l q, 0 ≤ y ∧ y ≤ 1000000 := by
  intro y hy
  obtain ⟨i, hi, e⟩ := mem_getD hy
  rw [fill_len] at hi
  have := fill_at l q i (fun x hx => (hl x hx).1) hq hi
  have := hl _ (getD_mem hi)
  omega
theorem fill_I64 {l : List Int} {q : Int} (hl : ∀ x ∈ l, 1 ≤ x ∧ x ≤ 1000000) (hq : 0 ≤ q) : ∀ y ∈ fillL l q, I64 y := by
  intro y hy
  have := fill_mem l q (fun x hx => by have := hl x hx; omega) hq y hy
  exact ⟨by omega, by omega⟩
theorem share_I64 (l : List Int) (q : Int) : ∀ y ∈ shareL l q, I64 y := by
  intro y hy
  cases e : rightL l q with
  | false => rw [share_no e] at hy; cases hy
  | true =>
    rw [share_yes e] at hy
    obtain ⟨_, h2, h3, _⟩ := (right_iff l q).1 e
    exact fill_I64 h2 h3 y hy
theorem share_len (l : List Int) (q : Int) : (shareL l q).length ≤ 250 := by
  cases e : rightL l q with
  | false => rw [share_no e]; simp
  | true => rw [share_yes e, fill_len]; exact ((right_iff l q).1 e).1
/-- A row that is being filled: its first k, and noughts. -/
def curL (F : List Int) (n k : Nat) : List Int := F.take k ++ List.replicate (n - k) 0
theorem cur_zero (F : List Int) (n : Nat) : curL F n 0 = List.replicate n 0 := by simp [curL]
theorem cur_full {F : List Int} {n : Nat} (h : F.length = n) : curL F n n = F := by subst h; simp [curL]
theorem cur_len {F : List Int} {n k : Nat} (h : F.length = n) (hk : k ≤ n) : (curL F n k).length = n := by
  simp [curL]; omega
theorem cur_set {F : List Int} {n k : Nat} (h : F.length = n) (hk : k < n) : (curL F n k).set k (F.getD k 0) = curL F n (k + 1) := by
  have hl : (F.take k).length = k := by rw [List.length_take]; omega
  have hk2 : k < F.length := by omega
  have e : F.getD k 0 = F[k] := by simp [List.getD, List.getElem?_eq_getElem hk2]
  unfold curL
  rw [e, List.set_append_right _ _ (by omega), hl, Nat.sub_self, show n - k = (n - (k + 1)) + 1 by omega, List.replicate_succ, List.set_cons_zero, List.take_add_one, List.getElem?_eq_getElem hk2, Option.toList_some, List.append_assoc]
  rfl
theorem cur_get {F : List Int} {n k : Nat} (h : F.length = n) (hk : k < n) : (curL F n (k + 1)).getD k 0 = F.getD k 0 := by
  have hl : (F.take (k + 1)).length = k + 1 := by rw [List.length_take]; omega
  unfold curL
  rw [getD_left (by omega), getD_take (by omega)]
attribute [irreducible] rightL fillL shareL curL
end Go.Proofs.Ytabogoonbapjiaa
