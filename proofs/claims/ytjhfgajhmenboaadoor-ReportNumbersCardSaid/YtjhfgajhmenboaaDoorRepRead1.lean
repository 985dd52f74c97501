/-
  What is read of frames, plain.
-/
import Derived.Test.YtjhfgajhmenboaaDoorRepRow
import Derived.Test.YtjhfgajhmenboaaDoorRepRead
import Derived.Test.YtjhfgajhmenboaaDoorRefOpen2
namespace Go.Proofs.YtjhfgajhmenboaaDoor
open Go.RowKit
set_option linter.unusedVariables false
set_option linter.unusedSimpArgs false

/-- What is read from place k on, at most so many frames: the reports, the number. -/
def rdFrom (l : List UInt8) : Nat → Nat → List Q × Nat
  | 0, _ => ([], 0)
  | f + 1, k =>
    if k < l.length then
      if (openR l (k : Int)).2.2 ≠ 0 then ([], (openR l (k : Int)).2.2)
      else if decOk (openR l (k : Int)).1 then (readQ (openR l (k : Int)).1 :: (rdFrom l f (openR l (k : Int)).2.1).1, (rdFrom l f (openR l (k : Int)).2.1).2)
      else ([], 12)
    else ([], 0)
/-- What Read answers. -/
def readL (l : List UInt8) : List Q × Nat := rdFrom l (l.length + 1) 0
theorem rdFrom_end {l : List UInt8} {f k : Nat} (h : ¬ k < l.length) : rdFrom l f k = ([], 0) := by
  cases f with
  | zero => rfl
  | succ f => rw [rdFrom, if_neg h]
theorem rdFrom_bad {l : List UInt8} {f k : Nat} (h : k < l.length) (h1 : (openR l (k : Int)).2.2 ≠ 0) : rdFrom l (f + 1) k = ([], (openR l (k : Int)).2.2) := by
  rw [rdFrom, if_pos h, if_pos h1]
theorem rdFrom_form {l : List UInt8} {f k : Nat} (h : k < l.length) (h1 : (openR l (k : Int)).2.2 = 0) (h2 : ¬ decOk (openR l (k : Int)).1) : rdFrom l (f + 1) k = ([], 12) := by
  rw [rdFrom, if_pos h, if_neg (by rw [h1]; simp), if_neg h2]
theorem rdFrom_next {l : List UInt8} {f k : Nat} (h : k < l.length) (h1 : (openR l (k : Int)).2.2 = 0) (h2 : decOk (openR l (k : Int)).1) :
    rdFrom l (f + 1) k = (readQ (openR l (k : Int)).1 :: (rdFrom l f (openR l (k : Int)).2.1).1, (rdFrom l f (openR l (k : Int)).2.1).2) := by
  rw [rdFrom, if_pos h, if_neg (by rw [h1]; simp), if_pos h2]
theorem rdFrom_ok (l : List UInt8) : ∀ f k, OkL (rdFrom l f k).1 := by
  intro f
  induction f with
  | zero => intro k r hr; cases hr
  | succ f ih =>
    intro k
    by_cases h : k < l.length
    · by_cases h1 : (openR l (k : Int)).2.2 = 0
      · by_cases h2 : decOk (openR l (k : Int)).1
        · rw [rdFrom_next h h1 h2]
          intro r hr
          rcases List.mem_cons.1 hr with rfl | hr
          · exact readQ_ok _
          · exact ih _ r hr
        · rw [rdFrom_form h h1 h2]; intro r hr; cases hr
      · rw [rdFrom_bad h h1]; intro r hr; cases hr
    · rw [rdFrom_end h]; intro r hr; cases hr
theorem readL_ok (l : List UInt8) : OkL (readL l).1 := rdFrom_ok l _ _
theorem rdFrom_len (l : List UInt8) : ∀ f k, (rdFrom l f k).1.length ≤ f := by
  intro f
  induction f with
  | zero => intro k; exact Nat.le_refl _
  | succ f ih =>
    intro k
    by_cases h : k < l.length
    · by_cases h1 : (openR l (k : Int)).2.2 = 0
      · by_cases h2 : decOk (openR l (k : Int)).1
        · rw [rdFrom_next h h1 h2]
          have := ih (openR l (k : Int)).2.1
          simp only [List.length_cons]; omega
        · rw [rdFrom_form h h1 h2]; exact Nat.zero_le _
      · rw [rdFrom_bad h h1]; exact Nat.zero_le _
    · rw [rdFrom_end h]; exact Nat.zero_le _
theorem readL_len (l : List UInt8) : (readL l).1.length ≤ l.length + 1 := rdFrom_len l _ _
/-- Where a frame was opened the place behind it is further on, and no further than the end. -/
theorem openR_on {l : List UInt8} {k : Nat} (hk : k ≤ l.length) (h : (openR l (k : Int)).2.2 = 0) : k < (openR l (k : Int)).2.1 ∧ (openR l (k : Int)).2.1 ≤ l.length ∧ (openR l (k : Int)).1.length ≤ 255 := by
  rw [openR_at hk] at h ⊢
  unfold openN at h ⊢
  split at h
  · simp at h
  · split at h
    · simp at h
    · split at h
      · simp at h
      · split at h
        · simp at h
        · rename_i a1 a2 a3 a4
          rw [if_neg a1, if_neg a2, if_neg a3, if_neg a4]
          have := (l.getD k 0).toNat_lt
          refine ⟨by simp only; omega, by simp only; omega, ?_⟩
          simp only [List.length_take, List.length_drop]
          omega
theorem openR_code {l : List UInt8} {k : Nat} : (openR l (k : Int)).2.2 ≤ 14 := by
  unfold openR openN
  split
  · simp
  · split
    · simp
    · split
      · simp
      · split
        · simp
        · split <;> simp
end Go.Proofs.YtjhfgajhmenboaaDoor
