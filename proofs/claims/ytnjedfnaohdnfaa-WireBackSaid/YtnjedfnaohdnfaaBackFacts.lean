/-
  What the law WireBack writes, part by part, and reads.
-/
import Derived.Test.YtnjedfnaohdnfaaParts
import Derived.Test.YtnjedfnaohdnfaaWireFacts
namespace Go.Proofs.Ytnjedfnaohdnfaa
open Go.RowKit
set_option linter.unusedVariables false
set_option linter.unusedSimpArgs false

def partB (N : Int) (S : List UInt8) : List UInt8 := [byteOf N] ++ (longL N ++ textL S)
theorem partB_len (N : Int) (S : List UInt8) : (partB N S).length = 9 + (1 + (S.take 255).length) := by
  unfold partB textL
  simp only [List.length_append, List.length_cons, List.length_nil, longL_len]
  omega
def catB (N : Nat → Int) (S : Nat → List UInt8) : Nat → List UInt8
  | 0 => []
  | k + 1 => catB N S k ++ partB (N k) (S k)
theorem catB_len (N : Nat → Int) (S : Nat → List UInt8) (k : Nat) : (catB N S k).length ≤ 270 * k := by
  induction k with
  | zero => simp [catB]
  | succ k ih =>
    show (catB N S k ++ partB (N k) (S k)).length ≤ _
    rw [List.length_append, partB_len, List.length_take]
    omega
theorem catB_next (N : Nat → Int) (S : Nat → List UInt8) (k : Nat) : catB N S (k + 1) = catB N S k ++ partB (N k) (S k) := rfl
theorem catB_split (N : Nat → Int) (S : Nat → List UInt8) {k M : Nat} (h : k < M) : ∃ r, catB N S M = catB N S k ++ (partB (N k) (S k) ++ r) := by
  induction M with
  | zero => omega
  | succ M ih =>
    by_cases e : k = M
    · subst e
      exact ⟨[], by rw [catB_next, List.append_nil]⟩
    · obtain ⟨r, hr⟩ := ih (by omega)
      refine ⟨r ++ partB (N M) (S M), ?_⟩
      rw [catB_next, hr]
      simp
theorem textL_cut255 (S : List UInt8) : textL (S.take 255) = textL S := by
  unfold textL; rw [List.take_take]; rfl
theorem written_text (xs S : List UInt8) : xs ++ [UInt8.ofNat ((S.take 255).take 255).length] ++ (S.take 255).take 255 = xs ++ textL S := by
  rw [List.append_assoc]
  show xs ++ textL (S.take 255) = _
  rw [textL_cut255]

/-- Three reads of what was written. -/
theorem read_byte (a r : List UInt8) (N : Int) (S : List UInt8) : rdTake (a ++ (partB N S ++ r)) a.length 0 1 = ([byteOf N], a.length + 1, 0) := by
  have := take_at a [byteOf N] ((longL N ++ textL S) ++ r)
  unfold partB
  rw [List.append_assoc [byteOf N]]
  exact this
theorem read_long (a r : List UInt8) (N : Int) (S : List UInt8) : rdTake (a ++ (partB N S ++ r)) (a.length + 1) 0 8 = (longL N, a.length + 9, 0) := by
  have := take_at (a ++ [byteOf N]) (longL N) (textL S ++ r)
  rw [longL_len, List.length_append] at this
  have e : a ++ (partB N S ++ r) = (a ++ [byteOf N]) ++ (longL N ++ (textL S ++ r)) := by unfold partB; simp
  rw [e]
  exact this
theorem read_text (a r : List UInt8) (N : Int) (S : List UInt8) : rdText (a ++ (partB N S ++ r)) (a.length + 9) 0 = (S.take 255, a.length + (partB N S).length, 0) := by
  have hl : (S.take 255).length ≤ 255 := by rw [List.length_take]; omega
  have e : a ++ (partB N S ++ r) = ((a ++ [byteOf N]) ++ longL N) ++ ([UInt8.ofNat (S.take 255).length] ++ (S.take 255 ++ r)) := by unfold partB textL; simp
  have e2 : a ++ (partB N S ++ r) = (((a ++ [byteOf N]) ++ longL N) ++ [UInt8.ofNat (S.take 255).length]) ++ (S.take 255 ++ r) := by unfold partB textL; simp
  have n1 : ((a ++ [byteOf N]) ++ longL N).length = a.length + 9 := by simp [longL_len]
  have n2 : (((a ++ [byteOf N]) ++ longL N) ++ [UInt8.ofNat (S.take 255).length]).length = a.length + 10 := by simp [longL_len]
  have t1 := take_at ((a ++ [byteOf N]) ++ longL N) [UInt8.ofNat (S.take 255).length] (S.take 255 ++ r)
  rw [n1, ← e] at t1
  have t2 := take_at (((a ++ [byteOf N]) ++ longL N) ++ [UInt8.ofNat (S.take 255).length]) (S.take 255) r
  rw [n2, ← e2] at t2
  have hh : headN [UInt8.ofNat (S.take 255).length] = (S.take 255).length := by rw [headN_one]; exact u8_nat (by omega)
  have t1' : rdTake (a ++ (partB N S ++ r)) (a.length + 9) 0 1 = ([UInt8.ofNat (S.take 255).length], a.length + 9 + 1, 0) := t1
  unfold rdText
  rw [t1']
  show rdTake (a ++ (partB N S ++ r)) (a.length + 9 + 1) 0 (headN [UInt8.ofNat (S.take 255).length]) = _
  rw [hh, show a.length + 9 + 1 = a.length + 10 by omega, t2, partB_len]
  congr 2
  omega
end Go.Proofs.Ytnjedfnaohdnfaa
