/-
  Contracts of both Frames, for whatever bytes; what the laws on frames do with rows.
-/
import Derived.Test.YtnjedfnaohdnfaaCrcRows
import Derived.Test.YtnjedfnaohdnfaaTwo
namespace Go.Proofs.Ytnjedfnaohdnfaa
open Go.RowKit
set_option linter.unusedVariables false
set_option linter.unusedSimpArgs false

/-- What a Frame answers. -/
def frL (l : List UInt8) : List UInt8 := if 255 < l.length then [] else frameL l
def frE (l : List UInt8) : Nat := if 255 < l.length then 3 else 0
theorem frL_big {l : List UInt8} (h : 255 < l.length) : frL l = [] := if_pos h
theorem frE_big {l : List UInt8} (h : 255 < l.length) : frE l = 3 := if_pos h
theorem frL_small {l : List UInt8} (h : ¬ 255 < l.length) : frL l = frameL l := if_neg h
theorem frE_small {l : List UInt8} (h : ¬ 255 < l.length) : frE l = 0 := if_neg h
theorem frL_len (l : List UInt8) : (frL l).length ≤ 261 := by
  by_cases h : 255 < l.length
  · rw [frL_big h]; simp
  · rw [frL_small h, frameL_len]; omega
theorem frE_le (l : List UInt8) : frE l ≤ 3 := by unfold frE; split <;> omega

theorem Frame_all (A : Option Addr) (n cap : Nat) (l : List UInt8) (w : World) (hn : n ≤ 140737488355328) (hA : A = none → cap = 0) (h : Hid (HB w A n l)) :
    Calls Try.prog 9 #[.slice A n cap] w fun e w' => ∃ v, e = .returned (.tuple #[v, .int .i64 (frE l)]) ∧ RB w' w.heap.size v (frL l) ∧ Below w.heap.size w w' := by
  by_cases hl : 255 < l.length
  · rw [frL_big hl, frE_big hl]
    refine (Frame_long A n cap w hn (by rw [← h.out.1]; exact hl)).mono ?_
    rintro e w' ⟨rfl, rfl⟩
    exact ⟨_, rfl, rb_nil _ _, Below.refl _ _⟩
  · rw [frL_small hl, frE_small hl]
    exact Frame_any A n cap l w (by rw [← h.out.1]; omega) hA h
theorem RefFrame_all (A : Option Addr) (n cap : Nat) (l : List UInt8) (w : World) (hn : n ≤ 140737488355328) (hA : A = none → cap = 0) (h : Hid (HB w A n l)) :
    Calls Try.prog 21 #[.slice A n cap] w fun e w' => ∃ v, e = .returned (.tuple #[v, .int .i64 (frE l)]) ∧ RB w' w.heap.size v (frL l) ∧ Below w.heap.size w w' := by
  by_cases hl : 255 < l.length
  · rw [frL_big hl, frE_big hl]
    refine (RefFrame_long A n cap w hn (by rw [← h.out.1]; exact hl)).mono ?_
    rintro e w' ⟨rfl, rfl⟩
    exact ⟨_, rfl, rb_nil _ _, Below.refl _ _⟩
  · rw [frL_small hl, frE_small hl]
    exact RefFrame_any A n cap l w (by rw [← h.out.1]; omega) hA h
theorem HB.str {w : World} {A : Option Addr} {n : Nat} {l : List UInt8} (h : HB w A n l) (c : Nat) :
    (convert 22 9 (.slice A n c)).run Try.prog w = .ok (.string (str l)) w := by
  have e := h.1
  subst e
  exact h.string c
/-- A row of the call's own, as a slice that reads as its list. -/
theorem RB.slice {w : World} {base : Nat} {v : Value} {l : List UInt8} (h : RB w base v l) : ∃ A n cap, v = .slice A n cap ∧ HB w A n l ∧ (A = none → cap = 0) ∧ n ≤ cap ∧ cap ≤ 9223372036854775807 ∧ l.length = n := by
  obtain ⟨A, cap, e, H, h1, h2, h3⟩ := h.holds
  simp only [maxLen] at h2
  exact ⟨A, _, cap, e, H, h1, h3, by omega, rfl⟩
/-- One byte turned. -/
def turnL (l : List UInt8) (j : Nat) (t : UInt8) : List UInt8 := l.set j (l.getD j 0 ^^^ t)
theorem turnL_len (l : List UInt8) (j : Nat) (t : UInt8) : (turnL l j t).length = l.length := by unfold turnL; simp
end Go.Proofs.Ytnjedfnaohdnfaa
