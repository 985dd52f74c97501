/-
  Plain facts under the law IntsSums.
-/
import Derived.Test.YtaoicdpjnlcngaaKnown
import Derived.Test.YtaoicdpjnlcngaaRowPlain
import Derived.Deep.RegionHeld3
namespace Go.Proofs.Ytaoicdpjnlcngaa
open Go.RowKit
set_option linter.unusedVariables false

theorem holds_end {w : World} {A : Option Addr} {n : Nat} {xs : List Int} (h : Holds w A n xs) : Holds w A 0 (xs.drop n) := by
  rw [List.drop_of_length_le (by rw [h.1]; omega)]
  exact holds_none w A
theorem int_info : (Try.prog.info? 2).map (fun i => (i.zero, i.size, i.bytes)) = some (some (.int .i64 0), 1, 8) := by kernel_rfl

theorem rev_step (xs : List Int) (j : Nat) (hj : j < xs.length) : (xs.drop j).reverse = (xs.drop (j + 1)).reverse ++ [xs.getD j 0] := by
  rw [List.drop_eq_getElem_cons hj, List.reverse_cons]
  simp [List.getD, List.getElem?_eq_getElem hj]

theorem place_of (at_ : Int) (n : Nat) : ∃ k : Nat, k ≤ n ∧ ((at_ < 0 ∧ Hid (-(at_ + 1).tmod (↑n + 1) = (k : Int))) ∨ (¬ at_ < 0 ∧ Hid (at_ % (↑n + 1) = (k : Int)))) := by
  by_cases h : at_ < 0
  · have e : -(at_ + 1).tmod (↑n + 1) = (-(at_ + 1)) % ((n : Int) + 1) := by rw [← Int.neg_tmod, Int.tmod_eq_emod_of_nonneg (by omega)]
    have a := Int.emod_nonneg (-(at_ + 1)) (b := (n : Int) + 1) (by omega)
    have b := Int.emod_lt_of_pos (-(at_ + 1)) (b := (n : Int) + 1) (by omega)
    exact ⟨((-(at_ + 1)) % ((n : Int) + 1)).toNat, by omega, .inl ⟨h, Lib.hid (by rw [e]; omega)⟩⟩
  · have a := Int.emod_nonneg at_ (b := (n : Int) + 1) (by omega)
    have b := Int.emod_lt_of_pos at_ (b := (n : Int) + 1) (by omega)
    exact ⟨(at_ % ((n : Int) + 1)).toNat, by omega, .inr ⟨h, Lib.hid (by omega)⟩⟩
theorem sumL_rev (l : List Int) : sumL l.reverse = sumL l := by
  induction l with
  | nil => rfl
  | cons x l ih => rw [List.reverse_cons, sumL_append, ih]; simp only [sumL]; omega

theorem sum_more (x : Int) (l : List Int) (k : Nat) : sumL ([x] ++ l.take k ++ [-x] ++ l.drop k) = sumL l := by
  have e : sumL l = sumL (l.take k) + sumL (l.drop k) := by rw [← sumL_append, List.take_append_drop]
  rw [sumL_append, sumL_append, sumL_append, e]
  simp only [sumL]; omega
theorem mem_more {x y : Int} {l : List Int} {k : Nat} (h : y ∈ [x] ++ l.take k ++ [-x] ++ l.drop k) (hx : I64 x ∧ I64 (-x)) (hl : ∀ y ∈ l, I64 y) : I64 y := by
  simp only [List.mem_append, List.mem_singleton] at h
  rcases h with ((h | h) | h) | h
  · rw [h]; exact hx.1
  · exact hl y (List.mem_of_mem_take h)
  · rw [h]; exact hx.2
  · exact hl y (List.mem_of_mem_drop h)

end Go.Proofs.Ytaoicdpjnlcngaa
