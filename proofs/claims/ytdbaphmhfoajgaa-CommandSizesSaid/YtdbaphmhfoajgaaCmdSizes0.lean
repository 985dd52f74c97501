/-
  How long the bytes of a command are; what a command does not ask.
-/
import Derived.Test.YtdbaphmhfoajgaaCmdLaws
namespace Go.Proofs.Ytdbaphmhfoajgaa
open Go.RowKit
set_option linter.unusedVariables false
set_option linter.unusedSimpArgs false

theorem right_kind {k i n s p q l t : Int} {S : List UInt8} (h : rightL k i n s p q l t S = 0) : k = 1 ∨ k = 2 ∨ k = 3 ∨ k = 4 := by
  by_cases h0 : k < 1 ∨ 4 < k
  · unfold rightL at h; rw [if_pos h0] at h; cases h
  · omega
theorem right_2 (i n s p q l t : Int) (S : List UInt8) : rightL 2 i n s p q l t S = if i < 1 ∨ 1099511627776 < i then 1 else 0 := by
  unfold rightL
  simp
theorem right_3 (i n s p q l t : Int) (S : List UInt8) : rightL 3 i n s p q l t S = if i < 1 ∨ 1099511627776 < i then 1 else if q < 1 ∨ 1000000 < q then 24 else 0 := by
  unfold rightL
  simp
theorem right_4 (i n s p q l t : Int) (S : List UInt8) : rightL 4 i n s p q l t S = if i < 1 ∨ 1099511627776 < i then 1 else if q < 1 ∨ 1000000 < q then 24 else if p < -2000000 ∨ 2000000 < p then 23 else 0 := by
  unfold rightL
  simp
/-- What a command does not ask changes nothing. -/
theorem same_2 (i n s p q l t n' s' p' q' l' t' : Int) (S S' : List UInt8) : C.right ⟨2, i, n', s', p', q', l', t', S'⟩ = C.right ⟨2, i, n, s, p, q, l, t, S⟩ ∧ encR ⟨2, i, n', s', p', q', l', t', S'⟩ = encR ⟨2, i, n, s, p, q, l, t, S⟩ := by
  have h : C.right ⟨2, i, n', s', p', q', l', t', S'⟩ = C.right ⟨2, i, n, s, p, q, l, t, S⟩ := (right_2 ..).trans (right_2 ..).symm
  refine ⟨h, ?_⟩
  unfold encR
  rw [h]
  simp [encC]
theorem same_3 (i n s p q l t n' s' p' l' t' : Int) (S S' : List UInt8) : C.right ⟨3, i, n', s', p', q, l', t', S'⟩ = C.right ⟨3, i, n, s, p, q, l, t, S⟩ ∧ encR ⟨3, i, n', s', p', q, l', t', S'⟩ = encR ⟨3, i, n, s, p, q, l, t, S⟩ := by
  have h : C.right ⟨3, i, n', s', p', q, l', t', S'⟩ = C.right ⟨3, i, n, s, p, q, l, t, S⟩ := (right_3 ..).trans (right_3 ..).symm
  refine ⟨h, ?_⟩
  unfold encR
  rw [h]
  simp [encC]
theorem same_4 (i n s p q l t n' s' l' t' : Int) (S S' : List UInt8) : C.right ⟨4, i, n', s', p, q, l', t', S'⟩ = C.right ⟨4, i, n, s, p, q, l, t, S⟩ ∧ encR ⟨4, i, n', s', p, q, l', t', S'⟩ = encR ⟨4, i, n, s, p, q, l, t, S⟩ := by
  have h : C.right ⟨4, i, n', s', p, q, l', t', S'⟩ = C.right ⟨4, i, n, s, p, q, l, t, S⟩ := (right_4 ..).trans (right_4 ..).symm
  refine ⟨h, ?_⟩
  unfold encR
  rw [h]
  simp [encC]
theorem label_short {S : List UInt8} {i n s p q l t : Int} (h : rightL 1 i n s p q l t S = 0) (hS : S.length ≤ 60) : (textL S).length = 1 + S.length := by
  unfold textL
  rw [List.take_of_length_le (by omega), List.length_append, List.length_singleton]
theorem enc_len_1 (i n s p q l t : Int) (S : List UInt8) (hS : S.length ≤ 60) : (encC ⟨1, i, n, s, p, q, l, t, S⟩).length = 37 + S.length ∧ (encC ⟨1, i, n, s, p, q, l, t, S⟩).getD 0 0 = 1 := by
  have e : encC ⟨1, i, n, s, p, q, l, t, S⟩ = [] ++ [byteOf 1] ++ longL i ++ [byteOf n] ++ [byteOf s] ++ [byteOf t] ++ longL p ++ longL q ++ longL l ++ textL S := by simp [encC]
  rw [e]
  refine ⟨?_, by rfl⟩
  have h : (textL S).length = 1 + S.length := by unfold textL; rw [List.take_of_length_le (by omega), List.length_append, List.length_singleton]
  simp only [List.length_append, List.length_nil, longL_len, List.length_singleton, h]
  omega
theorem enc_len_2 (i n s p q l t : Int) (S : List UInt8) : (encC ⟨2, i, n, s, p, q, l, t, S⟩).length = 9 ∧ (encC ⟨2, i, n, s, p, q, l, t, S⟩).getD 0 0 = 2 := by
  have e : encC ⟨2, i, n, s, p, q, l, t, S⟩ = [] ++ [byteOf 2] ++ longL i := by simp [encC]
  rw [e]
  refine ⟨?_, by rfl⟩
  simp only [List.length_append, List.length_nil, longL_len, List.length_singleton]
theorem enc_len_3 (i n s p q l t : Int) (S : List UInt8) : (encC ⟨3, i, n, s, p, q, l, t, S⟩).length = 17 ∧ (encC ⟨3, i, n, s, p, q, l, t, S⟩).getD 0 0 = 3 := by
  have e : encC ⟨3, i, n, s, p, q, l, t, S⟩ = [] ++ [byteOf 3] ++ longL i ++ longL q := by simp [encC]
  rw [e]
  refine ⟨?_, by rfl⟩
  simp only [List.length_append, List.length_nil, longL_len, List.length_singleton]
theorem enc_len_4 (i n s p q l t : Int) (S : List UInt8) : (encC ⟨4, i, n, s, p, q, l, t, S⟩).length = 25 ∧ (encC ⟨4, i, n, s, p, q, l, t, S⟩).getD 0 0 = 4 := by
  have e : encC ⟨4, i, n, s, p, q, l, t, S⟩ = [] ++ [byteOf 4] ++ longL i ++ longL p ++ longL q := by simp [encC]
  rw [e]
  refine ⟨?_, by rfl⟩
  simp only [List.length_append, List.length_nil, longL_len, List.length_singleton]
end Go.Proofs.Ytdbaphmhfoajgaa
