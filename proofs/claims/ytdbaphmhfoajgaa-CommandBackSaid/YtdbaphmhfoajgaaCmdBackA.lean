/-
  Plain facts: what is written is read, and what is read is written.
-/
import Derived.Test.YtdbaphmhfoajgaaCmdLaws
namespace Go.Proofs.Ytdbaphmhfoajgaa
open Go.RowKit
set_option linter.unusedVariables false
set_option linter.unusedSimpArgs false

theorem right_kind {k i n s p q l t : Int} {S : List UInt8} (h : rightL k i n s p q l t S = 0) : k = 1 ∨ k = 2 ∨ k = 3 ∨ k = 4 := by
  by_cases h0 : k < 1 ∨ 4 < k
  · unfold rightL at h; rw [if_pos h0] at h; cases h
  · omega
theorem right_2 (i n s p q l t : Int) (S : List UInt8) : rightL 2 i n s p q l t S = if i < 1 ∨ 1099511627776 < i then 1 else 0 := by
  unfold rightL
  simp
theorem right_3 (i n s p q l t : Int) (S : List UInt8) : rightL 3 i n s p q l t S = if i < 1 ∨ 1099511627776 < i then 1 else if q < 1 ∨ 1000000 < q then 24 else 0 := by
  unfold rightL
  simp
theorem right_4 (i n s p q l t : Int) (S : List UInt8) : rightL 4 i n s p q l t S = if i < 1 ∨ 1099511627776 < i then 1 else if q < 1 ∨ 1000000 < q then 24 else if p < -2000000 ∨ 2000000 < p then 23 else 0 := by
  unfold rightL
  simp
/-- What a command does not ask changes nothing. -/
theorem same_2 (i n s p q l t n' s' p' q' l' t' : Int) (S S' : List UInt8) : C.right ⟨2, i, n', s', p', q', l', t', S'⟩ = C.right ⟨2, i, n, s, p, q, l, t, S⟩ ∧ encR ⟨2, i, n', s', p', q', l', t', S'⟩ = encR ⟨2, i, n, s, p, q, l, t, S⟩ := by
  have h : C.right ⟨2, i, n', s', p', q', l', t', S'⟩ = C.right ⟨2, i, n, s, p, q, l, t, S⟩ := (right_2 ..).trans (right_2 ..).symm
  refine ⟨h, ?_⟩
  unfold encR
  rw [h]
  simp [encC]
theorem same_3 (i n s p q l t n' s' p' l' t' : Int) (S S' : List UInt8) : C.right ⟨3, i, n', s', p', q, l', t', S'⟩ = C.right ⟨3, i, n, s, p, q, l, t, S⟩ ∧ encR ⟨3, i, n', s', p', q, l', t', S'⟩ = encR ⟨3, i, n, s, p, q, l, t, S⟩ := by
  have h : C.right ⟨3, i, n', s', p', q, l', t', S'⟩ = C.right ⟨3, i, n, s, p, q, l, t, S⟩ := (right_3 ..).trans (right_3 ..).symm
  refine ⟨h, ?_⟩
  unfold encR
  rw [h]
  simp [encC]
theorem same_4 (i n s p q l t n' s' l' t' : Int) (S S' : List UInt8) : C.right ⟨4, i, n', s', p, q, l', t', S'⟩ = C.right ⟨4, i, n, s, p, q, l, t, S⟩ ∧ encR ⟨4, i, n', s', p, q, l', t', S'⟩ = encR ⟨4, i, n, s, p, q, l, t, S⟩ := by
  have h : C.right ⟨4, i, n', s', p, q, l', t', S'⟩ = C.right ⟨4, i, n, s, p, q, l, t, S⟩ := (right_4 ..).trans (right_4 ..).symm
  refine ⟨h, ?_⟩
  unfold encR
  rw [h]
  simp [encC]
theorem label_short {S : List UInt8} {i n s p q l t : Int} (h : rightL 1 i n s p q l t S = 0) (hS : S.length ≤ 60) : (textL S).length = 1 + S.length := by
  unfold textL
  rw [List.take_of_length_le (by omega), List.length_append, List.length_singleton]
theorem enc_len_1 (i n s p q l t : Int) (S : List UInt8) (hS : S.length ≤ 60) : (encC ⟨1, i, n, s, p, q, l, t, S⟩).length = 37 + S.length ∧ (encC ⟨1, i, n, s, p, q, l, t, S⟩).getD 0 0 = 1 := by
  have e : encC ⟨1, i, n, s, p, q, l, t, S⟩ = [] ++ [byteOf 1] ++ longL i ++ [byteOf n] ++ [byteOf s] ++ [byteOf t] ++ longL p ++ longL q ++ longL l ++ textL S := by simp [encC]
  rw [e]
  refine ⟨?_, by rfl⟩
  have h : (textL S).length = 1 + S.length := by unfold textL; rw [List.take_of_length_le (by omega), List.length_append, List.length_singleton]
  simp only [List.length_append, List.length_nil, longL_len, List.length_singleton, h]
  omega
theorem enc_len_2 (i n s p q l t : Int) (S : List UInt8) : (encC ⟨2, i, n, s, p, q, l, t, S⟩).length = 9 ∧ (encC ⟨2, i, n, s, p, q, l, t, S⟩).getD 0 0 = 2 := by
  have e : encC ⟨2, i, n, s, p, q, l, t, S⟩ = [] ++ [byteOf 2] ++ longL i := by simp [encC]
  rw [e]
  refine ⟨?_, by rfl⟩
  simp only [List.length_append, List.length_nil, longL_len, List.length_singleton]
theorem enc_len_3 (i n s p q l t : Int) (S : List UInt8) : (encC ⟨3, i, n, s, p, q, l, t, S⟩).length = 17 ∧ (encC ⟨3, i, n, s, p, q, l, t, S⟩).getD 0 0 = 3 := by
  have e : encC ⟨3, i, n, s, p, q, l, t, S⟩ = [] ++ [byteOf 3] ++ longL i ++ longL q := by simp [encC]
  rw [e]
  refine ⟨?_, by rfl⟩
  simp only [List.length_append, List.length_nil, longL_len, List.length_singleton]
theorem enc_len_4 (i n s p q l t : Int) (S : List UInt8) : (encC ⟨4, i, n, s, p, q, l, t, S⟩).length = 25 ∧ (encC ⟨4, i, n, s, p, q, l, t, S⟩).getD 0 0 = 4 := by
  have e : encC ⟨4, i, n, s, p, q, l, t, S⟩ = [] ++ [byteOf 4] ++ longL i ++ longL p ++ longL q := by simp [encC]
  rw [e]
  refine ⟨?_, by rfl⟩
  simp only [List.length_append, List.length_nil, longL_len, List.length_singleton]
theorem numL_long (u : Nat) (k : Nat) : numL (longTo u k) = u % 256 ^ k := by
  induction k with
  | zero => simp [longTo, numL, Nat.mod_one]
  | succ k ih =>
    rw [longTo_next, numL_append, ih, longTo_len]
    simp only [numL, byte_nat']
    rw [Nat.pow_mul, show (2 : Nat) ^ 8 = 256 by decide, Nat.mul_zero, Nat.add_zero, Nat.pow_succ, Nat.mod_mul]
theorem long_back {n : Int} (h1 : -9223372036854775808 ≤ n) (h2 : n ≤ 9223372036854775807) : wrap64 (numL (longL n) : Nat) = n := by
  have hb : bits64 n < 18446744073709551616 := by
    have := Int.emod_lt_of_pos n (show (0 : Int) < 18446744073709551616 by omega)
    have := Int.emod_nonneg n (show (18446744073709551616 : Int) ≠ 0 by omega)
    unfold bits64; omega
  have e : numL (longL n) = bits64 n := by
    unfold longL
    rw [numL_long, show (256 : Nat) ^ 8 = 18446744073709551616 by decide, Nat.mod_eq_of_lt hb]
  rw [e]
  unfold bits64
  have := Int.emod_nonneg n (show (18446744073709551616 : Int) ≠ 0 by omega)
  have := Int.emod_lt_of_pos n (show (0 : Int) < 18446744073709551616 by omega)
  unfold wrap64
  omega
theorem take_step {l T : List UInt8} {k y m k' : Nat} (h : rdTake l k y m = (T, k', 0)) : y = 0 ∧ k + m ≤ l.length ∧ T = (l.drop k).take m ∧ k' = k + m := by
  unfold rdTake at h
  split at h
  · simp only [Prod.mk.injEq] at h; omega
  · split at h
    · simp only [Prod.mk.injEq] at h; omega
    · simp only [Prod.mk.injEq] at h
      exact ⟨by omega, by omega, h.1.symm, h.2.1.symm⟩
/-- A part that is read is a piece of the bytes. -/
theorem piece {l T : List UInt8} {k y m k' : Nat} (h : rdTake l k y m = (T, k', 0)) : y = 0 ∧ T.length = m ∧ l.drop k = T ++ l.drop k' := by
  obtain ⟨h1, h2, rfl, rfl⟩ := take_step h
  refine ⟨h1, by rw [List.length_take, List.length_drop]; omega, ?_⟩
  rw [← List.drop_drop]
  exact (List.take_append_drop m (l.drop k)).symm
theorem take_here {l x r : List UInt8} {k : Nat} (hk : k ≤ l.length) (h : l.drop k = x ++ r) : rdTake l k 0 x.length = (x, k + x.length, 0) ∧ l.drop (k + x.length) = r ∧ k + x.length ≤ l.length := by
  have hl := congrArg List.length h
  rw [List.length_drop, List.length_append] at hl
  refine ⟨?_, ?_, by omega⟩
  · rw [rdTake_yes (by omega), h, List.take_left' rfl]
  · rw [← List.drop_drop, h, List.drop_left' rfl]
theorem longTo_cons (u k : Nat) : longTo u (k + 1) = UInt8.ofNat (u % 256) :: longTo (u / 256) k := by
  unfold longTo
  rw [List.range_succ_eq_map, List.map_cons, List.map_map]
  congr 1
  · simp
  · apply List.map_congr_left
    intro j _
    show UInt8.ofNat (u / 2 ^ (8 * (j + 1)) % 256) = UInt8.ofNat (u / 256 / 2 ^ (8 * j) % 256)
    rw [Nat.div_div_eq_div_mul, show 2 ^ (8 * (j + 1)) = 256 * 2 ^ (8 * j) by rw [Nat.mul_add, Nat.pow_add, Nat.mul_comm]]
theorem longTo_num (T : List UInt8) : longTo (numL T) T.length = T := by
  induction T with
  | nil => rfl
  | cons b l ih =>
    rw [List.length_cons, longTo_cons]
    have hb := b.toNat_lt
    have e1 : (b.toNat + 256 * numL l) % 256 = b.toNat := by omega
    have e2 : (b.toNat + 256 * numL l) / 256 = numL l := by omega
    show UInt8.ofNat ((b.toNat + 256 * numL l) % 256) :: longTo ((b.toNat + 256 * numL l) / 256) l.length = b :: l
    rw [e1, e2, ih]
    simp
/-- Eight bytes that are read as a number are what is written of it. -/
theorem long_forth {T : List UInt8} (h : T.length = 8) : longL (wrap64 (numL T : Nat)) = T := by
  have hlt := numL_lt T
  rw [h, show (256 : Nat) ^ 8 = 18446744073709551616 by decide] at hlt
  have e : bits64 (wrap64 (numL T : Nat)) = numL T := by
    unfold bits64 wrap64
    omega
  unfold longL
  rw [e, ← h, longTo_num]
theorem byte_forth {T : List UInt8} (h : T.length = 1) : [byteOf (headN T : Nat)] = T := by
  match T, h with
  | [x], _ =>
    rw [headN_one]
    have hx := x.toNat_lt
    rw [byteOf_small (by omega)]
    simp
theorem byte_back {n : Int} (h0 : 0 ≤ n) (h1 : n ≤ 255) : ((headN [byteOf n] : Nat) : Int) = n := by
  rw [headN_one, byteOf_nat]
  omega
theorem end_zero {l : List UInt8} {k y : Nat} (h : rdEnd l k y = 0) : y = 0 ∧ l.drop k = [] := by
  unfold rdEnd at h
  split at h
  · omega
  · split at h
    · cases h
    · exact ⟨by omega, List.drop_eq_nil_of_le (by omega)⟩
theorem eta3 {α : Type} (x : α × Nat × Nat) (h : x.2.2 = 0) : x = (x.1, x.2.1, 0) := by
  obtain ⟨a, b, c⟩ := x
  simp only at h
  rw [h]
theorem wrap_i64 (n : Int) : I64 (wrap64 n) := by
  unfold I64 wrap64
  omega
theorem head_i64 (T : List UInt8) : I64 ((headN T : Nat) : Int) := by
  have := headN_le T
  unfold I64
  omega
theorem readV_ok (l : List UInt8) (k y : Nat) (z : Int) : (readV l k y z).Ok := by
  have hs := readV_short l k y z
  have z0 : I64 0 := ⟨by decide, by decide⟩
  have zk : ∀ j : Int, 0 ≤ j → j ≤ 9 → I64 j := fun j a b => ⟨by omega, by omega⟩
  have hS : (readV l k y z).k = 1 → (readV l k y z).S.length ≤ 140737488355328 := fun _ => Nat.le_trans hs (by omega)
  clear hs
  by_cases h1 : z = 1
  · subst h1
    rw [readV_1] at hS ⊢
    exact ⟨zk 1 (by decide) (by decide), wrap_i64 _, head_i64 _, head_i64 _, wrap_i64 _, wrap_i64 _, wrap_i64 _, head_i64 _, hS⟩
  · by_cases h2 : z = 2
    · subst h2
      rw [readV_2] at hS ⊢
      exact ⟨zk 2 (by decide) (by decide), wrap_i64 _, z0, z0, z0, z0, z0, z0, hS⟩
    · by_cases h3 : z = 3
      · subst h3
        rw [readV_3] at hS ⊢
        exact ⟨zk 3 (by decide) (by decide), wrap_i64 _, z0, z0, z0, wrap_i64 _, z0, z0, hS⟩
      · have e : readV l k y z = _ := (if_neg h1).trans ((if_neg h2).trans (if_neg h3))
        rw [e] at hS ⊢
        exact ⟨zk 4 (by decide) (by decide), wrap_i64 _, z0, z0, wrap_i64 _, wrap_i64 _, z0, z0, hS⟩
theorem text_forth {l S : List UInt8} {k y k' : Nat} (h : rdText l k y = (S, k', 0)) : y = 0 ∧ l.drop k = textL S ++ l.drop k' := by
  unfold rdText at h
  obtain ⟨T, ka, ya, e⟩ : ∃ T ka ya, rdTake l k y 1 = (T, ka, ya) := ⟨_, _, _, rfl⟩
  rw [e] at h
  simp only at h
  obtain ⟨h1, h2, h3⟩ := piece h
  subst h1
  obtain ⟨g1, g2, g3⟩ := piece e
  refine ⟨g1, ?_⟩
  have hh := headN_le T
  have hT := byte_forth g2
  rw [g3, h3]
  unfold textL
  rw [List.take_of_length_le (by omega), h2]
  rw [byteOf_small (by omega)] at hT
  rw [hT, List.append_assoc]
theorem text_here {l S r : List UInt8} {k : Nat} (hk : k ≤ l.length) (hS : S.length ≤ 255) (h : l.drop k = textL S ++ r) : rdText l k 0 = (S, k + (1 + S.length), 0) ∧ l.drop (k + (1 + S.length)) = r ∧ k + (1 + S.length) ≤ l.length := by
  have e : textL S = [UInt8.ofNat S.length] ++ S := by unfold textL; rw [List.take_of_length_le (by omega)]
  rw [e, List.append_assoc] at h
  obtain ⟨t1, d1, b1⟩ := take_here hk h
  simp only [List.length_singleton] at t1 d1 b1
  obtain ⟨t2, d2, b2⟩ := take_here b1 d1
  have hh : headN [UInt8.ofNat S.length] = S.length := by
    have := byte_back (n := S.length) (by omega) (by omega)
    rw [byteOf_small (by omega)] at this
    omega
  refine ⟨?_, by rw [← Nat.add_assoc]; exact d2, by omega⟩
  unfold rdText
  rw [t1]
  simp only [hh]
  rw [t2, Nat.add_assoc]
theorem dec_no {l : List UInt8} (h : (decC l).2 ≠ 0) : (decC l).1 = zeroC := by
  by_cases hz : kindZ l < 1 ∨ 4 < kindZ l
  · rw [show decC l = (zeroC, 31) from if_pos hz]
  · by_cases hE : rdEnd l (bodyP l).1 (bodyP l).2 = 0
    · by_cases hR : (bodyV l).right = 0
      · rw [show decC l = (bodyV l, 0) from (if_neg hz).trans ((if_neg (fun e => e hE)).trans (if_neg (fun e => e hR)))] at h
        exact absurd rfl h
      · rw [show decC l = (zeroC, (bodyV l).right) from (if_neg hz).trans ((if_neg (fun e => e hE)).trans (if_pos hR))]
    · rw [show decC l = (zeroC, 12) from (if_neg hz).trans (if_pos hE)]
theorem dec_yes {l : List UInt8} (h : (decC l).2 = 0) : ¬ (kindZ l < 1 ∨ 4 < kindZ l) ∧ rdEnd l (bodyP l).1 (bodyP l).2 = 0 ∧ (bodyV l).right = 0 ∧ (decC l).1 = bodyV l := by
  by_cases hz : kindZ l < 1 ∨ 4 < kindZ l
  · rw [show decC l = (zeroC, 31) from if_pos hz] at h
    cases h
  · by_cases hE : rdEnd l (bodyP l).1 (bodyP l).2 = 0
    · by_cases hR : (bodyV l).right = 0
      · exact ⟨hz, hE, hR, by rw [show decC l = (bodyV l, 0) from (if_neg hz).trans ((if_neg (fun e => e hE)).trans (if_neg (fun e => e hR)))]⟩
      · rw [show decC l = (zeroC, (bodyV l).right) from (if_neg hz).trans ((if_neg (fun e => e hE)).trans (if_pos hR))] at h
        exact absurd h hR
    · rw [show decC l = (zeroC, 12) from (if_neg hz).trans (if_pos hE)] at h
      cases h
theorem forth_1 {l : List UInt8} (hk : kindZ l = 1) (hE : rdEnd l (bodyP l).1 (bodyP l).2 = 0) : encC (bodyV l) = l := by
  have e2 : bodyV l = readV l (kindP l).1 (kindP l).2 1 := by unfold bodyV; rw [hk]
  have e3 : bodyP l = readP l (kindP l).1 (kindP l).2 1 := by unfold bodyP; rw [hk]
  rw [readP_1] at e3
  rw [e3] at hE
  rw [e2, readV_1]
  clear e2 e3
  obtain ⟨hy, hend⟩ := end_zero hE
  obtain ⟨g7, q7⟩ := text_forth (show rdText l _ _ = _ from eta3 (dX l (kindP l).1 (kindP l).2) hy)
  obtain ⟨g6, n6, q6⟩ := piece (show rdTake l _ _ 8 = _ from eta3 (dL l (kindP l).1 (kindP l).2) g7)
  obtain ⟨g5, n5, q5⟩ := piece (show rdTake l _ _ 8 = _ from eta3 (dQ l (kindP l).1 (kindP l).2) g6)
  obtain ⟨g4, n4, q4⟩ := piece (show rdTake l _ _ 8 = _ from eta3 (dP l (kindP l).1 (kindP l).2) g5)
  obtain ⟨g3, n3, q3⟩ := piece (show rdTake l _ _ 1 = _ from eta3 (dT l (kindP l).1 (kindP l).2) g4)
  obtain ⟨g2, n2, q2⟩ := piece (show rdTake l _ _ 1 = _ from eta3 (dS l (kindP l).1 (kindP l).2) g3)
  obtain ⟨g1, n1, q1⟩ := piece (show rdTake l _ _ 1 = _ from eta3 (dN l (kindP l).1 (kindP l).2) g2)
  obtain ⟨g0, n0, q0⟩ := piece (show rdTake l _ _ 8 = _ from eta3 (dI l (kindP l).1 (kindP l).2) g1)
  obtain ⟨-, n', q'⟩ := piece (show rdTake l 0 0 1 = _ from eta3 (rdTake l 0 0 1) g0)
  have hb : [byteOf 1] = (rdTake l 0 0 1).1 := by
    have := byte_forth n'
    rw [show ((headN (rdTake l 0 0 1).1 : Nat) : Int) = 1 from hk] at this
    exact this
  rw [List.drop_zero] at q'
  replace q' : l = (rdTake l 0 0 1).1 ++ l.drop (kindP l).1 := q'
  have e0 : encC ⟨1, (wrap64 (numL (dI l (kindP l).1 (kindP l).2).1)), ((headN (dN l (kindP l).1 (kindP l).2).1 : Nat) : Int), ((headN (dS l (kindP l).1 (kindP l).2).1 : Nat) : Int), (wrap64 (numL (dP l (kindP l).1 (kindP l).2).1)), (wrap64 (numL (dQ l (kindP l).1 (kindP l).2).1)), (wrap64 (numL (dL l (kindP l).1 (kindP l).2).1)), ((headN (dT l (kindP l).1 (kindP l).2).1 : Nat) : Int), (dX l (kindP l).1 (kindP l).2).1⟩ = [] ++ [byteOf 1] ++ longL (wrap64 (numL (dI l (kindP l).1 (kindP l).2).1)) ++ [byteOf ((headN (dN l (kindP l).1 (kindP l).2).1 : Nat) : Int)] ++ [byteOf ((headN (dS l (kindP l).1 (kindP l).2).1 : Nat) : Int)] ++ [byteOf ((headN (dT l (kindP l).1 (kindP l).2).1 : Nat) : Int)] ++ longL (wrap64 (numL (dP l (kindP l).1 (kindP l).2).1)) ++ longL (wrap64 (numL (dQ l (kindP l).1 (kindP l).2).1)) ++ longL (wrap64 (numL (dL l (kindP l).1 (kindP l).2).1)) ++ textL (dX l (kindP l).1 (kindP l).2).1 := by simp [encC]
  rw [e0, hb, long_forth n0, byte_forth n1, byte_forth n2, byte_forth n3, long_forth n4, long_forth n5, long_forth n6]
  have fin : (rdTake l 0 0 1).1 ++ ((dI l (kindP l).1 (kindP l).2).1 ++ ((dN l (kindP l).1 (kindP l).2).1 ++ ((dS l (kindP l).1 (kindP l).2).1 ++ ((dT l (kindP l).1 (kindP l).2).1 ++ ((dP l (kindP l).1 (kindP l).2).1 ++ ((dQ l (kindP l).1 (kindP l).2).1 ++ ((dL l (kindP l).1 (kindP l).2).1 ++ (textL (dX l (kindP l).1 (kindP l).2).1 ++ [])))))))) = l := by rw [← hend, ← q7, ← q6, ← q5, ← q4, ← q3, ← q2, ← q1, ← q0]; exact q'.symm
  rw [List.append_nil] at fin
  simp only [List.nil_append, List.append_assoc]
  exact fin
theorem forth_2 {l : List UInt8} (hk : kindZ l = 2) (hE : rdEnd l (bodyP l).1 (bodyP l).2 = 0) : encC (bodyV l) = l := by
  have e2 : bodyV l = readV l (kindP l).1 (kindP l).2 2 := by unfold bodyV; rw [hk]
  have e3 : bodyP l = readP l (kindP l).1 (kindP l).2 2 := by unfold bodyP; rw [hk]
  rw [readP_2] at e3
  rw [e3] at hE
  rw [e2, readV_2]
  clear e2 e3
  obtain ⟨hy, hend⟩ := end_zero hE
  obtain ⟨g0, n0, q0⟩ := piece (show rdTake l _ _ 8 = _ from eta3 (dI l (kindP l).1 (kindP l).2) hy)
  obtain ⟨-, n', q'⟩ := piece (show rdTake l 0 0 1 = _ from eta3 (rdTake l 0 0 1) g0)
  have hb : [byteOf 2] = (rdTake l 0 0 1).1 := by
    have := byte_forth n'
    rw [show ((headN (rdTake l 0 0 1).1 : Nat) : Int) = 2 from hk] at this
    exact this
  rw [List.drop_zero] at q'
  replace q' : l = (rdTake l 0 0 1).1 ++ l.drop (kindP l).1 := q'
  have e0 : encC ⟨2, (wrap64 (numL (dI l (kindP l).1 (kindP l).2).1)), 0, 0, 0, 0, 0, 0, []⟩ = [] ++ [byteOf 2] ++ longL (wrap64 (numL (dI l (kindP l).1 (kindP l).2).1)) := by simp [encC]
  rw [e0, hb, long_forth n0]
  have fin : (rdTake l 0 0 1).1 ++ ((dI l (kindP l).1 (kindP l).2).1 ++ []) = l := by rw [← hend, ← q0]; exact q'.symm
  rw [List.append_nil] at fin
  simp only [List.nil_append, List.append_assoc]
  exact fin
theorem forth_3 {l : List UInt8} (hk : kindZ l = 3) (hE : rdEnd l (bodyP l).1 (bodyP l).2 = 0) : encC (bodyV l) = l := by
  have e2 : bodyV l = readV l (kindP l).1 (kindP l).2 3 := by unfold bodyV; rw [hk]
  have e3 : bodyP l = readP l (kindP l).1 (kindP l).2 3 := by unfold bodyP; rw [hk]
  rw [readP_3] at e3
  rw [e3] at hE
  rw [e2, readV_3]
  clear e2 e3
  obtain ⟨hy, hend⟩ := end_zero hE
  obtain ⟨g1, n1, q1⟩ := piece (show rdTake l _ _ 8 = _ from eta3 (eA l (kindP l).1 (kindP l).2) hy)
  obtain ⟨g0, n0, q0⟩ := piece (show rdTake l _ _ 8 = _ from eta3 (dI l (kindP l).1 (kindP l).2) g1)
  obtain ⟨-, n', q'⟩ := piece (show rdTake l 0 0 1 = _ from eta3 (rdTake l 0 0 1) g0)
  have hb : [byteOf 3] = (rdTake l 0 0 1).1 := by
    have := byte_forth n'
    rw [show ((headN (rdTake l 0 0 1).1 : Nat) : Int) = 3 from hk] at this
    exact this
  rw [List.drop_zero] at q'
  replace q' : l = (rdTake l 0 0 1).1 ++ l.drop (kindP l).1 := q'
  have e0 : encC ⟨3, (wrap64 (numL (dI l (kindP l).1 (kindP l).2).1)), 0, 0, 0, (wrap64 (numL (eA l (kindP l).1 (kindP l).2).1)), 0, 0, []⟩ = [] ++ [byteOf 3] ++ longL (wrap64 (numL (dI l (kindP l).1 (kindP l).2).1)) ++ longL (wrap64 (numL (eA l (kindP l).1 (kindP l).2).1)) := by simp [encC]
  rw [e0, hb, long_forth n0, long_forth n1]
  have fin : (rdTake l 0 0 1).1 ++ ((dI l (kindP l).1 (kindP l).2).1 ++ ((eA l (kindP l).1 (kindP l).2).1 ++ [])) = l := by rw [← hend, ← q1, ← q0]; exact q'.symm
  rw [List.append_nil] at fin
  simp only [List.nil_append, List.append_assoc]
  exact fin
theorem forth_4 {l : List UInt8} (hk : kindZ l = 4) (hE : rdEnd l (bodyP l).1 (bodyP l).2 = 0) : encC (bodyV l) = l := by
  have e2 : bodyV l = readV l (kindP l).1 (kindP l).2 4 := by unfold bodyV; rw [hk]
  have e3 : bodyP l = readP l (kindP l).1 (kindP l).2 4 := by unfold bodyP; rw [hk]
  rw [readP_4] at e3
  rw [e3] at hE
  rw [e2, readV_4]
  clear e2 e3
  obtain ⟨hy, hend⟩ := end_zero hE
  obtain ⟨g2, n2, q2⟩ := piece (show rdTake l _ _ 8 = _ from eta3 (eB l (kindP l).1 (kindP l).2) hy)
  obtain ⟨g1, n1, q1⟩ := piece (show rdTake l _ _ 8 = _ from eta3 (eA l (kindP l).1 (kindP l).2) g2)
  obtain ⟨g0, n0, q0⟩ := piece (show rdTake l _ _ 8 = _ from eta3 (dI l (kindP l).1 (kindP l).2) g1)
  obtain ⟨-, n', q'⟩ := piece (show rdTake l 0 0 1 = _ from eta3 (rdTake l 0 0 1) g0)
  have hb : [byteOf 4] = (rdTake l 0 0 1).1 := by
    have := byte_forth n'
    rw [show ((headN (rdTake l 0 0 1).1 : Nat) : Int) = 4 from hk] at this
    exact this
  rw [List.drop_zero] at q'
  replace q' : l = (rdTake l 0 0 1).1 ++ l.drop (kindP l).1 := q'
  have e0 : encC ⟨4, (wrap64 (numL (dI l (kindP l).1 (kindP l).2).1)), 0, 0, (wrap64 (numL (eA l (kindP l).1 (kindP l).2).1)), (wrap64 (numL (eB l (kindP l).1 (kindP l).2).1)), 0, 0, []⟩ = [] ++ [byteOf 4] ++ longL (wrap64 (numL (dI l (kindP l).1 (kindP l).2).1)) ++ longL (wrap64 (numL (eA l (kindP l).1 (kindP l).2).1)) ++ longL (wrap64 (numL (eB l (kindP l).1 (kindP l).2).1)) := by simp [encC]
  rw [e0, hb, long_forth n0, long_forth n1, long_forth n2]
  have fin : (rdTake l 0 0 1).1 ++ ((dI l (kindP l).1 (kindP l).2).1 ++ ((eA l (kindP l).1 (kindP l).2).1 ++ ((eB l (kindP l).1 (kindP l).2).1 ++ []))) = l := by rw [← hend, ← q2, ← q1, ← q0]; exact q'.symm
  rw [List.append_nil] at fin
  simp only [List.nil_append, List.append_assoc]
  exact fin
theorem enc_of_dec {l : List UInt8} (h : (decC l).2 = 0) : (decC l).1.Ok ∧ (decC l).1.right = 0 ∧ encC (decC l).1 = l := by
  obtain ⟨hz, hE, hR, e⟩ := dec_yes h
  rw [e]
  refine ⟨readV_ok _ _ _ _, hR, ?_⟩
  have h0 : kindZ l = 1 ∨ kindZ l = 2 ∨ kindZ l = 3 ∨ kindZ l = 4 := by omega
  rcases h0 with e | e | e | e
  · exact forth_1 e hE
  · exact forth_2 e hE
  · exact forth_3 e hE
  · exact forth_4 e hE
theorem back_1 (i n s p q z t : Int) (S : List UInt8) (na : 0 ≤ n) (nz : n ≤ 255) (sa : 0 ≤ s) (sz : s ≤ 255) (ta : 0 ≤ t) (tz : t ≤ 255) (ib : I64 i) (pb : I64 p) (qb : I64 q) (zb : I64 z) (hS : S.length ≤ 255) (hR : C.right ⟨1, i, n, s, p, q, z, t, S⟩ = 0) : decC (encC ⟨1, i, n, s, p, q, z, t, S⟩) = (⟨1, i, n, s, p, q, z, t, S⟩, 0) := by
  have e : encC ⟨1, i, n, s, p, q, z, t, S⟩ = [byteOf 1] ++ (longL i ++ ([byteOf n] ++ ([byteOf s] ++ ([byteOf t] ++ (longL p ++ (longL q ++ (longL z ++ (textL S ++ [])))))))) := by simp [encC]
  obtain ⟨L, eL⟩ : ∃ L, encC ⟨1, i, n, s, p, q, z, t, S⟩ = L := ⟨_, rfl⟩
  rw [eL] at e ⊢
  clear eL
  have d0 : L.drop 0 = [byteOf 1] ++ (longL i ++ ([byteOf n] ++ ([byteOf s] ++ ([byteOf t] ++ (longL p ++ (longL q ++ (longL z ++ (textL S ++ [])))))))) := by rw [List.drop_zero]; exact e
  have b0 : 0 ≤ L.length := Nat.zero_le _
  obtain ⟨t1, d1, b1⟩ := take_here b0 d0
  simp only [List.length_singleton, longL_len] at t1 d1 b1
  obtain ⟨t2, d2, b2⟩ := take_here b1 d1
  simp only [List.length_singleton, longL_len] at t2 d2 b2
  obtain ⟨t3, d3, b3⟩ := take_here b2 d2
  simp only [List.length_singleton, longL_len] at t3 d3 b3
  obtain ⟨t4, d4, b4⟩ := take_here b3 d3
  simp only [List.length_singleton, longL_len] at t4 d4 b4
  obtain ⟨t5, d5, b5⟩ := take_here b4 d4
  simp only [List.length_singleton, longL_len] at t5 d5 b5
  obtain ⟨t6, d6, b6⟩ := take_here b5 d5
  simp only [List.length_singleton, longL_len] at t6 d6 b6
  obtain ⟨t7, d7, b7⟩ := take_here b6 d6
  simp only [List.length_singleton, longL_len] at t7 d7 b7
  obtain ⟨t8, d8, b8⟩ := take_here b7 d7
  simp only [List.length_singleton, longL_len] at t8 d8 b8
  obtain ⟨t9, d9, b9⟩ := text_here b8 hS d8
  have hk : kindZ L = 1 := by
    unfold kindZ
    rw [t1]
    exact byte_back (by decide) (by decide)
  have hp : kindP L = (0 + 1, 0) := by unfold kindP; rw [t1]
  have x0 := t2
  have y0 : dI L (0 + 1) 0 = (longL i, 0 + 1 + 8, 0) := x0
  have x1 := t3
  have y1 : dN L (0 + 1) 0 = ([byteOf n], 0 + 1 + 8 + 1, 0) := by unfold dN; rw [y0]; exact x1
  have x2 := t4
  have y2 : dS L (0 + 1) 0 = ([byteOf s], 0 + 1 + 8 + 1 + 1, 0) := by unfold dS; rw [y1]; exact x2
  have x3 := t5
  have y3 : dT L (0 + 1) 0 = ([byteOf t], 0 + 1 + 8 + 1 + 1 + 1, 0) := by unfold dT; rw [y2]; exact x3
  have x4 := t6
  have y4 : dP L (0 + 1) 0 = (longL p, 0 + 1 + 8 + 1 + 1 + 1 + 8, 0) := by unfold dP; rw [y3]; exact x4
  have x5 := t7
  have y5 : dQ L (0 + 1) 0 = (longL q, 0 + 1 + 8 + 1 + 1 + 1 + 8 + 8, 0) := by unfold dQ; rw [y4]; exact x5
  have x6 := t8
  have y6 : dL L (0 + 1) 0 = (longL z, 0 + 1 + 8 + 1 + 1 + 1 + 8 + 8 + 8, 0) := by unfold dL; rw [y5]; exact x6
  have x7 := t9
  have y7 : dX L (0 + 1) 0 = (S, 0 + 1 + 8 + 1 + 1 + 1 + 8 + 8 + 8 + (1 + S.length), 0) := by unfold dX; rw [y6]; exact x7
  have hv : bodyV L = ⟨1, i, n, s, p, q, z, t, S⟩ := by
    unfold bodyV
    rw [hk, hp]
    show readV L (0 + 1) 0 1 = _
    rw [readV_1, y0, y1, y2, y3, y4, y5, y6, y7]
    simp only [long_back ib.1 ib.2, byte_back na nz, byte_back sa sz, byte_back ta tz, long_back pb.1 pb.2, long_back qb.1 qb.2, long_back zb.1 zb.2]
  have hq : bodyP L = (0 + 1 + 8 + 1 + 1 + 1 + 8 + 8 + 8 + (1 + S.length), 0) := by
    unfold bodyP
    rw [hk, hp]
    show readP L (0 + 1) 0 1 = _
    rw [readP_1, y7]
  have hE : rdEnd L (bodyP L).1 (bodyP L).2 = 0 := by
    rw [hq]
    refine rdEnd_all ?_
    have := List.drop_eq_nil_iff.1 d9
    exact Nat.not_lt.2 this
  have hz : ¬ (kindZ L < 1 ∨ 4 < kindZ L) := by rw [hk]; omega
  have hr : (bodyV L).right = 0 := by rw [hv]; exact hR
  rw [show decC L = (bodyV L, 0) from (if_neg hz).trans ((if_neg (fun e => e hE)).trans (if_neg (fun e => e hr))), hv]
theorem back_2 (i : Int) (ib : I64 i) (hR : C.right ⟨2, i, 0, 0, 0, 0, 0, 0, []⟩ = 0) : decC (encC ⟨2, i, 0, 0, 0, 0, 0, 0, []⟩) = (⟨2, i, 0, 0, 0, 0, 0, 0, []⟩, 0) := by
  have e : encC ⟨2, i, 0, 0, 0, 0, 0, 0, []⟩ = [byteOf 2] ++ (longL i ++ []) := by simp [encC]
  obtain ⟨L, eL⟩ : ∃ L, encC ⟨2, i, 0, 0, 0, 0, 0, 0, []⟩ = L := ⟨_, rfl⟩
  rw [eL] at e ⊢
  clear eL
  have d0 : L.drop 0 = [byteOf 2] ++ (longL i ++ []) := by rw [List.drop_zero]; exact e
  have b0 : 0 ≤ L.length := Nat.zero_le _
  obtain ⟨t1, d1, b1⟩ := take_here b0 d0
  simp only [List.length_singleton, longL_len] at t1 d1 b1
  obtain ⟨t2, d2, b2⟩ := take_here b1 d1
  simp only [List.length_singleton, longL_len] at t2 d2 b2
  have hk : kindZ L = 2 := by
    unfold kindZ
    rw [t1]
    exact byte_back (by decide) (by decide)
  have hp : kindP L = (0 + 1, 0) := by unfold kindP; rw [t1]
  have x0 := t2
  have y0 : dI L (0 + 1) 0 = (longL i, 0 + 1 + 8, 0) := x0
  have hv : bodyV L = ⟨2, i, 0, 0, 0, 0, 0, 0, []⟩ := by
    unfold bodyV
    rw [hk, hp]
    show readV L (0 + 1) 0 2 = _
    rw [readV_2, y0]
    simp only [long_back ib.1 ib.2]
  have hq : bodyP L = (0 + 1 + 8, 0) := by
    unfold bodyP
    rw [hk, hp]
    show readP L (0 + 1) 0 2 = _
    rw [readP_2, y0]
  have hE : rdEnd L (bodyP L).1 (bodyP L).2 = 0 := by
    rw [hq]
    refine rdEnd_all ?_
    have := List.drop_eq_nil_iff.1 d2
    exact Nat.not_lt.2 this
  have hz : ¬ (kindZ L < 1 ∨ 4 < kindZ L) := by rw [hk]; omega
  have hr : (bodyV L).right = 0 := by rw [hv]; exact hR
  rw [show decC L = (bodyV L, 0) from (if_neg hz).trans ((if_neg (fun e => e hE)).trans (if_neg (fun e => e hr))), hv]
theorem back_3 (i q : Int) (ib : I64 i) (qb : I64 q) (hR : C.right ⟨3, i, 0, 0, 0, q, 0, 0, []⟩ = 0) : decC (encC ⟨3, i, 0, 0, 0, q, 0, 0, []⟩) = (⟨3, i, 0, 0, 0, q, 0, 0, []⟩, 0) := by
  have e : encC ⟨3, i, 0, 0, 0, q, 0, 0, []⟩ = [byteOf 3] ++ (longL i ++ (longL q ++ [])) := by simp [encC]
  obtain ⟨L, eL⟩ : ∃ L, encC ⟨3, i, 0, 0, 0, q, 0, 0, []⟩ = L := ⟨_, rfl⟩
  rw [eL] at e ⊢
  clear eL
  have d0 : L.drop 0 = [byteOf 3] ++ (longL i ++ (longL q ++ [])) := by rw [List.drop_zero]; exact e
  have b0 : 0 ≤ L.length := Nat.zero_le _
  obtain ⟨t1, d1, b1⟩ := take_here b0 d0
  simp only [List.length_singleton, longL_len] at t1 d1 b1
  obtain ⟨t2, d2, b2⟩ := take_here b1 d1
  simp only [List.length_singleton, longL_len] at t2 d2 b2
  obtain ⟨t3, d3, b3⟩ := take_here b2 d2
  simp only [List.length_singleton, longL_len] at t3 d3 b3
  have hk : kindZ L = 3 := by
    unfold kindZ
    rw [t1]
    exact byte_back (by decide) (by decide)
  have hp : kindP L = (0 + 1, 0) := by unfold kindP; rw [t1]
  have x0 := t2
  have y0 : dI L (0 + 1) 0 = (longL i, 0 + 1 + 8, 0) := x0
  have x1 := t3
  have y1 : eA L (0 + 1) 0 = (longL q, 0 + 1 + 8 + 8, 0) := by unfold eA; rw [y0]; exact x1
  have hv : bodyV L = ⟨3, i, 0, 0, 0, q, 0, 0, []⟩ := by
    unfold bodyV
    rw [hk, hp]
    show readV L (0 + 1) 0 3 = _
    rw [readV_3, y0, y1]
    simp only [long_back ib.1 ib.2, long_back qb.1 qb.2]
  have hq : bodyP L = (0 + 1 + 8 + 8, 0) := by
    unfold bodyP
    rw [hk, hp]
    show readP L (0 + 1) 0 3 = _
    rw [readP_3, y1]
  have hE : rdEnd L (bodyP L).1 (bodyP L).2 = 0 := by
    rw [hq]
    refine rdEnd_all ?_
    have := List.drop_eq_nil_iff.1 d3
    exact Nat.not_lt.2 this
  have hz : ¬ (kindZ L < 1 ∨ 4 < kindZ L) := by rw [hk]; omega
  have hr : (bodyV L).right = 0 := by rw [hv]; exact hR
  rw [show decC L = (bodyV L, 0) from (if_neg hz).trans ((if_neg (fun e => e hE)).trans (if_neg (fun e => e hr))), hv]
theorem back_4 (i p q : Int) (ib : I64 i) (pb : I64 p) (qb : I64 q) (hR : C.right ⟨4, i, 0, 0, p, q, 0, 0, []⟩ = 0) : decC (encC ⟨4, i, 0, 0, p, q, 0, 0, []⟩) = (⟨4, i, 0, 0, p, q, 0, 0, []⟩, 0) := by
  have e : encC ⟨4, i, 0, 0, p, q, 0, 0, []⟩ = [byteOf 4] ++ (longL i ++ (longL p ++ (longL q ++ []))) := by simp [encC]
  obtain ⟨L, eL⟩ : ∃ L, encC ⟨4, i, 0, 0, p, q, 0, 0, []⟩ = L := ⟨_, rfl⟩
  rw [eL] at e ⊢
  clear eL
  have d0 : L.drop 0 = [byteOf 4] ++ (longL i ++ (longL p ++ (longL q ++ []))) := by rw [List.drop_zero]; exact e
  have b0 : 0 ≤ L.length := Nat.zero_le _
  obtain ⟨t1, d1, b1⟩ := take_here b0 d0
  simp only [List.length_singleton, longL_len] at t1 d1 b1
  obtain ⟨t2, d2, b2⟩ := take_here b1 d1
  simp only [List.length_singleton, longL_len] at t2 d2 b2
  obtain ⟨t3, d3, b3⟩ := take_here b2 d2
  simp only [List.length_singleton, longL_len] at t3 d3 b3
  obtain ⟨t4, d4, b4⟩ := take_here b3 d3
  simp only [List.length_singleton, longL_len] at t4 d4 b4
  have hk : kindZ L = 4 := by
    unfold kindZ
    rw [t1]
    exact byte_back (by decide) (by decide)
  have hp : kindP L = (0 + 1, 0) := by unfold kindP; rw [t1]
  have x0 := t2
  have y0 : dI L (0 + 1) 0 = (longL i, 0 + 1 + 8, 0) := x0
  have x1 := t3
  have y1 : eA L (0 + 1) 0 = (longL p, 0 + 1 + 8 + 8, 0) := by unfold eA; rw [y0]; exact x1
  have x2 := t4
  have y2 : eB L (0 + 1) 0 = (longL q, 0 + 1 + 8 + 8 + 8, 0) := by unfold eB; rw [y1]; exact x2
  have hv : bodyV L = ⟨4, i, 0, 0, p, q, 0, 0, []⟩ := by
    unfold bodyV
    rw [hk, hp]
    show readV L (0 + 1) 0 4 = _
    rw [readV_4, y0, y1, y2]
    simp only [long_back ib.1 ib.2, long_back pb.1 pb.2, long_back qb.1 qb.2]
  have hq : bodyP L = (0 + 1 + 8 + 8 + 8, 0) := by
    unfold bodyP
    rw [hk, hp]
    show readP L (0 + 1) 0 4 = _
    rw [readP_4, y2]
  have hE : rdEnd L (bodyP L).1 (bodyP L).2 = 0 := by
    rw [hq]
    refine rdEnd_all ?_
    have := List.drop_eq_nil_iff.1 d4
    exact Nat.not_lt.2 this
  have hz : ¬ (kindZ L < 1 ∨ 4 < kindZ L) := by rw [hk]; omega
  have hr : (bodyV L).right = 0 := by rw [hv]; exact hR
  rw [show decC L = (bodyV L, 0) from (if_neg hz).trans ((if_neg (fun e => e hE)).trans (if_neg (fun e => e hr))), hv]
theorem right_some {c : C} (h : c.right = 0) : c.k = 1 ∨ c.k = 2 ∨ c.k = 3 ∨ c.k = 4 := by
  obtain ⟨k, i, n, s, p, q, l, t, S⟩ := c
  exact right_kind h
theorem right_one {i n s p q l t : Int} {S : List UInt8} (h : rightL 1 i n s p q l t S = 0) : (s = 1 ∨ s = 2) ∧ (1 ≤ t ∧ t ≤ 3) ∧ (0 ≤ n ∧ n ≤ 255) := by
  unfold rightL at h
  rw [if_neg (by omega)] at h
  split at h
  · cases h
  · split at h
    · cases h
    · split at h
      · cases h
      · split at h
        · cases h
        · split at h
          · cases h
          · split at h
            · cases h
            · split at h
              · cases h
              · split at h
                · cases h
                · omega
structure C.Num6 (c : C) : Prop where
  i : I64 c.i
  p : I64 c.p
  q : I64 c.q
  l : I64 c.l
/-- A right command comes back, with what it asks. -/
theorem dec_of_enc {c : C} (h : c.Num6) (hS : c.S.length ≤ 60) (hR : c.right = 0) : decC (encC c) = (askedC c, 0) ∧ encC (askedC c) = encC c := by
  obtain ⟨k, i, n, s, p, q, z, t, S⟩ := c
  obtain ⟨ib, pb, qb, zb⟩ := h
  simp only at ib pb qb zb hS
  have h0 : k = 1 ∨ k = 2 ∨ k = 3 ∨ k = 4 := right_some hR
  rcases h0 with rfl | rfl | rfl | rfl
  · have hR2 : rightL 1 i n s p q z t S = 0 := hR
    obtain ⟨h1, ⟨h2, h3⟩, h4, h5⟩ := right_one hR2
    have ea : askedC ⟨1, i, n, s, p, q, z, t, S⟩ = ⟨1, i, n, s, p, q, z, t, S⟩ := by simp [askedC]
    rw [ea]
    exact ⟨back_1 i n s p q z t S h4 h5 (by omega) (by omega) (by omega) (by omega) ib pb qb zb (by omega) hR, rfl⟩
  · have ea : askedC ⟨2, i, n, s, p, q, z, t, S⟩ = ⟨2, i, 0, 0, 0, 0, 0, 0, []⟩ := by simp [askedC]
    have ee : encC ⟨2, i, n, s, p, q, z, t, S⟩ = encC ⟨2, i, 0, 0, 0, 0, 0, 0, []⟩ := by simp [encC]
    rw [ea, ee]
    exact ⟨back_2 i ib ((same_2 i n s p q z t 0 0 0 0 0 0 S []).1.trans hR), rfl⟩
  · have ea : askedC ⟨3, i, n, s, p, q, z, t, S⟩ = ⟨3, i, 0, 0, 0, q, 0, 0, []⟩ := by simp [askedC]
    have ee : encC ⟨3, i, n, s, p, q, z, t, S⟩ = encC ⟨3, i, 0, 0, 0, q, 0, 0, []⟩ := by simp [encC]
    rw [ea, ee]
    exact ⟨back_3 i q ib qb ((same_3 i n s p q z t 0 0 0 0 0 S []).1.trans hR), rfl⟩
  · have ea : askedC ⟨4, i, n, s, p, q, z, t, S⟩ = ⟨4, i, 0, 0, p, q, 0, 0, []⟩ := by simp [askedC]
    have ee : encC ⟨4, i, n, s, p, q, z, t, S⟩ = encC ⟨4, i, 0, 0, p, q, 0, 0, []⟩ := by simp [encC]
    rw [ea, ee]
    exact ⟨back_4 i p q ib pb qb ((same_4 i n s p q z t 0 0 0 0 S []).1.trans hR), rfl⟩
/-- Unlike commands have unlike bytes, like ones the same. -/
theorem enc_same {c d : C} (hc : c.Num6) (hd : d.Num6) (hS : c.S.length ≤ 60) (hT : d.S.length ≤ 60) (h1 : c.right = 0) (h2 : d.right = 0) : encC c = encC d ↔ askedC c = askedC d := by
  obtain ⟨a1, a2⟩ := dec_of_enc hc hS h1
  obtain ⟨b1, b2⟩ := dec_of_enc hd hT h2
  constructor
  · intro e
    rw [e, b1] at a1
    exact (congrArg Prod.fst a1).symm
  · intro e
    rw [← a2, ← b2, e]
end Go.Proofs.Ytdbaphmhfoajgaa
