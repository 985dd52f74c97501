/-
  Plain facts on frames and parts: what is made is opened, what is turned or cut off is not; what is written is read.
-/
import Derived.Test.YtnjedfnaohdnfaaRefOpen2
import Derived.Test.YtnjedfnaohdnfaaRefReader3
namespace Go.Proofs.Ytnjedfnaohdnfaa
open Go.RowKit
set_option linter.unusedVariables false
set_option linter.unusedSimpArgs false

theorem getD_behind (a m : List UInt8) (i : Nat) : (a ++ m).getD (a.length + i) 0 = m.getD i 0 := by
  rw [List.getD_eq_getElem?_getD, List.getD_eq_getElem?_getD, List.getElem?_append_right (by omega), Nat.add_sub_cancel_left]
theorem drop_behind (a m : List UInt8) (i : Nat) : (a ++ m).drop (a.length + i) = m.drop i := by
  rw [List.drop_append, List.drop_eq_nil_of_le (by omega), List.nil_append, Nat.add_sub_cancel_left]

/-- A frame that stands behind some bytes and ahead of others is opened. -/
theorem open_frame (a b r : List UInt8) (hb : b.length ≤ 255) : openR (a ++ (frameL b ++ r)) (a.length : Int) = (b, a.length + 6 + b.length, 0) := by
  have hx : (UInt8.ofNat b.length).toNat = b.length := u8_nat (by omega)
  have hy : (UInt8.ofNat (255 - b.length)).toNat = 255 - b.length := u8_nat (by omega)
  have hm : frameL b ++ r = UInt8.ofNat b.length :: UInt8.ofNat (255 - b.length) :: (b ++ (crcBytes (crcL b) ++ r)) := by unfold frameL; simp
  have hlen : (frameL b ++ r).length = b.length + 6 + r.length := by rw [List.length_append, frameL_len]
  rw [openR_at (by rw [List.length_append]; omega)]
  have g0 : (a ++ (frameL b ++ r)).getD a.length 0 = UInt8.ofNat b.length := by have := getD_behind a (frameL b ++ r) 0; rw [Nat.add_zero] at this; rw [this, hm]; rfl
  have g1 : (a ++ (frameL b ++ r)).getD (a.length + 1) 0 = UInt8.ofNat (255 - b.length) := by rw [getD_behind, hm]; rfl
  have hd : ((a ++ (frameL b ++ r)).drop (a.length + 2)).take b.length = b := by rw [drop_behind, hm]; simp
  have hs : ∀ i, (a ++ (frameL b ++ r)).getD (a.length + 2 + b.length + i) 0 = (crcBytes (crcL b) ++ r).getD i 0 := by
    intro i
    rw [show a.length + 2 + b.length + i = a.length + (2 + (b.length + i)) by omega, getD_behind, hm]
    have := getD_behind b (crcBytes (crcL b) ++ r) i
    rw [← this, show 2 + (b.length + i) = (b.length + i) + 1 + 1 by omega, List.getD_cons_succ, List.getD_cons_succ]
  have s0 := hs 0
  rw [Nat.add_zero] at s0
  have e := openN_yes (l := a ++ (frameL b ++ r)) (k := a.length) g0 g1 (by rw [hx, hy]) (by rw [hx, List.length_append, hlen]; omega)
  rw [hx, hd, s0, hs 1, hs 2, hs 3] at e
  refine e ?_
  have := four_of (crcL_lt b)
  unfold crcBytes
  exact this.symm
/-- A frame that is cut off is at its end. -/
theorem open_cut (a b : List UInt8) (hb : b.length ≤ 255) (k : Nat) (h1 : a.length ≤ k) (h2 : k < a.length + (b.length + 6)) (r : List UInt8) : openR ((a ++ (frameL b ++ r)).take k) (a.length : Int) = ([], 0, 10) := by
  have hx : (UInt8.ofNat b.length).toNat = b.length := u8_nat (by omega)
  have hy : (UInt8.ofNat (255 - b.length)).toNat = 255 - b.length := u8_nat (by omega)
  have hm : frameL b ++ r = UInt8.ofNat b.length :: UInt8.ofNat (255 - b.length) :: (b ++ (crcBytes (crcL b) ++ r)) := by unfold frameL; simp
  have hlen : (frameL b ++ r).length = b.length + 6 + r.length := by rw [List.length_append, frameL_len]
  have hk : ((a ++ (frameL b ++ r)).take k).length = k := by rw [List.length_take, List.length_append, hlen]; omega
  rw [openR_at (by omega)]
  by_cases hs : k < a.length + 2
  · exact openN_short (by omega)
  · have gt : ∀ i, a.length + i < k → ((a ++ (frameL b ++ r)).take k).getD (a.length + i) 0 = (frameL b ++ r).getD i 0 := by
      intro i hi
      rw [List.getD_eq_getElem?_getD, List.getElem?_take, if_pos hi, ← List.getD_eq_getElem?_getD, getD_behind]
    have g0 := gt 0 (by omega)
    have g1 := gt 1 (by omega)
    rw [Nat.add_zero] at g0
    have e0 : (frameL b ++ r).getD 0 0 = UInt8.ofNat b.length := by rw [hm]; rfl
    have e1 : (frameL b ++ r).getD 1 0 = UInt8.ofNat (255 - b.length) := by rw [hm]; rfl
    rw [e0] at g0
    rw [e1] at g1
    exact openN_tail (by omega) g0 g1 (by show (UInt8.ofNat (255 - b.length)).toNat = 255 - (UInt8.ofNat b.length).toNat; rw [hx, hy]) (by show _ < a.length + ((UInt8.ofNat b.length).toNat + 6); rw [hx]; omega)

theorem xor_ne {x t : UInt8} (h : t ≠ 0) : x ^^^ t ≠ x := by
  intro e
  have e2 := congrArg (fun z => x ^^^ z) e
  simp only [← UInt8.xor_assoc, UInt8.xor_self, UInt8.zero_xor] at e2
  exact h e2
/-- A frame of which one byte is turned is not opened. -/
theorem open_turned (b : List UInt8) (hb : b.length ≤ 255) (i : Nat) (hi : i < b.length + 6) (z : UInt8) (hz : z ≠ (frameL b).getD i 0) : ∃ p, openR ((frameL b).set i z) 0 = ([], 0, p) ∧ 0 < p := by
  have hx : (UInt8.ofNat b.length).toNat = b.length := u8_nat (by omega)
  have hy : (UInt8.ofNat (255 - b.length)).toNat = 255 - b.length := u8_nat (by omega)
  have hzl := z.toNat_lt
  obtain ⟨x, ex⟩ : ∃ x, UInt8.ofNat b.length = x := ⟨_, rfl⟩
  obtain ⟨y, ey⟩ : ∃ y, UInt8.ofNat (255 - b.length) = y := ⟨_, rfl⟩
  have hm : frameL b = x :: y :: (b ++ crcBytes (crcL b)) := by unfold frameL; rw [ex, ey]; simp
  rw [ex] at hx
  rw [ey] at hy
  have hlen : ((frameL b).set i z).length = b.length + 6 := by rw [List.length_set, frameL_len]
  have h0 := openR_at (l := (frameL b).set i z) (k := 0) (by omega)
  rw [show ((0 : Nat) : Int) = 0 from rfl] at h0
  rw [h0]
  rw [hm] at hz hlen ⊢
  match i, hi with
  | 0, _ =>
    rw [List.set_cons_zero] at hlen ⊢
    refine ⟨14, openN_head (x := z) (y := y) (by omega) rfl rfl ?_, by omega⟩
    intro e
    apply hz
    show z = x
    apply UInt8.toNat_inj.1
    omega
  | 1, _ =>
    rw [List.set_cons_succ, List.set_cons_zero] at hlen ⊢
    refine ⟨14, openN_head (x := x) (y := z) (by omega) rfl rfl ?_, by omega⟩
    intro e
    apply hz
    show z = y
    apply UInt8.toNat_inj.1
    omega
  | j + 2, hj =>
    rw [List.set_cons_succ, List.set_cons_succ] at hlen ⊢
    refine ⟨14, openN_sum (x := x) (y := y) rfl rfl (by omega) (by omega) ?_, by omega⟩
    have hz2 : z ≠ (b ++ crcBytes (crcL b)).getD j 0 := hz
    rw [hx]
    have hd : (x :: y :: (b ++ crcBytes (crcL b)).set j z).drop (0 + 2) = (b ++ crcBytes (crcL b)).set j z := rfl
    have hg : ∀ q, (x :: y :: (b ++ crcBytes (crcL b)).set j z).getD (0 + 2 + b.length + q) 0 = ((b ++ crcBytes (crcL b)).set j z).getD (b.length + q) 0 := by
      intro q
      rw [show 0 + 2 + b.length + q = (b.length + q) + 1 + 1 by omega, List.getD_cons_succ, List.getD_cons_succ]
    have g0 := hg 0
    rw [Nat.add_zero, Nat.add_zero] at g0
    rw [hd, g0, hg 1, hg 2, hg 3]
    by_cases hjb : j < b.length
    · -- a byte of what it has
      rw [List.set_append_left _ _ hjb]
      have ht : ((b.set j z) ++ crcBytes (crcL b)).take b.length = b.set j z := List.take_left' (by simp)
      have hs : ∀ q, ((b.set j z) ++ crcBytes (crcL b)).getD (b.length + q) 0 = (crcBytes (crcL b)).getD q 0 := by
        intro q
        have := getD_behind (b.set j z) (crcBytes (crcL b)) q
        rw [List.length_set] at this
        exact this
      rw [ht, hs 0, hs 1, hs 2, hs 3]
      have hf : four ((crcBytes (crcL b)).getD 0 0) ((crcBytes (crcL b)).getD 1 0) ((crcBytes (crcL b)).getD 2 0) ((crcBytes (crcL b)).getD 3 0) = crcL b := by
        unfold crcBytes; exact four_of (crcL_lt b)
      rw [hf]
      have e1 : b = b.take j ++ b[j] :: b.drop (j + 1) := by rw [← List.drop_eq_getElem_cons hjb, List.take_append_drop]
      have e2 : b.set j z = b.take j ++ z :: b.drop (j + 1) := by rw [List.set_eq_take_append_cons_drop, if_pos hjb]
      have hbj : (b ++ crcBytes (crcL b)).getD j 0 = b[j] := by
        rw [List.getD_eq_getElem?_getD, List.getElem?_append_left hjb, List.getElem?_eq_getElem hjb]; rfl
      rw [hbj] at hz2
      intro e
      rw [e2] at e
      have e3 := crc_turned (b.take j) (b.drop (j + 1)) hz2
      rw [← e1] at e3
      exact e3 e
    · -- a byte of the sum
      obtain ⟨q, hq⟩ : ∃ q, j = b.length + q := ⟨j - b.length, by omega⟩
      subst hq
      have hq4 : q < 4 := by omega
      rw [List.set_append_right _ _ (by omega), Nat.add_sub_cancel_left]
      have ht : (b ++ (crcBytes (crcL b)).set q z).take b.length = b := List.take_left' rfl
      have hs : ∀ p, (b ++ (crcBytes (crcL b)).set q z).getD (b.length + p) 0 = ((crcBytes (crcL b)).set q z).getD p 0 := fun p => getD_behind b _ p
      rw [getD_behind] at hz2
      rw [ht, hs 0, hs 1, hs 2, hs 3]
      intro e
      have e2 := congrArg crcBytes e
      rw [four_back] at e2
      have e3 : (crcBytes (crcL b)).set q z = crcBytes (crcL b) := by
        rw [e2]
        unfold crcBytes
        match q, hq4 with
        | 0, _ | 1, _ | 2, _ | 3, _ => rfl
      apply hz2
      have := congrArg (fun l => l.getD q 0) e3
      simp only [List.getD_eq_getElem?_getD, List.getElem?_set] at this
      rw [if_pos trivial, if_pos (by unfold crcBytes; simpa using hq4)] at this
      rw [List.getD_eq_getElem?_getD]
      simpa using this

/-! ### Parts -/
theorem take_at (p x r : List UInt8) : rdTake (p ++ (x ++ r)) p.length 0 x.length = (x, p.length + x.length, 0) := by
  rw [rdTake_yes (by rw [List.length_append, List.length_append]; omega)]
  have := drop_behind p (x ++ r) 0
  rw [Nat.add_zero] at this
  rw [this, List.drop_zero, List.take_left' rfl]
theorem numL_long (u : Nat) (k : Nat) : numL (longTo u k) = u % 256 ^ k := by
  induction k with
  | zero => simp [longTo, numL, Nat.mod_one]
  | succ k ih =>
    rw [longTo_next, numL_append, ih, longTo_len]
    simp only [numL, byte_nat']
    rw [Nat.pow_mul, show (2 : Nat) ^ 8 = 256 by decide, Nat.mul_zero, Nat.add_zero, Nat.pow_succ, Nat.mod_mul]
/-- A number that is written is read. -/
theorem long_back {n : Int} (h1 : -9223372036854775808 ≤ n) (h2 : n ≤ 9223372036854775807) : wrap64 (numL (longL n) : Nat) = n := by
  have hb : bits64 n < 18446744073709551616 := by
    have := Int.emod_lt_of_pos n (show (0 : Int) < 18446744073709551616 by omega)
    have := Int.emod_nonneg n (show (18446744073709551616 : Int) ≠ 0 by omega)
    unfold bits64; omega
  have e : numL (longL n) = bits64 n := by
    unfold longL
    rw [numL_long, show (256 : Nat) ^ 8 = 18446744073709551616 by decide, Nat.mod_eq_of_lt hb]
  rw [e]
  unfold bits64
  have := Int.emod_nonneg n (show (18446744073709551616 : Int) ≠ 0 by omega)
  have := Int.emod_lt_of_pos n (show (0 : Int) < 18446744073709551616 by omega)
  unfold wrap64
  omega
end Go.Proofs.Ytnjedfnaohdnfaa
