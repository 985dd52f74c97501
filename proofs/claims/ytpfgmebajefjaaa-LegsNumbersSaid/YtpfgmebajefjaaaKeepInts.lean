/-
  Contracts: Within, of the book; Head, of the keep.
-/
import Derived.Test.YtpfgmebajefjaaaProd
import Derived.Deep.QuietTactic
import Derived.Deep.Cut
import Derived.BigQuiet
namespace Go.Proofs.Ytpfgmebajefjaaa
open Go.RowKit
set_option linter.unusedVariables false
set_option linter.unusedSimpArgs false

/-- A number brought into 0 .. m. -/
def withinN (n : Int) (m : Nat) : Nat := (n % ((m : Int) + 1)).toNat
theorem withinN_le (n : Int) (m : Nat) : withinN n m ≤ m := by
  have := Int.emod_lt_of_pos n (show (0 : Int) < (m : Int) + 1 by omega)
  unfold withinN; omega
theorem withinN_pos {n : Int} {m : Nat} (h : 0 ≤ n) : ((withinN n m : Nat) : Int) = n % ((m : Int) + 1) := by
  have := Int.emod_nonneg n (show (m : Int) + 1 ≠ 0 by omega)
  unfold withinN; omega

set_option maxRecDepth 100000 in
theorem Within_pos (n : Int) (m : Nat) (w : World) (hm : m ≤ 140737488355328) (h0 : 0 ≤ n) (h1 : n ≤ 9223372036854775807) :
    Calls Try.prog 13 #[.int .i64 n, .int .i64 0, .int .i64 m] w fun e w' => e = .returned (.int .i64 (withinN n m)) ∧ w' = w := by
  have hj := withinN_pos (m := m) h0
  have hb := withinN_le n m
  obtain ⟨j, ej⟩ : ∃ j, withinN n m = j := ⟨_, rfl⟩
  rw [ej] at hj hb ⊢
  have hj2 := hj.symm
  clear ej hj
  go_enter Try.func13, Try.ntmps13
  go_wp2
  go_ret
  exact ⟨rfl, rfl⟩
theorem wmod_neg {n : Int} {m : Nat} (h : n < 0) : ∃ a : Nat, n.tmod ((m : Int) + 1) = -(a : Int) ∧ ((a = 0 ∧ withinN n m = 0) ∨ (0 < a ∧ a ≤ m ∧ ((withinN n m : Nat) : Int) = -(a : Int) + (m : Int) + 1)) := by
  have e1 : n.tmod ((m : Int) + 1) = -((-n) % ((m : Int) + 1)) := by
    rw [← Int.tmod_eq_emod_of_nonneg (by omega : 0 ≤ -n), Int.neg_tmod]; omega
  have e2 := Int.emod_nonneg (-n) (show (m : Int) + 1 ≠ 0 by omega)
  have e3 := Int.emod_lt_of_pos (-n) (show (0 : Int) < (m : Int) + 1 by omega)
  have f2 := Int.emod_nonneg n (show (m : Int) + 1 ≠ 0 by omega)
  have f3 := Int.emod_lt_of_pos n (show (0 : Int) < (m : Int) + 1 by omega)
  have d1 := Int.emod_add_mul_ediv (-n) ((m : Int) + 1)
  have d2 := Int.emod_add_mul_ediv n ((m : Int) + 1)
  refine ⟨((-n) % ((m : Int) + 1)).toNat, by rw [e1]; omega, ?_⟩
  have hs : (n % ((m : Int) + 1) + (-n) % ((m : Int) + 1)) = 0 ∨ (n % ((m : Int) + 1) + (-n) % ((m : Int) + 1)) = (m : Int) + 1 := by
    generalize hx : n % ((m : Int) + 1) = x at *
    generalize hy : (-n) % ((m : Int) + 1) = y at *
    generalize hp : n / ((m : Int) + 1) = p at *
    generalize hq : (-n) / ((m : Int) + 1) = q at *
    have hsum : x + y = -(((m : Int) + 1) * (p + q)) := by rw [Int.mul_add]; omega
    have h1 : x + y < 2 * ((m : Int) + 1) := by omega
    rcases Int.lt_trichotomy (p + q) 0 with h4 | h4 | h4
    · rcases (show p + q < -1 ∨ -1 ≤ p + q by omega) with h5 | h5
      · exfalso
        have := Int.mul_le_mul_of_nonneg_left (show p + q ≤ -2 by omega) (show (0 : Int) ≤ (m : Int) + 1 by omega)
        omega
      · have : p + q = -1 := by omega
        rw [this] at hsum
        right; omega
    · rw [h4] at hsum; left; omega
    · exfalso
      have := Int.mul_le_mul_of_nonneg_left (show 1 ≤ p + q by omega) (show (0 : Int) ≤ (m : Int) + 1 by omega)
      omega
  unfold withinN
  omega
set_option maxRecDepth 100000 in
theorem Within_neg (n : Int) (m : Nat) (w : World) (hm : m ≤ 140737488355328) (h0 : n < 0) (h1 : -9223372036854775808 ≤ n) :
    Calls Try.prog 13 #[.int .i64 n, .int .i64 0, .int .i64 m] w fun e w' => e = .returned (.int .i64 (withinN n m)) ∧ w' = w := by
  have hb := withinN_le n m
  obtain ⟨a, ea, hc⟩ := wmod_neg (m := m) h0
  obtain ⟨j, ej⟩ : ∃ j, withinN n m = j := ⟨_, rfl⟩
  rw [ej] at hc hb ⊢
  clear ej
  rcases hc with ⟨rfl, rfl⟩ | ⟨ha, ham, hj⟩
  · go_enter Try.func13, Try.ntmps13
    go_wp2
    go_ret
    exact ⟨rfl, rfl⟩
  · have Hj := Lib.hid hj
    have hd : decide (-(a : Int) < 0) = true := decide_eq_true (by omega)
    clear hj hb
    go_enter Try.func13, Try.ntmps13
    go_wp2
    go_ret
    exact ⟨by rw [Hj.out]; rfl, rfl⟩
theorem Within_any (n : Int) (m : Nat) (w : World) (hm : m ≤ 140737488355328) (h1 : -9223372036854775808 ≤ n) (h2 : n ≤ 9223372036854775807) :
    Calls Try.prog 13 #[.int .i64 n, .int .i64 0, .int .i64 m] w fun e w' => e = .returned (.int .i64 (withinN n m)) ∧ w' = w := by
  by_cases h : 0 ≤ n
  · exact Within_pos n m w hm h h2
  · exact Within_neg n m w hm (by omega) h1

set_option maxRecDepth 100000 in
theorem Head_any (l : List UInt8) (k : Nat) (w : World) (hk : k ≤ 140737488355328) :
    Calls Try.prog 19 #[.string (str l), .int .i64 k] w fun e w' => e = .returned (.string (str (l.take k))) ∧ w' = w := by
  by_cases h : k < l.length
  · have hz : (k : Int) < ((str l).size : Int) := by rw [str_size]; omega
    have hz2 : k ≤ (str l).size := by rw [str_size]; omega
    have hz3 : k < (str l).size := by rw [str_size]; omega
    go_enter Try.func19, Try.ntmps19
    go_wp2
    go_ret
    refine ⟨?_, rfl⟩
    have e : (str l).extract 0 k = str (l.take k) := by rw [show (str l).extract 0 k = str ((l.drop 0).take (k - 0)) from ByteArray.extract_mk l 0 k]; simp
    rw [← e]
    rfl
  · have hz : ¬ (k : Int) < ((str l).size : Int) := by rw [str_size]; omega
    have hz3 : ¬ k < (str l).size := by rw [str_size]; omega
    have ht := Lib.hid (show l.take k = l from List.take_of_length_le (by omega))
    go_enter Try.func19, Try.ntmps19
    go_wp2
    go_ret
    exact ⟨by rw [ht.out]; rfl, rfl⟩

end Go.Proofs.Ytpfgmebajefjaaa
