/-
  Within, of the book; the law's sizes: right ones, of the first forty numbers.
-/
import Derived.Test.YtabogoonbapjiaaFiShare
namespace Go.Proofs.Ytabogoonbapjiaa
open Go.RowKit
set_option linter.unusedVariables false
set_option linter.unusedSimpArgs false

/-- A number brought into 0 .. m. -/
def withinN (n : Int) (m : Nat) : Nat := (n % ((m : Int) + 1)).toNat
theorem withinN_le (n : Int) (m : Nat) : withinN n m ≤ m := by
  have := Int.emod_lt_of_pos n (show (0 : Int) < (m : Int) + 1 by omega)
  unfold withinN; omega
theorem withinN_pos {n : Int} {m : Nat} (h : 0 ≤ n) : ((withinN n m : Nat) : Int) = n % ((m : Int) + 1) := by
  have := Int.emod_nonneg n (show (m : Int) + 1 ≠ 0 by omega)
  unfold withinN; omega

set_option maxRecDepth 100000 in
theorem Within_pos (n : Int) (m : Nat) (w : World) (hm : m ≤ 140737488355328) (h0 : 0 ≤ n) (h1 : n ≤ 9223372036854775807) :
    Calls Try.prog 14 #[.int .i64 n, .int .i64 0, .int .i64 m] w fun e w' => e = .returned (.int .i64 (withinN n m)) ∧ w' = w := by
  have hj := withinN_pos (m := m) h0
  have hb := withinN_le n m
  obtain ⟨j, ej⟩ : ∃ j, withinN n m = j := ⟨_, rfl⟩
  rw [ej] at hj hb ⊢
  have hj2 := hj.symm
  clear ej hj
  go_enter Try.func14, Try.ntmps14
  go_wp2
  go_ret
  exact ⟨rfl, rfl⟩
theorem wmod_neg {n : Int} {m : Nat} (h : n < 0) : ∃ a : Nat, n.tmod ((m : Int) + 1) = -(a : Int) ∧ ((a = 0 ∧ withinN n m = 0) ∨ (0 < a ∧ a ≤ m ∧ ((withinN n m : Nat) : Int) = -(a : Int) + (m : Int) + 1)) := by
  have e1 : n.tmod ((m : Int) + 1) = -((-n) % ((m : Int) + 1)) := by
    rw [← Int.tmod_eq_emod_of_nonneg (by omega : 0 ≤ -n), Int.neg_tmod]; omega
  have e2 := Int.emod_nonneg (-n) (show (m : Int) + 1 ≠ 0 by omega)
  have e3 := Int.emod_lt_of_pos (-n) (show (0 : Int) < (m : Int) + 1 by omega)
  have f2 := Int.emod_nonneg n (show (m : Int) + 1 ≠ 0 by omega)
  have f3 := Int.emod_lt_of_pos n (show (0 : Int) < (m : Int) + 1 by omega)
  have d1 := Int.emod_add_mul_ediv (-n) ((m : Int) + 1)
  have d2 := Int.emod_add_mul_ediv n ((m : Int) + 1)
  refine ⟨((-n) % ((m : Int) + 1)).toNat, by rw [e1]; omega, ?_⟩
  have hs : (n % ((m : Int) + 1) + (-n) % ((m : Int) + 1)) = 0 ∨ (n % ((m : Int) + 1) + (-n) % ((m : Int) + 1)) = (m : Int) + 1 := by
    generalize hx : n % ((m : Int) + 1) = x at *
    generalize hy : (-n) % ((m : Int) + 1) = y at *
    generalize hp : n / ((m : Int) + 1) = p at *
    generalize hq : (-n) / ((m : Int) + 1) = q at *
    have hsum : x + y = -(((m : Int) + 1) * (p + q)) := by rw [Int.mul_add]; omega
    have h1 : x + y < 2 * ((m : Int) + 1) := by omega
    rcases Int.lt_trichotomy (p + q) 0 with h4 | h4 | h4
    · rcases (show p + q < -1 ∨ -1 ≤ p + q by omega) with h5 | h5
      · exfalso
        have := Int.mul_le_mul_of_nonneg_left (show p + q ≤ -2 by omega) (show (0 : Int) ≤ (m : Int) + 1 by omega)
        omega
      · have : p + q = -1 := by omega
        rw [this] at hsum
        right; omega
    · rw [h4] at hsum; left; omega
    · exfalso
      have := Int.mul_le_mul_of_nonneg_left (show 1 ≤ p + q by omega) (show (0 : Int) ≤ (m : Int) + 1 by omega)
      omega
  unfold withinN
  omega
set_option maxRecDepth 100000 in
theorem Within_neg (n : Int) (m : Nat) (w : World) (hm : m ≤ 140737488355328) (h0 : n < 0) (h1 : -9223372036854775808 ≤ n) :
    Calls Try.prog 14 #[.int .i64 n, .int .i64 0, .int .i64 m] w fun e w' => e = .returned (.int .i64 (withinN n m)) ∧ w' = w := by
  have hb := withinN_le n m
  obtain ⟨a, ea, hc⟩ := wmod_neg (m := m) h0
  obtain ⟨j, ej⟩ : ∃ j, withinN n m = j := ⟨_, rfl⟩
  rw [ej] at hc hb ⊢
  clear ej
  rcases hc with ⟨rfl, rfl⟩ | ⟨ha, ham, hj⟩
  · go_enter Try.func14, Try.ntmps14
    go_wp2
    go_ret
    exact ⟨rfl, rfl⟩
  · have Hj := Lib.hid hj
    have hd : decide (-(a : Int) < 0) = true := decide_eq_true (by omega)
    clear hj hb
    go_enter Try.func14, Try.ntmps14
    go_wp2
    go_ret
    exact ⟨by rw [Hj.out]; rfl, rfl⟩
theorem Within_any (n : Int) (m : Nat) (w : World) (hm : m ≤ 140737488355328) (h1 : -9223372036854775808 ≤ n) (h2 : n ≤ 9223372036854775807) :
    Calls Try.prog 14 #[.int .i64 n, .int .i64 0, .int .i64 m] w fun e w' => e = .returned (.int .i64 (withinN n m)) ∧ w' = w := by
  by_cases h : 0 ≤ n
  · exact Within_pos n m w hm h h2
  · exact Within_neg n m w hm (by omega) h1

/-- What the law makes of its numbers: forty at most, each right. -/
def sizeL (l : List Int) : List Int := (l.take 40).map (fun x => 1 + (withinN x 999999 : Int))
theorem size_len (l : List Int) : (sizeL l).length = min 40 l.length := by simp [sizeL]
theorem size_ok (l : List Int) : ∀ y ∈ sizeL l, 1 ≤ y ∧ y ≤ 1000000 := by
  intro y hy
  obtain ⟨x, _, rfl⟩ := List.mem_map.1 hy
  have := withinN_le x 999999
  omega
theorem size_next {l : List Int} {k : Nat} (hk : k < l.length) (h40 : k < 40) : (sizeL l).take (k + 1) = (sizeL l).take k ++ [1 + (withinN (l.getD k 0) 999999 : Int)] := by
  have h2 : k < (sizeL l).length := by rw [size_len]; omega
  rw [List.take_add_one, List.getElem?_eq_getElem h2, Option.toList_some]
  congr 2
  simp [sizeL, List.getD, List.getElem?_eq_getElem hk]
attribute [irreducible] sizeL

end Go.Proofs.Ytabogoonbapjiaa
