/-
  Right, of the program and of the document.
-/
import Derived.Test.YtabogoonbapjiaaFi
namespace Go.Proofs.Ytabogoonbapjiaa
open Go.RowKit
set_option linter.unusedVariables false
set_option linter.unusedSimpArgs false

set_option maxRecDepth 100000 in
set_option maxHeartbeats 1600000 in
theorem FRight_any (A : Option Addr) (n cap : Nat) (xs : List Int) (q : Int) (w : World) (hn : n ≤ 9223372036854775807) (q1 : -9223372036854775808 ≤ q) (q2 : q ≤ 9223372036854775807) (h : Hid (Holds w A n xs)) :
    Calls Try.prog 24 #[.slice A n cap, .int .i64 q] w fun e w' => e = .returned (.bool (rightL xs q)) ∧ w' = w := by
  obtain ⟨R, hR⟩ : ∃ R, rightL xs q = R := ⟨_, rfl⟩
  rw [hR]
  replace hR := Lib.hid hR
  by_cases hl : 250 < n
  · obtain rfl : R = false := by rw [← hR.out]; exact right_no (fun hh => by have := hh.1; have := h.out.1; omega)
    have d0 : decide ((250 : Int) < (n : Int)) = true := decide_eq_true (by omega)
    go_enter Try.func24, Try.ntmps24
    go_wp2_with fail
    go_ret
    exact ⟨rfl, rfl⟩
  have d0 : decide ((250 : Int) < (n : Int)) = false := decide_eq_false (by omega)
  go_enter Try.func24, Try.ntmps24
  go_wp2_with fail
  go_loop [5, 13] (fun s i => ∃ (k : Nat) (m : Int), s = .int .i64 m ∧ i = .int .i64 k ∧ k ≤ n ∧ Hid (m = sumL (xs.take k)) ∧ 0 ≤ m ∧ m ≤ (k : Int) * 1000000 ∧ Hid (∀ x ∈ xs.take k, 1 ≤ x ∧ x ≤ 1000000)) (fun _ i => n - (intOf i).toNat)
  case atStart => exact ⟨0, 0, rfl, rfl, by omega, Lib.hid (by simp [sumL]), by omega, by omega, Lib.hid (by simp)⟩
  case round =>
    obtain ⟨k, m, rfl, rfl, hk, hm, m1, m2, hx⟩ := hrel
    by_cases hlt : k < n
    · obtain ⟨b, off, rfl, hc⟩ := h.out.2.2 (by omega)
      have hcell := hc k hlt
      have hkl : k < xs.length := by rw [h.out.1]; exact hlt
      obtain ⟨x1, x2⟩ := h.out.i64 hlt
      have hs := Lib.hid (sumL_take xs k hkl)
      have hin := Lib.hid (getD_mem hkl)
      have htk : xs.take (k + 1) = xs.take k ++ [xs.getD k 0] := by rw [List.take_add_one]; simp [List.getD, List.getElem?_eq_getElem hkl]
      replace htk := Lib.hid htk
      clear hc
      generalize xs.getD k 0 = x at *
      have d1 : decide ((k : Int) < (n : Int)) = true := decide_eq_true (by omega)
      have d1' : (k : Int) < (n : Int) := by omega
      by_cases ha : x < 1
      · obtain rfl : R = false := by rw [← hR.out]; exact right_no (fun hh => by have := hh.2.1 x hin.out; omega)
        have d2 : decide (x < 1) = true := decide_eq_true ha
        go_wp2_with fail
        go_ret
        exact ⟨rfl, rfl⟩
      have d2 : decide (x < 1) = false := decide_eq_false ha
      by_cases hb : 1000000 < x
      · obtain rfl : R = false := by rw [← hR.out]; exact right_no (fun hh => by have := hh.2.1 x hin.out; omega)
        have d3 : decide (1000000 < x) = true := decide_eq_true hb
        go_wp2_with fail
        go_ret
        exact ⟨rfl, rfl⟩
      have d3 : decide (1000000 < x) = false := decide_eq_false hb
      go_wp2_with fail
      go_round
      case rel => exact ⟨k + 1, m + x, by go_num, by go_num, by omega, Lib.hid (by rw [hs.out, ← hm.out]), by omega, by omega, Lib.hid (by
        rw [htk.out]
        intro y hy
        rcases List.mem_append.1 hy with hy | hy
        · exact hx.out y hy
        · simp only [List.mem_singleton] at hy
          subst hy
          omega)⟩
      case measure => simp [intOf]; omega
    · obtain rfl : k = n := by omega
      have et : xs.take k = xs := List.take_of_length_le (by rw [h.out.1]; omega)
      have hx2 := hx.out
      have hm2 := hm.out
      rw [et] at hx2 hm2
      replace hx2 := Lib.hid hx2
      replace hm2 := Lib.hid hm2
      replace et := Lib.hid et
      have d1 : decide ((k : Int) < (k : Int)) = false := by simp
      by_cases hq : 0 ≤ q
      · have d2 : decide (0 ≤ q) = true := decide_eq_true hq
        by_cases hq2 : q ≤ m
        · obtain rfl : R = true := by rw [← hR.out]; exact (right_iff _ _).2 ⟨by have := h.out.1; omega, hx2.out, hq, by rw [← hm2.out]; exact hq2⟩
          have d3 : decide (q ≤ m) = true := decide_eq_true hq2
          go_wp2_with fail
          go_ret
          exact ⟨rfl, rfl⟩
        · obtain rfl : R = false := by rw [← hR.out]; exact right_no (fun hh => by have := hh.2.2.2; rw [← hm2.out] at this; omega)
          have d3 : decide (q ≤ m) = false := decide_eq_false hq2
          go_wp2_with fail
          go_ret
          exact ⟨rfl, rfl⟩
      · obtain rfl : R = false := by rw [← hR.out]; exact right_no (fun hh => by have := hh.2.2.1; omega)
        have d2 : decide (0 ≤ q) = false := decide_eq_false hq
        go_wp2_with fail
        go_ret
        exact ⟨rfl, rfl⟩
end Go.Proofs.Ytabogoonbapjiaa
