/-
  The contracts of Sum, package ints' own.
-/
import Derived.Test.YtabogoonbapjiaaMul
import Derived.Test.YtabogoonbapjiaaSumPlain
namespace Go.Proofs.Ytabogoonbapjiaa
open Go.RowKit
set_option linter.unusedVariables false

theorem SignHalf_to (a s : Int) (w : World) (a1 : -9223372036854775808 ≤ a) (a2 : a ≤ 9223372036854775807) (h : sgn a = s) :
    Calls Try.prog 46 #[.int .i64 a] w fun e w' => e = .returned (.int .u64 s) ∧ w = w' := by
  rw [← h]; exact SignHalf_any a w a1 a2

set_option maxRecDepth 100000 in
set_option maxHeartbeats 1600000 in
theorem Sum_any (A : Option Addr) (n cap : Nat) (xs : List Int) (w : World) (hn : n ≤ 9223372036854775807) (h : Hid (Holds w A n xs)) :
    Calls Try.prog 43 #[.slice A n cap] w fun e w' => e = .returned (.tuple #[.int .i64 (pick (sumL xs)), .bool (fitB (sumL xs))]) ∧ w = w' := by
  obtain ⟨R, hR⟩ : ∃ R : Ending, Ending.returned (.tuple #[.int .i64 (pick (sumL xs)), .bool (fitB (sumL xs))]) = R := ⟨_, rfl⟩
  rw [hR]
  have HR := Lib.hid hR
  clear hR
  go_enter Try.func43, Try.ntmps43
  go_wp2
  go_loop [4, 5, 11] (fun s t i => ∃ (hi lo : Int) (k : Nat), s = .int .u64 hi ∧ t = .int .u64 lo ∧ i = .int .i64 k ∧ k ≤ n ∧ Hid (Words (sumL (xs.take k)) hi lo)) (fun _ _ i => n - (intOf i).toNat)
  case atStart => exact ⟨0, 0, 0, rfl, rfl, rfl, Nat.zero_le _, Lib.hid ⟨by simp [sumL], by simp [sumL]⟩⟩
  case round =>
    obtain ⟨hi, lo, k, rfl, rfl, rfl, hk, H⟩ := hrel
    obtain ⟨b1, b2, b3, b4⟩ := words_bd H.out
    by_cases hlt : k < n
    · obtain ⟨b, off, rfl, hc⟩ := h.out.2.2 (by omega)
      have hcell := hc k hlt
      clear hc
      have hx : I64 (xs.getD k 0) := h.out.2.1 _ (getD_mem (by rw [h.out.1]; exact hlt))
      have hs := sumL_take xs k (by rw [h.out.1]; exact hlt)
      have hw := words_next H.out hx
      rw [← hs] at hw
      have W := Lib.hid hw
      clear hs hw
      generalize xs.getD k 0 = x at *
      obtain ⟨x1, x2⟩ := hx
      obtain ⟨y, hy⟩ : ∃ y, IntKind.u64.wrap x = y := ⟨_, rfl⟩
      have y0 := hy
      rw [IntKind.wrap_u64] at y0
      rw [y0] at W
      have y1 : 0 ≤ y := by omega
      have y2 : y ≤ 18446744073709551615 := by omega
      obtain ⟨s, hs⟩ : ∃ s, sgn x = s := ⟨_, rfl⟩
      obtain ⟨s1, s2⟩ := sgn_bd x
      rw [hs] at s1 s2 W
      have Hs := Lib.hid hs
      clear y0 hs
      have A1 := fun w => Add64_to lo y 0 b3 y1 (by omega) (by omega) w
      rw [Int.add_zero] at A1
      obtain ⟨c, hc2⟩ : ∃ c, (lo + y) / 18446744073709551616 = c := ⟨_, rfl⟩
      have c1 : 0 ≤ c := by omega
      have c2 : c ≤ 1 := by omega
      obtain ⟨lo', hl⟩ : ∃ l, (lo + y) % 18446744073709551616 = l := ⟨_, rfl⟩
      rw [hc2, hl] at A1 W
      have A2 := fun w => Add64_to hi s c b1 s1 c1 c2 w
      obtain ⟨hi', hh⟩ : ∃ l, (hi + s + c) % 18446744073709551616 = l := ⟨_, rfl⟩
      rw [hh] at A2 W
      obtain ⟨cc, hcc⟩ : ∃ l, (hi + s + c) / 18446744073709551616 = l := ⟨_, rfl⟩
      rw [hcc] at A2
      have B1 := Lib.hid A1
      have B2 := Lib.hid A2
      clear hc2 hl hh hcc A1 A2
      go_wp2_with (first | simp only [B1.out] | simp only [B2.out] | (go_at_call 46; refine (SignHalf_to _ _ _ x1 x2 Hs.out).mono ?_; rintro e w' ⟨rfl, rfl⟩))
      go_round
      case rel => exact ⟨hi', lo', k + 1, rfl, rfl, by go_num, by omega, W⟩
      case measure => simp [intOf]; omega
    · obtain rfl : k = n := by omega
      have e : xs.take k = xs := List.take_of_length_le (by rw [h.out.1]; omega)
      have H' := H.out
      rw [e] at H'
      obtain ⟨d1, d2⟩ := sumL_bd xs h.out.2.1
      rw [h.out.1] at d1 d2
      obtain ⟨l1, l2⟩ := wrap_bd lo
      by_cases f : fitB (sumL xs) = true
      · obtain ⟨f1, f2⟩ := words_yes H' f
        have fin : R = Ending.returned (.tuple #[.int .i64 (wrap64 lo), .bool true]) := by rw [← HR.out, ← ret2_yes f, f2]
        have Fin := Lib.hid fin
        have F1 := Lib.hid f1
        clear e H' d1 d2 f f1 f2 fin
        go_wp2_with (go_at_call 46; refine (SignHalf_to _ hi _ l1 l2 F1.out.symm).mono ?_; rintro e w' ⟨rfl, rfl⟩)
        go_ret2
        exact ⟨Fin.out.symm, rfl⟩
      · have f : fitB (sumL xs) = false := by simpa using f
        have f1 := words_no H' (by omega) (by omega) f
        have fin : R = Ending.returned (.tuple #[.int .i64 0, .bool false]) := by rw [← HR.out, ← ret2_no f]
        have Fin := Lib.hid fin
        clear e H' d1 d2 f fin
        go_wp2_with (go_at_call 46; refine (SignHalf_to _ _ _ l1 l2 rfl).mono ?_; rintro e w' ⟨rfl, rfl⟩)
        go_ret2
        exact ⟨Fin.out.symm, rfl⟩
end Go.Proofs.Ytabogoonbapjiaa
