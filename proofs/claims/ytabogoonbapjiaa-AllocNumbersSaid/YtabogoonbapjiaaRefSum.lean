/-
  The contract of the document's own Sum.
-/
import Derived.Test.YtabogoonbapjiaaSum
namespace Go.Proofs.Ytabogoonbapjiaa
open Go.RowKit
set_option linter.unusedVariables false

set_option maxRecDepth 100000 in
set_option maxHeartbeats 1600000 in
theorem RefSum_any (A : Option Addr) (n cap : Nat) (xs : List Int) (w : World) (hn : n ≤ 9223372036854775807) (h : Hid (Holds w A n xs)) :
    Calls Try.prog 42 #[.slice A n cap] w fun e w' => e = .returned (.tuple #[.int .i64 (pick (sumL xs)), .bool (fitB (sumL xs))]) ∧ w = w' := by
  obtain ⟨R, hR⟩ : ∃ R : Ending, Ending.returned (.tuple #[.int .i64 (pick (sumL xs)), .bool (fitB (sumL xs))]) = R := ⟨_, rfl⟩
  rw [hR]
  have HR := Lib.hid hR
  clear hR
  go_enter Try.func42, Try.ntmps42
  go_wp2
  go_loop [4, 5, 6] (fun s t i => ∃ (hi lo : Int) (k : Nat), s = .int .i64 hi ∧ t = .int .u64 lo ∧ i = .int .i64 k ∧ k ≤ n ∧ Hid (Pair (sumL (xs.take k)) k hi lo)) (fun _ _ i => n - (intOf i).toNat)
  case atStart => exact ⟨0, 0, 0, rfl, rfl, rfl, Nat.zero_le _, Lib.hid ⟨by simp [sumL], by omega, by omega, by omega, by omega⟩⟩
  case round =>
    obtain ⟨hi, lo, k, rfl, rfl, rfl, hk, H⟩ := hrel
    obtain ⟨_, b1, b2, b3, b4⟩ := H.out
    by_cases hlt : k < n
    · obtain ⟨b, off, rfl, hc⟩ := h.out.2.2 (by omega)
      have hcell := hc k hlt
      clear hc
      have hx : I64 (xs.getD k 0) := h.out.2.1 _ (getD_mem (by rw [h.out.1]; exact hlt))
      have hs := sumL_take xs k (by rw [h.out.1]; exact hlt)
      obtain ⟨m, c, d, hm, m1, m2, hc, hd, W, n1, n2⟩ := pair_next H.out hx
      rw [← hs] at W
      have W := Lib.hid W
      clear hs
      generalize xs.getD k 0 = x at *
      obtain ⟨x1, x2⟩ := hx
      rcases hc with ⟨g1, rfl⟩ | ⟨g1, rfl⟩ <;> rcases hd with ⟨g2, rfl⟩ | ⟨g2, rfl⟩
      all_goals
        first
        | (have r := n1 g2 g1; clear hm n1 n2)
        | (have r := n2 g2 g1; clear hm n1 n2)
        | clear n1 n2
        go_wp2
        go_round
        case rel => exact ⟨_, m, k + 1, rfl, rfl, by go_num, by omega, by first | exact W | (have W' := W.out; exact Lib.hid (by simpa using W'))⟩
        case measure => simp [intOf]; omega
    · obtain rfl : k = n := by omega
      have e : xs.take k = xs := List.take_of_length_le (by rw [h.out.1]; omega)
      have H' := H.out
      rw [e] at H'
      rcases pair_fit H' with ⟨f, g, f2⟩ | ⟨f, g⟩
      · have fin : R = Ending.returned (.tuple #[.int .i64 (wrap64 lo), .bool true]) := by rw [← HR.out, ← ret2_yes f, f2]
        have Fin := Lib.hid fin
        clear e H' f f2 fin
        rcases g with ⟨rfl, g⟩ | ⟨rfl, g⟩
        · have Fin := Lib.hid (show R = Ending.returned (.tuple #[.int .i64 lo, .bool true]) by rw [Fin.out, IntWalk.wrap64_in lo ⟨by omega, g⟩])
          go_wp2
          go_ret2
          exact ⟨Fin.out.symm, rfl⟩
        · go_wp2
          go_ret2
          exact ⟨Fin.out.symm, rfl⟩
      · have fin : R = Ending.returned (.tuple #[.int .i64 0, .bool false]) := by rw [← HR.out, ← ret2_no f]
        have Fin := Lib.hid fin
        clear e H' f fin
        rcases g with g | g | ⟨rfl, g⟩ | ⟨rfl, g⟩
        all_goals
          go_wp2
          go_ret2
          exact ⟨Fin.out.symm, rfl⟩
end Go.Proofs.Ytabogoonbapjiaa
