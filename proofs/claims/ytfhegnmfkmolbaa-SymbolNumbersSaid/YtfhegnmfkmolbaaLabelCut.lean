/-
  Contracts: Count and Cut of package label; strings.Clone.
-/
import Derived.Test.YtfhegnmfkmolbaaTexts
import Derived.Test.YtfhegnmfkmolbaaShelf
namespace Go.Proofs.Ytfhegnmfkmolbaa
open Go.RowKit
set_option linter.unusedVariables false
set_option linter.unusedSimpArgs false

set_option maxRecDepth 100000 in
set_option maxHeartbeats 1000000 in
theorem Count_any (l : List UInt8) (w : World) (hs : l.length ≤ 140737488355328) :
    Calls Try.prog 25 #[.string (str l)] w fun e w' => e = .returned (.int .i64 (runes l).length) ∧ Below w.heap.size w w' := by
  have fl := fits hs
  go_enter Try.func25, Try.ntmps25
  go_wp2
  go_loopw [3] (fun c wr => ∃ k pos : Nat, k ≤ 140737488355328 ∧ c = .int .i64 k ∧ Hid (At l k pos) ∧ wr = w.iter (str l) pos) (fun _ wr => l.length - wr.iterPos w.heap.size)
  case atStart => exact ⟨0, 0, by omega, rfl, Lib.hid (at_zero l), rfl⟩
  case round =>
    obtain ⟨k, pos, hk, rfl, ha, rfl⟩ := hrel
    by_cases hp : pos < l.length
    · obtain ⟨r, d, hnx, _, hd, hpd, hkl, _, ha2, _⟩ := at_step ha.out hp
      have ha2 := Lib.hid ha2
      have hn := hnx w
      clear hnx
      go_wp2
      go_roundw
      case rel => exact ⟨k + 1, pos + d, by omega, by go_num, ha2, rfl⟩
      case measure => simp only [World.iterPos_iter]; omega
    · have hn := (at_stop hp).1 w
      have he := Lib.hid (at_end ha.out hp).2
      go_wp2
      go_ret
      exact ⟨ret_i (by rw [he.out]), below_iter _ _ _⟩

theorem Clone_any (l : List UInt8) (w : World) (hs : l.length ≤ 140737488355328) :
    Calls Try.prog 28 #[.string (str l)] w fun e w' => e = .returned (.string (str l)) ∧ Below w.heap.size w w' := by
  go_enter Try.func28, Try.ntmps28
  go_wp2_with (go_at_call 31; refine (Try.stringslite_Clone (str l) _ (by rw [str_size]; omega)).mono ?_; rintro e w' ⟨rfl, hb⟩)
  go_ret
  exact ⟨rfl, hb⟩

set_option maxRecDepth 100000 in
set_option maxHeartbeats 1000000 in
theorem Cut_any (l : List UInt8) (n : Int) (w : World) (hs : l.length ≤ 140737488355328) (n1 : -9223372036854775808 ≤ n) (n2 : n ≤ 9223372036854775807) :
    Calls Try.prog 24 #[.string (str l), .int .i64 n] w fun e w' => e = .returned (.string (str (cutL l n))) ∧ Below w.heap.size w w' := by
  have fl := fits hs
  go_enter Try.func24, Try.ntmps24
  go_wp2
  go_loopw [5] (fun c wr => ∃ k pos : Nat, k ≤ 140737488355328 ∧ c = .int .i64 k ∧ Hid (At l k pos) ∧ Hid (∀ j : Nat, j < k → (j : Int) < n) ∧ wr = w.iter (str l) pos) (fun _ wr => l.length - wr.iterPos w.heap.size)
  case atStart => exact ⟨0, 0, by omega, rfl, Lib.hid (at_zero l), Lib.hid (fun j hj => absurd hj (Nat.not_lt_zero _)), rfl⟩
  case round =>
    obtain ⟨k, pos, hk, rfl, ha, hj, rfl⟩ := hrel
    by_cases hp : pos < l.length
    · obtain ⟨r, d, hnx, _, hd, hpd, hkl, _, ha2, _⟩ := at_step ha.out hp
      have ha2 := Lib.hid ha2
      have hn := hnx w
      clear hnx
      by_cases hc : n ≤ k
      · have hd1 : decide (n ≤ (k : Int)) = true := decide_eq_true hc
        have he := Lib.hid (cut_stop ha.out hc hj.out)
        have hx : Hid ((str l).extract 0 pos = str (cutL l n)) := Lib.hid (by rw [ext_to, he.out])
        have hs2 : pos ≤ (str l).size := by rw [str_size]; omega
        go_wp2_with fail
        rw [hx.out]
        refine (Clone_any _ _ (Nat.le_trans (cutL_le l n) hs)).mono ?_
        rintro e w' ⟨rfl, hb⟩
        go_wp2_with fail
        go_ret
        exact ⟨rfl, (below_iter _ _ _).trans (hb.mono (by simp [World.iter]))⟩
      · have hd1 : decide (n ≤ (k : Int)) = false := decide_eq_false hc
        have hj2 : Hid (∀ j : Nat, j < k + 1 → (j : Int) < n) := Lib.hid (fun j h => by have := hj.out; by_cases e : j = k; omega; exact this j (by omega))
        go_wp2
        go_roundw
        case rel => exact ⟨k + 1, pos + d, by omega, by go_num, ha2, hj2, rfl⟩
        case measure => simp only [World.iterPos_iter]; omega
    · have hn := (at_stop hp).1 w
      have he := Lib.hid (at_end ha.out hp).2
      have hall := Lib.hid (cut_all (l := l) (n := n) (by rw [← he.out]; exact hj.out))
      go_wp2_with (go_at_call 28; refine (Clone_any l _ hs).mono ?_; rintro e w' ⟨rfl, hb⟩)
      go_ret
      exact ⟨ret_s hall.out, (below_iter _ _ _).trans (hb.mono (by simp [World.iter]))⟩

end Go.Proofs.Ytfhegnmfkmolbaa
