/-
  Contract: Pad, of the document's own answer.
-/
import Derived.Test.YtkgjnapkpbagnaaPad
namespace Go.Proofs.Ytkgjnapkpbagnaa
open Go.RowKit
set_option linter.unusedVariables false
set_option linter.unusedSimpArgs false

theorem str_blank (l : List UInt8) : str l ++ { data := #[32] } = str (l ++ [32]) := str_append l [32]

set_option maxRecDepth 100000 in
set_option maxHeartbeats 1000000 in
theorem RefPad_any (l : List UInt8) (n : Int) (w : World) (hs : l.length ≤ 1000000) (n1 : -9223372036854775808 ≤ n) (n2 : n ≤ 9223372036854775807) :
    Calls Try.prog 20 #[.string (str l), .int .i64 n] w fun e w' => e = .returned (.string (str (padL l n))) ∧ Below w.heap.size w w' := by
  obtain ⟨m, em⟩ : ∃ m, upTo n = m := ⟨_, rfl⟩
  have m1 : -9223372036854775808 ≤ m := by rw [← em]; unfold upTo; omega
  have m2 : m ≤ 1000 := by rw [← em]; unfold upTo; omega
  have hc := cutL_le l m
  have hcl : (runes (cutL l m)).length ≤ 1000000 := Nat.le_trans (runes_len _) (by omega)
  obtain ⟨c, ec⟩ : ∃ c, cutL l m = c := ⟨_, rfl⟩
  have hpad := Lib.hid (show padL l n = c ++ List.replicate (m - (runes c).length).toNat 32 by unfold padL padTo; rw [em, ec])
  rw [ec] at hc hcl
  have ec := Lib.hid ec
  obtain ⟨q, eq⟩ : ∃ q, (runes c).length = q := ⟨_, rfl⟩
  rw [eq] at hcl hpad
  have eq := Lib.hid eq
  by_cases h1000 : 1000 < n
  · have hd : decide ((1000 : Int) < n) = true := decide_eq_true h1000
    obtain rfl : m = 1000 := by rw [← em]; unfold upTo; omega
    clear em
    go_enter Try.func20, Try.ntmps20
    go_wp2_with fail
    refine (RefCut_any l 1000 _ (by omega) (by omega) (by omega)).mono ?_
    rintro e w1 ⟨rfl, b1⟩
    rw [ec.out]
    have b1 := Lib.hid b1
    go_wp2_with fail
    refine (RefCount_any c _ (by omega)).mono ?_
    rintro e w4 ⟨rfl, b4⟩
    rw [eq.out]
    have b14 := Lib.hid (b1.out.trans (b4.mono b1.out.size))
    clear b4
    go_wp2_with fail
    go_loop [5, 6] (fun o s => ∃ j : Nat, j ≤ 1000000 + 1000 ∧ s = .int .i64 ((q : Int) + j) ∧ Hid ((j : Int) ≤ ((1000 : Int) - q).toNat) ∧ o = .string (str (c ++ List.replicate j 32))) (fun _ s => ((1000 : Int) - intOf s).toNat)
    case atStart => exact ⟨0, by omega, by go_num, Lib.hid (by omega), by simp⟩
    case round =>
      obtain ⟨j, hj, rfl, hjm, rfl⟩ := hrel
      by_cases hlt : (q : Int) + j < 1000
      · have hd1 : decide ((q : Int) + j < 1000) = true := decide_eq_true hlt
        have hsz : (str (c ++ List.replicate j 32)).size ≤ 3000000 := by rw [str_size, List.length_append, List.length_replicate]; omega
        go_wp2_with fail
        go_round
        case rel => exact ⟨j + 1, by omega, by go_num, Lib.hid (by omega), by rw [str_blank, blanks_next]⟩
        case measure => simp [intOf]; omega
      · have hd1 : decide ((q : Int) + j < 1000) = false := decide_eq_false hlt
        have hfin : Hid (c ++ List.replicate j 32 = padL l n) := Lib.hid (by rw [hpad.out, show ((1000 : Int) - q).toNat = j by have := hjm.out; omega])
        go_wp2_with fail
        go_ret
        exact ⟨ret_s hfin.out, b14.out⟩
  · have hd : decide ((1000 : Int) < n) = false := decide_eq_false h1000
    obtain rfl : n = m := by rw [← em]; unfold upTo; omega
    clear em
    go_enter Try.func20, Try.ntmps20
    go_wp2_with fail
    refine (RefCut_any l n _ (by omega) (by omega) (by omega)).mono ?_
    rintro e w1 ⟨rfl, b1⟩
    rw [ec.out]
    have b1 := Lib.hid b1
    go_wp2_with fail
    refine (RefCount_any c _ (by omega)).mono ?_
    rintro e w4 ⟨rfl, b4⟩
    rw [eq.out]
    have b14 := Lib.hid (b1.out.trans (b4.mono b1.out.size))
    clear b4
    go_wp2_with fail
    go_loop [5, 6] (fun o s => ∃ j : Nat, j ≤ 1000000 + 1000 ∧ s = .int .i64 ((q : Int) + j) ∧ Hid ((j : Int) ≤ (n - q).toNat) ∧ o = .string (str (c ++ List.replicate j 32))) (fun _ s => (n - intOf s).toNat)
    case atStart => exact ⟨0, by omega, by go_num, Lib.hid (by omega), by simp⟩
    case round =>
      obtain ⟨j, hj, rfl, hjm, rfl⟩ := hrel
      by_cases hlt : (q : Int) + j < n
      · have hd1 : decide ((q : Int) + j < n) = true := decide_eq_true hlt
        have hsz : (str (c ++ List.replicate j 32)).size ≤ 3000000 := by rw [str_size, List.length_append, List.length_replicate]; omega
        go_wp2_with fail
        go_round
        case rel => exact ⟨j + 1, by omega, by go_num, Lib.hid (by omega), by rw [str_blank, blanks_next]⟩
        case measure => simp [intOf]; omega
      · have hd1 : decide ((q : Int) + j < n) = false := decide_eq_false hlt
        have hfin : Hid (c ++ List.replicate j 32 = padL l n) := Lib.hid (by rw [hpad.out, show (n - q).toNat = j by have := hjm.out; omega])
        go_wp2_with fail
        go_ret
        exact ⟨ret_s hfin.out, b14.out⟩
end Go.Proofs.Ytkgjnapkpbagnaa
