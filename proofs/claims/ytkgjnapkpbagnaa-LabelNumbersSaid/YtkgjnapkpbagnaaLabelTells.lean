/-
  The walks of few and known, and of the law LabelTells.
-/
import Derived.Test.YtkgjnapkpbagnaaBack
import Derived.Test.YtkgjnapkpbagnaaFold
import Derived.Test.YtkgjnapkpbagnaaRefFold
import Derived.Test.YtkgjnapkpbagnaaRefPad
import Derived.KernelRfl
namespace Go.Proofs.Ytkgjnapkpbagnaa
open Go.RowKit
set_option linter.unusedVariables false
set_option linter.unusedSimpArgs false

theorem take_len (l : List UInt8) (n : Nat) : (l.take n).length ≤ n := by rw [List.length_take]; omega
set_option maxRecDepth 100000 in
theorem Few_any (l : List UInt8) (w : World) :
    Calls Try.prog 22 #[.string (str l)] w fun e w' => e = .returned (.string (str (l.take 300))) ∧ w' = w := by
  by_cases h : 300 < l.length
  · have hz : (300 : Int) < ((str l).size : Int) := by rw [str_size]; omega
    have hz2 : 300 ≤ (str l).size := by rw [str_size]; omega
    go_enter Try.func22, Try.ntmps22
    go_wp2
    go_ret
    exact ⟨by rw [ext_to]; rfl, rfl⟩
  · have hz : ¬ (300 : Int) < ((str l).size : Int) := by rw [str_size]; omega
    have ht := Lib.hid (show l.take 300 = l from List.take_of_length_le (by omega))
    go_enter Try.func22, Try.ntmps22
    go_wp2
    go_ret
    exact ⟨by rw [ht.out]; rfl, rfl⟩

theorem k1 : (runes [97, 195, 169, 255]).length = 3 := by decide
theorem k2 : padL [195, 169] 3 = [195, 169, 32, 32] := by decide
theorem k3 : backL [97, 98] = [98, 97] := by decide
theorem k4 : rightB [97, 98] = true := by decide
theorem k5 : rightB [] = false := by decide

set_option maxRecDepth 100000 in
set_option maxHeartbeats 1000000 in
theorem LKnown_any (w : World) : Calls Try.prog 21 #[] w fun e w' => e = .returned (.bool true) ∧ Below w.heap.size w w' := by
  go_enter Try.func21, Try.ntmps21
  go_wp2_with fail
  refine (Count_any [97, 195, 169, 255] _ (by decide)).mono ?_
  rintro e w1 ⟨rfl, b1⟩
  rw [k1]
  have B1 := Lib.hid b1
  clear b1
  go_wp2_with fail
  refine (Pad_any [195, 169] 3 _ (by decide) (by decide) (by decide)).mono ?_
  rintro e w2 ⟨rfl, b2⟩
  rw [k2]
  have B2 := Lib.hid (B1.out.trans (b2.mono B1.out.size))
  clear b2
  have e2 : str [195, 169, 32, 32] = { data := #[195, 169, 32, 32] } := rfl
  go_wp2_with fail
  refine (Back_any [97, 98] _ (by decide)).mono ?_
  rintro e w3 ⟨rfl, b3⟩
  rw [k3]
  have B3 := Lib.hid (B2.out.trans (b3.mono B2.out.size))
  clear b3
  have e3 : str [98, 97] = { data := #[98, 97] } := rfl
  go_wp2_with fail
  refine (Right_any [97, 98] _).mono ?_
  rintro e w4 ⟨rfl, b4⟩
  rw [k4]
  have B4 := Lib.hid (B3.out.trans (b4.mono B3.out.size))
  clear b4
  go_wp2_with fail
  refine (Right_any [] _).mono ?_
  rintro e w5 ⟨rfl, b5⟩
  rw [k5]
  have B5 := Lib.hid (B4.out.trans (b5.mono B4.out.size))
  clear b5
  go_wp2_with fail
  go_ret
  exact ⟨rfl, B5.out⟩

set_option maxRecDepth 100000 in
set_option maxHeartbeats 4000000 in
theorem LTells_walk (s : List UInt8) (n : Int) (w : World) (n1 : -9223372036854775808 ≤ n) (n2 : n ≤ 9223372036854775807) :
    Calls Try.prog 4 #[.string (str s), .int .i64 n] w fun e w' => e = .returned (.bool true) ∧ Below w.heap.size w w' := by
  have hl := take_len s 300
  obtain ⟨l, el⟩ : ∃ l, s.take 300 = l := ⟨_, rfl⟩
  rw [el] at hl
  have el := Lib.hid el
  go_enter Try.func4, Try.ntmps4
  go_wp2_with fail
  refine (Few_any s _).mono ?_
  rintro e w0 ⟨rfl, rfl⟩
  rw [el.out]
  go_wp2_with fail
  refine (Right_any l _).mono ?_
  rintro e w1 ⟨rfl, b⟩
  have B1 := Lib.hid b
  clear b
  go_wp2_with fail
  refine (RefRight_any l _ (by omega)).mono ?_
  rintro e w2 ⟨rfl, b⟩
  have B2 := Lib.hid (B1.out.trans (b.mono B1.out.size))
  clear b
  go_wp2_with fail
  refine (Count_any l _ (by omega)).mono ?_
  rintro e w3 ⟨rfl, b⟩
  have B3 := Lib.hid (B2.out.trans (b.mono B2.out.size))
  clear b
  go_wp2_with fail
  refine (RefCount_any l _ (by omega)).mono ?_
  rintro e w4 ⟨rfl, b⟩
  have B4 := Lib.hid (B3.out.trans (b.mono B3.out.size))
  clear b
  go_wp2_with fail
  refine (Cut_any l n _ (by omega) n1 n2).mono ?_
  rintro e w5 ⟨rfl, b⟩
  have B5 := Lib.hid (B4.out.trans (b.mono B4.out.size))
  clear b
  go_wp2_with fail
  refine (RefCut_any l n _ (by omega) n1 n2).mono ?_
  rintro e w6 ⟨rfl, b⟩
  have B6 := Lib.hid (B5.out.trans (b.mono B5.out.size))
  clear b
  go_wp2_with fail
  refine (Pad_any l n _ (by omega) n1 n2).mono ?_
  rintro e w7 ⟨rfl, b⟩
  have B7 := Lib.hid (B6.out.trans (b.mono B6.out.size))
  clear b
  go_wp2_with fail
  refine (RefPad_any l n _ (by omega) n1 n2).mono ?_
  rintro e w8 ⟨rfl, b⟩
  have B8 := Lib.hid (B7.out.trans (b.mono B7.out.size))
  clear b
  go_wp2_with fail
  refine (LFold_any l _ (by omega)).mono ?_
  rintro e w9 ⟨rfl, b⟩
  have B9 := Lib.hid (B8.out.trans (b.mono B8.out.size))
  clear b
  go_wp2_with fail
  refine (RefFold_any l _ (by omega)).mono ?_
  rintro e w10 ⟨rfl, b⟩
  have B10 := Lib.hid (B9.out.trans (b.mono B9.out.size))
  clear b
  go_wp2_with fail
  refine (Back_any l _ (by omega)).mono ?_
  rintro e w11 ⟨rfl, b⟩
  have B11 := Lib.hid (B10.out.trans (b.mono B10.out.size))
  clear b
  go_wp2_with fail
  refine (RefBack_any l _ (by omega)).mono ?_
  rintro e w12 ⟨rfl, b⟩
  have B12 := Lib.hid (B11.out.trans (b.mono B11.out.size))
  clear b
  go_wp2_with fail
  refine (LKnown_any _).mono ?_
  rintro e w13 ⟨rfl, b⟩
  have B13 := Lib.hid (B12.out.trans (b.mono B12.out.size))
  clear b
  go_wp2_with fail
  go_ret
  exact ⟨rfl, B13.out⟩
end Go.Proofs.Ytkgjnapkpbagnaa
