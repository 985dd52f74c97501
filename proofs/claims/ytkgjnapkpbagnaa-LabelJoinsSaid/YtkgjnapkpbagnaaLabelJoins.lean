/-
  The walk of the law LabelJoins.
-/
import Derived.Test.YtkgjnapkpbagnaaLabelTells
import Derived.Test.YtkgjnapkpbagnaaRuneFacts2
namespace Go.Proofs.Ytkgjnapkpbagnaa
open Go.RowKit
set_option linter.unusedVariables false
set_option linter.unusedSimpArgs false

set_option maxRecDepth 100000 in
set_option maxHeartbeats 4000000 in
theorem LJoins_yes (s t : List UInt8) (w : World) (hs : rightB s = true) (ht : rightB t = true) :
    Calls Try.prog 6 #[.string (str s), .string (str t)] w fun e w' => e = .returned (.bool true) ∧ Below w.heap.size w w' := by
  have Hs := Lib.hid hs
  have Ht := Lib.hid ht
  have ls := right_len hs
  have lt := right_len ht
  have zs : (str s).size ≤ 48 := by rw [str_size]; exact ls
  have zt : (str t).size ≤ 48 := by rw [str_size]; exact lt
  have fs : (str (foldL s)).size ≤ 48 := by rw [str_size, foldL_len]; exact ls
  have ft : (str (foldL t)).size ≤ 48 := by rw [str_size, foldL_len]; exact lt
  have bs : (str (backL s)).size ≤ 48 := by rw [str_size, backL_len]; exact ls
  have bt : (str (backL t)).size ≤ 48 := by rw [str_size, backL_len]; exact lt
  have lst : (s ++ t).length ≤ 96 := by rw [List.length_append]; omega
  have cs : (runes s).length ≤ 48 := Nat.le_trans (runes_len s) ls
  have ct : (runes t).length ≤ 48 := Nat.le_trans (runes_len t) lt
  have ejs : str s ++ str t = str (s ++ t) := str_append s t
  have ejf : str (foldL s) ++ str (foldL t) = str (foldL s ++ foldL t) := str_append _ _
  have ejb : str (backL t) ++ str (backL s) = str (backL t ++ backL s) := str_append _ _
  have ecount : Hid ((runes (s ++ t)).length = (runes s).length + (runes t).length) := Lib.hid (by rw [runes_join ht, List.length_append])
  have efold := Lib.hid (fold_join (s := s) ht)
  have eback := Lib.hid (back_join (s := s) ht)
  have ecut := Lib.hid (cut_join (s := s) ht)
  have eright := Lib.hid (right_join hs ht)
  clear hs ht
  go_enter Try.func6, Try.ntmps6
  go_wp2_with fail
  refine (Right_any s _).mono ?_
  rintro e w1 ⟨rfl, b⟩
  rw [Hs.out]
  have B1 := Lib.hid b
  clear b
  go_wp2_with fail
  refine (Right_any t _).mono ?_
  rintro e w2 ⟨rfl, b⟩
  rw [Ht.out]
  have B2 := Lib.hid (B1.out.trans (b.mono B1.out.size))
  clear b
  go_wp2_with fail
  refine (Count_any (s ++ t) _ (by omega)).mono ?_
  rintro e w3 ⟨rfl, b⟩
  rw [ecount.out]
  have B3 := Lib.hid (B2.out.trans (b.mono B2.out.size))
  clear b
  go_wp2_with fail
  refine (Count_any s _ (by omega)).mono ?_
  rintro e w4 ⟨rfl, b⟩
  have B4 := Lib.hid (B3.out.trans (b.mono B3.out.size))
  clear b
  go_wp2_with fail
  refine (Count_any t _ (by omega)).mono ?_
  rintro e w5 ⟨rfl, b⟩
  have B5 := Lib.hid (B4.out.trans (b.mono B4.out.size))
  clear b
  go_wp2_with fail
  refine (LFold_any (s ++ t) _ (by omega)).mono ?_
  rintro e w6 ⟨rfl, b⟩
  rw [efold.out]
  have B6 := Lib.hid (B5.out.trans (b.mono B5.out.size))
  clear b
  go_wp2_with fail
  refine (LFold_any s _ (by omega)).mono ?_
  rintro e w7 ⟨rfl, b⟩
  have B7 := Lib.hid (B6.out.trans (b.mono B6.out.size))
  clear b
  go_wp2_with fail
  refine (LFold_any t _ (by omega)).mono ?_
  rintro e w8 ⟨rfl, b⟩
  have B8 := Lib.hid (B7.out.trans (b.mono B7.out.size))
  clear b
  go_wp2_with fail
  refine (Back_any (s ++ t) _ (by omega)).mono ?_
  rintro e w9 ⟨rfl, b⟩
  rw [eback.out]
  have B9 := Lib.hid (B8.out.trans (b.mono B8.out.size))
  clear b
  go_wp2_with fail
  refine (Back_any t _ (by omega)).mono ?_
  rintro e w10 ⟨rfl, b⟩
  have B10 := Lib.hid (B9.out.trans (b.mono B9.out.size))
  clear b
  go_wp2_with fail
  refine (Back_any s _ (by omega)).mono ?_
  rintro e w11 ⟨rfl, b⟩
  have B11 := Lib.hid (B10.out.trans (b.mono B10.out.size))
  clear b
  go_wp2_with fail
  refine (Count_any s _ (by omega)).mono ?_
  rintro e w12 ⟨rfl, b⟩
  have B12 := Lib.hid (B11.out.trans (b.mono B11.out.size))
  clear b
  go_wp2_with fail
  refine (Cut_any (s ++ t) _ _ (by omega) (by omega) (by omega)).mono ?_
  rintro e w13 ⟨rfl, b⟩
  rw [ecut.out]
  have B13 := Lib.hid (B12.out.trans (b.mono B12.out.size))
  clear b
  go_wp2_with fail
  refine (Right_any (s ++ t) _).mono ?_
  rintro e w14 ⟨rfl, b⟩
  rw [eright.out]
  have B14 := Lib.hid (B13.out.trans (b.mono B13.out.size))
  clear b
  go_wp2_with fail
  refine (Count_any (s ++ t) _ (by omega)).mono ?_
  rintro e w15 ⟨rfl, b⟩
  have B15 := Lib.hid (B14.out.trans (b.mono B14.out.size))
  clear b
  go_wp2_with fail
  refine (LKnown_any _).mono ?_
  rintro e w16 ⟨rfl, b⟩
  have B16 := Lib.hid (B15.out.trans (b.mono B15.out.size))
  clear b
  go_wp2_with fail
  go_ret
  exact ⟨rfl, B16.out⟩

set_option maxRecDepth 100000 in
theorem LJoins_first (s t : List UInt8) (w : World) (hs : rightB s = false) :
    Calls Try.prog 6 #[.string (str s), .string (str t)] w fun e w' => e = .returned (.bool true) ∧ Below w.heap.size w w' := by
  have Hs := Lib.hid hs
  clear hs
  go_enter Try.func6, Try.ntmps6
  go_wp2_with fail
  refine (Right_any s _).mono ?_
  rintro e w1 ⟨rfl, b⟩
  rw [Hs.out]
  have B1 := Lib.hid b
  clear b
  go_wp2_with fail
  refine (LKnown_any _).mono ?_
  rintro e w2 ⟨rfl, b⟩
  have B2 := Lib.hid (B1.out.trans (b.mono B1.out.size))
  clear b
  go_wp2_with fail
  go_ret
  exact ⟨rfl, B2.out⟩

set_option maxRecDepth 100000 in
theorem LJoins_second (s t : List UInt8) (w : World) (hs : rightB s = true) (ht : rightB t = false) :
    Calls Try.prog 6 #[.string (str s), .string (str t)] w fun e w' => e = .returned (.bool true) ∧ Below w.heap.size w w' := by
  have Hs := Lib.hid hs
  have Ht := Lib.hid ht
  clear hs ht
  go_enter Try.func6, Try.ntmps6
  go_wp2_with fail
  refine (Right_any s _).mono ?_
  rintro e w1 ⟨rfl, b⟩
  rw [Hs.out]
  have B1 := Lib.hid b
  clear b
  go_wp2_with fail
  refine (Right_any t _).mono ?_
  rintro e w2 ⟨rfl, b⟩
  rw [Ht.out]
  have B2 := Lib.hid (B1.out.trans (b.mono B1.out.size))
  clear b
  go_wp2_with fail
  refine (LKnown_any _).mono ?_
  rintro e w3 ⟨rfl, b⟩
  have B3 := Lib.hid (B2.out.trans (b.mono B2.out.size))
  clear b
  go_wp2_with fail
  go_ret
  exact ⟨rfl, B3.out⟩

theorem LJoins_walk (s t : List UInt8) (w : World) :
    Calls Try.prog 6 #[.string (str s), .string (str t)] w fun e w' => e = .returned (.bool true) ∧ Below w.heap.size w w' := by
  cases hs : rightB s
  · exact LJoins_first s t w hs
  · cases ht : rightB t
    · exact LJoins_second s t w hs ht
    · exact LJoins_yes s t w hs ht
end Go.Proofs.Ytkgjnapkpbagnaa
