/-
  The walk of the law LabelRules.
-/
import Derived.Test.YtkgjnapkpbagnaaLabelRules
namespace Go.Proofs.Ytkgjnapkpbagnaa
open Go.RowKit
set_option linter.unusedVariables false
set_option linter.unusedSimpArgs false

set_option maxRecDepth 100000 in
set_option maxHeartbeats 4000000 in
theorem LRules_nlr (s l : List UInt8) (n : Int) (m a q e : Nat) (c p f bk : List UInt8) (w : World) (n1 : -9223372036854775808 ≤ n) (n2 : n ≤ 9223372036854775807) (hn : n < 0) (hm : Hid (-(n + 1).tmod 50 = (m : Int))) (m49 : m ≤ 49)
    (el : Hid (s.take 300 = l)) (q3 : q ≤ 300) (ha : a < m) (a3 : a ≤ 300) (R : Hid (RulesFacts l m a q e c p f bk)) (hr : Hid (rightB l = true)) (e3 : e ≤ q) :
    Calls Try.prog 5 #[.string (str s), .int .i64 n] w fun e w' => e = .returned (.bool true) ∧ Below w.heap.size w w' := by
  have hlz := R.out.lz
  have hbz := R.out.bz
  have hcz := R.out.cz
  have hx := R.out.ext
  have hl : l.length ≤ 300 := by rw [R.out.ll]; exact q3
  have hc : c.length ≤ 300 := by rw [R.out.cl]; omega
  have hf : f.length ≤ 300 := by rw [R.out.fl]; exact q3
  have hb : bk.length ≤ 300 := by rw [R.out.bl]; exact q3
  have hp : p.length ≤ 1300 := R.out.pl q3
  have hd1 : decide ((a : Int) < (m : Int)) = true := decide_eq_true (by omega)
  go_enter Try.func5, Try.ntmps5
  go_wp2_with fail
  refine (Few_any s _).mono ?_
  rintro e0 w0 ⟨rfl, rfl⟩
  rw [el.out]
  go_wp2_with fail
  rw [hm.out]
  refine (Cut_any l m _ (by omega) (by omega) (by omega)).mono ?_
  rintro e w1 ⟨rfl, b⟩
  rw [R.out.ec]
  have B1 := Lib.hid b
  clear b
  go_wp2_with fail
  refine (Count_any l _ (by omega)).mono ?_
  rintro e w2 ⟨rfl, b⟩
  rw [R.out.ea]
  have B2 := Lib.hid (B1.out.trans (b.mono B1.out.size))
  clear b
  go_wp2_with fail
  refine (Count_any c _ (by omega)).mono ?_
  rintro e w3 ⟨rfl, b⟩
  rw [R.out.cc, R.out.k_less ha]
  have B3 := Lib.hid (B2.out.trans (b.mono B2.out.size))
  clear b
  go_wp2_with fail
  refine (Pad_any l m _ (by omega) (by omega) (by omega)).mono ?_
  rintro e w4 ⟨rfl, b⟩
  rw [R.out.ep]
  have B4 := Lib.hid (B3.out.trans (b.mono B3.out.size))
  clear b
  go_wp2_with fail
  refine (Count_any p _ (by omega)).mono ?_
  rintro e w5 ⟨rfl, b⟩
  rw [R.out.pc]
  have B5 := Lib.hid (B4.out.trans (b.mono B4.out.size))
  clear b
  go_wp2_with fail
  refine (Pad_any l m _ (by omega) (by omega) (by omega)).mono ?_
  rintro e w6 ⟨rfl, b⟩
  rw [R.out.ep]
  have B6 := Lib.hid (B5.out.trans (b.mono B5.out.size))
  clear b
  go_wp2_with fail
  refine (Cut_any p a _ (by omega) (by omega) (by omega)).mono ?_
  rintro e w7 ⟨rfl, b⟩
  rw [R.out.pk_less ha]
  have B7 := Lib.hid (B6.out.trans (b.mono B6.out.size))
  clear b
  go_wp2_with fail
  refine (LFold_any l _ (by omega)).mono ?_
  rintro e w8 ⟨rfl, b⟩
  rw [R.out.ef]
  have B8 := Lib.hid (B7.out.trans (b.mono B7.out.size))
  clear b
  go_wp2_with fail
  refine (LFold_any f _ (by omega)).mono ?_
  rintro e w9 ⟨rfl, b⟩
  rw [R.out.ff]
  have B9 := Lib.hid (B8.out.trans (b.mono B8.out.size))
  clear b
  go_wp2_with fail
  refine (LFold_any l _ (by omega)).mono ?_
  rintro e w10 ⟨rfl, b⟩
  rw [R.out.ef]
  have B10 := Lib.hid (B9.out.trans (b.mono B9.out.size))
  clear b
  go_wp2_with fail
  refine (LFold_any l _ (by omega)).mono ?_
  rintro e w11 ⟨rfl, b⟩
  rw [R.out.ef]
  have B11 := Lib.hid (B10.out.trans (b.mono B10.out.size))
  clear b
  go_wp2_with fail
  refine (Count_any f _ (by omega)).mono ?_
  rintro e w12 ⟨rfl, b⟩
  rw [R.out.fc]
  have B12 := Lib.hid (B11.out.trans (b.mono B11.out.size))
  clear b
  go_wp2_with fail
  refine (Back_any l _ (by omega)).mono ?_
  rintro e w13 ⟨rfl, b⟩
  rw [R.out.eb]
  have B13 := Lib.hid (B12.out.trans (b.mono B12.out.size))
  clear b
  go_wp2_with fail
  refine (Right_any l _).mono ?_
  rintro e w14 ⟨rfl, b⟩
  rw [hr.out]
  have B14 := Lib.hid (B13.out.trans (b.mono B13.out.size))
  clear b
  go_wp2_with fail
  refine (Back_any l _ (by omega)).mono ?_
  rintro e w15 ⟨rfl, b⟩
  rw [R.out.eb]
  have B15 := Lib.hid (B14.out.trans (b.mono B14.out.size))
  clear b
  go_wp2_with fail
  refine (Back_any bk _ (by omega)).mono ?_
  rintro e w16 ⟨rfl, b⟩
  rw [R.out.bb hr.out]
  have B16 := Lib.hid (B15.out.trans (b.mono B15.out.size))
  clear b
  have a12 : a ≤ 12 := R.out.a12 hr.out
  go_wp2_with fail
  refine (Back_any l _ (by omega)).mono ?_
  rintro e w17 ⟨rfl, b⟩
  rw [R.out.eb]
  have B17 := Lib.hid (B16.out.trans (b.mono B16.out.size))
  clear b
  go_wp2_with fail
  refine (Right_any bk _).mono ?_
  rintro e w18 ⟨rfl, b⟩
  rw [R.out.rb hr.out]
  have B18 := Lib.hid (B17.out.trans (b.mono B17.out.size))
  clear b
  go_wp2_with fail
  refine (LFold_any l _ (by omega)).mono ?_
  rintro e w19 ⟨rfl, b⟩
  rw [R.out.ef]
  have B19 := Lib.hid (B18.out.trans (b.mono B18.out.size))
  clear b
  go_wp2_with fail
  refine (Right_any f _).mono ?_
  rintro e w20 ⟨rfl, b⟩
  rw [R.out.rf hr.out]
  have B20 := Lib.hid (B19.out.trans (b.mono B19.out.size))
  clear b
  go_wp2_with fail
  refine (LKnown_any _).mono ?_
  rintro e w21 ⟨rfl, b⟩
  have B21 := Lib.hid (B20.out.trans (b.mono B20.out.size))
  clear b
  go_wp2_with fail
  go_ret
  exact ⟨rfl, B21.out⟩

set_option maxRecDepth 100000 in
set_option maxHeartbeats 4000000 in
theorem LRules_nlw (s l : List UInt8) (n : Int) (m a q e : Nat) (c p f bk : List UInt8) (w : World) (n1 : -9223372036854775808 ≤ n) (n2 : n ≤ 9223372036854775807) (hn : n < 0) (hm : Hid (-(n + 1).tmod 50 = (m : Int))) (m49 : m ≤ 49)
    (el : Hid (s.take 300 = l)) (q3 : q ≤ 300) (ha : a < m) (a3 : a ≤ 300) (R : Hid (RulesFacts l m a q e c p f bk)) (hr : Hid (rightB l = false)) (e3 : e ≤ q) :
    Calls Try.prog 5 #[.string (str s), .int .i64 n] w fun e w' => e = .returned (.bool true) ∧ Below w.heap.size w w' := by
  have hlz := R.out.lz
  have hbz := R.out.bz
  have hcz := R.out.cz
  have hx := R.out.ext
  have hl : l.length ≤ 300 := by rw [R.out.ll]; exact q3
  have hc : c.length ≤ 300 := by rw [R.out.cl]; omega
  have hf : f.length ≤ 300 := by rw [R.out.fl]; exact q3
  have hb : bk.length ≤ 300 := by rw [R.out.bl]; exact q3
  have hp : p.length ≤ 1300 := R.out.pl q3
  have hd1 : decide ((a : Int) < (m : Int)) = true := decide_eq_true (by omega)
  go_enter Try.func5, Try.ntmps5
  go_wp2_with fail
  refine (Few_any s _).mono ?_
  rintro e0 w0 ⟨rfl, rfl⟩
  rw [el.out]
  go_wp2_with fail
  rw [hm.out]
  refine (Cut_any l m _ (by omega) (by omega) (by omega)).mono ?_
  rintro e w1 ⟨rfl, b⟩
  rw [R.out.ec]
  have B1 := Lib.hid b
  clear b
  go_wp2_with fail
  refine (Count_any l _ (by omega)).mono ?_
  rintro e w2 ⟨rfl, b⟩
  rw [R.out.ea]
  have B2 := Lib.hid (B1.out.trans (b.mono B1.out.size))
  clear b
  go_wp2_with fail
  refine (Count_any c _ (by omega)).mono ?_
  rintro e w3 ⟨rfl, b⟩
  rw [R.out.cc, R.out.k_less ha]
  have B3 := Lib.hid (B2.out.trans (b.mono B2.out.size))
  clear b
  go_wp2_with fail
  refine (Pad_any l m _ (by omega) (by omega) (by omega)).mono ?_
  rintro e w4 ⟨rfl, b⟩
  rw [R.out.ep]
  have B4 := Lib.hid (B3.out.trans (b.mono B3.out.size))
  clear b
  go_wp2_with fail
  refine (Count_any p _ (by omega)).mono ?_
  rintro e w5 ⟨rfl, b⟩
  rw [R.out.pc]
  have B5 := Lib.hid (B4.out.trans (b.mono B4.out.size))
  clear b
  go_wp2_with fail
  refine (Pad_any l m _ (by omega) (by omega) (by omega)).mono ?_
  rintro e w6 ⟨rfl, b⟩
  rw [R.out.ep]
  have B6 := Lib.hid (B5.out.trans (b.mono B5.out.size))
  clear b
  go_wp2_with fail
  refine (Cut_any p a _ (by omega) (by omega) (by omega)).mono ?_
  rintro e w7 ⟨rfl, b⟩
  rw [R.out.pk_less ha]
  have B7 := Lib.hid (B6.out.trans (b.mono B6.out.size))
  clear b
  go_wp2_with fail
  refine (LFold_any l _ (by omega)).mono ?_
  rintro e w8 ⟨rfl, b⟩
  rw [R.out.ef]
  have B8 := Lib.hid (B7.out.trans (b.mono B7.out.size))
  clear b
  go_wp2_with fail
  refine (LFold_any f _ (by omega)).mono ?_
  rintro e w9 ⟨rfl, b⟩
  rw [R.out.ff]
  have B9 := Lib.hid (B8.out.trans (b.mono B8.out.size))
  clear b
  go_wp2_with fail
  refine (LFold_any l _ (by omega)).mono ?_
  rintro e w10 ⟨rfl, b⟩
  rw [R.out.ef]
  have B10 := Lib.hid (B9.out.trans (b.mono B9.out.size))
  clear b
  go_wp2_with fail
  refine (LFold_any l _ (by omega)).mono ?_
  rintro e w11 ⟨rfl, b⟩
  rw [R.out.ef]
  have B11 := Lib.hid (B10.out.trans (b.mono B10.out.size))
  clear b
  go_wp2_with fail
  refine (Count_any f _ (by omega)).mono ?_
  rintro e w12 ⟨rfl, b⟩
  rw [R.out.fc]
  have B12 := Lib.hid (B11.out.trans (b.mono B11.out.size))
  clear b
  go_wp2_with fail
  refine (Back_any l _ (by omega)).mono ?_
  rintro e w13 ⟨rfl, b⟩
  rw [R.out.eb]
  have B13 := Lib.hid (B12.out.trans (b.mono B12.out.size))
  clear b
  go_wp2_with fail
  refine (Right_any l _).mono ?_
  rintro e w14 ⟨rfl, b⟩
  rw [hr.out]
  have B14 := Lib.hid (B13.out.trans (b.mono B13.out.size))
  clear b
  go_wp2_with fail
  refine (LKnown_any _).mono ?_
  rintro e w15 ⟨rfl, b⟩
  have B15 := Lib.hid (B14.out.trans (b.mono B14.out.size))
  clear b
  go_wp2_with fail
  go_ret
  exact ⟨rfl, B15.out⟩

set_option maxRecDepth 100000 in
set_option maxHeartbeats 4000000 in
theorem LRules_nmr (s l : List UInt8) (n : Int) (m a q e : Nat) (c p f bk : List UInt8) (w : World) (n1 : -9223372036854775808 ≤ n) (n2 : n ≤ 9223372036854775807) (hn : n < 0) (hm : Hid (-(n + 1).tmod 50 = (m : Int))) (m49 : m ≤ 49)
    (el : Hid (s.take 300 = l)) (q3 : q ≤ 300) (ha : m ≤ a) (a3 : a ≤ 300) (R : Hid (RulesFacts l m a q e c p f bk)) (hr : Hid (rightB l = true)) (e3 : e ≤ q) :
    Calls Try.prog 5 #[.string (str s), .int .i64 n] w fun e w' => e = .returned (.bool true) ∧ Below w.heap.size w w' := by
  have hlz := R.out.lz
  have hbz := R.out.bz
  have hcz := R.out.cz
  have hx := R.out.ext
  have hl : l.length ≤ 300 := by rw [R.out.ll]; exact q3
  have hc : c.length ≤ 300 := by rw [R.out.cl]; omega
  have hf : f.length ≤ 300 := by rw [R.out.fl]; exact q3
  have hb : bk.length ≤ 300 := by rw [R.out.bl]; exact q3
  have hp : p.length ≤ 1300 := R.out.pl q3
  have hd1 : decide ((a : Int) < (m : Int)) = false := decide_eq_false (by omega)
  go_enter Try.func5, Try.ntmps5
  go_wp2_with fail
  refine (Few_any s _).mono ?_
  rintro e0 w0 ⟨rfl, rfl⟩
  rw [el.out]
  go_wp2_with fail
  rw [hm.out]
  refine (Cut_any l m _ (by omega) (by omega) (by omega)).mono ?_
  rintro e w1 ⟨rfl, b⟩
  rw [R.out.ec]
  have B1 := Lib.hid b
  clear b
  go_wp2_with fail
  refine (Count_any l _ (by omega)).mono ?_
  rintro e w2 ⟨rfl, b⟩
  rw [R.out.ea]
  have B2 := Lib.hid (B1.out.trans (b.mono B1.out.size))
  clear b
  go_wp2_with fail
  refine (Count_any c _ (by omega)).mono ?_
  rintro e w3 ⟨rfl, b⟩
  rw [R.out.cc, R.out.k_more ha]
  have B3 := Lib.hid (B2.out.trans (b.mono B2.out.size))
  clear b
  go_wp2_with fail
  refine (Pad_any l m _ (by omega) (by omega) (by omega)).mono ?_
  rintro e w4 ⟨rfl, b⟩
  rw [R.out.ep]
  have B4 := Lib.hid (B3.out.trans (b.mono B3.out.size))
  clear b
  go_wp2_with fail
  refine (Count_any p _ (by omega)).mono ?_
  rintro e w5 ⟨rfl, b⟩
  rw [R.out.pc]
  have B5 := Lib.hid (B4.out.trans (b.mono B4.out.size))
  clear b
  go_wp2_with fail
  refine (Pad_any l m _ (by omega) (by omega) (by omega)).mono ?_
  rintro e w6 ⟨rfl, b⟩
  rw [R.out.ep]
  have B6 := Lib.hid (B5.out.trans (b.mono B5.out.size))
  clear b
  go_wp2_with fail
  refine (Cut_any p m _ (by omega) (by omega) (by omega)).mono ?_
  rintro e w7 ⟨rfl, b⟩
  rw [R.out.pk_more ha]
  have B7 := Lib.hid (B6.out.trans (b.mono B6.out.size))
  clear b
  go_wp2_with fail
  refine (LFold_any l _ (by omega)).mono ?_
  rintro e w8 ⟨rfl, b⟩
  rw [R.out.ef]
  have B8 := Lib.hid (B7.out.trans (b.mono B7.out.size))
  clear b
  go_wp2_with fail
  refine (LFold_any f _ (by omega)).mono ?_
  rintro e w9 ⟨rfl, b⟩
  rw [R.out.ff]
  have B9 := Lib.hid (B8.out.trans (b.mono B8.out.size))
  clear b
  go_wp2_with fail
  refine (LFold_any l _ (by omega)).mono ?_
  rintro e w10 ⟨rfl, b⟩
  rw [R.out.ef]
  have B10 := Lib.hid (B9.out.trans (b.mono B9.out.size))
  clear b
  go_wp2_with fail
  refine (LFold_any l _ (by omega)).mono ?_
  rintro e w11 ⟨rfl, b⟩
  rw [R.out.ef]
  have B11 := Lib.hid (B10.out.trans (b.mono B10.out.size))
  clear b
  go_wp2_with fail
  refine (Count_any f _ (by omega)).mono ?_
  rintro e w12 ⟨rfl, b⟩
  rw [R.out.fc]
  have B12 := Lib.hid (B11.out.trans (b.mono B11.out.size))
  clear b
  go_wp2_with fail
  refine (Back_any l _ (by omega)).mono ?_
  rintro e w13 ⟨rfl, b⟩
  rw [R.out.eb]
  have B13 := Lib.hid (B12.out.trans (b.mono B12.out.size))
  clear b
  go_wp2_with fail
  refine (Right_any l _).mono ?_
  rintro e w14 ⟨rfl, b⟩
  rw [hr.out]
  have B14 := Lib.hid (B13.out.trans (b.mono B13.out.size))
  clear b
  go_wp2_with fail
  refine (Back_any l _ (by omega)).mono ?_
  rintro e w15 ⟨rfl, b⟩
  rw [R.out.eb]
  have B15 := Lib.hid (B14.out.trans (b.mono B14.out.size))
  clear b
  go_wp2_with fail
  refine (Back_any bk _ (by omega)).mono ?_
  rintro e w16 ⟨rfl, b⟩
  rw [R.out.bb hr.out]
  have B16 := Lib.hid (B15.out.trans (b.mono B15.out.size))
  clear b
  have a12 : a ≤ 12 := R.out.a12 hr.out
  go_wp2_with fail
  refine (Back_any l _ (by omega)).mono ?_
  rintro e w17 ⟨rfl, b⟩
  rw [R.out.eb]
  have B17 := Lib.hid (B16.out.trans (b.mono B16.out.size))
  clear b
  go_wp2_with fail
  refine (Right_any bk _).mono ?_
  rintro e w18 ⟨rfl, b⟩
  rw [R.out.rb hr.out]
  have B18 := Lib.hid (B17.out.trans (b.mono B17.out.size))
  clear b
  go_wp2_with fail
  refine (LFold_any l _ (by omega)).mono ?_
  rintro e w19 ⟨rfl, b⟩
  rw [R.out.ef]
  have B19 := Lib.hid (B18.out.trans (b.mono B18.out.size))
  clear b
  go_wp2_with fail
  refine (Right_any f _).mono ?_
  rintro e w20 ⟨rfl, b⟩
  rw [R.out.rf hr.out]
  have B20 := Lib.hid (B19.out.trans (b.mono B19.out.size))
  clear b
  go_wp2_with fail
  refine (LKnown_any _).mono ?_
  rintro e w21 ⟨rfl, b⟩
  have B21 := Lib.hid (B20.out.trans (b.mono B20.out.size))
  clear b
  go_wp2_with fail
  go_ret
  exact ⟨rfl, B21.out⟩

set_option maxRecDepth 100000 in
set_option maxHeartbeats 4000000 in
theorem LRules_nmw (s l : List UInt8) (n : Int) (m a q e : Nat) (c p f bk : List UInt8) (w : World) (n1 : -9223372036854775808 ≤ n) (n2 : n ≤ 9223372036854775807) (hn : n < 0) (hm : Hid (-(n + 1).tmod 50 = (m : Int))) (m49 : m ≤ 49)
    (el : Hid (s.take 300 = l)) (q3 : q ≤ 300) (ha : m ≤ a) (a3 : a ≤ 300) (R : Hid (RulesFacts l m a q e c p f bk)) (hr : Hid (rightB l = false)) (e3 : e ≤ q) :
    Calls Try.prog 5 #[.string (str s), .int .i64 n] w fun e w' => e = .returned (.bool true) ∧ Below w.heap.size w w' := by
  have hlz := R.out.lz
  have hbz := R.out.bz
  have hcz := R.out.cz
  have hx := R.out.ext
  have hl : l.length ≤ 300 := by rw [R.out.ll]; exact q3
  have hc : c.length ≤ 300 := by rw [R.out.cl]; omega
  have hf : f.length ≤ 300 := by rw [R.out.fl]; exact q3
  have hb : bk.length ≤ 300 := by rw [R.out.bl]; exact q3
  have hp : p.length ≤ 1300 := R.out.pl q3
  have hd1 : decide ((a : Int) < (m : Int)) = false := decide_eq_false (by omega)
  go_enter Try.func5, Try.ntmps5
  go_wp2_with fail
  refine (Few_any s _).mono ?_
  rintro e0 w0 ⟨rfl, rfl⟩
  rw [el.out]
  go_wp2_with fail
  rw [hm.out]
  refine (Cut_any l m _ (by omega) (by omega) (by omega)).mono ?_
  rintro e w1 ⟨rfl, b⟩
  rw [R.out.ec]
  have B1 := Lib.hid b
  clear b
  go_wp2_with fail
  refine (Count_any l _ (by omega)).mono ?_
  rintro e w2 ⟨rfl, b⟩
  rw [R.out.ea]
  have B2 := Lib.hid (B1.out.trans (b.mono B1.out.size))
  clear b
  go_wp2_with fail
  refine (Count_any c _ (by omega)).mono ?_
  rintro e w3 ⟨rfl, b⟩
  rw [R.out.cc, R.out.k_more ha]
  have B3 := Lib.hid (B2.out.trans (b.mono B2.out.size))
  clear b
  go_wp2_with fail
  refine (Pad_any l m _ (by omega) (by omega) (by omega)).mono ?_
  rintro e w4 ⟨rfl, b⟩
  rw [R.out.ep]
  have B4 := Lib.hid (B3.out.trans (b.mono B3.out.size))
  clear b
  go_wp2_with fail
  refine (Count_any p _ (by omega)).mono ?_
  rintro e w5 ⟨rfl, b⟩
  rw [R.out.pc]
  have B5 := Lib.hid (B4.out.trans (b.mono B4.out.size))
  clear b
  go_wp2_with fail
  refine (Pad_any l m _ (by omega) (by omega) (by omega)).mono ?_
  rintro e w6 ⟨rfl, b⟩
  rw [R.out.ep]
  have B6 := Lib.hid (B5.out.trans (b.mono B5.out.size))
  clear b
  go_wp2_with fail
  refine (Cut_any p m _ (by omega) (by omega) (by omega)).mono ?_
  rintro e w7 ⟨rfl, b⟩
  rw [R.out.pk_more ha]
  have B7 := Lib.hid (B6.out.trans (b.mono B6.out.size))
  clear b
  go_wp2_with fail
  refine (LFold_any l _ (by omega)).mono ?_
  rintro e w8 ⟨rfl, b⟩
  rw [R.out.ef]
  have B8 := Lib.hid (B7.out.trans (b.mono B7.out.size))
  clear b
  go_wp2_with fail
  refine (LFold_any f _ (by omega)).mono ?_
  rintro e w9 ⟨rfl, b⟩
  rw [R.out.ff]
  have B9 := Lib.hid (B8.out.trans (b.mono B8.out.size))
  clear b
  go_wp2_with fail
  refine (LFold_any l _ (by omega)).mono ?_
  rintro e w10 ⟨rfl, b⟩
  rw [R.out.ef]
  have B10 := Lib.hid (B9.out.trans (b.mono B9.out.size))
  clear b
  go_wp2_with fail
  refine (LFold_any l _ (by omega)).mono ?_
  rintro e w11 ⟨rfl, b⟩
  rw [R.out.ef]
  have B11 := Lib.hid (B10.out.trans (b.mono B10.out.size))
  clear b
  go_wp2_with fail
  refine (Count_any f _ (by omega)).mono ?_
  rintro e w12 ⟨rfl, b⟩
  rw [R.out.fc]
  have B12 := Lib.hid (B11.out.trans (b.mono B11.out.size))
  clear b
  go_wp2_with fail
  refine (Back_any l _ (by omega)).mono ?_
  rintro e w13 ⟨rfl, b⟩
  rw [R.out.eb]
  have B13 := Lib.hid (B12.out.trans (b.mono B12.out.size))
  clear b
  go_wp2_with fail
  refine (Right_any l _).mono ?_
  rintro e w14 ⟨rfl, b⟩
  rw [hr.out]
  have B14 := Lib.hid (B13.out.trans (b.mono B13.out.size))
  clear b
  go_wp2_with fail
  refine (LKnown_any _).mono ?_
  rintro e w15 ⟨rfl, b⟩
  have B15 := Lib.hid (B14.out.trans (b.mono B14.out.size))
  clear b
  go_wp2_with fail
  go_ret
  exact ⟨rfl, B15.out⟩

theorem LRules_walk (s : List UInt8) (n : Int) (w : World) (n1 : -9223372036854775808 ≤ n) (n2 : n ≤ 9223372036854775807) :
    Calls Try.prog 5 #[.string (str s), .int .i64 n] w fun e w' => e = .returned (.bool true) ∧ Below w.heap.size w w' := by
  have q3 := take_len s 300
  have a3 := Nat.le_trans (runes_len (s.take 300)) q3
  by_cases hn : n < 0
  · obtain ⟨m, hm⟩ : ∃ m : Nat, -(n + 1).tmod 50 = (m : Int) := ⟨(-(n + 1).tmod 50).toNat, by have := Int.neg_tmod (n + 1) 50; have := Int.tmod_nonneg 50 (show 0 ≤ -(n + 1) by omega); omega⟩
    have m49 : m ≤ 49 := by have := Int.neg_tmod (n + 1) 50; have := Int.tmod_lt_of_pos (-(n + 1)) (show (0 : Int) < 50 by omega); omega
    have R := Lib.hid (rules_facts (s.take 300) m m49)
    have e3 := cutL_le (s.take 300) m
    by_cases ha : (runes (s.take 300)).length < m
    · cases hr : rightB (s.take 300)
      · exact LRules_nlw s _ n m _ _ _ _ _ _ _ w n1 n2 hn (Lib.hid hm) m49 (Lib.hid rfl) q3 ha a3 R (Lib.hid hr) e3
      · exact LRules_nlr s _ n m _ _ _ _ _ _ _ w n1 n2 hn (Lib.hid hm) m49 (Lib.hid rfl) q3 ha a3 R (Lib.hid hr) e3
    · cases hr : rightB (s.take 300)
      · exact LRules_nmw s _ n m _ _ _ _ _ _ _ w n1 n2 hn (Lib.hid hm) m49 (Lib.hid rfl) q3 (by omega) a3 R (Lib.hid hr) e3
      · exact LRules_nmr s _ n m _ _ _ _ _ _ _ w n1 n2 hn (Lib.hid hm) m49 (Lib.hid rfl) q3 (by omega) a3 R (Lib.hid hr) e3
  · obtain ⟨m, hm⟩ : ∃ m : Nat, n % 50 = (m : Int) := ⟨(n % 50).toNat, by omega⟩
    have m49 : m ≤ 49 := by omega
    have R := Lib.hid (rules_facts (s.take 300) m m49)
    have e3 := cutL_le (s.take 300) m
    by_cases ha : (runes (s.take 300)).length < m
    · cases hr : rightB (s.take 300)
      · exact LRules_plw s _ n m _ _ _ _ _ _ _ w n1 n2 (by omega) (Lib.hid hm) m49 (Lib.hid rfl) q3 ha a3 R (Lib.hid hr) e3
      · exact LRules_plr s _ n m _ _ _ _ _ _ _ w n1 n2 (by omega) (Lib.hid hm) m49 (Lib.hid rfl) q3 ha a3 R (Lib.hid hr) e3
    · cases hr : rightB (s.take 300)
      · exact LRules_pmw s _ n m _ _ _ _ _ _ _ w n1 n2 (by omega) (Lib.hid hm) m49 (Lib.hid rfl) q3 (by omega) a3 R (Lib.hid hr) e3
      · exact LRules_pmr s _ n m _ _ _ _ _ _ _ w n1 n2 (by omega) (Lib.hid hm) m49 (Lib.hid rfl) q3 (by omega) a3 R (Lib.hid hr) e3
end Go.Proofs.Ytkgjnapkpbagnaa
