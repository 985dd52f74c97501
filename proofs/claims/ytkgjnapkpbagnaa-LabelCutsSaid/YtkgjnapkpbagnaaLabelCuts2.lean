/-
  The walk of the law LabelCuts.
-/
import Derived.Test.YtkgjnapkpbagnaaLabelCuts
import Derived.Deep.Cut
namespace Go.Proofs.Ytkgjnapkpbagnaa
open Go.RowKit
set_option linter.unusedVariables false
set_option linter.unusedSimpArgs false

set_option maxRecDepth 100000 in
set_option maxHeartbeats 4000000 in
theorem LCuts_npl (s l : List UInt8) (n m : Int) (u v a q : Nat) (w : World) (n1 : -9223372036854775808 ≤ n) (n2 : n ≤ 9223372036854775807) (m1 : -9223372036854775808 ≤ m) (m2 : m ≤ 9223372036854775807)
    (hn : n < 0) (hm : 0 ≤ m) (hu : Hid (-(n + 1).tmod 60 = (u : Int))) (hv : Hid (m % 60 = (v : Int))) (u59 : u ≤ 59) (v59 : v ≤ 59) (huv : v < u)
    (el : Hid (s.take 300 = l)) (el2 : Hid (l.length = q)) (ea : Hid ((runes l).length = a)) (q3 : q ≤ 300) (a3 : a ≤ 300) :
    Calls Try.prog 7 #[.string (str s), .int .i64 n, .int .i64 m] w fun e w' => e = .returned (.bool true) ∧ Below w.heap.size w w' := by
  have hl : l.length ≤ 300 := by rw [el2.out]; exact q3
  have hd1 : decide ((v : Int) < (u : Int)) = true := decide_eq_true (by omega)
  have hd1n : decide (v < u) = true := decide_eq_true (by omega)
  go_enter Try.func7, Try.ntmps7
  go_wp2_with fail
  refine (Few_any s _).mono ?_
  rintro e0 w0 ⟨rfl, rfl⟩
  rw [el.out]
  go_upto_region 8 with (fail)
  rw [hu.out, hv.out]
  clear hn hm n1 n2 m1 m2
  go_wp2_with fail
  go_loopw [8, 9] (fun la si wr => ∃ i : Nat, i ≤ a + 1 ∧ si = .int .i64 i ∧ la = .string (str (cutL l ((i : Int) - 1))) ∧ Hid (Below w0.heap.size w0 wr)) (fun _ si _ => a + 1 - (intOf si).toNat)
  case atStart => exact ⟨0, by omega, rfl, by rw [cutL_neg l (show (((0 : Nat) : Int) - 1) ≤ 0 by omega)]; rfl, Lib.hid (Below.refl _ _)⟩
  case round =>
    obtain ⟨i, hi, rfl, rfl, B0⟩ := hrel
    by_cases hia : i ≤ a
    · have hd2 : decide ((i : Int) ≤ (a : Int)) = true := decide_eq_true (by omega)
      obtain ⟨s1, s2, s3⟩ := cuts_step l i (by rw [ea.out]; exact hia)
      have hc1 := cutL_le l i
      rw [el2.out] at hc1
      obtain ⟨c, hc⟩ : ∃ c, cutL l i = c := ⟨_, rfl⟩
      obtain ⟨d, hd⟩ : ∃ d, cutL l ((i : Int) - 1) = d := ⟨_, rfl⟩
      rw [hc] at s1 s2 s3 hc1
      rw [hd] at s1 s2 s3 ⊢
      have hc := Lib.hid hc
      have hd := Lib.hid hd
      have zc := str_size c
      have zd := str_size d
      obtain ⟨e, he⟩ : ∃ e, c.length = e := ⟨_, rfl⟩
      obtain ⟨f, hf⟩ : ∃ f, d.length = f := ⟨_, rfl⟩
      rw [he] at s1 s3 hc1 zc
      rw [hf] at s1 s2 s3 zd
      have he := Lib.hid he
      have hf := Lib.hid hf
      by_cases h0 : i = 0
      · have d0 : decide (0 < (i : Int)) = false := decide_eq_false (by omega)
        have d1 : decide (0 < i) = false := decide_eq_false (by omega)
        clear s3
        have h0' := Lib.hid h0
        clear h0
        go_wp2_with fail
        refine (Count_any l _ (by omega)).mono ?_
        rintro e1 w1 ⟨rfl, b⟩
        rw [ea.out]
        have B1 := Lib.hid (B0.out.trans (b.mono B0.out.size))
        clear b
        go_wp2_with fail
        refine (Cut_any l i _ (by omega) (by omega) (by omega)).mono ?_
        rintro e2 w2 ⟨rfl, b⟩
        rw [hc.out]
        have B2 := Lib.hid (B1.out.trans (b.mono B1.out.size))
        clear b
        go_wp2_with fail
        go_roundw
        case rel => exact ⟨i + 1, by omega, by go_num, by rw [show ((i + 1 : Nat) : Int) - 1 = (i : Int) by omega, hc.out], B2⟩
        case measure => simp [intOf]; omega
      · have d0 : decide (0 < (i : Int)) = true := decide_eq_true (by omega)
        have s4 := s3 (by omega)
        have d1 : decide (0 < i) = true := decide_eq_true (by omega)
        have d2 : ((e : Int) == (f : Int)) = false := by simp; omega
        have d3 : (e == f) = false := by simp; omega
        clear s3
        go_wp2_with fail
        refine (Count_any l _ (by omega)).mono ?_
        rintro e1 w1 ⟨rfl, b⟩
        rw [ea.out]
        have B1 := Lib.hid (B0.out.trans (b.mono B0.out.size))
        clear b
        go_wp2_with fail
        refine (Cut_any l i _ (by omega) (by omega) (by omega)).mono ?_
        rintro e2 w2 ⟨rfl, b⟩
        rw [hc.out]
        have B2 := Lib.hid (B1.out.trans (b.mono B1.out.size))
        clear b
        go_wp2_with fail
        go_roundw
        case rel => exact ⟨i + 1, by omega, by go_num, by rw [show ((i + 1 : Nat) : Int) - 1 = (i : Int) by omega, hc.out], B2⟩
        case measure => simp [intOf]; omega
    · have hd2 : decide ((i : Int) ≤ (a : Int)) = false := decide_eq_false (by omega)
      have hlast : cutL l ((i : Int) - 1) = l := cutL_all l _ (by rw [ea.out]; omega)
      rw [hlast]
      clear hlast
      go_wp2_with fail
      refine (Count_any l _ (by omega)).mono ?_
      rintro e1 w1 ⟨rfl, b⟩
      rw [ea.out]
      have B1 := Lib.hid (B0.out.trans (b.mono B0.out.size))
      clear b
      go_wp2_with fail
      refine (Cut_any l u _ (by omega) (by omega) (by omega)).mono ?_
      rintro e w2 ⟨rfl, b⟩
      have B2 := Lib.hid (B1.out.trans (b.mono B1.out.size))
      clear b
      go_wp2_with fail
      refine (Cut_any (cutL l u) v _ (by have := cutL_le l u; omega) (by omega) (by omega)).mono ?_
      rintro e w3 ⟨rfl, b⟩
      rw [cutL_cutL l u v (by omega) (by omega), show min (u : Int) (v : Int) = (v : Int) by omega]
      have B3 := Lib.hid (B2.out.trans (b.mono B2.out.size))
      clear b
      go_wp2_with fail
      refine (Cut_any l v _ (by omega) (by omega) (by omega)).mono ?_
      rintro e w4 ⟨rfl, b⟩
      have B4 := Lib.hid (B3.out.trans (b.mono B3.out.size))
      clear b
      go_wp2_with fail
      refine (Cut_any l u _ (by omega) (by omega) (by omega)).mono ?_
      rintro e w5 ⟨rfl, b⟩
      have B5 := Lib.hid (B4.out.trans (b.mono B4.out.size))
      clear b
      go_wp2_with fail
      refine (LFold_any (cutL l u) _ (by have := cutL_le l u; omega)).mono ?_
      rintro e w6 ⟨rfl, b⟩
      rw [foldL_cut]
      have B6 := Lib.hid (B5.out.trans (b.mono B5.out.size))
      clear b
      go_wp2_with fail
      refine (LFold_any l _ (by omega)).mono ?_
      rintro e w7 ⟨rfl, b⟩
      have B7 := Lib.hid (B6.out.trans (b.mono B6.out.size))
      clear b
      go_wp2_with fail
      refine (Cut_any (foldL l) u _ (by rw [foldL_len]; omega) (by omega) (by omega)).mono ?_
      rintro e w8 ⟨rfl, b⟩
      have B8 := Lib.hid (B7.out.trans (b.mono B7.out.size))
      clear b
      go_wp2_with fail
      refine (Cut_any l (-1) _ (by omega) (by omega) (by omega)).mono ?_
      rintro e w9 ⟨rfl, b⟩
      rw [cutL_neg l (show (-1 : Int) ≤ 0 by omega)]
      have B9 := Lib.hid (B8.out.trans (b.mono B8.out.size))
      clear b
      have hnil : str [] = { data := #[] } := rfl
      go_wp2_with fail
      refine (LKnown_any _).mono ?_
      rintro e w10 ⟨rfl, b⟩
      have B10 := Lib.hid (B9.out.trans (b.mono B9.out.size))
      clear b
      go_wp2_with fail
      go_ret
      exact ⟨rfl, B10.out⟩

set_option maxRecDepth 100000 in
set_option maxHeartbeats 4000000 in
theorem LCuts_npm (s l : List UInt8) (n m : Int) (u v a q : Nat) (w : World) (n1 : -9223372036854775808 ≤ n) (n2 : n ≤ 9223372036854775807) (m1 : -9223372036854775808 ≤ m) (m2 : m ≤ 9223372036854775807)
    (hn : n < 0) (hm : 0 ≤ m) (hu : Hid (-(n + 1).tmod 60 = (u : Int))) (hv : Hid (m % 60 = (v : Int))) (u59 : u ≤ 59) (v59 : v ≤ 59) (huv : u ≤ v)
    (el : Hid (s.take 300 = l)) (el2 : Hid (l.length = q)) (ea : Hid ((runes l).length = a)) (q3 : q ≤ 300) (a3 : a ≤ 300) :
    Calls Try.prog 7 #[.string (str s), .int .i64 n, .int .i64 m] w fun e w' => e = .returned (.bool true) ∧ Below w.heap.size w w' := by
  have hl : l.length ≤ 300 := by rw [el2.out]; exact q3
  have hd1 : decide ((v : Int) < (u : Int)) = false := decide_eq_false (by omega)
  have hd1n : decide (v < u) = false := decide_eq_false (by omega)
  go_enter Try.func7, Try.ntmps7
  go_wp2_with fail
  refine (Few_any s _).mono ?_
  rintro e0 w0 ⟨rfl, rfl⟩
  rw [el.out]
  go_upto_region 8 with (fail)
  rw [hu.out, hv.out]
  clear hn hm n1 n2 m1 m2
  go_wp2_with fail
  go_loopw [8, 9] (fun la si wr => ∃ i : Nat, i ≤ a + 1 ∧ si = .int .i64 i ∧ la = .string (str (cutL l ((i : Int) - 1))) ∧ Hid (Below w0.heap.size w0 wr)) (fun _ si _ => a + 1 - (intOf si).toNat)
  case atStart => exact ⟨0, by omega, rfl, by rw [cutL_neg l (show (((0 : Nat) : Int) - 1) ≤ 0 by omega)]; rfl, Lib.hid (Below.refl _ _)⟩
  case round =>
    obtain ⟨i, hi, rfl, rfl, B0⟩ := hrel
    by_cases hia : i ≤ a
    · have hd2 : decide ((i : Int) ≤ (a : Int)) = true := decide_eq_true (by omega)
      obtain ⟨s1, s2, s3⟩ := cuts_step l i (by rw [ea.out]; exact hia)
      have hc1 := cutL_le l i
      rw [el2.out] at hc1
      obtain ⟨c, hc⟩ : ∃ c, cutL l i = c := ⟨_, rfl⟩
      obtain ⟨d, hd⟩ : ∃ d, cutL l ((i : Int) - 1) = d := ⟨_, rfl⟩
      rw [hc] at s1 s2 s3 hc1
      rw [hd] at s1 s2 s3 ⊢
      have hc := Lib.hid hc
      have hd := Lib.hid hd
      have zc := str_size c
      have zd := str_size d
      obtain ⟨e, he⟩ : ∃ e, c.length = e := ⟨_, rfl⟩
      obtain ⟨f, hf⟩ : ∃ f, d.length = f := ⟨_, rfl⟩
      rw [he] at s1 s3 hc1 zc
      rw [hf] at s1 s2 s3 zd
      have he := Lib.hid he
      have hf := Lib.hid hf
      by_cases h0 : i = 0
      · have d0 : decide (0 < (i : Int)) = false := decide_eq_false (by omega)
        have d1 : decide (0 < i) = false := decide_eq_false (by omega)
        clear s3
        have h0' := Lib.hid h0
        clear h0
        go_wp2_with fail
        refine (Count_any l _ (by omega)).mono ?_
        rintro e1 w1 ⟨rfl, b⟩
        rw [ea.out]
        have B1 := Lib.hid (B0.out.trans (b.mono B0.out.size))
        clear b
        go_wp2_with fail
        refine (Cut_any l i _ (by omega) (by omega) (by omega)).mono ?_
        rintro e2 w2 ⟨rfl, b⟩
        rw [hc.out]
        have B2 := Lib.hid (B1.out.trans (b.mono B1.out.size))
        clear b
        go_wp2_with fail
        go_roundw
        case rel => exact ⟨i + 1, by omega, by go_num, by rw [show ((i + 1 : Nat) : Int) - 1 = (i : Int) by omega, hc.out], B2⟩
        case measure => simp [intOf]; omega
      · have d0 : decide (0 < (i : Int)) = true := decide_eq_true (by omega)
        have s4 := s3 (by omega)
        have d1 : decide (0 < i) = true := decide_eq_true (by omega)
        have d2 : ((e : Int) == (f : Int)) = false := by simp; omega
        have d3 : (e == f) = false := by simp; omega
        clear s3
        go_wp2_with fail
        refine (Count_any l _ (by omega)).mono ?_
        rintro e1 w1 ⟨rfl, b⟩
        rw [ea.out]
        have B1 := Lib.hid (B0.out.trans (b.mono B0.out.size))
        clear b
        go_wp2_with fail
        refine (Cut_any l i _ (by omega) (by omega) (by omega)).mono ?_
        rintro e2 w2 ⟨rfl, b⟩
        rw [hc.out]
        have B2 := Lib.hid (B1.out.trans (b.mono B1.out.size))
        clear b
        go_wp2_with fail
        go_roundw
        case rel => exact ⟨i + 1, by omega, by go_num, by rw [show ((i + 1 : Nat) : Int) - 1 = (i : Int) by omega, hc.out], B2⟩
        case measure => simp [intOf]; omega
    · have hd2 : decide ((i : Int) ≤ (a : Int)) = false := decide_eq_false (by omega)
      have hlast : cutL l ((i : Int) - 1) = l := cutL_all l _ (by rw [ea.out]; omega)
      rw [hlast]
      clear hlast
      go_wp2_with fail
      refine (Count_any l _ (by omega)).mono ?_
      rintro e1 w1 ⟨rfl, b⟩
      rw [ea.out]
      have B1 := Lib.hid (B0.out.trans (b.mono B0.out.size))
      clear b
      go_wp2_with fail
      refine (Cut_any l u _ (by omega) (by omega) (by omega)).mono ?_
      rintro e w2 ⟨rfl, b⟩
      have B2 := Lib.hid (B1.out.trans (b.mono B1.out.size))
      clear b
      go_wp2_with fail
      refine (Cut_any (cutL l u) v _ (by have := cutL_le l u; omega) (by omega) (by omega)).mono ?_
      rintro e w3 ⟨rfl, b⟩
      rw [cutL_cutL l u v (by omega) (by omega), show min (u : Int) (v : Int) = (u : Int) by omega]
      have B3 := Lib.hid (B2.out.trans (b.mono B2.out.size))
      clear b
      go_wp2_with fail
      refine (Cut_any l u _ (by omega) (by omega) (by omega)).mono ?_
      rintro e w4 ⟨rfl, b⟩
      have B4 := Lib.hid (B3.out.trans (b.mono B3.out.size))
      clear b
      go_wp2_with fail
      refine (Cut_any l u _ (by omega) (by omega) (by omega)).mono ?_
      rintro e w5 ⟨rfl, b⟩
      have B5 := Lib.hid (B4.out.trans (b.mono B4.out.size))
      clear b
      go_wp2_with fail
      refine (LFold_any (cutL l u) _ (by have := cutL_le l u; omega)).mono ?_
      rintro e w6 ⟨rfl, b⟩
      rw [foldL_cut]
      have B6 := Lib.hid (B5.out.trans (b.mono B5.out.size))
      clear b
      go_wp2_with fail
      refine (LFold_any l _ (by omega)).mono ?_
      rintro e w7 ⟨rfl, b⟩
      have B7 := Lib.hid (B6.out.trans (b.mono B6.out.size))
      clear b
      go_wp2_with fail
      refine (Cut_any (foldL l) u _ (by rw [foldL_len]; omega) (by omega) (by omega)).mono ?_
      rintro e w8 ⟨rfl, b⟩
      have B8 := Lib.hid (B7.out.trans (b.mono B7.out.size))
      clear b
      go_wp2_with fail
      refine (Cut_any l (-1) _ (by omega) (by omega) (by omega)).mono ?_
      rintro e w9 ⟨rfl, b⟩
      rw [cutL_neg l (show (-1 : Int) ≤ 0 by omega)]
      have B9 := Lib.hid (B8.out.trans (b.mono B8.out.size))
      clear b
      have hnil : str [] = { data := #[] } := rfl
      go_wp2_with fail
      refine (LKnown_any _).mono ?_
      rintro e w10 ⟨rfl, b⟩
      have B10 := Lib.hid (B9.out.trans (b.mono B9.out.size))
      clear b
      go_wp2_with fail
      go_ret
      exact ⟨rfl, B10.out⟩

set_option maxRecDepth 100000 in
set_option maxHeartbeats 4000000 in
theorem LCuts_nnl (s l : List UInt8) (n m : Int) (u v a q : Nat) (w : World) (n1 : -9223372036854775808 ≤ n) (n2 : n ≤ 9223372036854775807) (m1 : -9223372036854775808 ≤ m) (m2 : m ≤ 9223372036854775807)
    (hn : n < 0) (hm : m < 0) (hu : Hid (-(n + 1).tmod 60 = (u : Int))) (hv : Hid (-(m + 1).tmod 60 = (v : Int))) (u59 : u ≤ 59) (v59 : v ≤ 59) (huv : v < u)
    (el : Hid (s.take 300 = l)) (el2 : Hid (l.length = q)) (ea : Hid ((runes l).length = a)) (q3 : q ≤ 300) (a3 : a ≤ 300) :
    Calls Try.prog 7 #[.string (str s), .int .i64 n, .int .i64 m] w fun e w' => e = .returned (.bool true) ∧ Below w.heap.size w w' := by
  have hl : l.length ≤ 300 := by rw [el2.out]; exact q3
  have hd1 : decide ((v : Int) < (u : Int)) = true := decide_eq_true (by omega)
  have hd1n : decide (v < u) = true := decide_eq_true (by omega)
  go_enter Try.func7, Try.ntmps7
  go_wp2_with fail
  refine (Few_any s _).mono ?_
  rintro e0 w0 ⟨rfl, rfl⟩
  rw [el.out]
  go_upto_region 8 with (fail)
  rw [hu.out, hv.out]
  clear hn hm n1 n2 m1 m2
  go_wp2_with fail
  go_loopw [8, 9] (fun la si wr => ∃ i : Nat, i ≤ a + 1 ∧ si = .int .i64 i ∧ la = .string (str (cutL l ((i : Int) - 1))) ∧ Hid (Below w0.heap.size w0 wr)) (fun _ si _ => a + 1 - (intOf si).toNat)
  case atStart => exact ⟨0, by omega, rfl, by rw [cutL_neg l (show (((0 : Nat) : Int) - 1) ≤ 0 by omega)]; rfl, Lib.hid (Below.refl _ _)⟩
  case round =>
    obtain ⟨i, hi, rfl, rfl, B0⟩ := hrel
    by_cases hia : i ≤ a
    · have hd2 : decide ((i : Int) ≤ (a : Int)) = true := decide_eq_true (by omega)
      obtain ⟨s1, s2, s3⟩ := cuts_step l i (by rw [ea.out]; exact hia)
      have hc1 := cutL_le l i
      rw [el2.out] at hc1
      obtain ⟨c, hc⟩ : ∃ c, cutL l i = c := ⟨_, rfl⟩
      obtain ⟨d, hd⟩ : ∃ d, cutL l ((i : Int) - 1) = d := ⟨_, rfl⟩
      rw [hc] at s1 s2 s3 hc1
      rw [hd] at s1 s2 s3 ⊢
      have hc := Lib.hid hc
      have hd := Lib.hid hd
      have zc := str_size c
      have zd := str_size d
      obtain ⟨e, he⟩ : ∃ e, c.length = e := ⟨_, rfl⟩
      obtain ⟨f, hf⟩ : ∃ f, d.length = f := ⟨_, rfl⟩
      rw [he] at s1 s3 hc1 zc
      rw [hf] at s1 s2 s3 zd
      have he := Lib.hid he
      have hf := Lib.hid hf
      by_cases h0 : i = 0
      · have d0 : decide (0 < (i : Int)) = false := decide_eq_false (by omega)
        have d1 : decide (0 < i) = false := decide_eq_false (by omega)
        clear s3
        have h0' := Lib.hid h0
        clear h0
        go_wp2_with fail
        refine (Count_any l _ (by omega)).mono ?_
        rintro e1 w1 ⟨rfl, b⟩
        rw [ea.out]
        have B1 := Lib.hid (B0.out.trans (b.mono B0.out.size))
        clear b
        go_wp2_with fail
        refine (Cut_any l i _ (by omega) (by omega) (by omega)).mono ?_
        rintro e2 w2 ⟨rfl, b⟩
        rw [hc.out]
        have B2 := Lib.hid (B1.out.trans (b.mono B1.out.size))
        clear b
        go_wp2_with fail
        go_roundw
        case rel => exact ⟨i + 1, by omega, by go_num, by rw [show ((i + 1 : Nat) : Int) - 1 = (i : Int) by omega, hc.out], B2⟩
        case measure => simp [intOf]; omega
      · have d0 : decide (0 < (i : Int)) = true := decide_eq_true (by omega)
        have s4 := s3 (by omega)
        have d1 : decide (0 < i) = true := decide_eq_true (by omega)
        have d2 : ((e : Int) == (f : Int)) = false := by simp; omega
        have d3 : (e == f) = false := by simp; omega
        clear s3
        go_wp2_with fail
        refine (Count_any l _ (by omega)).mono ?_
        rintro e1 w1 ⟨rfl, b⟩
        rw [ea.out]
        have B1 := Lib.hid (B0.out.trans (b.mono B0.out.size))
        clear b
        go_wp2_with fail
        refine (Cut_any l i _ (by omega) (by omega) (by omega)).mono ?_
        rintro e2 w2 ⟨rfl, b⟩
        rw [hc.out]
        have B2 := Lib.hid (B1.out.trans (b.mono B1.out.size))
        clear b
        go_wp2_with fail
        go_roundw
        case rel => exact ⟨i + 1, by omega, by go_num, by rw [show ((i + 1 : Nat) : Int) - 1 = (i : Int) by omega, hc.out], B2⟩
        case measure => simp [intOf]; omega
    · have hd2 : decide ((i : Int) ≤ (a : Int)) = false := decide_eq_false (by omega)
      have hlast : cutL l ((i : Int) - 1) = l := cutL_all l _ (by rw [ea.out]; omega)
      rw [hlast]
      clear hlast
      go_wp2_with fail
      refine (Count_any l _ (by omega)).mono ?_
      rintro e1 w1 ⟨rfl, b⟩
      rw [ea.out]
      have B1 := Lib.hid (B0.out.trans (b.mono B0.out.size))
      clear b
      go_wp2_with fail
      refine (Cut_any l u _ (by omega) (by omega) (by omega)).mono ?_
      rintro e w2 ⟨rfl, b⟩
      have B2 := Lib.hid (B1.out.trans (b.mono B1.out.size))
      clear b
      go_wp2_with fail
      refine (Cut_any (cutL l u) v _ (by have := cutL_le l u; omega) (by omega) (by omega)).mono ?_
      rintro e w3 ⟨rfl, b⟩
      rw [cutL_cutL l u v (by omega) (by omega), show min (u : Int) (v : Int) = (v : Int) by omega]
      have B3 := Lib.hid (B2.out.trans (b.mono B2.out.size))
      clear b
      go_wp2_with fail
      refine (Cut_any l v _ (by omega) (by omega) (by omega)).mono ?_
      rintro e w4 ⟨rfl, b⟩
      have B4 := Lib.hid (B3.out.trans (b.mono B3.out.size))
      clear b
      go_wp2_with fail
      refine (Cut_any l u _ (by omega) (by omega) (by omega)).mono ?_
      rintro e w5 ⟨rfl, b⟩
      have B5 := Lib.hid (B4.out.trans (b.mono B4.out.size))
      clear b
      go_wp2_with fail
      refine (LFold_any (cutL l u) _ (by have := cutL_le l u; omega)).mono ?_
      rintro e w6 ⟨rfl, b⟩
      rw [foldL_cut]
      have B6 := Lib.hid (B5.out.trans (b.mono B5.out.size))
      clear b
      go_wp2_with fail
      refine (LFold_any l _ (by omega)).mono ?_
      rintro e w7 ⟨rfl, b⟩
      have B7 := Lib.hid (B6.out.trans (b.mono B6.out.size))
      clear b
      go_wp2_with fail
      refine (Cut_any (foldL l) u _ (by rw [foldL_len]; omega) (by omega) (by omega)).mono ?_
      rintro e w8 ⟨rfl, b⟩
      have B8 := Lib.hid (B7.out.trans (b.mono B7.out.size))
      clear b
      go_wp2_with fail
      refine (Cut_any l (-1) _ (by omega) (by omega) (by omega)).mono ?_
      rintro e w9 ⟨rfl, b⟩
      rw [cutL_neg l (show (-1 : Int) ≤ 0 by omega)]
      have B9 := Lib.hid (B8.out.trans (b.mono B8.out.size))
      clear b
      have hnil : str [] = { data := #[] } := rfl
      go_wp2_with fail
      refine (LKnown_any _).mono ?_
      rintro e w10 ⟨rfl, b⟩
      have B10 := Lib.hid (B9.out.trans (b.mono B9.out.size))
      clear b
      go_wp2_with fail
      go_ret
      exact ⟨rfl, B10.out⟩

set_option maxRecDepth 100000 in
set_option maxHeartbeats 4000000 in
theorem LCuts_nnm (s l : List UInt8) (n m : Int) (u v a q : Nat) (w : World) (n1 : -9223372036854775808 ≤ n) (n2 : n ≤ 9223372036854775807) (m1 : -9223372036854775808 ≤ m) (m2 : m ≤ 9223372036854775807)
    (hn : n < 0) (hm : m < 0) (hu : Hid (-(n + 1).tmod 60 = (u : Int))) (hv : Hid (-(m + 1).tmod 60 = (v : Int))) (u59 : u ≤ 59) (v59 : v ≤ 59) (huv : u ≤ v)
    (el : Hid (s.take 300 = l)) (el2 : Hid (l.length = q)) (ea : Hid ((runes l).length = a)) (q3 : q ≤ 300) (a3 : a ≤ 300) :
    Calls Try.prog 7 #[.string (str s), .int .i64 n, .int .i64 m] w fun e w' => e = .returned (.bool true) ∧ Below w.heap.size w w' := by
  have hl : l.length ≤ 300 := by rw [el2.out]; exact q3
  have hd1 : decide ((v : Int) < (u : Int)) = false := decide_eq_false (by omega)
  have hd1n : decide (v < u) = false := decide_eq_false (by omega)
  go_enter Try.func7, Try.ntmps7
  go_wp2_with fail
  refine (Few_any s _).mono ?_
  rintro e0 w0 ⟨rfl, rfl⟩
  rw [el.out]
  go_upto_region 8 with (fail)
  rw [hu.out, hv.out]
  clear hn hm n1 n2 m1 m2
  go_wp2_with fail
  go_loopw [8, 9] (fun la si wr => ∃ i : Nat, i ≤ a + 1 ∧ si = .int .i64 i ∧ la = .string (str (cutL l ((i : Int) - 1))) ∧ Hid (Below w0.heap.size w0 wr)) (fun _ si _ => a + 1 - (intOf si).toNat)
  case atStart => exact ⟨0, by omega, rfl, by rw [cutL_neg l (show (((0 : Nat) : Int) - 1) ≤ 0 by omega)]; rfl, Lib.hid (Below.refl _ _)⟩
  case round =>
    obtain ⟨i, hi, rfl, rfl, B0⟩ := hrel
    by_cases hia : i ≤ a
    · have hd2 : decide ((i : Int) ≤ (a : Int)) = true := decide_eq_true (by omega)
      obtain ⟨s1, s2, s3⟩ := cuts_step l i (by rw [ea.out]; exact hia)
      have hc1 := cutL_le l i
      rw [el2.out] at hc1
      obtain ⟨c, hc⟩ : ∃ c, cutL l i = c := ⟨_, rfl⟩
      obtain ⟨d, hd⟩ : ∃ d, cutL l ((i : Int) - 1) = d := ⟨_, rfl⟩
      rw [hc] at s1 s2 s3 hc1
      rw [hd] at s1 s2 s3 ⊢
      have hc := Lib.hid hc
      have hd := Lib.hid hd
      have zc := str_size c
      have zd := str_size d
      obtain ⟨e, he⟩ : ∃ e, c.length = e := ⟨_, rfl⟩
      obtain ⟨f, hf⟩ : ∃ f, d.length = f := ⟨_, rfl⟩
      rw [he] at s1 s3 hc1 zc
      rw [hf] at s1 s2 s3 zd
      have he := Lib.hid he
      have hf := Lib.hid hf
      by_cases h0 : i = 0
      · have d0 : decide (0 < (i : Int)) = false := decide_eq_false (by omega)
        have d1 : decide (0 < i) = false := decide_eq_false (by omega)
        clear s3
        have h0' := Lib.hid h0
        clear h0
        go_wp2_with fail
        refine (Count_any l _ (by omega)).mono ?_
        rintro e1 w1 ⟨rfl, b⟩
        rw [ea.out]
        have B1 := Lib.hid (B0.out.trans (b.mono B0.out.size))
        clear b
        go_wp2_with fail
        refine (Cut_any l i _ (by omega) (by omega) (by omega)).mono ?_
        rintro e2 w2 ⟨rfl, b⟩
        rw [hc.out]
        have B2 := Lib.hid (B1.out.trans (b.mono B1.out.size))
        clear b
        go_wp2_with fail
        go_roundw
        case rel => exact ⟨i + 1, by omega, by go_num, by rw [show ((i + 1 : Nat) : Int) - 1 = (i : Int) by omega, hc.out], B2⟩
        case measure => simp [intOf]; omega
      · have d0 : decide (0 < (i : Int)) = true := decide_eq_true (by omega)
        have s4 := s3 (by omega)
        have d1 : decide (0 < i) = true := decide_eq_true (by omega)
        have d2 : ((e : Int) == (f : Int)) = false := by simp; omega
        have d3 : (e == f) = false := by simp; omega
        clear s3
        go_wp2_with fail
        refine (Count_any l _ (by omega)).mono ?_
        rintro e1 w1 ⟨rfl, b⟩
        rw [ea.out]
        have B1 := Lib.hid (B0.out.trans (b.mono B0.out.size))
        clear b
        go_wp2_with fail
        refine (Cut_any l i _ (by omega) (by omega) (by omega)).mono ?_
        rintro e2 w2 ⟨rfl, b⟩
        rw [hc.out]
        have B2 := Lib.hid (B1.out.trans (b.mono B1.out.size))
        clear b
        go_wp2_with fail
        go_roundw
        case rel => exact ⟨i + 1, by omega, by go_num, by rw [show ((i + 1 : Nat) : Int) - 1 = (i : Int) by omega, hc.out], B2⟩
        case measure => simp [intOf]; omega
    · have hd2 : decide ((i : Int) ≤ (a : Int)) = false := decide_eq_false (by omega)
      have hlast : cutL l ((i : Int) - 1) = l := cutL_all l _ (by rw [ea.out]; omega)
      rw [hlast]
      clear hlast
      go_wp2_with fail
      refine (Count_any l _ (by omega)).mono ?_
      rintro e1 w1 ⟨rfl, b⟩
      rw [ea.out]
      have B1 := Lib.hid (B0.out.trans (b.mono B0.out.size))
      clear b
      go_wp2_with fail
      refine (Cut_any l u _ (by omega) (by omega) (by omega)).mono ?_
      rintro e w2 ⟨rfl, b⟩
      have B2 := Lib.hid (B1.out.trans (b.mono B1.out.size))
      clear b
      go_wp2_with fail
      refine (Cut_any (cutL l u) v _ (by have := cutL_le l u; omega) (by omega) (by omega)).mono ?_
      rintro e w3 ⟨rfl, b⟩
      rw [cutL_cutL l u v (by omega) (by omega), show min (u : Int) (v : Int) = (u : Int) by omega]
      have B3 := Lib.hid (B2.out.trans (b.mono B2.out.size))
      clear b
      go_wp2_with fail
      refine (Cut_any l u _ (by omega) (by omega) (by omega)).mono ?_
      rintro e w4 ⟨rfl, b⟩
      have B4 := Lib.hid (B3.out.trans (b.mono B3.out.size))
      clear b
      go_wp2_with fail
      refine (Cut_any l u _ (by omega) (by omega) (by omega)).mono ?_
      rintro e w5 ⟨rfl, b⟩
      have B5 := Lib.hid (B4.out.trans (b.mono B4.out.size))
      clear b
      go_wp2_with fail
      refine (LFold_any (cutL l u) _ (by have := cutL_le l u; omega)).mono ?_
      rintro e w6 ⟨rfl, b⟩
      rw [foldL_cut]
      have B6 := Lib.hid (B5.out.trans (b.mono B5.out.size))
      clear b
      go_wp2_with fail
      refine (LFold_any l _ (by omega)).mono ?_
      rintro e w7 ⟨rfl, b⟩
      have B7 := Lib.hid (B6.out.trans (b.mono B6.out.size))
      clear b
      go_wp2_with fail
      refine (Cut_any (foldL l) u _ (by rw [foldL_len]; omega) (by omega) (by omega)).mono ?_
      rintro e w8 ⟨rfl, b⟩
      have B8 := Lib.hid (B7.out.trans (b.mono B7.out.size))
      clear b
      go_wp2_with fail
      refine (Cut_any l (-1) _ (by omega) (by omega) (by omega)).mono ?_
      rintro e w9 ⟨rfl, b⟩
      rw [cutL_neg l (show (-1 : Int) ≤ 0 by omega)]
      have B9 := Lib.hid (B8.out.trans (b.mono B8.out.size))
      clear b
      have hnil : str [] = { data := #[] } := rfl
      go_wp2_with fail
      refine (LKnown_any _).mono ?_
      rintro e w10 ⟨rfl, b⟩
      have B10 := Lib.hid (B9.out.trans (b.mono B9.out.size))
      clear b
      go_wp2_with fail
      go_ret
      exact ⟨rfl, B10.out⟩

theorem sixty_neg (n : Int) (h : n < 0) : ∃ u : Nat, -(n + 1).tmod 60 = (u : Int) ∧ u ≤ 59 := by
  have h1 := Int.neg_tmod (n + 1) 60
  have h2 := Int.tmod_nonneg 60 (show 0 ≤ -(n + 1) by omega)
  have h3 := Int.tmod_lt_of_pos (-(n + 1)) (show (0 : Int) < 60 by omega)
  exact ⟨(-(n + 1).tmod 60).toNat, by omega, by omega⟩
theorem sixty_pos (n : Int) (h : 0 ≤ n) : ∃ u : Nat, n % 60 = (u : Int) ∧ u ≤ 59 := ⟨(n % 60).toNat, by omega, by omega⟩
theorem LCuts_walk (s : List UInt8) (n m : Int) (w : World) (n1 : -9223372036854775808 ≤ n) (n2 : n ≤ 9223372036854775807) (m1 : -9223372036854775808 ≤ m) (m2 : m ≤ 9223372036854775807) :
    Calls Try.prog 7 #[.string (str s), .int .i64 n, .int .i64 m] w fun e w' => e = .returned (.bool true) ∧ Below w.heap.size w w' := by
  have q3 := take_len s 300
  have a3 := Nat.le_trans (runes_len (s.take 300)) q3
  by_cases hn : n < 0
  · obtain ⟨u, hu, u59⟩ := sixty_neg n hn
    by_cases hm : m < 0
    · obtain ⟨v, hv, v59⟩ := sixty_neg m hm
      by_cases huv : v < u
      · exact LCuts_nnl s _ n m u v _ _ w n1 n2 m1 m2 hn hm (Lib.hid hu) (Lib.hid hv) u59 v59 huv (Lib.hid rfl) (Lib.hid rfl) (Lib.hid rfl) q3 a3
      · exact LCuts_nnm s _ n m u v _ _ w n1 n2 m1 m2 hn hm (Lib.hid hu) (Lib.hid hv) u59 v59 (by omega) (Lib.hid rfl) (Lib.hid rfl) (Lib.hid rfl) q3 a3
    · obtain ⟨v, hv, v59⟩ := sixty_pos m (by omega)
      by_cases huv : v < u
      · exact LCuts_npl s _ n m u v _ _ w n1 n2 m1 m2 hn (by omega) (Lib.hid hu) (Lib.hid hv) u59 v59 huv (Lib.hid rfl) (Lib.hid rfl) (Lib.hid rfl) q3 a3
      · exact LCuts_npm s _ n m u v _ _ w n1 n2 m1 m2 hn (by omega) (Lib.hid hu) (Lib.hid hv) u59 v59 (by omega) (Lib.hid rfl) (Lib.hid rfl) (Lib.hid rfl) q3 a3
  · obtain ⟨u, hu, u59⟩ := sixty_pos n (by omega)
    by_cases hm : m < 0
    · obtain ⟨v, hv, v59⟩ := sixty_neg m hm
      by_cases huv : v < u
      · exact LCuts_pnl s _ n m u v _ _ w n1 n2 m1 m2 (by omega) hm (Lib.hid hu) (Lib.hid hv) u59 v59 huv (Lib.hid rfl) (Lib.hid rfl) (Lib.hid rfl) q3 a3
      · exact LCuts_pnm s _ n m u v _ _ w n1 n2 m1 m2 (by omega) hm (Lib.hid hu) (Lib.hid hv) u59 v59 (by omega) (Lib.hid rfl) (Lib.hid rfl) (Lib.hid rfl) q3 a3
    · obtain ⟨v, hv, v59⟩ := sixty_pos m (by omega)
      by_cases huv : v < u
      · exact LCuts_ppl s _ n m u v _ _ w n1 n2 m1 m2 (by omega) (by omega) (Lib.hid hu) (Lib.hid hv) u59 v59 huv (Lib.hid rfl) (Lib.hid rfl) (Lib.hid rfl) q3 a3
      · exact LCuts_ppm s _ n m u v _ _ w n1 n2 m1 m2 (by omega) (by omega) (Lib.hid hu) (Lib.hid hv) u59 v59 (by omega) (Lib.hid rfl) (Lib.hid rfl) (Lib.hid rfl) q3 a3
end Go.Proofs.Ytkgjnapkpbagnaa
