/-
  Contract: Encode, of the program.
-/
import Derived.Test.YtjhfgajhmenboaaDoorRepRight
namespace Go.Proofs.YtjhfgajhmenboaaDoor
open Go.RowKit
set_option linter.unusedVariables false
set_option linter.unusedSimpArgs false

set_option maxRecDepth 100000 in
set_option maxHeartbeats 1000000 in
theorem PEncode_bad (k i n s p q l y : Int) (w : World) (hR : ¬ (Q.mk k i n s p q l y).Right) : Calls Tryd.prog 8 #[.agg #[.int .i64 k, .int .i64 i, .int .i64 n, .int .i64 s, .int .i64 p, .int .i64 q, .int .i64 l, .int .i64 y]] w fun e w' => e = .returned (.tuple #[.slice none 0 0, .int .i64 12]) ∧ Below w.heap.size w w' := by
  have hR := Lib.hid (decide_eq_false hR)
  go_enter Tryd.func8, Tryd.ntmps8
  go_wp2_with fail
  refine (PRight_any ⟨k, i, n, s, p, q, l, y⟩ _).mono ?_
  rintro e w1 ⟨rfl, b1⟩
  rw [hR.out]
  have b1 := Lib.hid (boxed_below b1)
  go_wp2_with fail
  go_ret2
  exact ⟨rfl, b1.out⟩
set_option maxRecDepth 100000 in
set_option maxHeartbeats 1000000 in
theorem PEncode_ok (k i n s p q l y : Int) (w : World) (hR : (Q.mk k i n s p q l y).Right) (h : (Q.mk k i n s p q l y).Ok) : Calls Tryd.prog 8 #[.agg #[.int .i64 k, .int .i64 i, .int .i64 n, .int .i64 s, .int .i64 p, .int .i64 q, .int .i64 l, .int .i64 y]] w fun e w' => ∃ r, e = .returned (.tuple #[r, .int .i64 0]) ∧ RB w' w.heap.size r ([] ++ [byteOf k] ++ longL i ++ [byteOf n] ++ [byteOf s] ++ longL p ++ longL q ++ longL l ++ [byteOf y]) ∧ Below w.heap.size w w' := by
  obtain ⟨⟨k1, k2⟩, ⟨i1, i2⟩, ⟨n1, n2⟩, ⟨s1, s2⟩, ⟨p1, p2⟩, ⟨q1, q2⟩, ⟨l1, l2⟩, ⟨y1, y2⟩⟩ := h
  simp only at k1 k2 i1 i2 n1 n2 s1 s2 p1 p2 q1 q2 l1 l2 y1 y2
  have hR := Lib.hid (decide_eq_true hR)
  obtain ⟨wb, ew⟩ : ∃ W, w.alloc (.cells #[.int .i64 k, .int .i64 i, .int .i64 n, .int .i64 s, .int .i64 p, .int .i64 q, .int .i64 l, .int .i64 y] 25) = W := ⟨_, rfl⟩
  have HBX : Hid (∀ W, Below wb.heap.size wb W → W.heap[w.heap.size]? = some (.cells #[.int .i64 k, .int .i64 i, .int .i64 n, .int .i64 s, .int .i64 p, .int .i64 q, .int .i64 l, .int .i64 y] 25 (0, 0)) ∧ Below w.heap.size w W) := Lib.hid (by rw [← ew]; exact fun W hb => ⟨boxed hb, boxed_below hb⟩)
  replace ew := Lib.hid ew
  go_enter Tryd.func8, Tryd.ntmps8
  go_wp2_with fail
  rw [ew.out]
  refine (PRight_any ⟨k, i, n, s, p, q, l, y⟩ _).mono ?_
  rintro e wr ⟨rfl, br⟩
  rw [hR.out]
  have br := Lib.hid br
  obtain ⟨k0, k1, k2, k3, k4, k5, k6, k7⟩ := rep_at (HBX.out wr br.out).1
  go_wp2_with fail
  refine (NewWriter_any wr).mono ?_
  rintro e w0 ⟨rfl, W0, b0⟩
  have W0 := Lib.hid W0
  have b0 := Lib.hid b0
  clear k0 k1 k2 k3 k4 k5 k6 k7
  obtain ⟨k0, k1, k2, k3, k4, k5, k6, k7⟩ := rep_at (HBX.out w0 (br.out.trans (b0.out.mono br.out.size))).1
  obtain ⟨v0, ev⟩ : ∃ v, v = Value.slice none 0 0 := ⟨_, rfl⟩
  rw [← ev] at W0
  clear ev
  go_wp2_with fail
  refine (WByte_any _ _ v0 _ k w0 W0 (by first | omega | (simp only [List.length_append, List.length_nil, longL_len, List.length_singleton]; omega) | simp) (by omega) (by omega)).mono ?_
  rintro e w1 ⟨rfl, v1, W1, P1, -⟩
  have b1 := Lib.hid (wr_below W0.out b0.out P1)
  clear k0 k1 k2 k3 k4 k5 k6 k7 P1
  obtain ⟨k0, k1, k2, k3, k4, k5, k6, k7⟩ := rep_at (HBX.out w1 (br.out.trans (b1.out.mono br.out.size))).1
  replace W1 := Lib.hid W1
  go_wp2_with fail
  refine (WLong_any _ _ v1 _ i w1 W1 (by first | omega | (simp only [List.length_append, List.length_nil, longL_len, List.length_singleton]; omega) | simp) (by omega) (by omega)).mono ?_
  rintro e w2 ⟨rfl, v2, W2, P2, -⟩
  have b2 := Lib.hid (wr_below W1.out b1.out P2)
  clear k0 k1 k2 k3 k4 k5 k6 k7 P2
  obtain ⟨k0, k1, k2, k3, k4, k5, k6, k7⟩ := rep_at (HBX.out w2 (br.out.trans (b2.out.mono br.out.size))).1
  replace W2 := Lib.hid W2
  go_wp2_with fail
  refine (WByte_any _ _ v2 _ n w2 W2 (by first | omega | (simp only [List.length_append, List.length_nil, longL_len, List.length_singleton]; omega) | simp) (by omega) (by omega)).mono ?_
  rintro e w3 ⟨rfl, v3, W3, P3, -⟩
  have b3 := Lib.hid (wr_below W2.out b2.out P3)
  clear k0 k1 k2 k3 k4 k5 k6 k7 P3
  obtain ⟨k0, k1, k2, k3, k4, k5, k6, k7⟩ := rep_at (HBX.out w3 (br.out.trans (b3.out.mono br.out.size))).1
  replace W3 := Lib.hid W3
  go_wp2_with fail
  refine (WByte_any _ _ v3 _ s w3 W3 (by first | omega | (simp only [List.length_append, List.length_nil, longL_len, List.length_singleton]; omega) | simp) (by omega) (by omega)).mono ?_
  rintro e w4 ⟨rfl, v4, W4, P4, -⟩
  have b4 := Lib.hid (wr_below W3.out b3.out P4)
  clear k0 k1 k2 k3 k4 k5 k6 k7 P4
  obtain ⟨k0, k1, k2, k3, k4, k5, k6, k7⟩ := rep_at (HBX.out w4 (br.out.trans (b4.out.mono br.out.size))).1
  replace W4 := Lib.hid W4
  go_wp2_with fail
  refine (WLong_any _ _ v4 _ p w4 W4 (by first | omega | (simp only [List.length_append, List.length_nil, longL_len, List.length_singleton]; omega) | simp) (by omega) (by omega)).mono ?_
  rintro e w5 ⟨rfl, v5, W5, P5, -⟩
  have b5 := Lib.hid (wr_below W4.out b4.out P5)
  clear k0 k1 k2 k3 k4 k5 k6 k7 P5
  obtain ⟨k0, k1, k2, k3, k4, k5, k6, k7⟩ := rep_at (HBX.out w5 (br.out.trans (b5.out.mono br.out.size))).1
  replace W5 := Lib.hid W5
  go_wp2_with fail
  refine (WLong_any _ _ v5 _ q w5 W5 (by first | omega | (simp only [List.length_append, List.length_nil, longL_len, List.length_singleton]; omega) | simp) (by omega) (by omega)).mono ?_
  rintro e w6 ⟨rfl, v6, W6, P6, -⟩
  have b6 := Lib.hid (wr_below W5.out b5.out P6)
  clear k0 k1 k2 k3 k4 k5 k6 k7 P6
  obtain ⟨k0, k1, k2, k3, k4, k5, k6, k7⟩ := rep_at (HBX.out w6 (br.out.trans (b6.out.mono br.out.size))).1
  replace W6 := Lib.hid W6
  go_wp2_with fail
  refine (WLong_any _ _ v6 _ l w6 W6 (by first | omega | (simp only [List.length_append, List.length_nil, longL_len, List.length_singleton]; omega) | simp) (by omega) (by omega)).mono ?_
  rintro e w7 ⟨rfl, v7, W7, P7, -⟩
  have b7 := Lib.hid (wr_below W6.out b6.out P7)
  clear k0 k1 k2 k3 k4 k5 k6 k7 P7
  obtain ⟨k0, k1, k2, k3, k4, k5, k6, k7⟩ := rep_at (HBX.out w7 (br.out.trans (b7.out.mono br.out.size))).1
  replace W7 := Lib.hid W7
  go_wp2_with fail
  refine (WByte_any _ _ v7 _ y w7 W7 (by first | omega | (simp only [List.length_append, List.length_nil, longL_len, List.length_singleton]; omega) | simp) (by omega) (by omega)).mono ?_
  rintro e w8 ⟨rfl, v8, W8, P8, -⟩
  have b8 := Lib.hid (wr_below W7.out b7.out P8)
  clear k0 k1 k2 k3 k4 k5 k6 k7 P8
  obtain ⟨k0, k1, k2, k3, k4, k5, k6, k7⟩ := rep_at (HBX.out w8 (br.out.trans (b8.out.mono br.out.size))).1
  replace W8 := Lib.hid W8
  go_wp2_with fail
  refine (Done_any _ _ v8 _ w8 W8 (by first | omega | (simp only [List.length_append, List.length_nil, longL_len, List.length_singleton]; omega) | simp)).mono ?_
  rintro e w9 ⟨r, rfl, R9, b9⟩
  have hr := (HBX.out w8 (br.out.trans (b8.out.mono br.out.size))).2
  have R9 := Lib.hid (R9.base hr.size)
  have b9 := Lib.hid (hr.trans (b9.mono hr.size))
  clear hr
  go_wp2_with fail
  go_ret2
  exact ⟨r, rfl, R9.out, b9.out⟩
theorem PEncode_any (r : Q) (w : World) (h : r.Ok) :
    Calls Tryd.prog 8 #[r.val] w fun e w' => ∃ v, e = .returned (.tuple #[v, .int .i64 (encE r)]) ∧ RB w' w.heap.size v (encR r) ∧ Below w.heap.size w w' := by
  by_cases hR : r.Right
  · rw [encR_yes hR, encE_yes hR]
    obtain ⟨k, i, n, s, p, q, l, y⟩ := r
    exact PEncode_ok k i n s p q l y w hR h
  · rw [encR_no hR, encE_no hR]
    obtain ⟨k, i, n, s, p, q, l, y⟩ := r
    refine (PEncode_bad k i n s p q l y w hR).mono ?_
    rintro e w' ⟨rfl, hb⟩
    exact ⟨_, rfl, rb_nil _ _, hb⟩
end Go.Proofs.YtjhfgajhmenboaaDoor
