/-
  Contract: Encode, of the document.
-/
import Derived.Test.YtjhfgajhmenboaaDoorRep
namespace Go.Proofs.YtjhfgajhmenboaaDoor
open Go.RowKit
set_option linter.unusedVariables false
set_option linter.unusedSimpArgs false

set_option maxRecDepth 100000 in
set_option maxHeartbeats 1000000 in
theorem REncode_bad0 (k i n s p q l y : Int) (w : World)  (h0 : k < 1) : Calls Tryd.prog 9 #[.agg #[.int .i64 k, .int .i64 i, .int .i64 n, .int .i64 s, .int .i64 p, .int .i64 q, .int .i64 l, .int .i64 y]] w fun e w' => e = .returned (.tuple #[.slice none 0 0, .int .i64 12]) ∧ Below w.heap.size w w' := by
  have d0 : decide (k < 1) = true := decide_eq_true (by omega)
  go_enter Tryd.func9, Tryd.ntmps9
  go_wp2_with fail
  go_ret2
  exact ⟨rfl, (Below.refl _ w).alloc (Nat.le_refl _) _⟩
set_option maxRecDepth 100000 in
set_option maxHeartbeats 1000000 in
theorem REncode_bad1 (k i n s p q l y : Int) (w : World) (h0 : 1 ≤ k) (h1 : 5 < k) : Calls Tryd.prog 9 #[.agg #[.int .i64 k, .int .i64 i, .int .i64 n, .int .i64 s, .int .i64 p, .int .i64 q, .int .i64 l, .int .i64 y]] w fun e w' => e = .returned (.tuple #[.slice none 0 0, .int .i64 12]) ∧ Below w.heap.size w w' := by
  have d0 : decide (k < 1) = false := decide_eq_false (by omega)
  have d1 : decide (5 < k) = true := decide_eq_true (by omega)
  go_enter Tryd.func9, Tryd.ntmps9
  go_wp2_with fail
  go_ret2
  exact ⟨rfl, (Below.refl _ w).alloc (Nat.le_refl _) _⟩
set_option maxRecDepth 100000 in
set_option maxHeartbeats 1000000 in
theorem REncode_bad2 (k i n s p q l y : Int) (w : World) (h0 : 1 ≤ k) (h1 : k ≤ 5) (h2 : n < 0) : Calls Tryd.prog 9 #[.agg #[.int .i64 k, .int .i64 i, .int .i64 n, .int .i64 s, .int .i64 p, .int .i64 q, .int .i64 l, .int .i64 y]] w fun e w' => e = .returned (.tuple #[.slice none 0 0, .int .i64 12]) ∧ Below w.heap.size w w' := by
  have d0 : decide (k < 1) = false := decide_eq_false (by omega)
  have d1 : decide (5 < k) = false := decide_eq_false (by omega)
  have d2 : decide (n < 0) = true := decide_eq_true (by omega)
  go_enter Tryd.func9, Tryd.ntmps9
  go_wp2_with fail
  go_ret2
  exact ⟨rfl, (Below.refl _ w).alloc (Nat.le_refl _) _⟩
set_option maxRecDepth 100000 in
set_option maxHeartbeats 1000000 in
theorem REncode_bad3 (k i n s p q l y : Int) (w : World) (h0 : 1 ≤ k) (h1 : k ≤ 5) (h2 : 0 ≤ n) (h3 : 255 < n) : Calls Tryd.prog 9 #[.agg #[.int .i64 k, .int .i64 i, .int .i64 n, .int .i64 s, .int .i64 p, .int .i64 q, .int .i64 l, .int .i64 y]] w fun e w' => e = .returned (.tuple #[.slice none 0 0, .int .i64 12]) ∧ Below w.heap.size w w' := by
  have d0 : decide (k < 1) = false := decide_eq_false (by omega)
  have d1 : decide (5 < k) = false := decide_eq_false (by omega)
  have d2 : decide (n < 0) = false := decide_eq_false (by omega)
  have d3 : decide (255 < n) = true := decide_eq_true (by omega)
  go_enter Tryd.func9, Tryd.ntmps9
  go_wp2_with fail
  go_ret2
  exact ⟨rfl, (Below.refl _ w).alloc (Nat.le_refl _) _⟩
set_option maxRecDepth 100000 in
set_option maxHeartbeats 1000000 in
theorem REncode_bad4 (k i n s p q l y : Int) (w : World) (h0 : 1 ≤ k) (h1 : k ≤ 5) (h2 : 0 ≤ n) (h3 : n ≤ 255) (h4 : s < 0) : Calls Tryd.prog 9 #[.agg #[.int .i64 k, .int .i64 i, .int .i64 n, .int .i64 s, .int .i64 p, .int .i64 q, .int .i64 l, .int .i64 y]] w fun e w' => e = .returned (.tuple #[.slice none 0 0, .int .i64 12]) ∧ Below w.heap.size w w' := by
  have d0 : decide (k < 1) = false := decide_eq_false (by omega)
  have d1 : decide (5 < k) = false := decide_eq_false (by omega)
  have d2 : decide (n < 0) = false := decide_eq_false (by omega)
  have d3 : decide (255 < n) = false := decide_eq_false (by omega)
  have d4 : decide (s < 0) = true := decide_eq_true (by omega)
  go_enter Tryd.func9, Tryd.ntmps9
  go_wp2_with fail
  go_ret2
  exact ⟨rfl, (Below.refl _ w).alloc (Nat.le_refl _) _⟩
set_option maxRecDepth 100000 in
set_option maxHeartbeats 1000000 in
theorem REncode_bad5 (k i n s p q l y : Int) (w : World) (h0 : 1 ≤ k) (h1 : k ≤ 5) (h2 : 0 ≤ n) (h3 : n ≤ 255) (h4 : 0 ≤ s) (h5 : 2 < s) : Calls Tryd.prog 9 #[.agg #[.int .i64 k, .int .i64 i, .int .i64 n, .int .i64 s, .int .i64 p, .int .i64 q, .int .i64 l, .int .i64 y]] w fun e w' => e = .returned (.tuple #[.slice none 0 0, .int .i64 12]) ∧ Below w.heap.size w w' := by
  have d0 : decide (k < 1) = false := decide_eq_false (by omega)
  have d1 : decide (5 < k) = false := decide_eq_false (by omega)
  have d2 : decide (n < 0) = false := decide_eq_false (by omega)
  have d3 : decide (255 < n) = false := decide_eq_false (by omega)
  have d4 : decide (s < 0) = false := decide_eq_false (by omega)
  have d5 : decide (2 < s) = true := decide_eq_true (by omega)
  go_enter Tryd.func9, Tryd.ntmps9
  go_wp2_with fail
  go_ret2
  exact ⟨rfl, (Below.refl _ w).alloc (Nat.le_refl _) _⟩
set_option maxRecDepth 100000 in
set_option maxHeartbeats 1000000 in
theorem REncode_bad6 (k i n s p q l y : Int) (w : World) (h0 : 1 ≤ k) (h1 : k ≤ 5) (h2 : 0 ≤ n) (h3 : n ≤ 255) (h4 : 0 ≤ s) (h5 : s ≤ 2) (h6 : y < 0) : Calls Tryd.prog 9 #[.agg #[.int .i64 k, .int .i64 i, .int .i64 n, .int .i64 s, .int .i64 p, .int .i64 q, .int .i64 l, .int .i64 y]] w fun e w' => e = .returned (.tuple #[.slice none 0 0, .int .i64 12]) ∧ Below w.heap.size w w' := by
  have d0 : decide (k < 1) = false := decide_eq_false (by omega)
  have d1 : decide (5 < k) = false := decide_eq_false (by omega)
  have d2 : decide (n < 0) = false := decide_eq_false (by omega)
  have d3 : decide (255 < n) = false := decide_eq_false (by omega)
  have d4 : decide (s < 0) = false := decide_eq_false (by omega)
  have d5 : decide (2 < s) = false := decide_eq_false (by omega)
  have d6 : decide (y < 0) = true := decide_eq_true (by omega)
  go_enter Tryd.func9, Tryd.ntmps9
  go_wp2_with fail
  go_ret2
  exact ⟨rfl, (Below.refl _ w).alloc (Nat.le_refl _) _⟩
set_option maxRecDepth 100000 in
set_option maxHeartbeats 1000000 in
theorem REncode_bad7 (k i n s p q l y : Int) (w : World) (h0 : 1 ≤ k) (h1 : k ≤ 5) (h2 : 0 ≤ n) (h3 : n ≤ 255) (h4 : 0 ≤ s) (h5 : s ≤ 2) (h6 : 0 ≤ y) (h7 : 255 < y) : Calls Tryd.prog 9 #[.agg #[.int .i64 k, .int .i64 i, .int .i64 n, .int .i64 s, .int .i64 p, .int .i64 q, .int .i64 l, .int .i64 y]] w fun e w' => e = .returned (.tuple #[.slice none 0 0, .int .i64 12]) ∧ Below w.heap.size w w' := by
  have d0 : decide (k < 1) = false := decide_eq_false (by omega)
  have d1 : decide (5 < k) = false := decide_eq_false (by omega)
  have d2 : decide (n < 0) = false := decide_eq_false (by omega)
  have d3 : decide (255 < n) = false := decide_eq_false (by omega)
  have d4 : decide (s < 0) = false := decide_eq_false (by omega)
  have d5 : decide (2 < s) = false := decide_eq_false (by omega)
  have d6 : decide (y < 0) = false := decide_eq_false (by omega)
  have d7 : decide (255 < y) = true := decide_eq_true (by omega)
  go_enter Tryd.func9, Tryd.ntmps9
  go_wp2_with fail
  go_ret2
  exact ⟨rfl, (Below.refl _ w).alloc (Nat.le_refl _) _⟩
set_option maxRecDepth 100000 in
set_option maxHeartbeats 1000000 in
theorem REncode_ok (k i n s p q l y : Int) (w : World) (hR : (Q.mk k i n s p q l y).Right) (h : (Q.mk k i n s p q l y).Ok) : Calls Tryd.prog 9 #[.agg #[.int .i64 k, .int .i64 i, .int .i64 n, .int .i64 s, .int .i64 p, .int .i64 q, .int .i64 l, .int .i64 y]] w fun e w' => ∃ r, e = .returned (.tuple #[r, .int .i64 0]) ∧ RB w' w.heap.size r ([] ++ [byteOf k] ++ longL i ++ [byteOf n] ++ [byteOf s] ++ longL p ++ longL q ++ longL l ++ [byteOf y]) ∧ Below w.heap.size w w' := by
  obtain ⟨⟨k1, k2⟩, ⟨i1, i2⟩, ⟨n1, n2⟩, ⟨s1, s2⟩, ⟨p1, p2⟩, ⟨q1, q2⟩, ⟨l1, l2⟩, ⟨y1, y2⟩⟩ := h
  simp only at k1 k2 i1 i2 n1 n2 s1 s2 p1 p2 q1 q2 l1 l2 y1 y2
  obtain ⟨⟨r1, r2⟩, ⟨r3, r4⟩, ⟨r5, r6⟩, ⟨r7, r8⟩⟩ := hR
  simp only at r1 r2 r3 r4 r5 r6 r7 r8
  have d0 : decide (k < 1) = false := decide_eq_false (by omega)
  have d1 : decide (5 < k) = false := decide_eq_false (by omega)
  have d2 : decide (n < 0) = false := decide_eq_false (by omega)
  have d3 : decide (255 < n) = false := decide_eq_false (by omega)
  have d4 : decide (s < 0) = false := decide_eq_false (by omega)
  have d5 : decide (2 < s) = false := decide_eq_false (by omega)
  have d6 : decide (y < 0) = false := decide_eq_false (by omega)
  have d7 : decide (255 < y) = false := decide_eq_false (by omega)
  obtain ⟨w0, ew⟩ : ∃ W, w.alloc (.cells #[.int .i64 k, .int .i64 i, .int .i64 n, .int .i64 s, .int .i64 p, .int .i64 q, .int .i64 l, .int .i64 y] 25) = W := ⟨_, rfl⟩
  have HBX : Hid (∀ W, Below w0.heap.size w0 W → W.heap[w.heap.size]? = some (.cells #[.int .i64 k, .int .i64 i, .int .i64 n, .int .i64 s, .int .i64 p, .int .i64 q, .int .i64 l, .int .i64 y] 25 (0, 0)) ∧ Below w.heap.size w W) := Lib.hid (by rw [← ew]; exact fun W hb => ⟨boxed hb, boxed_below hb⟩)
  have hN := Lib.hid (show ∀ W : World, RB W w.heap.size (Value.slice none 0 0) [] from fun W => rb_nil _ _)
  replace ew := Lib.hid ew
  go_enter Tryd.func9, Tryd.ntmps9
  go_upto_region 3 with (fail)
  rw [ew.out]
  clear d0 d1 d2 d3 d4 d5 d6 d7 r1 r2 r3 r4 r5 r6 r7 r8
  have B0 := Lib.hid (Below.refl w0.heap.size w0)
  obtain ⟨v0, ev⟩ : ∃ v, v = Value.slice none 0 0 := ⟨_, rfl⟩
  rw [← ev]
  have R0 : Hid (RB w0 w.heap.size v0 []) := Lib.hid (by rw [ev]; exact hN.out w0)
  clear ev
  obtain ⟨k0, k1, k2, k3, k4, k5, k6, k7⟩ := rep_at (HBX.out w0 B0.out).1
  have hz0 := rep_at (HBX.out w0.drew B0.out.drew).1
  (try simp only at hz0)
  replace R0 : Hid (RB w0.drew w.heap.size v0 ([])) := R0
  clear k0 k1 k2 k3 k4 k5 k6 k7
  go_region_held3 (fun W : World => W.cell? ⟨w.heap.size, 0, none⟩ = some (.int .i64 k) ∧ W.cell? ⟨w.heap.size, 1, none⟩ = some (.int .i64 i) ∧ W.cell? ⟨w.heap.size, 2, none⟩ = some (.int .i64 n) ∧ W.cell? ⟨w.heap.size, 3, none⟩ = some (.int .i64 s) ∧ W.cell? ⟨w.heap.size, 4, none⟩ = some (.int .i64 p) ∧ W.cell? ⟨w.heap.size, 5, none⟩ = some (.int .i64 q) ∧ W.cell? ⟨w.heap.size, 6, none⟩ = some (.int .i64 l) ∧ W.cell? ⟨w.heap.size, 7, none⟩ = some (.int .i64 y)) (first | with_reducible assumption | with_reducible exact hz0)
    (first
     | (go_at_call 29; (with_reducible refine (RefByteR _ v0 (([] : List UInt8)) k _ R0 (by first | omega | (simp only [List.length_append, List.length_nil, longL_len, List.length_singleton]; omega) | simp) (by omega) (by omega)).mono ?_); rintro e w1 ⟨v1, rfl, r1, b1⟩; have B1 := Lib.hid ((B0.out.drew).trans (b1.mono (B0.out.drew).size)); have R1 := Lib.hid r1; clear r1 b1; have z1 := rep_at (HBX.out w1 B1.out).1)
     | (go_at_call 28; (with_reducible refine (RefLongR _ v1 (([] : List UInt8) ++ [byteOf k]) i _ R1 (by first | omega | (simp only [List.length_append, List.length_nil, longL_len, List.length_singleton]; omega) | simp) (by omega) (by omega)).mono ?_); rintro e w2 ⟨v2, rfl, r2, b2⟩; have B2 := Lib.hid ((B1.out).trans (b2.mono (B1.out).size)); have R2 := Lib.hid r2; clear r2 b2; have z2 := rep_at (HBX.out w2 B2.out).1))
  clear hz0 z1 z2
  obtain ⟨k0, k1, k2, k3, k4, k5, k6, k7⟩ := rep_at (HBX.out w2 B2.out).1
  go_wp2_with fail
  have hz0 := rep_at (HBX.out w2.drew B2.out.drew).1
  (try simp only at hz0)
  replace R2 : Hid (RB w2.drew w1.heap.size v2 ([] ++ [byteOf k] ++ longL i)) := R2
  clear k0 k1 k2 k3 k4 k5 k6 k7
  go_region_held3 (fun W : World => W.cell? ⟨w.heap.size, 0, none⟩ = some (.int .i64 k) ∧ W.cell? ⟨w.heap.size, 1, none⟩ = some (.int .i64 i) ∧ W.cell? ⟨w.heap.size, 2, none⟩ = some (.int .i64 n) ∧ W.cell? ⟨w.heap.size, 3, none⟩ = some (.int .i64 s) ∧ W.cell? ⟨w.heap.size, 4, none⟩ = some (.int .i64 p) ∧ W.cell? ⟨w.heap.size, 5, none⟩ = some (.int .i64 q) ∧ W.cell? ⟨w.heap.size, 6, none⟩ = some (.int .i64 l) ∧ W.cell? ⟨w.heap.size, 7, none⟩ = some (.int .i64 y)) (first | with_reducible assumption | with_reducible exact hz0)
    (first
     | (go_at_call 29; (with_reducible refine (RefByteR _ v2 (([] : List UInt8) ++ [byteOf k] ++ longL i) n _ R2 (by first | omega | (simp only [List.length_append, List.length_nil, longL_len, List.length_singleton]; omega) | simp) (by omega) (by omega)).mono ?_); rintro e w3 ⟨v3, rfl, r3, b3⟩; have B3 := Lib.hid ((B2.out.drew).trans (b3.mono (B2.out.drew).size)); have R3 := Lib.hid r3; clear r3 b3; have z3 := rep_at (HBX.out w3 B3.out).1)
     | (go_at_call 29; (with_reducible refine (RefByteR _ v3 (([] : List UInt8) ++ [byteOf k] ++ longL i ++ [byteOf n]) s _ R3 (by first | omega | (simp only [List.length_append, List.length_nil, longL_len, List.length_singleton]; omega) | simp) (by omega) (by omega)).mono ?_); rintro e w4 ⟨v4, rfl, r4, b4⟩; have B4 := Lib.hid ((B3.out).trans (b4.mono (B3.out).size)); have R4 := Lib.hid r4; clear r4 b4; have z4 := rep_at (HBX.out w4 B4.out).1))
  clear hz0 z3 z4
  obtain ⟨k0, k1, k2, k3, k4, k5, k6, k7⟩ := rep_at (HBX.out w4 B4.out).1
  go_wp2_with fail
  have hz0 := rep_at (HBX.out w4.drew B4.out.drew).1
  (try simp only at hz0)
  replace R4 : Hid (RB w4.drew w3.heap.size v4 ([] ++ [byteOf k] ++ longL i ++ [byteOf n] ++ [byteOf s])) := R4
  clear k0 k1 k2 k3 k4 k5 k6 k7
  go_region_held3 (fun W : World => W.cell? ⟨w.heap.size, 0, none⟩ = some (.int .i64 k) ∧ W.cell? ⟨w.heap.size, 1, none⟩ = some (.int .i64 i) ∧ W.cell? ⟨w.heap.size, 2, none⟩ = some (.int .i64 n) ∧ W.cell? ⟨w.heap.size, 3, none⟩ = some (.int .i64 s) ∧ W.cell? ⟨w.heap.size, 4, none⟩ = some (.int .i64 p) ∧ W.cell? ⟨w.heap.size, 5, none⟩ = some (.int .i64 q) ∧ W.cell? ⟨w.heap.size, 6, none⟩ = some (.int .i64 l) ∧ W.cell? ⟨w.heap.size, 7, none⟩ = some (.int .i64 y)) (first | with_reducible assumption | with_reducible exact hz0)
    (first
     | (go_at_call 28; (with_reducible refine (RefLongR _ v4 (([] : List UInt8) ++ [byteOf k] ++ longL i ++ [byteOf n] ++ [byteOf s]) p _ R4 (by first | omega | (simp only [List.length_append, List.length_nil, longL_len, List.length_singleton]; omega) | simp) (by omega) (by omega)).mono ?_); rintro e w5 ⟨v5, rfl, r5, b5⟩; have B5 := Lib.hid ((B4.out.drew).trans (b5.mono (B4.out.drew).size)); have R5 := Lib.hid r5; clear r5 b5; have z5 := rep_at (HBX.out w5 B5.out).1)
     | (go_at_call 28; (with_reducible refine (RefLongR _ v5 (([] : List UInt8) ++ [byteOf k] ++ longL i ++ [byteOf n] ++ [byteOf s] ++ longL p) q _ R5 (by first | omega | (simp only [List.length_append, List.length_nil, longL_len, List.length_singleton]; omega) | simp) (by omega) (by omega)).mono ?_); rintro e w6 ⟨v6, rfl, r6, b6⟩; have B6 := Lib.hid ((B5.out).trans (b6.mono (B5.out).size)); have R6 := Lib.hid r6; clear r6 b6; have z6 := rep_at (HBX.out w6 B6.out).1)
     | (go_at_call 28; (with_reducible refine (RefLongR _ v6 (([] : List UInt8) ++ [byteOf k] ++ longL i ++ [byteOf n] ++ [byteOf s] ++ longL p ++ longL q) l _ R6 (by first | omega | (simp only [List.length_append, List.length_nil, longL_len, List.length_singleton]; omega) | simp) (by omega) (by omega)).mono ?_); rintro e w7 ⟨v7, rfl, r7, b7⟩; have B7 := Lib.hid ((B6.out).trans (b7.mono (B6.out).size)); have R7 := Lib.hid r7; clear r7 b7; have z7 := rep_at (HBX.out w7 B7.out).1))
  clear hz0 z5 z6 z7
  obtain ⟨k0, k1, k2, k3, k4, k5, k6, k7⟩ := rep_at (HBX.out w7 B7.out).1
  go_wp2_with fail
  refine (RefByteR _ v7 (([] : List UInt8) ++ [byteOf k] ++ longL i ++ [byteOf n] ++ [byteOf s] ++ longL p ++ longL q ++ longL l) y _ R7 (by first | omega | (simp only [List.length_append, List.length_nil, longL_len, List.length_singleton]; omega) | simp) (by omega) (by omega)).mono ?_
  rintro e w8 ⟨v8, rfl, r8, b8⟩
  have B8 := Lib.hid (B7.out.trans (b8.mono B7.out.size))
  have R8 := Lib.hid r8
  clear k0 k1 k2 k3 k4 k5 k6 k7 r8 b8
  have hr := (HBX.out w8 B8.out).2
  have R8 := Lib.hid (R8.out.base (show w.heap.size ≤ _ by have := (HBX.out w7 B7.out).2.size; omega))
  replace hr := Lib.hid hr
  go_wp2_with fail
  go_ret2
  exact ⟨_, rfl, R8.out, hr.out⟩
theorem REncode_any (r : Q) (w : World) (h : r.Ok) :
    Calls Tryd.prog 9 #[r.val] w fun e w' => ∃ v, e = .returned (.tuple #[v, .int .i64 (encE r)]) ∧ RB w' w.heap.size v (encR r) ∧ Below w.heap.size w w' := by
  by_cases hR : r.Right
  · rw [encR_yes hR, encE_yes hR]
    obtain ⟨k, i, n, s, p, q, l, y⟩ := r
    exact REncode_ok k i n s p q l y w hR h
  · rw [encR_no hR, encE_no hR]
    obtain ⟨k, i, n, s, p, q, l, y⟩ := r
    have fin : ∀ {F : Ending → World → Prop}, Calls Tryd.prog 9 #[.agg #[.int .i64 k, .int .i64 i, .int .i64 n, .int .i64 s, .int .i64 p, .int .i64 q, .int .i64 l, .int .i64 y]] w (fun e w' => e = .returned (.tuple #[.slice none 0 0, .int .i64 12]) ∧ Below w.heap.size w w') →
        Calls Tryd.prog 9 #[(Q.mk k i n s p q l y).val] w fun e w' => ∃ v, e = .returned (.tuple #[v, .int .i64 (12 : Nat)]) ∧ RB w' w.heap.size v [] ∧ Below w.heap.size w w' := by
      intro _ hc
      refine hc.mono ?_
      rintro e w' ⟨rfl, hb⟩
      exact ⟨_, rfl, rb_nil _ _, hb⟩
    have hR : ¬ ((1 ≤ k ∧ k ≤ 5) ∧ (0 ≤ n ∧ n ≤ 255) ∧ (0 ≤ s ∧ s ≤ 2) ∧ (0 ≤ y ∧ y ≤ 255)) := hR
    refine fin (F := fun _ _ => True) ?_
    by_cases a0 : k < 1
    · exact REncode_bad0 k i n s p q l y w a0
    by_cases a1 : 5 < k
    · exact REncode_bad1 k i n s p q l y w (by omega) a1
    by_cases a2 : n < 0
    · exact REncode_bad2 k i n s p q l y w (by omega) (by omega) a2
    by_cases a3 : 255 < n
    · exact REncode_bad3 k i n s p q l y w (by omega) (by omega) (by omega) a3
    by_cases a4 : s < 0
    · exact REncode_bad4 k i n s p q l y w (by omega) (by omega) (by omega) (by omega) a4
    by_cases a5 : 2 < s
    · exact REncode_bad5 k i n s p q l y w (by omega) (by omega) (by omega) (by omega) (by omega) a5
    by_cases a6 : y < 0
    · exact REncode_bad6 k i n s p q l y w (by omega) (by omega) (by omega) (by omega) (by omega) (by omega) a6
    by_cases a7 : 255 < y
    · exact REncode_bad7 k i n s p q l y w (by omega) (by omega) (by omega) (by omega) (by omega) (by omega) (by omega) a7
    exact absurd ⟨⟨by omega, by omega⟩, ⟨by omega, by omega⟩, ⟨by omega, by omega⟩, by omega, by omega⟩ hR
end Go.Proofs.YtjhfgajhmenboaaDoor
