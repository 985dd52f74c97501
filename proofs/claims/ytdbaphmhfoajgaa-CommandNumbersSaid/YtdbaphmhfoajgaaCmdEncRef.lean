/-
  Contract: Encode, of the document.
-/
import Derived.Test.YtdbaphmhfoajgaaCmdEncP
import Derived.Test.YtdbaphmhfoajgaaCmdRef
import Derived.Deep.RegionHeld3
namespace Go.Proofs.Ytdbaphmhfoajgaa
open Go.RowKit
set_option linter.unusedVariables false
set_option linter.unusedSimpArgs false

theorem RefByteR (base : Nat) (v : Value) (xs : List UInt8) (x : Int) (w : World) (h : Hid (RB w base v xs)) (hl : xs.length ≤ 1000000) (x1 : -9223372036854775808 ≤ x) (x2 : x ≤ 9223372036854775807) :
    Calls Try.prog 34 #[v, .int .i64 x] w fun e w' => ∃ r, e = .returned r ∧ RB w' w.heap.size r (xs ++ [byteOf x]) ∧ Below w.heap.size w w' := by
  obtain ⟨A, cap, rfl, H, hA, _, _⟩ := h.out.holds
  exact RefByte_any A xs.length cap xs x w (by omega) hA (Lib.hid H) x1 x2
theorem RefLongR (base : Nat) (v : Value) (xs : List UInt8) (x : Int) (w : World) (h : Hid (RB w base v xs)) (hl : xs.length ≤ 1000000) (x1 : -9223372036854775808 ≤ x) (x2 : x ≤ 9223372036854775807) :
    Calls Try.prog 33 #[v, .int .i64 x] w fun e w' => ∃ r, e = .returned r ∧ RB w' w.heap.size r (xs ++ longL x) ∧ Below w.heap.size w w' := by
  obtain ⟨A, cap, rfl, H, hA, _, _⟩ := h.out.holds
  exact RefLong_any A xs.length cap xs x w (by omega) hA (Lib.hid H) x1 x2
theorem RefTextR (base : Nat) (v : Value) (xs : List UInt8) (S : List UInt8) (w : World) (h : Hid (RB w base v xs)) (hl : xs.length ≤ 1000000) :
    Calls Try.prog 35 #[v, .string (str S)] w fun e w' => ∃ r, e = .returned r ∧ RB w' w.heap.size r (xs ++ textL S) ∧ Below w.heap.size w w' := by
  obtain ⟨A, cap, rfl, H, hA, _, _⟩ := h.out.holds
  refine (RefText_any A xs.length cap xs S w (by omega) hA (Lib.hid H)).mono ?_
  rintro e w' ⟨r, rfl, h2, b2⟩
  rw [List.append_assoc _ [_] (List.take 255 S)] at h2
  exact ⟨r, rfl, h2, b2⟩
set_option maxRecDepth 100000 in
set_option maxHeartbeats 1000000 in
theorem REncode_bad (k i n s p q l t : Int) (S : List UInt8) (w : World) (E : Nat) (hE : E ≠ 0) (hR : rightL k i n s p q l t S = E) (hS : k = 1 → S.length ≤ 140737488355328) :
    Calls Try.prog 11 #[.agg #[.int .i64 k, .int .i64 i, .int .i64 n, .int .i64 s, .int .i64 p, .int .i64 q, .int .i64 l, .int .i64 t, .string (str S)]] w fun e w' => e = .returned (.tuple #[.slice none 0 0, .int .i64 E]) ∧ Below w.heap.size w w' := by
  have i1 : ((E : Int) != 0) = true := by simp; omega
  have hR := Lib.hid (show (C.mk k i n s p q l t S).right = E from hR)
  clear hE
  go_enter Try.func11, Try.ntmps11
  go_wp2_with fail
  refine (RRight_any ⟨k, i, n, s, p, q, l, t, S⟩ _ hS).mono ?_
  rintro e w1 ⟨rfl, b1⟩
  rw [hR.out]
  have b1 := Lib.hid (boxed_below b1)
  go_wp2_with fail
  go_ret2
  exact ⟨rfl, b1.out⟩
set_option maxRecDepth 100000 in
set_option maxHeartbeats 1000000 in
theorem REncode_1 (i n s p q l t : Int) (S : List UInt8) (w : World) (hR : rightL 1 i n s p q l t S = 0) (i1 : -9223372036854775808 ≤ i) (i2 : i ≤ 9223372036854775807) (n1 : -9223372036854775808 ≤ n) (n2 : n ≤ 9223372036854775807) (s1 : -9223372036854775808 ≤ s) (s2 : s ≤ 9223372036854775807) (p1 : -9223372036854775808 ≤ p) (p2 : p ≤ 9223372036854775807) (q1 : -9223372036854775808 ≤ q) (q2 : q ≤ 9223372036854775807) (l1 : -9223372036854775808 ≤ l) (l2 : l ≤ 9223372036854775807) (t1 : -9223372036854775808 ≤ t) (t2 : t ≤ 9223372036854775807) (hS : S.length ≤ 140737488355328) :
    Calls Try.prog 11 #[.agg #[.int .i64 1, .int .i64 i, .int .i64 n, .int .i64 s, .int .i64 p, .int .i64 q, .int .i64 l, .int .i64 t, .string (str S)]] w fun e w' => ∃ r, e = .returned (.tuple #[r, .int .i64 0]) ∧ RB w' w.heap.size r ([] ++ [byteOf 1] ++ longL i ++ [byteOf n] ++ [byteOf s] ++ [byteOf t] ++ longL p ++ longL q ++ longL l ++ textL S) ∧ Below w.heap.size w w' := by
  have hR := Lib.hid (show (C.mk 1 i n s p q l t S).right = 0 from hR)
  obtain ⟨wb, ew⟩ : ∃ W, w.alloc (.cells #[.int .i64 1, .int .i64 i, .int .i64 n, .int .i64 s, .int .i64 p, .int .i64 q, .int .i64 l, .int .i64 t, .string (str S)] 23) = W := ⟨_, rfl⟩
  have HBX : Hid (∀ W, Below wb.heap.size wb W → (fun W : World => W.cell? ⟨w.heap.size, 0, none⟩ = some (.int .i64 1) ∧ W.cell? ⟨w.heap.size, 1, none⟩ = some (.int .i64 i) ∧ W.cell? ⟨w.heap.size, 2, none⟩ = some (.int .i64 n) ∧ W.cell? ⟨w.heap.size, 3, none⟩ = some (.int .i64 s) ∧ W.cell? ⟨w.heap.size, 4, none⟩ = some (.int .i64 p) ∧ W.cell? ⟨w.heap.size, 5, none⟩ = some (.int .i64 q) ∧ W.cell? ⟨w.heap.size, 6, none⟩ = some (.int .i64 l) ∧ W.cell? ⟨w.heap.size, 7, none⟩ = some (.int .i64 t) ∧ W.cell? ⟨w.heap.size, 8, none⟩ = some (.string (str S))) W ∧ Below w.heap.size w W) := Lib.hid (by rw [← ew]; exact fun W hb => ⟨cmd_at (boxed hb), boxed_below hb⟩)
  replace ew := Lib.hid ew
  go_enter Try.func11, Try.ntmps11
  go_wp2_with fail
  rw [ew.out]
  refine (RRight_any ⟨1, i, n, s, p, q, l, t, S⟩ _ (fun hk => hS)).mono ?_
  rintro e w0 ⟨rfl, b0⟩
  rw [hR.out]
  have B0 := Lib.hid b0
  clear b0
  obtain ⟨v0, ev⟩ : ∃ v, v = Value.slice none 0 0 := ⟨_, rfl⟩
  have R0 : Hid (RB w0 w0.heap.size v0 []) := Lib.hid (by rw [ev]; exact rb_nil _ _)
  obtain ⟨k0, k1, k2, k3, k4, k5, k6, k7, k8⟩ := (HBX.out w0 B0.out).1
  go_wp2_with fail
  rw [← ev]
  clear ev
  have hz0 := (HBX.out w0.drew B0.out.drew).1
  (try simp only at hz0)
  replace R0 : Hid (RB w0.drew w0.heap.size v0 ([])) := R0
  clear k0 k1 k2 k3 k4 k5 k6 k7 k8
  go_region_held3 (fun W : World => W.cell? ⟨w.heap.size, 0, none⟩ = some (.int .i64 1) ∧ W.cell? ⟨w.heap.size, 1, none⟩ = some (.int .i64 i) ∧ W.cell? ⟨w.heap.size, 2, none⟩ = some (.int .i64 n) ∧ W.cell? ⟨w.heap.size, 3, none⟩ = some (.int .i64 s) ∧ W.cell? ⟨w.heap.size, 4, none⟩ = some (.int .i64 p) ∧ W.cell? ⟨w.heap.size, 5, none⟩ = some (.int .i64 q) ∧ W.cell? ⟨w.heap.size, 6, none⟩ = some (.int .i64 l) ∧ W.cell? ⟨w.heap.size, 7, none⟩ = some (.int .i64 t) ∧ W.cell? ⟨w.heap.size, 8, none⟩ = some (.string (str S))) (first | with_reducible assumption | with_reducible exact hz0)
    (first
     | (go_at_call 34; (with_reducible refine (RefByteR _ v0 (([] : List UInt8)) 1 _ R0 (by first | omega | (simp only [List.length_append, List.length_nil, longL_len, List.length_singleton]; omega) | simp) (by omega) (by omega)).mono ?_); rintro e w1 ⟨v1, rfl, r1, b1⟩; have B1 := Lib.hid ((B0.out.drew).trans (b1.mono (B0.out.drew).size)); have R1 := Lib.hid r1; clear r1 b1; have z1 := (HBX.out w1 B1.out).1)
     | (go_at_call 33; (with_reducible refine (RefLongR _ v1 (([] : List UInt8) ++ [byteOf 1]) i _ R1 (by first | omega | (simp only [List.length_append, List.length_nil, longL_len, List.length_singleton]; omega) | simp) (by omega) (by omega)).mono ?_); rintro e w2 ⟨v2, rfl, r2, b2⟩; have B2 := Lib.hid ((B1.out).trans (b2.mono (B1.out).size)); have R2 := Lib.hid r2; clear r2 b2; have z2 := (HBX.out w2 B2.out).1))
  clear hz0 z1 z2
  obtain ⟨k0, k1, k2, k3, k4, k5, k6, k7, k8⟩ := (HBX.out w2 B2.out).1
  go_wp2_with fail
  have hz0 := (HBX.out w2.drew B2.out.drew).1
  (try simp only at hz0)
  replace R2 : Hid (RB w2.drew w1.heap.size v2 ([] ++ [byteOf 1] ++ longL i)) := R2
  clear k0 k1 k2 k3 k4 k5 k6 k7 k8
  go_region_held3 (fun W : World => W.cell? ⟨w.heap.size, 0, none⟩ = some (.int .i64 1) ∧ W.cell? ⟨w.heap.size, 1, none⟩ = some (.int .i64 i) ∧ W.cell? ⟨w.heap.size, 2, none⟩ = some (.int .i64 n) ∧ W.cell? ⟨w.heap.size, 3, none⟩ = some (.int .i64 s) ∧ W.cell? ⟨w.heap.size, 4, none⟩ = some (.int .i64 p) ∧ W.cell? ⟨w.heap.size, 5, none⟩ = some (.int .i64 q) ∧ W.cell? ⟨w.heap.size, 6, none⟩ = some (.int .i64 l) ∧ W.cell? ⟨w.heap.size, 7, none⟩ = some (.int .i64 t) ∧ W.cell? ⟨w.heap.size, 8, none⟩ = some (.string (str S))) (first | with_reducible assumption | with_reducible exact hz0)
    (first
     | (go_at_call 34; (with_reducible refine (RefByteR _ v2 (([] : List UInt8) ++ [byteOf 1] ++ longL i) n _ R2 (by first | omega | (simp only [List.length_append, List.length_nil, longL_len, List.length_singleton]; omega) | simp) (by omega) (by omega)).mono ?_); rintro e w3 ⟨v3, rfl, r3, b3⟩; have B3 := Lib.hid ((B2.out.drew).trans (b3.mono (B2.out.drew).size)); have R3 := Lib.hid r3; clear r3 b3; have z3 := (HBX.out w3 B3.out).1)
     | (go_at_call 34; (with_reducible refine (RefByteR _ v3 (([] : List UInt8) ++ [byteOf 1] ++ longL i ++ [byteOf n]) s _ R3 (by first | omega | (simp only [List.length_append, List.length_nil, longL_len, List.length_singleton]; omega) | simp) (by omega) (by omega)).mono ?_); rintro e w4 ⟨v4, rfl, r4, b4⟩; have B4 := Lib.hid ((B3.out).trans (b4.mono (B3.out).size)); have R4 := Lib.hid r4; clear r4 b4; have z4 := (HBX.out w4 B4.out).1)
     | (go_at_call 34; (with_reducible refine (RefByteR _ v4 (([] : List UInt8) ++ [byteOf 1] ++ longL i ++ [byteOf n] ++ [byteOf s]) t _ R4 (by first | omega | (simp only [List.length_append, List.length_nil, longL_len, List.length_singleton]; omega) | simp) (by omega) (by omega)).mono ?_); rintro e w5 ⟨v5, rfl, r5, b5⟩; have B5 := Lib.hid ((B4.out).trans (b5.mono (B4.out).size)); have R5 := Lib.hid r5; clear r5 b5; have z5 := (HBX.out w5 B5.out).1))
  clear hz0 z3 z4 z5
  obtain ⟨k0, k1, k2, k3, k4, k5, k6, k7, k8⟩ := (HBX.out w5 B5.out).1
  go_wp2_with fail
  have hz0 := (HBX.out w5.drew B5.out.drew).1
  (try simp only at hz0)
  replace R5 : Hid (RB w5.drew w4.heap.size v5 ([] ++ [byteOf 1] ++ longL i ++ [byteOf n] ++ [byteOf s] ++ [byteOf t])) := R5
  clear k0 k1 k2 k3 k4 k5 k6 k7 k8
  go_region_held3 (fun W : World => W.cell? ⟨w.heap.size, 0, none⟩ = some (.int .i64 1) ∧ W.cell? ⟨w.heap.size, 1, none⟩ = some (.int .i64 i) ∧ W.cell? ⟨w.heap.size, 2, none⟩ = some (.int .i64 n) ∧ W.cell? ⟨w.heap.size, 3, none⟩ = some (.int .i64 s) ∧ W.cell? ⟨w.heap.size, 4, none⟩ = some (.int .i64 p) ∧ W.cell? ⟨w.heap.size, 5, none⟩ = some (.int .i64 q) ∧ W.cell? ⟨w.heap.size, 6, none⟩ = some (.int .i64 l) ∧ W.cell? ⟨w.heap.size, 7, none⟩ = some (.int .i64 t) ∧ W.cell? ⟨w.heap.size, 8, none⟩ = some (.string (str S))) (first | with_reducible assumption | with_reducible exact hz0)
    (first
     | (go_at_call 33; (with_reducible refine (RefLongR _ v5 (([] : List UInt8) ++ [byteOf 1] ++ longL i ++ [byteOf n] ++ [byteOf s] ++ [byteOf t]) p _ R5 (by first | omega | (simp only [List.length_append, List.length_nil, longL_len, List.length_singleton]; omega) | simp) (by omega) (by omega)).mono ?_); rintro e w6 ⟨v6, rfl, r6, b6⟩; have B6 := Lib.hid ((B5.out.drew).trans (b6.mono (B5.out.drew).size)); have R6 := Lib.hid r6; clear r6 b6; have z6 := (HBX.out w6 B6.out).1)
     | (go_at_call 33; (with_reducible refine (RefLongR _ v6 (([] : List UInt8) ++ [byteOf 1] ++ longL i ++ [byteOf n] ++ [byteOf s] ++ [byteOf t] ++ longL p) q _ R6 (by first | omega | (simp only [List.length_append, List.length_nil, longL_len, List.length_singleton]; omega) | simp) (by omega) (by omega)).mono ?_); rintro e w7 ⟨v7, rfl, r7, b7⟩; have B7 := Lib.hid ((B6.out).trans (b7.mono (B6.out).size)); have R7 := Lib.hid r7; clear r7 b7; have z7 := (HBX.out w7 B7.out).1)
     | (go_at_call 33; (with_reducible refine (RefLongR _ v7 (([] : List UInt8) ++ [byteOf 1] ++ longL i ++ [byteOf n] ++ [byteOf s] ++ [byteOf t] ++ longL p ++ longL q) l _ R7 (by first | omega | (simp only [List.length_append, List.length_nil, longL_len, List.length_singleton]; omega) | simp) (by omega) (by omega)).mono ?_); rintro e w8 ⟨v8, rfl, r8, b8⟩; have B8 := Lib.hid ((B7.out).trans (b8.mono (B7.out).size)); have R8 := Lib.hid r8; clear r8 b8; have z8 := (HBX.out w8 B8.out).1))
  clear hz0 z6 z7 z8
  obtain ⟨k0, k1, k2, k3, k4, k5, k6, k7, k8⟩ := (HBX.out w8 B8.out).1
  go_wp2_with fail
  refine (RefTextR _ v8 (([] : List UInt8) ++ [byteOf 1] ++ longL i ++ [byteOf n] ++ [byteOf s] ++ [byteOf t] ++ longL p ++ longL q ++ longL l) S _ R8 (by first | omega | (simp only [List.length_append, List.length_nil, longL_len, List.length_singleton]; omega) | simp)).mono ?_
  rintro e w9 ⟨v9, rfl, r9, b9⟩
  have B9 := Lib.hid (B8.out.trans (b9.mono B8.out.size))
  have R9 := Lib.hid r9
  clear k0 k1 k2 k3 k4 k5 k6 k7 k8 r9 b9
  have hr := (HBX.out w9 B9.out).2
  have R9 := Lib.hid (R9.out.base (show w.heap.size ≤ _ by have := hr.size; have := (HBX.out w8 B8.out).2.size; omega))
  replace hr := Lib.hid hr
  go_wp2_with fail
  go_ret2
  exact ⟨_, rfl, R9.out, hr.out⟩
set_option maxRecDepth 100000 in
set_option maxHeartbeats 1000000 in
theorem REncode_2 (i n s p q l t : Int) (S : List UInt8) (w : World) (hR : rightL 2 i n s p q l t S = 0) (i1 : -9223372036854775808 ≤ i) (i2 : i ≤ 9223372036854775807) (n1 : -9223372036854775808 ≤ n) (n2 : n ≤ 9223372036854775807) (s1 : -9223372036854775808 ≤ s) (s2 : s ≤ 9223372036854775807) (p1 : -9223372036854775808 ≤ p) (p2 : p ≤ 9223372036854775807) (q1 : -9223372036854775808 ≤ q) (q2 : q ≤ 9223372036854775807) (l1 : -9223372036854775808 ≤ l) (l2 : l ≤ 9223372036854775807) (t1 : -9223372036854775808 ≤ t) (t2 : t ≤ 9223372036854775807) (hS : True) :
    Calls Try.prog 11 #[.agg #[.int .i64 2, .int .i64 i, .int .i64 n, .int .i64 s, .int .i64 p, .int .i64 q, .int .i64 l, .int .i64 t, .string (str S)]] w fun e w' => ∃ r, e = .returned (.tuple #[r, .int .i64 0]) ∧ RB w' w.heap.size r ([] ++ [byteOf 2] ++ longL i) ∧ Below w.heap.size w w' := by
  have hR := Lib.hid (show (C.mk 2 i n s p q l t S).right = 0 from hR)
  obtain ⟨wb, ew⟩ : ∃ W, w.alloc (.cells #[.int .i64 2, .int .i64 i, .int .i64 n, .int .i64 s, .int .i64 p, .int .i64 q, .int .i64 l, .int .i64 t, .string (str S)] 23) = W := ⟨_, rfl⟩
  have HBX : Hid (∀ W, Below wb.heap.size wb W → (fun W : World => W.cell? ⟨w.heap.size, 0, none⟩ = some (.int .i64 2) ∧ W.cell? ⟨w.heap.size, 1, none⟩ = some (.int .i64 i) ∧ W.cell? ⟨w.heap.size, 2, none⟩ = some (.int .i64 n) ∧ W.cell? ⟨w.heap.size, 3, none⟩ = some (.int .i64 s) ∧ W.cell? ⟨w.heap.size, 4, none⟩ = some (.int .i64 p) ∧ W.cell? ⟨w.heap.size, 5, none⟩ = some (.int .i64 q) ∧ W.cell? ⟨w.heap.size, 6, none⟩ = some (.int .i64 l) ∧ W.cell? ⟨w.heap.size, 7, none⟩ = some (.int .i64 t) ∧ W.cell? ⟨w.heap.size, 8, none⟩ = some (.string (str S))) W ∧ Below w.heap.size w W) := Lib.hid (by rw [← ew]; exact fun W hb => ⟨cmd_at (boxed hb), boxed_below hb⟩)
  replace ew := Lib.hid ew
  go_enter Try.func11, Try.ntmps11
  go_wp2_with fail
  rw [ew.out]
  refine (RRight_any ⟨2, i, n, s, p, q, l, t, S⟩ _ (fun hk => absurd (show ((2 : Nat) : Int) = 1 from hk) (by decide))).mono ?_
  rintro e w0 ⟨rfl, b0⟩
  rw [hR.out]
  have B0 := Lib.hid b0
  clear b0
  obtain ⟨v0, ev⟩ : ∃ v, v = Value.slice none 0 0 := ⟨_, rfl⟩
  have R0 : Hid (RB w0 w0.heap.size v0 []) := Lib.hid (by rw [ev]; exact rb_nil _ _)
  obtain ⟨k0, k1, k2, k3, k4, k5, k6, k7, k8⟩ := (HBX.out w0 B0.out).1
  go_wp2_with fail
  rw [← ev]
  clear ev
  have hz0 := (HBX.out w0.drew B0.out.drew).1
  (try simp only at hz0)
  replace R0 : Hid (RB w0.drew w0.heap.size v0 ([])) := R0
  clear k0 k1 k2 k3 k4 k5 k6 k7 k8
  go_region_held3 (fun W : World => W.cell? ⟨w.heap.size, 0, none⟩ = some (.int .i64 2) ∧ W.cell? ⟨w.heap.size, 1, none⟩ = some (.int .i64 i) ∧ W.cell? ⟨w.heap.size, 2, none⟩ = some (.int .i64 n) ∧ W.cell? ⟨w.heap.size, 3, none⟩ = some (.int .i64 s) ∧ W.cell? ⟨w.heap.size, 4, none⟩ = some (.int .i64 p) ∧ W.cell? ⟨w.heap.size, 5, none⟩ = some (.int .i64 q) ∧ W.cell? ⟨w.heap.size, 6, none⟩ = some (.int .i64 l) ∧ W.cell? ⟨w.heap.size, 7, none⟩ = some (.int .i64 t) ∧ W.cell? ⟨w.heap.size, 8, none⟩ = some (.string (str S))) (first | with_reducible assumption | with_reducible exact hz0)
    (first
     | (go_at_call 34; (with_reducible refine (RefByteR _ v0 (([] : List UInt8)) 2 _ R0 (by first | omega | (simp only [List.length_append, List.length_nil, longL_len, List.length_singleton]; omega) | simp) (by omega) (by omega)).mono ?_); rintro e w1 ⟨v1, rfl, r1, b1⟩; have B1 := Lib.hid ((B0.out.drew).trans (b1.mono (B0.out.drew).size)); have R1 := Lib.hid r1; clear r1 b1; have z1 := (HBX.out w1 B1.out).1)
     | (go_at_call 33; (with_reducible refine (RefLongR _ v1 (([] : List UInt8) ++ [byteOf 2]) i _ R1 (by first | omega | (simp only [List.length_append, List.length_nil, longL_len, List.length_singleton]; omega) | simp) (by omega) (by omega)).mono ?_); rintro e w2 ⟨v2, rfl, r2, b2⟩; have B2 := Lib.hid ((B1.out).trans (b2.mono (B1.out).size)); have R2 := Lib.hid r2; clear r2 b2; have z2 := (HBX.out w2 B2.out).1))
  clear hz0 z1 z2
  have hr := (HBX.out w2 B2.out).2
  have R9 := Lib.hid (R2.out.base (show w.heap.size ≤ _ by have := hr.size; have := (HBX.out w1 B1.out).2.size; omega))
  replace hr := Lib.hid hr
  go_wp2_with fail
  go_ret2
  exact ⟨_, rfl, R9.out, hr.out⟩
set_option maxRecDepth 100000 in
set_option maxHeartbeats 1000000 in
theorem REncode_3 (i n s p q l t : Int) (S : List UInt8) (w : World) (hR : rightL 3 i n s p q l t S = 0) (i1 : -9223372036854775808 ≤ i) (i2 : i ≤ 9223372036854775807) (n1 : -9223372036854775808 ≤ n) (n2 : n ≤ 9223372036854775807) (s1 : -9223372036854775808 ≤ s) (s2 : s ≤ 9223372036854775807) (p1 : -9223372036854775808 ≤ p) (p2 : p ≤ 9223372036854775807) (q1 : -9223372036854775808 ≤ q) (q2 : q ≤ 9223372036854775807) (l1 : -9223372036854775808 ≤ l) (l2 : l ≤ 9223372036854775807) (t1 : -9223372036854775808 ≤ t) (t2 : t ≤ 9223372036854775807) (hS : True) :
    Calls Try.prog 11 #[.agg #[.int .i64 3, .int .i64 i, .int .i64 n, .int .i64 s, .int .i64 p, .int .i64 q, .int .i64 l, .int .i64 t, .string (str S)]] w fun e w' => ∃ r, e = .returned (.tuple #[r, .int .i64 0]) ∧ RB w' w.heap.size r ([] ++ [byteOf 3] ++ longL i ++ longL q) ∧ Below w.heap.size w w' := by
  have hR := Lib.hid (show (C.mk 3 i n s p q l t S).right = 0 from hR)
  obtain ⟨wb, ew⟩ : ∃ W, w.alloc (.cells #[.int .i64 3, .int .i64 i, .int .i64 n, .int .i64 s, .int .i64 p, .int .i64 q, .int .i64 l, .int .i64 t, .string (str S)] 23) = W := ⟨_, rfl⟩
  have HBX : Hid (∀ W, Below wb.heap.size wb W → (fun W : World => W.cell? ⟨w.heap.size, 0, none⟩ = some (.int .i64 3) ∧ W.cell? ⟨w.heap.size, 1, none⟩ = some (.int .i64 i) ∧ W.cell? ⟨w.heap.size, 2, none⟩ = some (.int .i64 n) ∧ W.cell? ⟨w.heap.size, 3, none⟩ = some (.int .i64 s) ∧ W.cell? ⟨w.heap.size, 4, none⟩ = some (.int .i64 p) ∧ W.cell? ⟨w.heap.size, 5, none⟩ = some (.int .i64 q) ∧ W.cell? ⟨w.heap.size, 6, none⟩ = some (.int .i64 l) ∧ W.cell? ⟨w.heap.size, 7, none⟩ = some (.int .i64 t) ∧ W.cell? ⟨w.heap.size, 8, none⟩ = some (.string (str S))) W ∧ Below w.heap.size w W) := Lib.hid (by rw [← ew]; exact fun W hb => ⟨cmd_at (boxed hb), boxed_below hb⟩)
  replace ew := Lib.hid ew
  go_enter Try.func11, Try.ntmps11
  go_wp2_with fail
  rw [ew.out]
  refine (RRight_any ⟨3, i, n, s, p, q, l, t, S⟩ _ (fun hk => absurd (show ((3 : Nat) : Int) = 1 from hk) (by decide))).mono ?_
  rintro e w0 ⟨rfl, b0⟩
  rw [hR.out]
  have B0 := Lib.hid b0
  clear b0
  obtain ⟨v0, ev⟩ : ∃ v, v = Value.slice none 0 0 := ⟨_, rfl⟩
  have R0 : Hid (RB w0 w0.heap.size v0 []) := Lib.hid (by rw [ev]; exact rb_nil _ _)
  obtain ⟨k0, k1, k2, k3, k4, k5, k6, k7, k8⟩ := (HBX.out w0 B0.out).1
  go_wp2_with fail
  rw [← ev]
  clear ev
  have hz0 := (HBX.out w0.drew B0.out.drew).1
  (try simp only at hz0)
  replace R0 : Hid (RB w0.drew w0.heap.size v0 ([])) := R0
  clear k0 k1 k2 k3 k4 k5 k6 k7 k8
  go_region_held3 (fun W : World => W.cell? ⟨w.heap.size, 0, none⟩ = some (.int .i64 3) ∧ W.cell? ⟨w.heap.size, 1, none⟩ = some (.int .i64 i) ∧ W.cell? ⟨w.heap.size, 2, none⟩ = some (.int .i64 n) ∧ W.cell? ⟨w.heap.size, 3, none⟩ = some (.int .i64 s) ∧ W.cell? ⟨w.heap.size, 4, none⟩ = some (.int .i64 p) ∧ W.cell? ⟨w.heap.size, 5, none⟩ = some (.int .i64 q) ∧ W.cell? ⟨w.heap.size, 6, none⟩ = some (.int .i64 l) ∧ W.cell? ⟨w.heap.size, 7, none⟩ = some (.int .i64 t) ∧ W.cell? ⟨w.heap.size, 8, none⟩ = some (.string (str S))) (first | with_reducible assumption | with_reducible exact hz0)
    (first
     | (go_at_call 34; (with_reducible refine (RefByteR _ v0 (([] : List UInt8)) 3 _ R0 (by first | omega | (simp only [List.length_append, List.length_nil, longL_len, List.length_singleton]; omega) | simp) (by omega) (by omega)).mono ?_); rintro e w1 ⟨v1, rfl, r1, b1⟩; have B1 := Lib.hid ((B0.out.drew).trans (b1.mono (B0.out.drew).size)); have R1 := Lib.hid r1; clear r1 b1; have z1 := (HBX.out w1 B1.out).1)
     | (go_at_call 33; (with_reducible refine (RefLongR _ v1 (([] : List UInt8) ++ [byteOf 3]) i _ R1 (by first | omega | (simp only [List.length_append, List.length_nil, longL_len, List.length_singleton]; omega) | simp) (by omega) (by omega)).mono ?_); rintro e w2 ⟨v2, rfl, r2, b2⟩; have B2 := Lib.hid ((B1.out).trans (b2.mono (B1.out).size)); have R2 := Lib.hid r2; clear r2 b2; have z2 := (HBX.out w2 B2.out).1))
  clear hz0 z1 z2
  obtain ⟨k0, k1, k2, k3, k4, k5, k6, k7, k8⟩ := (HBX.out w2 B2.out).1
  go_wp2_with fail
  refine (RefLongR _ v2 (([] : List UInt8) ++ [byteOf 3] ++ longL i) q _ R2 (by first | omega | (simp only [List.length_append, List.length_nil, longL_len, List.length_singleton]; omega) | simp) (by omega) (by omega)).mono ?_
  rintro e w3 ⟨v3, rfl, r3, b3⟩
  have B3 := Lib.hid (B2.out.trans (b3.mono B2.out.size))
  have R3 := Lib.hid r3
  clear k0 k1 k2 k3 k4 k5 k6 k7 k8 r3 b3
  have hr := (HBX.out w3 B3.out).2
  have R9 := Lib.hid (R3.out.base (show w.heap.size ≤ _ by have := hr.size; have := (HBX.out w2 B2.out).2.size; omega))
  replace hr := Lib.hid hr
  go_wp2_with fail
  go_ret2
  exact ⟨_, rfl, R9.out, hr.out⟩
set_option maxRecDepth 100000 in
set_option maxHeartbeats 1000000 in
theorem REncode_4 (i n s p q l t : Int) (S : List UInt8) (w : World) (hR : rightL 4 i n s p q l t S = 0) (i1 : -9223372036854775808 ≤ i) (i2 : i ≤ 9223372036854775807) (n1 : -9223372036854775808 ≤ n) (n2 : n ≤ 9223372036854775807) (s1 : -9223372036854775808 ≤ s) (s2 : s ≤ 9223372036854775807) (p1 : -9223372036854775808 ≤ p) (p2 : p ≤ 9223372036854775807) (q1 : -9223372036854775808 ≤ q) (q2 : q ≤ 9223372036854775807) (l1 : -9223372036854775808 ≤ l) (l2 : l ≤ 9223372036854775807) (t1 : -9223372036854775808 ≤ t) (t2 : t ≤ 9223372036854775807) (hS : True) :
    Calls Try.prog 11 #[.agg #[.int .i64 4, .int .i64 i, .int .i64 n, .int .i64 s, .int .i64 p, .int .i64 q, .int .i64 l, .int .i64 t, .string (str S)]] w fun e w' => ∃ r, e = .returned (.tuple #[r, .int .i64 0]) ∧ RB w' w.heap.size r ([] ++ [byteOf 4] ++ longL i ++ longL p ++ longL q) ∧ Below w.heap.size w w' := by
  have hR := Lib.hid (show (C.mk 4 i n s p q l t S).right = 0 from hR)
  obtain ⟨wb, ew⟩ : ∃ W, w.alloc (.cells #[.int .i64 4, .int .i64 i, .int .i64 n, .int .i64 s, .int .i64 p, .int .i64 q, .int .i64 l, .int .i64 t, .string (str S)] 23) = W := ⟨_, rfl⟩
  have HBX : Hid (∀ W, Below wb.heap.size wb W → (fun W : World => W.cell? ⟨w.heap.size, 0, none⟩ = some (.int .i64 4) ∧ W.cell? ⟨w.heap.size, 1, none⟩ = some (.int .i64 i) ∧ W.cell? ⟨w.heap.size, 2, none⟩ = some (.int .i64 n) ∧ W.cell? ⟨w.heap.size, 3, none⟩ = some (.int .i64 s) ∧ W.cell? ⟨w.heap.size, 4, none⟩ = some (.int .i64 p) ∧ W.cell? ⟨w.heap.size, 5, none⟩ = some (.int .i64 q) ∧ W.cell? ⟨w.heap.size, 6, none⟩ = some (.int .i64 l) ∧ W.cell? ⟨w.heap.size, 7, none⟩ = some (.int .i64 t) ∧ W.cell? ⟨w.heap.size, 8, none⟩ = some (.string (str S))) W ∧ Below w.heap.size w W) := Lib.hid (by rw [← ew]; exact fun W hb => ⟨cmd_at (boxed hb), boxed_below hb⟩)
  replace ew := Lib.hid ew
  go_enter Try.func11, Try.ntmps11
  go_wp2_with fail
  rw [ew.out]
  refine (RRight_any ⟨4, i, n, s, p, q, l, t, S⟩ _ (fun hk => absurd (show ((4 : Nat) : Int) = 1 from hk) (by decide))).mono ?_
  rintro e w0 ⟨rfl, b0⟩
  rw [hR.out]
  have B0 := Lib.hid b0
  clear b0
  obtain ⟨v0, ev⟩ : ∃ v, v = Value.slice none 0 0 := ⟨_, rfl⟩
  have R0 : Hid (RB w0 w0.heap.size v0 []) := Lib.hid (by rw [ev]; exact rb_nil _ _)
  obtain ⟨k0, k1, k2, k3, k4, k5, k6, k7, k8⟩ := (HBX.out w0 B0.out).1
  go_wp2_with fail
  rw [← ev]
  clear ev
  have hz0 := (HBX.out w0.drew B0.out.drew).1
  (try simp only at hz0)
  replace R0 : Hid (RB w0.drew w0.heap.size v0 ([])) := R0
  clear k0 k1 k2 k3 k4 k5 k6 k7 k8
  go_region_held3 (fun W : World => W.cell? ⟨w.heap.size, 0, none⟩ = some (.int .i64 4) ∧ W.cell? ⟨w.heap.size, 1, none⟩ = some (.int .i64 i) ∧ W.cell? ⟨w.heap.size, 2, none⟩ = some (.int .i64 n) ∧ W.cell? ⟨w.heap.size, 3, none⟩ = some (.int .i64 s) ∧ W.cell? ⟨w.heap.size, 4, none⟩ = some (.int .i64 p) ∧ W.cell? ⟨w.heap.size, 5, none⟩ = some (.int .i64 q) ∧ W.cell? ⟨w.heap.size, 6, none⟩ = some (.int .i64 l) ∧ W.cell? ⟨w.heap.size, 7, none⟩ = some (.int .i64 t) ∧ W.cell? ⟨w.heap.size, 8, none⟩ = some (.string (str S))) (first | with_reducible assumption | with_reducible exact hz0)
    (first
     | (go_at_call 34; (with_reducible refine (RefByteR _ v0 (([] : List UInt8)) 4 _ R0 (by first | omega | (simp only [List.length_append, List.length_nil, longL_len, List.length_singleton]; omega) | simp) (by omega) (by omega)).mono ?_); rintro e w1 ⟨v1, rfl, r1, b1⟩; have B1 := Lib.hid ((B0.out.drew).trans (b1.mono (B0.out.drew).size)); have R1 := Lib.hid r1; clear r1 b1; have z1 := (HBX.out w1 B1.out).1)
     | (go_at_call 33; (with_reducible refine (RefLongR _ v1 (([] : List UInt8) ++ [byteOf 4]) i _ R1 (by first | omega | (simp only [List.length_append, List.length_nil, longL_len, List.length_singleton]; omega) | simp) (by omega) (by omega)).mono ?_); rintro e w2 ⟨v2, rfl, r2, b2⟩; have B2 := Lib.hid ((B1.out).trans (b2.mono (B1.out).size)); have R2 := Lib.hid r2; clear r2 b2; have z2 := (HBX.out w2 B2.out).1))
  clear hz0 z1 z2
  obtain ⟨k0, k1, k2, k3, k4, k5, k6, k7, k8⟩ := (HBX.out w2 B2.out).1
  go_wp2_with fail
  have hz0 := (HBX.out w2.drew B2.out.drew).1
  (try simp only at hz0)
  replace R2 : Hid (RB w2.drew w1.heap.size v2 ([] ++ [byteOf 4] ++ longL i)) := R2
  clear k0 k1 k2 k3 k4 k5 k6 k7 k8
  go_region_held3 (fun W : World => W.cell? ⟨w.heap.size, 0, none⟩ = some (.int .i64 4) ∧ W.cell? ⟨w.heap.size, 1, none⟩ = some (.int .i64 i) ∧ W.cell? ⟨w.heap.size, 2, none⟩ = some (.int .i64 n) ∧ W.cell? ⟨w.heap.size, 3, none⟩ = some (.int .i64 s) ∧ W.cell? ⟨w.heap.size, 4, none⟩ = some (.int .i64 p) ∧ W.cell? ⟨w.heap.size, 5, none⟩ = some (.int .i64 q) ∧ W.cell? ⟨w.heap.size, 6, none⟩ = some (.int .i64 l) ∧ W.cell? ⟨w.heap.size, 7, none⟩ = some (.int .i64 t) ∧ W.cell? ⟨w.heap.size, 8, none⟩ = some (.string (str S))) (first | with_reducible assumption | with_reducible exact hz0)
    (first
     | (go_at_call 33; (with_reducible refine (RefLongR _ v2 (([] : List UInt8) ++ [byteOf 4] ++ longL i) p _ R2 (by first | omega | (simp only [List.length_append, List.length_nil, longL_len, List.length_singleton]; omega) | simp) (by omega) (by omega)).mono ?_); rintro e w3 ⟨v3, rfl, r3, b3⟩; have B3 := Lib.hid ((B2.out.drew).trans (b3.mono (B2.out.drew).size)); have R3 := Lib.hid r3; clear r3 b3; have z3 := (HBX.out w3 B3.out).1)
     | (go_at_call 33; (with_reducible refine (RefLongR _ v3 (([] : List UInt8) ++ [byteOf 4] ++ longL i ++ longL p) q _ R3 (by first | omega | (simp only [List.length_append, List.length_nil, longL_len, List.length_singleton]; omega) | simp) (by omega) (by omega)).mono ?_); rintro e w4 ⟨v4, rfl, r4, b4⟩; have B4 := Lib.hid ((B3.out).trans (b4.mono (B3.out).size)); have R4 := Lib.hid r4; clear r4 b4; have z4 := (HBX.out w4 B4.out).1))
  clear hz0 z3 z4
  have hr := (HBX.out w4 B4.out).2
  have R9 := Lib.hid (R4.out.base (show w.heap.size ≤ _ by have := hr.size; have := (HBX.out w3 B3.out).2.size; omega))
  replace hr := Lib.hid hr
  go_wp2_with fail
  go_ret2
  exact ⟨_, rfl, R9.out, hr.out⟩
theorem REncode_any (c : C) (w : World) (h : c.Ok) :
    Calls Try.prog 11 #[c.val] w fun e w' => ∃ r, e = .returned (.tuple #[r, .int .i64 c.right]) ∧ RB w' w.heap.size r (encR c) ∧ Below w.heap.size w w' := by
  by_cases hz : c.right = 0
  · rw [encR_yes hz, hz]
    obtain ⟨k, i, n, s, p, q, l, t, S⟩ := c
    obtain ⟨-, ⟨i1, i2⟩, ⟨n1, n2⟩, ⟨s1, s2⟩, ⟨p1, p2⟩, ⟨q1, q2⟩, ⟨l1, l2⟩, ⟨t1, t2⟩, hS⟩ := h
    simp only at *
    have hz2 : rightL k i n s p q l t S = 0 := hz
    have h1 : k = 1 ∨ k = 2 ∨ k = 3 ∨ k = 4 := by
      by_cases h0 : k < 1 ∨ 4 < k
      · unfold rightL at hz2; rw [if_pos h0] at hz2; cases hz2
      · omega
    rcases h1 with rfl | rfl | rfl | rfl
    · rw [show encC ⟨1, i, n, s, p, q, l, t, S⟩ = [] ++ [byteOf 1] ++ longL i ++ [byteOf n] ++ [byteOf s] ++ [byteOf t] ++ longL p ++ longL q ++ longL l ++ textL S by simp [encC]]
      exact REncode_1 i n s p q l t S w hz2 i1 i2 n1 n2 s1 s2 p1 p2 q1 q2 l1 l2 t1 t2 (hS rfl)
    · rw [show encC ⟨2, i, n, s, p, q, l, t, S⟩ = [] ++ [byteOf 2] ++ longL i by simp [encC]]
      exact REncode_2 i n s p q l t S w hz2 i1 i2 n1 n2 s1 s2 p1 p2 q1 q2 l1 l2 t1 t2 trivial
    · rw [show encC ⟨3, i, n, s, p, q, l, t, S⟩ = [] ++ [byteOf 3] ++ longL i ++ longL q by simp [encC]]
      exact REncode_3 i n s p q l t S w hz2 i1 i2 n1 n2 s1 s2 p1 p2 q1 q2 l1 l2 t1 t2 trivial
    · rw [show encC ⟨4, i, n, s, p, q, l, t, S⟩ = [] ++ [byteOf 4] ++ longL i ++ longL p ++ longL q by simp [encC]]
      exact REncode_4 i n s p q l t S w hz2 i1 i2 n1 n2 s1 s2 p1 p2 q1 q2 l1 l2 t1 t2 trivial
  · rw [encR_no hz]
    obtain ⟨k, i, n, s, p, q, l, t, S⟩ := c
    refine (REncode_bad k i n s p q l t S w _ hz rfl h.S).mono ?_
    rintro e w' ⟨rfl, hb⟩
    exact ⟨_, rfl, rb_nil _ _, hb⟩
end Go.Proofs.Ytdbaphmhfoajgaa
