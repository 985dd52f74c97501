/-
  Contracts: writeOrder and Encode, of the program.
-/
import Derived.Test.YtdbaphmhfoajgaaCmdTwo
import Derived.Test.YtdbaphmhfoajgaaPut
import Derived.Test.YtdbaphmhfoajgaaCmdRight
namespace Go.Proofs.Ytdbaphmhfoajgaa
open Go.RowKit
set_option linter.unusedVariables false
set_option linter.unusedSimpArgs false

/-- A command's bytes. -/
def encC (c : C) : List UInt8 :=
  if c.k = 1 then [] ++ [byteOf 1] ++ longL c.i ++ [byteOf c.n] ++ [byteOf c.s] ++ [byteOf c.t] ++ longL c.p ++ longL c.q ++ longL c.l ++ textL c.S
  else if c.k = 2 then [] ++ [byteOf 2] ++ longL c.i
  else if c.k = 3 then [] ++ [byteOf 3] ++ longL c.i ++ longL c.q
  else [] ++ [byteOf 4] ++ longL c.i ++ longL c.p ++ longL c.q
/-- What Encode answers. -/
def encR (c : C) : List UInt8 := if c.right = 0 then encC c else []
theorem encR_yes {c : C} (h : c.right = 0) : encR c = encC c := if_pos h
theorem encR_no {c : C} (h : c.right ≠ 0) : encR c = [] := if_neg h
theorem boxed_at {w W : World} {cs : Array Value} {T : TypeId} {c B : Nat} {v : Value} {xs : List UInt8} (h : Wr c B v xs w) (ho : Only (wp c v) (w.alloc (.cells cs T)) W) : W.heap[w.heap.size]? = some (.cells cs T (0, 0)) := by
  refine (ho.block w.heap.size (by simp) ?_).trans (heap_alloc_new w _)
  rintro (e | e)
  · have := h.at'.lt; omega
  · have := (h.row.blk e.symm).2; omega
theorem wr_below {w1 w w' : World} {c B : Nat} {v : Value} {xs : List UInt8} (h : Wr c B v xs w) (hb : Below B w1 w) (ho : Only (wp c v) w w') : Below B w1 w' := by
  refine hb.trans (ho.below h.size (fun k hk e => ?_))
  rcases e with e | e
  · have := h.base; omega
  · have := (h.row.blk e.symm).1; omega
theorem only_box {w W : World} {o : Obj} {c : Nat} {v : Value} (h : Only (wp c v) (w.alloc o) W) : Only (wp c v) w W :=
  ((alloc_only w o).mono (fun _ _ e => e.elim)).step h (fun _ _ e => e)
theorem from_box {w : World} {o : Obj} {v v' : Value} (h : From (w.alloc o) v v') : From w v v' := by
  intro k hk
  rcases h k hk with e | e
  · exact .inl e
  · right
    have : (w.alloc o).heap.size = w.heap.size + 1 := by simp
    omega
set_option maxRecDepth 100000 in
set_option maxHeartbeats 1000000 in
theorem WriteOrder_any (c B : Nat) (v : Value) (xs : List UInt8) (k i n s p q l t : Int) (S : List UInt8) (w : World) (h : Hid (Wr c B v xs w)) (hl : xs.length ≤ 1000) (i1 : -9223372036854775808 ≤ i) (i2 : i ≤ 9223372036854775807) (n1 : -9223372036854775808 ≤ n) (n2 : n ≤ 9223372036854775807) (s1 : -9223372036854775808 ≤ s) (s2 : s ≤ 9223372036854775807) (p1 : -9223372036854775808 ≤ p) (p2 : p ≤ 9223372036854775807) (q1 : -9223372036854775808 ≤ q) (q2 : q ≤ 9223372036854775807) (l1 : -9223372036854775808 ≤ l) (l2 : l ≤ 9223372036854775807) (t1 : -9223372036854775808 ≤ t) (t2 : t ≤ 9223372036854775807) (hS : S.length ≤ 140737488355328) :
    Calls Try.prog 31 #[.pointer (some ⟨c, 0, none⟩), .agg #[.int .i64 k, .int .i64 i, .int .i64 n, .int .i64 s, .int .i64 p, .int .i64 q, .int .i64 l, .int .i64 t, .string (str S)]] w fun e w' => e = .returned (.tuple #[]) ∧ ∃ v', Wr c B v' (xs ++ [byteOf n] ++ [byteOf s] ++ [byteOf t] ++ longL p ++ longL q ++ longL l ++ textL S) w' ∧ Only (wp c v) w w' ∧ From w v v' := by
  obtain ⟨w0, ew⟩ : ∃ W, w.alloc (.cells #[.int .i64 k, .int .i64 i, .int .i64 n, .int .i64 s, .int .i64 p, .int .i64 q, .int .i64 l, .int .i64 t, .string (str S)] 23) = W := ⟨_, rfl⟩
  have W0 : Hid (Wr c B v xs w0) := Lib.hid (by rw [← ew]; exact h.out.only (alloc_only w _) (fun e => e) (fun _ _ e => e))
  have HBX : Hid (∀ W, Only (wp c v) w0 W → W.heap[w.heap.size]? = some (.cells #[.int .i64 k, .int .i64 i, .int .i64 n, .int .i64 s, .int .i64 p, .int .i64 q, .int .i64 l, .int .i64 t, .string (str S)] 23 (0, 0))) := Lib.hid (by rw [← ew]; exact fun W ho => boxed_at h.out ho)
  have FIN : Hid (∀ W v', Only (wp c v) w0 W → From w0 v v' → Only (wp c v) w W ∧ From w v v') := Lib.hid (by rw [← ew]; exact fun W v' ho hf => ⟨only_box ho, from_box hf⟩)
  replace ew := Lib.hid ew
  go_enter Try.func31, Try.ntmps31
  go_wp2_with fail
  rw [ew.out]
  obtain ⟨k0, k1, k2, k3, k4, k5, k6, k7, k8⟩ := cmd_at (HBX.out w0 (Only.refl _ _))
  have O0 := Lib.hid (Only.refl (wp c v) w0)
  have F0 := Lib.hid (From.refl w0 v)
  go_wp2_with fail
  refine (WByte_any _ _ v _ n w0 W0 (by first | omega | (simp only [List.length_append, List.length_nil, longL_len, List.length_singleton]; omega)) (by omega) (by omega)).mono ?_
  rintro e w1 ⟨rfl, v1, W1, P1, G1⟩
  have O1 := Lib.hid (O0.out.step P1 (wp_from W0.out F0.out))
  have F1 := Lib.hid (from_trans F0.out O0.out.size G1)
  clear k0 k1 k2 k3 k4 k5 k6 k7 k8 P1 G1
  obtain ⟨k0, k1, k2, k3, k4, k5, k6, k7, k8⟩ := cmd_at (HBX.out w1 O1.out)
  replace W1 := Lib.hid W1
  go_wp2_with fail
  refine (WByte_any _ _ v1 _ s w1 W1 (by first | omega | (simp only [List.length_append, List.length_nil, longL_len, List.length_singleton]; omega)) (by omega) (by omega)).mono ?_
  rintro e w2 ⟨rfl, v2, W2, P2, G2⟩
  have O2 := Lib.hid (O1.out.step P2 (wp_from W0.out F1.out))
  have F2 := Lib.hid (from_trans F1.out O1.out.size G2)
  clear k0 k1 k2 k3 k4 k5 k6 k7 k8 P2 G2
  obtain ⟨k0, k1, k2, k3, k4, k5, k6, k7, k8⟩ := cmd_at (HBX.out w2 O2.out)
  replace W2 := Lib.hid W2
  go_wp2_with fail
  refine (WByte_any _ _ v2 _ t w2 W2 (by first | omega | (simp only [List.length_append, List.length_nil, longL_len, List.length_singleton]; omega)) (by omega) (by omega)).mono ?_
  rintro e w3 ⟨rfl, v3, W3, P3, G3⟩
  have O3 := Lib.hid (O2.out.step P3 (wp_from W0.out F2.out))
  have F3 := Lib.hid (from_trans F2.out O2.out.size G3)
  clear k0 k1 k2 k3 k4 k5 k6 k7 k8 P3 G3
  obtain ⟨k0, k1, k2, k3, k4, k5, k6, k7, k8⟩ := cmd_at (HBX.out w3 O3.out)
  replace W3 := Lib.hid W3
  go_wp2_with fail
  refine (WLong_any _ _ v3 _ p w3 W3 (by first | omega | (simp only [List.length_append, List.length_nil, longL_len, List.length_singleton]; omega)) (by omega) (by omega)).mono ?_
  rintro e w4 ⟨rfl, v4, W4, P4, G4⟩
  have O4 := Lib.hid (O3.out.step P4 (wp_from W0.out F3.out))
  have F4 := Lib.hid (from_trans F3.out O3.out.size G4)
  clear k0 k1 k2 k3 k4 k5 k6 k7 k8 P4 G4
  obtain ⟨k0, k1, k2, k3, k4, k5, k6, k7, k8⟩ := cmd_at (HBX.out w4 O4.out)
  replace W4 := Lib.hid W4
  go_wp2_with fail
  refine (WLong_any _ _ v4 _ q w4 W4 (by first | omega | (simp only [List.length_append, List.length_nil, longL_len, List.length_singleton]; omega)) (by omega) (by omega)).mono ?_
  rintro e w5 ⟨rfl, v5, W5, P5, G5⟩
  have O5 := Lib.hid (O4.out.step P5 (wp_from W0.out F4.out))
  have F5 := Lib.hid (from_trans F4.out O4.out.size G5)
  clear k0 k1 k2 k3 k4 k5 k6 k7 k8 P5 G5
  obtain ⟨k0, k1, k2, k3, k4, k5, k6, k7, k8⟩ := cmd_at (HBX.out w5 O5.out)
  replace W5 := Lib.hid W5
  go_wp2_with fail
  refine (WLong_any _ _ v5 _ l w5 W5 (by first | omega | (simp only [List.length_append, List.length_nil, longL_len, List.length_singleton]; omega)) (by omega) (by omega)).mono ?_
  rintro e w6 ⟨rfl, v6, W6, P6, G6⟩
  have O6 := Lib.hid (O5.out.step P6 (wp_from W0.out F5.out))
  have F6 := Lib.hid (from_trans F5.out O5.out.size G6)
  clear k0 k1 k2 k3 k4 k5 k6 k7 k8 P6 G6
  obtain ⟨k0, k1, k2, k3, k4, k5, k6, k7, k8⟩ := cmd_at (HBX.out w6 O6.out)
  replace W6 := Lib.hid W6
  go_wp2_with fail
  refine (WText_any _ _ v6 _ S w6 W6 (by first | omega | (simp only [List.length_append, List.length_nil, longL_len, List.length_singleton]; omega)) hS).mono ?_
  rintro e w7 ⟨rfl, v7, W7, P7, G7⟩
  have O7 := Lib.hid (O6.out.step P7 (wp_from W0.out F6.out))
  have F7 := Lib.hid (from_trans F6.out O6.out.size G7)
  clear k0 k1 k2 k3 k4 k5 k6 k7 k8 P7 G7
  obtain ⟨k0, k1, k2, k3, k4, k5, k6, k7, k8⟩ := cmd_at (HBX.out w7 O7.out)
  replace W7 := Lib.hid W7
  go_wp2_with fail
  go_end0
  have W7 := W7.out
  rw [List.append_assoc _ [_] (List.take 255 S)] at W7
  exact ⟨rfl, v7, W7, FIN.out _ _ O7.out F7.out⟩
set_option maxRecDepth 100000 in
set_option maxHeartbeats 1000000 in
theorem Encode_bad (k i n s p q l t : Int) (S : List UInt8) (w : World) (E : Nat) (hE : E ≠ 0) (hR : rightL k i n s p q l t S = E) (hS : k = 1 → S.length ≤ 140737488355328) :
    Calls Try.prog 10 #[.agg #[.int .i64 k, .int .i64 i, .int .i64 n, .int .i64 s, .int .i64 p, .int .i64 q, .int .i64 l, .int .i64 t, .string (str S)]] w fun e w' => e = .returned (.tuple #[.slice none 0 0, .int .i64 E]) ∧ Below w.heap.size w w' := by
  have i1 : ((E : Int) != 0) = true := by simp; omega
  have hR := Lib.hid (show (C.mk k i n s p q l t S).right = E from hR)
  clear hE
  go_enter Try.func10, Try.ntmps10
  go_wp2_with fail
  refine (PRight_any ⟨k, i, n, s, p, q, l, t, S⟩ _ hS).mono ?_
  rintro e w1 ⟨rfl, b1⟩
  rw [hR.out]
  have b1 := Lib.hid (boxed_below b1)
  go_wp2_with fail
  go_ret2
  exact ⟨rfl, b1.out⟩
set_option maxRecDepth 100000 in
set_option maxHeartbeats 1000000 in
theorem Encode_1 (i n s p q l t : Int) (S : List UInt8) (w : World) (hR : rightL 1 i n s p q l t S = 0) (i1 : -9223372036854775808 ≤ i) (i2 : i ≤ 9223372036854775807) (n1 : -9223372036854775808 ≤ n) (n2 : n ≤ 9223372036854775807) (s1 : -9223372036854775808 ≤ s) (s2 : s ≤ 9223372036854775807) (p1 : -9223372036854775808 ≤ p) (p2 : p ≤ 9223372036854775807) (q1 : -9223372036854775808 ≤ q) (q2 : q ≤ 9223372036854775807) (l1 : -9223372036854775808 ≤ l) (l2 : l ≤ 9223372036854775807) (t1 : -9223372036854775808 ≤ t) (t2 : t ≤ 9223372036854775807) (hS : S.length ≤ 140737488355328) :
    Calls Try.prog 10 #[.agg #[.int .i64 1, .int .i64 i, .int .i64 n, .int .i64 s, .int .i64 p, .int .i64 q, .int .i64 l, .int .i64 t, .string (str S)]] w fun e w' => ∃ r, e = .returned (.tuple #[r, .int .i64 0]) ∧ RB w' w.heap.size r ([] ++ [byteOf 1] ++ longL i ++ [byteOf n] ++ [byteOf s] ++ [byteOf t] ++ longL p ++ longL q ++ longL l ++ textL S) ∧ Below w.heap.size w w' := by
  have hR := Lib.hid (show (C.mk 1 i n s p q l t S).right = 0 from hR)
  obtain ⟨wb, ew⟩ : ∃ W, w.alloc (.cells #[.int .i64 1, .int .i64 i, .int .i64 n, .int .i64 s, .int .i64 p, .int .i64 q, .int .i64 l, .int .i64 t, .string (str S)] 23) = W := ⟨_, rfl⟩
  have HBX : Hid (∀ W, Below wb.heap.size wb W → W.heap[w.heap.size]? = some (.cells #[.int .i64 1, .int .i64 i, .int .i64 n, .int .i64 s, .int .i64 p, .int .i64 q, .int .i64 l, .int .i64 t, .string (str S)] 23 (0, 0)) ∧ Below w.heap.size w W) := Lib.hid (by rw [← ew]; exact fun W hb => ⟨boxed hb, boxed_below hb⟩)
  replace ew := Lib.hid ew
  go_enter Try.func10, Try.ntmps10
  go_wp2_with fail
  rw [ew.out]
  refine (PRight_any ⟨1, i, n, s, p, q, l, t, S⟩ _ (fun hk => hS)).mono ?_
  rintro e wr ⟨rfl, br⟩
  rw [hR.out]
  have br := Lib.hid br
  obtain ⟨k0, k1, k2, k3, k4, k5, k6, k7, k8⟩ := cmd_at (HBX.out wr br.out).1
  go_wp2_with fail
  refine (NewWriter_any wr).mono ?_
  rintro e w0 ⟨rfl, W0, b0⟩
  have W0 := Lib.hid W0
  have b0 := Lib.hid b0
  clear k0 k1 k2 k3 k4 k5 k6 k7 k8
  obtain ⟨k0, k1, k2, k3, k4, k5, k6, k7, k8⟩ := cmd_at (HBX.out w0 (br.out.trans (b0.out.mono br.out.size))).1
  obtain ⟨v0, ev⟩ : ∃ v, v = Value.slice none 0 0 := ⟨_, rfl⟩
  rw [← ev] at W0
  clear ev
  go_wp2_with fail
  refine (WByte_any _ _ v0 _ 1 w0 W0 (by first | omega | (simp only [List.length_append, List.length_nil, longL_len, List.length_singleton]; omega) | simp) (by omega) (by omega)).mono ?_
  rintro e w1 ⟨rfl, v1, W1, P1, -⟩
  have b1 := Lib.hid (wr_below W0.out b0.out P1)
  clear k0 k1 k2 k3 k4 k5 k6 k7 k8 P1
  obtain ⟨k0, k1, k2, k3, k4, k5, k6, k7, k8⟩ := cmd_at (HBX.out w1 (br.out.trans (b1.out.mono br.out.size))).1
  replace W1 := Lib.hid W1
  go_wp2_with fail
  refine (WLong_any _ _ v1 _ i w1 W1 (by first | omega | (simp only [List.length_append, List.length_nil, longL_len, List.length_singleton]; omega) | simp) (by omega) (by omega)).mono ?_
  rintro e w2 ⟨rfl, v2, W2, P2, -⟩
  have b2 := Lib.hid (wr_below W1.out b1.out P2)
  clear k0 k1 k2 k3 k4 k5 k6 k7 k8 P2
  obtain ⟨k0, k1, k2, k3, k4, k5, k6, k7, k8⟩ := cmd_at (HBX.out w2 (br.out.trans (b2.out.mono br.out.size))).1
  replace W2 := Lib.hid W2
  go_wp2_with fail
  refine (WriteOrder_any _ _ v2 _ 1 i n s p q l t S w2 W2 (by first | omega | (simp only [List.length_append, List.length_nil, longL_len, List.length_singleton]; omega) | simp) i1 i2 n1 n2 s1 s2 p1 p2 q1 q2 l1 l2 t1 t2 hS).mono ?_
  rintro e w3 ⟨rfl, v3, W3, P3, -⟩
  have b3 := Lib.hid (wr_below W2.out b2.out P3)
  clear k0 k1 k2 k3 k4 k5 k6 k7 k8 P3
  obtain ⟨k0, k1, k2, k3, k4, k5, k6, k7, k8⟩ := cmd_at (HBX.out w3 (br.out.trans (b3.out.mono br.out.size))).1
  replace W3 := Lib.hid W3
  go_wp2_with fail
  refine (Done_any _ _ v3 _ w3 W3 (by simp only [List.length_append, List.length_nil, longL_len, List.length_singleton]; have := textL_len S; omega)).mono ?_
  rintro e w9 ⟨r, rfl, R9, b9⟩
  have hr := (HBX.out w3 (br.out.trans (b3.out.mono br.out.size))).2
  have R9 := Lib.hid (R9.base hr.size)
  have b9 := Lib.hid (hr.trans (b9.mono hr.size))
  clear hr
  go_wp2_with fail
  go_ret2
  exact ⟨r, rfl, R9.out, b9.out⟩
set_option maxRecDepth 100000 in
set_option maxHeartbeats 1000000 in
theorem Encode_2 (i n s p q l t : Int) (S : List UInt8) (w : World) (hR : rightL 2 i n s p q l t S = 0) (i1 : -9223372036854775808 ≤ i) (i2 : i ≤ 9223372036854775807) (n1 : -9223372036854775808 ≤ n) (n2 : n ≤ 9223372036854775807) (s1 : -9223372036854775808 ≤ s) (s2 : s ≤ 9223372036854775807) (p1 : -9223372036854775808 ≤ p) (p2 : p ≤ 9223372036854775807) (q1 : -9223372036854775808 ≤ q) (q2 : q ≤ 9223372036854775807) (l1 : -9223372036854775808 ≤ l) (l2 : l ≤ 9223372036854775807) (t1 : -9223372036854775808 ≤ t) (t2 : t ≤ 9223372036854775807) (hS : True) :
    Calls Try.prog 10 #[.agg #[.int .i64 2, .int .i64 i, .int .i64 n, .int .i64 s, .int .i64 p, .int .i64 q, .int .i64 l, .int .i64 t, .string (str S)]] w fun e w' => ∃ r, e = .returned (.tuple #[r, .int .i64 0]) ∧ RB w' w.heap.size r ([] ++ [byteOf 2] ++ longL i) ∧ Below w.heap.size w w' := by
  have hR := Lib.hid (show (C.mk 2 i n s p q l t S).right = 0 from hR)
  obtain ⟨wb, ew⟩ : ∃ W, w.alloc (.cells #[.int .i64 2, .int .i64 i, .int .i64 n, .int .i64 s, .int .i64 p, .int .i64 q, .int .i64 l, .int .i64 t, .string (str S)] 23) = W := ⟨_, rfl⟩
  have HBX : Hid (∀ W, Below wb.heap.size wb W → W.heap[w.heap.size]? = some (.cells #[.int .i64 2, .int .i64 i, .int .i64 n, .int .i64 s, .int .i64 p, .int .i64 q, .int .i64 l, .int .i64 t, .string (str S)] 23 (0, 0)) ∧ Below w.heap.size w W) := Lib.hid (by rw [← ew]; exact fun W hb => ⟨boxed hb, boxed_below hb⟩)
  replace ew := Lib.hid ew
  go_enter Try.func10, Try.ntmps10
  go_wp2_with fail
  rw [ew.out]
  refine (PRight_any ⟨2, i, n, s, p, q, l, t, S⟩ _ (fun hk => absurd (show ((2 : Nat) : Int) = 1 from hk) (by decide))).mono ?_
  rintro e wr ⟨rfl, br⟩
  rw [hR.out]
  have br := Lib.hid br
  obtain ⟨k0, k1, k2, k3, k4, k5, k6, k7, k8⟩ := cmd_at (HBX.out wr br.out).1
  go_wp2_with fail
  refine (NewWriter_any wr).mono ?_
  rintro e w0 ⟨rfl, W0, b0⟩
  have W0 := Lib.hid W0
  have b0 := Lib.hid b0
  clear k0 k1 k2 k3 k4 k5 k6 k7 k8
  obtain ⟨k0, k1, k2, k3, k4, k5, k6, k7, k8⟩ := cmd_at (HBX.out w0 (br.out.trans (b0.out.mono br.out.size))).1
  obtain ⟨v0, ev⟩ : ∃ v, v = Value.slice none 0 0 := ⟨_, rfl⟩
  rw [← ev] at W0
  clear ev
  go_wp2_with fail
  refine (WByte_any _ _ v0 _ 2 w0 W0 (by first | omega | (simp only [List.length_append, List.length_nil, longL_len, List.length_singleton]; omega) | simp) (by omega) (by omega)).mono ?_
  rintro e w1 ⟨rfl, v1, W1, P1, -⟩
  have b1 := Lib.hid (wr_below W0.out b0.out P1)
  clear k0 k1 k2 k3 k4 k5 k6 k7 k8 P1
  obtain ⟨k0, k1, k2, k3, k4, k5, k6, k7, k8⟩ := cmd_at (HBX.out w1 (br.out.trans (b1.out.mono br.out.size))).1
  replace W1 := Lib.hid W1
  go_wp2_with fail
  refine (WLong_any _ _ v1 _ i w1 W1 (by first | omega | (simp only [List.length_append, List.length_nil, longL_len, List.length_singleton]; omega) | simp) (by omega) (by omega)).mono ?_
  rintro e w2 ⟨rfl, v2, W2, P2, -⟩
  have b2 := Lib.hid (wr_below W1.out b1.out P2)
  clear k0 k1 k2 k3 k4 k5 k6 k7 k8 P2
  obtain ⟨k0, k1, k2, k3, k4, k5, k6, k7, k8⟩ := cmd_at (HBX.out w2 (br.out.trans (b2.out.mono br.out.size))).1
  replace W2 := Lib.hid W2
  go_wp2_with fail
  refine (Done_any _ _ v2 _ w2 W2 (by first | omega | (simp only [List.length_append, List.length_nil, longL_len, List.length_singleton]; omega))).mono ?_
  rintro e w9 ⟨r, rfl, R9, b9⟩
  have hr := (HBX.out w2 (br.out.trans (b2.out.mono br.out.size))).2
  have R9 := Lib.hid (R9.base hr.size)
  have b9 := Lib.hid (hr.trans (b9.mono hr.size))
  clear hr
  go_wp2_with fail
  go_ret2
  exact ⟨r, rfl, R9.out, b9.out⟩
set_option maxRecDepth 100000 in
set_option maxHeartbeats 1000000 in
theorem Encode_3 (i n s p q l t : Int) (S : List UInt8) (w : World) (hR : rightL 3 i n s p q l t S = 0) (i1 : -9223372036854775808 ≤ i) (i2 : i ≤ 9223372036854775807) (n1 : -9223372036854775808 ≤ n) (n2 : n ≤ 9223372036854775807) (s1 : -9223372036854775808 ≤ s) (s2 : s ≤ 9223372036854775807) (p1 : -9223372036854775808 ≤ p) (p2 : p ≤ 9223372036854775807) (q1 : -9223372036854775808 ≤ q) (q2 : q ≤ 9223372036854775807) (l1 : -9223372036854775808 ≤ l) (l2 : l ≤ 9223372036854775807) (t1 : -9223372036854775808 ≤ t) (t2 : t ≤ 9223372036854775807) (hS : True) :
    Calls Try.prog 10 #[.agg #[.int .i64 3, .int .i64 i, .int .i64 n, .int .i64 s, .int .i64 p, .int .i64 q, .int .i64 l, .int .i64 t, .string (str S)]] w fun e w' => ∃ r, e = .returned (.tuple #[r, .int .i64 0]) ∧ RB w' w.heap.size r ([] ++ [byteOf 3] ++ longL i ++ longL q) ∧ Below w.heap.size w w' := by
  have hR := Lib.hid (show (C.mk 3 i n s p q l t S).right = 0 from hR)
  obtain ⟨wb, ew⟩ : ∃ W, w.alloc (.cells #[.int .i64 3, .int .i64 i, .int .i64 n, .int .i64 s, .int .i64 p, .int .i64 q, .int .i64 l, .int .i64 t, .string (str S)] 23) = W := ⟨_, rfl⟩
  have HBX : Hid (∀ W, Below wb.heap.size wb W → W.heap[w.heap.size]? = some (.cells #[.int .i64 3, .int .i64 i, .int .i64 n, .int .i64 s, .int .i64 p, .int .i64 q, .int .i64 l, .int .i64 t, .string (str S)] 23 (0, 0)) ∧ Below w.heap.size w W) := Lib.hid (by rw [← ew]; exact fun W hb => ⟨boxed hb, boxed_below hb⟩)
  replace ew := Lib.hid ew
  go_enter Try.func10, Try.ntmps10
  go_wp2_with fail
  rw [ew.out]
  refine (PRight_any ⟨3, i, n, s, p, q, l, t, S⟩ _ (fun hk => absurd (show ((3 : Nat) : Int) = 1 from hk) (by decide))).mono ?_
  rintro e wr ⟨rfl, br⟩
  rw [hR.out]
  have br := Lib.hid br
  obtain ⟨k0, k1, k2, k3, k4, k5, k6, k7, k8⟩ := cmd_at (HBX.out wr br.out).1
  go_wp2_with fail
  refine (NewWriter_any wr).mono ?_
  rintro e w0 ⟨rfl, W0, b0⟩
  have W0 := Lib.hid W0
  have b0 := Lib.hid b0
  clear k0 k1 k2 k3 k4 k5 k6 k7 k8
  obtain ⟨k0, k1, k2, k3, k4, k5, k6, k7, k8⟩ := cmd_at (HBX.out w0 (br.out.trans (b0.out.mono br.out.size))).1
  obtain ⟨v0, ev⟩ : ∃ v, v = Value.slice none 0 0 := ⟨_, rfl⟩
  rw [← ev] at W0
  clear ev
  go_wp2_with fail
  refine (WByte_any _ _ v0 _ 3 w0 W0 (by first | omega | (simp only [List.length_append, List.length_nil, longL_len, List.length_singleton]; omega) | simp) (by omega) (by omega)).mono ?_
  rintro e w1 ⟨rfl, v1, W1, P1, -⟩
  have b1 := Lib.hid (wr_below W0.out b0.out P1)
  clear k0 k1 k2 k3 k4 k5 k6 k7 k8 P1
  obtain ⟨k0, k1, k2, k3, k4, k5, k6, k7, k8⟩ := cmd_at (HBX.out w1 (br.out.trans (b1.out.mono br.out.size))).1
  replace W1 := Lib.hid W1
  go_wp2_with fail
  refine (WLong_any _ _ v1 _ i w1 W1 (by first | omega | (simp only [List.length_append, List.length_nil, longL_len, List.length_singleton]; omega) | simp) (by omega) (by omega)).mono ?_
  rintro e w2 ⟨rfl, v2, W2, P2, -⟩
  have b2 := Lib.hid (wr_below W1.out b1.out P2)
  clear k0 k1 k2 k3 k4 k5 k6 k7 k8 P2
  obtain ⟨k0, k1, k2, k3, k4, k5, k6, k7, k8⟩ := cmd_at (HBX.out w2 (br.out.trans (b2.out.mono br.out.size))).1
  replace W2 := Lib.hid W2
  go_wp2_with fail
  refine (WLong_any _ _ v2 _ q w2 W2 (by first | omega | (simp only [List.length_append, List.length_nil, longL_len, List.length_singleton]; omega) | simp) (by omega) (by omega)).mono ?_
  rintro e w3 ⟨rfl, v3, W3, P3, -⟩
  have b3 := Lib.hid (wr_below W2.out b2.out P3)
  clear k0 k1 k2 k3 k4 k5 k6 k7 k8 P3
  obtain ⟨k0, k1, k2, k3, k4, k5, k6, k7, k8⟩ := cmd_at (HBX.out w3 (br.out.trans (b3.out.mono br.out.size))).1
  replace W3 := Lib.hid W3
  go_wp2_with fail
  refine (Done_any _ _ v3 _ w3 W3 (by first | omega | (simp only [List.length_append, List.length_nil, longL_len, List.length_singleton]; omega))).mono ?_
  rintro e w9 ⟨r, rfl, R9, b9⟩
  have hr := (HBX.out w3 (br.out.trans (b3.out.mono br.out.size))).2
  have R9 := Lib.hid (R9.base hr.size)
  have b9 := Lib.hid (hr.trans (b9.mono hr.size))
  clear hr
  go_wp2_with fail
  go_ret2
  exact ⟨r, rfl, R9.out, b9.out⟩
set_option maxRecDepth 100000 in
set_option maxHeartbeats 1000000 in
theorem Encode_4 (i n s p q l t : Int) (S : List UInt8) (w : World) (hR : rightL 4 i n s p q l t S = 0) (i1 : -9223372036854775808 ≤ i) (i2 : i ≤ 9223372036854775807) (n1 : -9223372036854775808 ≤ n) (n2 : n ≤ 9223372036854775807) (s1 : -9223372036854775808 ≤ s) (s2 : s ≤ 9223372036854775807) (p1 : -9223372036854775808 ≤ p) (p2 : p ≤ 9223372036854775807) (q1 : -9223372036854775808 ≤ q) (q2 : q ≤ 9223372036854775807) (l1 : -9223372036854775808 ≤ l) (l2 : l ≤ 9223372036854775807) (t1 : -9223372036854775808 ≤ t) (t2 : t ≤ 9223372036854775807) (hS : True) :
    Calls Try.prog 10 #[.agg #[.int .i64 4, .int .i64 i, .int .i64 n, .int .i64 s, .int .i64 p, .int .i64 q, .int .i64 l, .int .i64 t, .string (str S)]] w fun e w' => ∃ r, e = .returned (.tuple #[r, .int .i64 0]) ∧ RB w' w.heap.size r ([] ++ [byteOf 4] ++ longL i ++ longL p ++ longL q) ∧ Below w.heap.size w w' := by
  have hR := Lib.hid (show (C.mk 4 i n s p q l t S).right = 0 from hR)
  obtain ⟨wb, ew⟩ : ∃ W, w.alloc (.cells #[.int .i64 4, .int .i64 i, .int .i64 n, .int .i64 s, .int .i64 p, .int .i64 q, .int .i64 l, .int .i64 t, .string (str S)] 23) = W := ⟨_, rfl⟩
  have HBX : Hid (∀ W, Below wb.heap.size wb W → W.heap[w.heap.size]? = some (.cells #[.int .i64 4, .int .i64 i, .int .i64 n, .int .i64 s, .int .i64 p, .int .i64 q, .int .i64 l, .int .i64 t, .string (str S)] 23 (0, 0)) ∧ Below w.heap.size w W) := Lib.hid (by rw [← ew]; exact fun W hb => ⟨boxed hb, boxed_below hb⟩)
  replace ew := Lib.hid ew
  go_enter Try.func10, Try.ntmps10
  go_wp2_with fail
  rw [ew.out]
  refine (PRight_any ⟨4, i, n, s, p, q, l, t, S⟩ _ (fun hk => absurd (show ((4 : Nat) : Int) = 1 from hk) (by decide))).mono ?_
  rintro e wr ⟨rfl, br⟩
  rw [hR.out]
  have br := Lib.hid br
  obtain ⟨k0, k1, k2, k3, k4, k5, k6, k7, k8⟩ := cmd_at (HBX.out wr br.out).1
  go_wp2_with fail
  refine (NewWriter_any wr).mono ?_
  rintro e w0 ⟨rfl, W0, b0⟩
  have W0 := Lib.hid W0
  have b0 := Lib.hid b0
  clear k0 k1 k2 k3 k4 k5 k6 k7 k8
  obtain ⟨k0, k1, k2, k3, k4, k5, k6, k7, k8⟩ := cmd_at (HBX.out w0 (br.out.trans (b0.out.mono br.out.size))).1
  obtain ⟨v0, ev⟩ : ∃ v, v = Value.slice none 0 0 := ⟨_, rfl⟩
  rw [← ev] at W0
  clear ev
  go_wp2_with fail
  refine (WByte_any _ _ v0 _ 4 w0 W0 (by first | omega | (simp only [List.length_append, List.length_nil, longL_len, List.length_singleton]; omega) | simp) (by omega) (by omega)).mono ?_
  rintro e w1 ⟨rfl, v1, W1, P1, -⟩
  have b1 := Lib.hid (wr_below W0.out b0.out P1)
  clear k0 k1 k2 k3 k4 k5 k6 k7 k8 P1
  obtain ⟨k0, k1, k2, k3, k4, k5, k6, k7, k8⟩ := cmd_at (HBX.out w1 (br.out.trans (b1.out.mono br.out.size))).1
  replace W1 := Lib.hid W1
  go_wp2_with fail
  refine (WLong_any _ _ v1 _ i w1 W1 (by first | omega | (simp only [List.length_append, List.length_nil, longL_len, List.length_singleton]; omega) | simp) (by omega) (by omega)).mono ?_
  rintro e w2 ⟨rfl, v2, W2, P2, -⟩
  have b2 := Lib.hid (wr_below W1.out b1.out P2)
  clear k0 k1 k2 k3 k4 k5 k6 k7 k8 P2
  obtain ⟨k0, k1, k2, k3, k4, k5, k6, k7, k8⟩ := cmd_at (HBX.out w2 (br.out.trans (b2.out.mono br.out.size))).1
  replace W2 := Lib.hid W2
  go_wp2_with fail
  refine (WLong_any _ _ v2 _ p w2 W2 (by first | omega | (simp only [List.length_append, List.length_nil, longL_len, List.length_singleton]; omega) | simp) (by omega) (by omega)).mono ?_
  rintro e w3 ⟨rfl, v3, W3, P3, -⟩
  have b3 := Lib.hid (wr_below W2.out b2.out P3)
  clear k0 k1 k2 k3 k4 k5 k6 k7 k8 P3
  obtain ⟨k0, k1, k2, k3, k4, k5, k6, k7, k8⟩ := cmd_at (HBX.out w3 (br.out.trans (b3.out.mono br.out.size))).1
  replace W3 := Lib.hid W3
  go_wp2_with fail
  refine (WLong_any _ _ v3 _ q w3 W3 (by first | omega | (simp only [List.length_append, List.length_nil, longL_len, List.length_singleton]; omega) | simp) (by omega) (by omega)).mono ?_
  rintro e w4 ⟨rfl, v4, W4, P4, -⟩
  have b4 := Lib.hid (wr_below W3.out b3.out P4)
  clear k0 k1 k2 k3 k4 k5 k6 k7 k8 P4
  obtain ⟨k0, k1, k2, k3, k4, k5, k6, k7, k8⟩ := cmd_at (HBX.out w4 (br.out.trans (b4.out.mono br.out.size))).1
  replace W4 := Lib.hid W4
  go_wp2_with fail
  refine (Done_any _ _ v4 _ w4 W4 (by first | omega | (simp only [List.length_append, List.length_nil, longL_len, List.length_singleton]; omega))).mono ?_
  rintro e w9 ⟨r, rfl, R9, b9⟩
  have hr := (HBX.out w4 (br.out.trans (b4.out.mono br.out.size))).2
  have R9 := Lib.hid (R9.base hr.size)
  have b9 := Lib.hid (hr.trans (b9.mono hr.size))
  clear hr
  go_wp2_with fail
  go_ret2
  exact ⟨r, rfl, R9.out, b9.out⟩
theorem PEncode_any (c : C) (w : World) (h : c.Ok) :
    Calls Try.prog 10 #[c.val] w fun e w' => ∃ r, e = .returned (.tuple #[r, .int .i64 c.right]) ∧ RB w' w.heap.size r (encR c) ∧ Below w.heap.size w w' := by
  by_cases hz : c.right = 0
  · rw [encR_yes hz, hz]
    obtain ⟨k, i, n, s, p, q, l, t, S⟩ := c
    obtain ⟨-, ⟨i1, i2⟩, ⟨n1, n2⟩, ⟨s1, s2⟩, ⟨p1, p2⟩, ⟨q1, q2⟩, ⟨l1, l2⟩, ⟨t1, t2⟩, hS⟩ := h
    simp only at *
    have hz2 : rightL k i n s p q l t S = 0 := hz
    have h1 : k = 1 ∨ k = 2 ∨ k = 3 ∨ k = 4 := by
      by_cases h0 : k < 1 ∨ 4 < k
      · unfold rightL at hz2; rw [if_pos h0] at hz2; cases hz2
      · omega
    rcases h1 with rfl | rfl | rfl | rfl
    · rw [show encC ⟨1, i, n, s, p, q, l, t, S⟩ = [] ++ [byteOf 1] ++ longL i ++ [byteOf n] ++ [byteOf s] ++ [byteOf t] ++ longL p ++ longL q ++ longL l ++ textL S by simp [encC]]
      exact Encode_1 i n s p q l t S w hz2 i1 i2 n1 n2 s1 s2 p1 p2 q1 q2 l1 l2 t1 t2 (hS rfl)
    · rw [show encC ⟨2, i, n, s, p, q, l, t, S⟩ = [] ++ [byteOf 2] ++ longL i by simp [encC]]
      exact Encode_2 i n s p q l t S w hz2 i1 i2 n1 n2 s1 s2 p1 p2 q1 q2 l1 l2 t1 t2 trivial
    · rw [show encC ⟨3, i, n, s, p, q, l, t, S⟩ = [] ++ [byteOf 3] ++ longL i ++ longL q by simp [encC]]
      exact Encode_3 i n s p q l t S w hz2 i1 i2 n1 n2 s1 s2 p1 p2 q1 q2 l1 l2 t1 t2 trivial
    · rw [show encC ⟨4, i, n, s, p, q, l, t, S⟩ = [] ++ [byteOf 4] ++ longL i ++ longL p ++ longL q by simp [encC]]
      exact Encode_4 i n s p q l t S w hz2 i1 i2 n1 n2 s1 s2 p1 p2 q1 q2 l1 l2 t1 t2 trivial
  · rw [encR_no hz]
    obtain ⟨k, i, n, s, p, q, l, t, S⟩ := c
    refine (Encode_bad k i n s p q l t S w _ hz rfl h.S).mono ?_
    rintro e w' ⟨rfl, hb⟩
    exact ⟨_, rfl, rb_nil _ _, hb⟩
end Go.Proofs.Ytdbaphmhfoajgaa
