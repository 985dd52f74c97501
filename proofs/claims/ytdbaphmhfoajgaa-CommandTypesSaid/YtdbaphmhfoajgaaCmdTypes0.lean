/-
  CommandTypes, its walk where the Kind is none.
-/
import Derived.Test.YtdbaphmhfoajgaaCmdLaws
namespace Go.Proofs.Ytdbaphmhfoajgaa
open Go.RowKit
set_option linter.unusedVariables false
set_option linter.unusedSimpArgs false

set_option maxRecDepth 100000 in
set_option maxHeartbeats 1000000 in
theorem Types_low (k i n s p q l t : Int) (S : List UInt8) (id pr qt : Int) (w : World) (hk : k < 1) :
    Calls Try.prog 5 #[.agg #[.int .i64 k, .int .i64 i, .int .i64 n, .int .i64 s, .int .i64 p, .int .i64 q, .int .i64 l, .int .i64 t, .string (str S)], .int .i64 id, .int .i64 pr, .int .i64 qt] w fun e w' => e = .returned (.bool true) ∧ Below w.heap.size w w' := by
  have d1 : decide (k < 1) = true := decide_eq_true hk
  go_enter Try.func5, Try.ntmps5
  go_wp2_with fail
  obtain ⟨w0, ew⟩ : ∃ W, w.alloc (.cells #[.int .i64 k, .int .i64 i, .int .i64 n, .int .i64 s, .int .i64 p, .int .i64 q, .int .i64 l, .int .i64 t, .string (str S)] 23) = W := ⟨_, rfl⟩
  obtain ⟨cb, ecb⟩ : ∃ cb, w.heap.size = cb := ⟨_, rfl⟩
  have hcb : w.heap.size ≤ cb := by omega
  have B0 : Hid (Below w.heap.size w w0) := Lib.hid (by rw [← ew]; exact (Below.refl _ w).alloc (Nat.le_refl _) _)
  have C0 : Hid (w0.heap[cb]? = some (.cells #[.int .i64 k, .int .i64 i, .int .i64 n, .int .i64 s, .int .i64 p, .int .i64 q, .int .i64 l, .int .i64 t, .string (str S)] 23 (0, 0))) := Lib.hid (by rw [← ew, ← ecb]; exact heap_alloc_new w _)
  rw [ew, ecb]
  clear ew ecb
  refine (LShort_any k i n s p q l t S w0).mono ?_
  rintro e w1 ⟨rfl, b1⟩
  have hU := take60 S
  obtain ⟨U, eU⟩ : ∃ U, S.take 60 = U := ⟨_, rfl⟩
  rw [eU] at hU ⊢
  clear eU
  have C1 := (b1.block cb (Array.getElem?_eq_some_iff.1 C0.out).1).trans C0.out
  obtain ⟨fr0, fr1, fr2, fr3, fr4, fr5, fr6, fr7, fr8, m0, m1, m2, m3, m4, m5, m6, m7, m8⟩ := block9 C1
  replace C1 := Lib.hid C1
  have B1 := Lib.hid (B0.out.trans (b1.mono B0.out.size))
  clear b1 B0 C0
  go_upto_region 2 with (fail)
  rw [set9 _ _ _ _ _ _ _ _ _ C1.out]
  have C2 : Hid ((w1.setRow cb #[.int .i64 k, .int .i64 i, .int .i64 n, .int .i64 s, .int .i64 p, .int .i64 q, .int .i64 l, .int .i64 t, .string (str U)]).heap[cb]? = some (.cells #[.int .i64 k, .int .i64 i, .int .i64 n, .int .i64 s, .int .i64 p, .int .i64 q, .int .i64 l, .int .i64 t, .string (str U)] 23 (0, 0))) := Lib.hid (setRow_heap _ _ _ _ _ _ C1.out)
  have B2 : Hid (Below w.heap.size w (w1.setRow cb #[.int .i64 k, .int .i64 i, .int .i64 n, .int .i64 s, .int .i64 p, .int .i64 q, .int .i64 l, .int .i64 t, .string (str U)])) := Lib.hid (below_setRow B1.out hcb _)
  obtain ⟨w2, ew⟩ : ∃ W, w1.setRow cb #[.int .i64 k, .int .i64 i, .int .i64 n, .int .i64 s, .int .i64 p, .int .i64 q, .int .i64 l, .int .i64 t, .string (str U)] = W := ⟨_, rfl⟩
  rw [ew] at C2 B2 ⊢
  clear ew C1 B1 fr0 fr1 fr2 fr3 fr4 fr5 fr6 fr7 fr8 m0 m1 m2 m3 m4 m5 m6 m7 m8
  obtain ⟨j0, j1, j2, j3, j4, j5, j6, j7, j8⟩ := cmd_at C2.out
  go_wp2_with fail
  refine (Back_none k i n s p q l t U _ (by omega) (by omega) (by omega) (by omega)).mono ?_
  rintro e w3 ⟨rfl, b3⟩
  have C3 := Lib.hid ((b3.block cb (Array.getElem?_eq_some_iff.1 C2.out).1).trans C2.out)
  have B3 := Lib.hid (B2.out.trans (b3.mono B2.out.size))
  clear b3 B2 C2
  clear j0 j1 j2 j3 j4 j5 j6 j7 j8
  go_upto_region 3 with (fail)
  obtain ⟨w4, ew⟩ : ∃ W, w3.alloc (.cells #[.nilIface] 39) = W := ⟨_, rfl⟩
  obtain ⟨vb, eb⟩ : ∃ x, w3.heap.size = x := ⟨_, rfl⟩
  have C4 : Hid (w4.heap[cb]? = some (.cells #[.int .i64 k, .int .i64 i, .int .i64 n, .int .i64 s, .int .i64 p, .int .i64 q, .int .i64 l, .int .i64 t, .string (str U)] 23 (0, 0))) := Lib.hid (by rw [← ew]; exact (heap_alloc_old _ _ (Array.getElem?_eq_some_iff.1 C3.out).1).trans C3.out)
  have V4 : Hid (w4.heap[vb]? = some (.cells #[.nilIface] 39 (0, 0))) := Lib.hid (by rw [← ew, ← eb]; exact heap_alloc_new w3 _)
  have B4 : Hid (Below w.heap.size w w4) := Lib.hid (by rw [← ew]; exact B3.out.alloc B3.out.size _)
  rw [ew, eb]
  clear ew eb B3 C3
  obtain ⟨j0, j1, j2, j3, j4, j5, j6, j7, j8⟩ := cmd_at C4.out
  have v0 : w4.cell? ⟨vb, 0, none⟩ = some .nilIface := by rw [Lib.cell_of_heap V4.out]; rfl
  go_wp2_with fail
  refine (Of_none _).mono ?_
  rintro e w5 ⟨rfl, b5⟩
  have C5 := Lib.hid ((b5.block cb (Array.getElem?_eq_some_iff.1 C4.out).1).trans C4.out)
  have V5 := Lib.hid ((b5.block vb (Array.getElem?_eq_some_iff.1 V4.out).1).trans V4.out)
  have B5 := Lib.hid (B4.out.trans (b5.mono B4.out.size))
  clear b5 B4 C4 V4
  clear j0 j1 j2 j3 j4 j5 j6 j7 j8 v0
  go_upto_region 5 with (fail)
  obtain ⟨w6, ew⟩ : ∃ W, w5.alloc (.cells #[.int .i64 0, .int .i64 0, .int .i64 0, .int .i64 0, .int .i64 0, .int .i64 0, .int .i64 0, .int .i64 0, .string (str [])] 23) = W := ⟨_, rfl⟩
  obtain ⟨xb, eb⟩ : ∃ x, w5.heap.size = x := ⟨_, rfl⟩
  have C6 : Hid (w6.heap[cb]? = some (.cells #[.int .i64 k, .int .i64 i, .int .i64 n, .int .i64 s, .int .i64 p, .int .i64 q, .int .i64 l, .int .i64 t, .string (str U)] 23 (0, 0))) := Lib.hid (by rw [← ew]; exact (heap_alloc_old _ _ (Array.getElem?_eq_some_iff.1 C5.out).1).trans C5.out)
  have V6 : Hid (w6.heap[vb]? = some (.cells #[.nilIface] 39 (0, 0))) := Lib.hid (by rw [← ew]; exact (heap_alloc_old _ _ (Array.getElem?_eq_some_iff.1 V5.out).1).trans V5.out)
  have X6 : Hid (w6.heap[xb]? = some (.cells #[.int .i64 0, .int .i64 0, .int .i64 0, .int .i64 0, .int .i64 0, .int .i64 0, .int .i64 0, .int .i64 0, .string (str [])] 23 (0, 0))) := Lib.hid (by rw [← ew, ← eb]; exact heap_alloc_new w5 _)
  have B6 : Hid (Below w.heap.size w w6) := Lib.hid (by rw [← ew]; exact B5.out.alloc B5.out.size _)
  rw [ew, eb]
  clear ew eb B5 C5 V5
  go_wp2_with fail
  refine (LKnown_any _).mono ?_
  rintro e w7 ⟨rfl, b7⟩
  have C7 := Lib.hid ((b7.block cb (Array.getElem?_eq_some_iff.1 C6.out).1).trans C6.out)
  have V7 := Lib.hid ((b7.block vb (Array.getElem?_eq_some_iff.1 V6.out).1).trans V6.out)
  have X7 := Lib.hid ((b7.block xb (Array.getElem?_eq_some_iff.1 X6.out).1).trans X6.out)
  have B7 := Lib.hid (B6.out.trans (b7.mono B6.out.size))
  clear b7 B6 C6 V6 X6
  go_wp2_with fail
  go_ret
  exact ⟨rfl, B7.out⟩
set_option maxRecDepth 100000 in
set_option maxHeartbeats 1000000 in
theorem Types_high (k i n s p q l t : Int) (S : List UInt8) (id pr qt : Int) (w : World) (h0 : 1 ≤ k) (hk : 4 < k) :
    Calls Try.prog 5 #[.agg #[.int .i64 k, .int .i64 i, .int .i64 n, .int .i64 s, .int .i64 p, .int .i64 q, .int .i64 l, .int .i64 t, .string (str S)], .int .i64 id, .int .i64 pr, .int .i64 qt] w fun e w' => e = .returned (.bool true) ∧ Below w.heap.size w w' := by
  have d1 : decide (k < 1) = false := decide_eq_false (by omega)
  have d2 : decide (4 < k) = true := decide_eq_true hk
  go_enter Try.func5, Try.ntmps5
  go_wp2_with fail
  obtain ⟨w0, ew⟩ : ∃ W, w.alloc (.cells #[.int .i64 k, .int .i64 i, .int .i64 n, .int .i64 s, .int .i64 p, .int .i64 q, .int .i64 l, .int .i64 t, .string (str S)] 23) = W := ⟨_, rfl⟩
  obtain ⟨cb, ecb⟩ : ∃ cb, w.heap.size = cb := ⟨_, rfl⟩
  have hcb : w.heap.size ≤ cb := by omega
  have B0 : Hid (Below w.heap.size w w0) := Lib.hid (by rw [← ew]; exact (Below.refl _ w).alloc (Nat.le_refl _) _)
  have C0 : Hid (w0.heap[cb]? = some (.cells #[.int .i64 k, .int .i64 i, .int .i64 n, .int .i64 s, .int .i64 p, .int .i64 q, .int .i64 l, .int .i64 t, .string (str S)] 23 (0, 0))) := Lib.hid (by rw [← ew, ← ecb]; exact heap_alloc_new w _)
  rw [ew, ecb]
  clear ew ecb
  refine (LShort_any k i n s p q l t S w0).mono ?_
  rintro e w1 ⟨rfl, b1⟩
  have hU := take60 S
  obtain ⟨U, eU⟩ : ∃ U, S.take 60 = U := ⟨_, rfl⟩
  rw [eU] at hU ⊢
  clear eU
  have C1 := (b1.block cb (Array.getElem?_eq_some_iff.1 C0.out).1).trans C0.out
  obtain ⟨fr0, fr1, fr2, fr3, fr4, fr5, fr6, fr7, fr8, m0, m1, m2, m3, m4, m5, m6, m7, m8⟩ := block9 C1
  replace C1 := Lib.hid C1
  have B1 := Lib.hid (B0.out.trans (b1.mono B0.out.size))
  clear b1 B0 C0
  go_upto_region 2 with (fail)
  rw [set9 _ _ _ _ _ _ _ _ _ C1.out]
  have C2 : Hid ((w1.setRow cb #[.int .i64 k, .int .i64 i, .int .i64 n, .int .i64 s, .int .i64 p, .int .i64 q, .int .i64 l, .int .i64 t, .string (str U)]).heap[cb]? = some (.cells #[.int .i64 k, .int .i64 i, .int .i64 n, .int .i64 s, .int .i64 p, .int .i64 q, .int .i64 l, .int .i64 t, .string (str U)] 23 (0, 0))) := Lib.hid (setRow_heap _ _ _ _ _ _ C1.out)
  have B2 : Hid (Below w.heap.size w (w1.setRow cb #[.int .i64 k, .int .i64 i, .int .i64 n, .int .i64 s, .int .i64 p, .int .i64 q, .int .i64 l, .int .i64 t, .string (str U)])) := Lib.hid (below_setRow B1.out hcb _)
  obtain ⟨w2, ew⟩ : ∃ W, w1.setRow cb #[.int .i64 k, .int .i64 i, .int .i64 n, .int .i64 s, .int .i64 p, .int .i64 q, .int .i64 l, .int .i64 t, .string (str U)] = W := ⟨_, rfl⟩
  rw [ew] at C2 B2 ⊢
  clear ew C1 B1 fr0 fr1 fr2 fr3 fr4 fr5 fr6 fr7 fr8 m0 m1 m2 m3 m4 m5 m6 m7 m8
  obtain ⟨j0, j1, j2, j3, j4, j5, j6, j7, j8⟩ := cmd_at C2.out
  go_wp2_with fail
  refine (Back_none k i n s p q l t U _ (by omega) (by omega) (by omega) (by omega)).mono ?_
  rintro e w3 ⟨rfl, b3⟩
  have C3 := Lib.hid ((b3.block cb (Array.getElem?_eq_some_iff.1 C2.out).1).trans C2.out)
  have B3 := Lib.hid (B2.out.trans (b3.mono B2.out.size))
  clear b3 B2 C2
  clear j0 j1 j2 j3 j4 j5 j6 j7 j8
  go_upto_region 3 with (fail)
  obtain ⟨w4, ew⟩ : ∃ W, w3.alloc (.cells #[.nilIface] 39) = W := ⟨_, rfl⟩
  obtain ⟨vb, eb⟩ : ∃ x, w3.heap.size = x := ⟨_, rfl⟩
  have C4 : Hid (w4.heap[cb]? = some (.cells #[.int .i64 k, .int .i64 i, .int .i64 n, .int .i64 s, .int .i64 p, .int .i64 q, .int .i64 l, .int .i64 t, .string (str U)] 23 (0, 0))) := Lib.hid (by rw [← ew]; exact (heap_alloc_old _ _ (Array.getElem?_eq_some_iff.1 C3.out).1).trans C3.out)
  have V4 : Hid (w4.heap[vb]? = some (.cells #[.nilIface] 39 (0, 0))) := Lib.hid (by rw [← ew, ← eb]; exact heap_alloc_new w3 _)
  have B4 : Hid (Below w.heap.size w w4) := Lib.hid (by rw [← ew]; exact B3.out.alloc B3.out.size _)
  rw [ew, eb]
  clear ew eb B3 C3
  obtain ⟨j0, j1, j2, j3, j4, j5, j6, j7, j8⟩ := cmd_at C4.out
  have v0 : w4.cell? ⟨vb, 0, none⟩ = some .nilIface := by rw [Lib.cell_of_heap V4.out]; rfl
  go_wp2_with fail
  refine (Of_none _).mono ?_
  rintro e w5 ⟨rfl, b5⟩
  have C5 := Lib.hid ((b5.block cb (Array.getElem?_eq_some_iff.1 C4.out).1).trans C4.out)
  have V5 := Lib.hid ((b5.block vb (Array.getElem?_eq_some_iff.1 V4.out).1).trans V4.out)
  have B5 := Lib.hid (B4.out.trans (b5.mono B4.out.size))
  clear b5 B4 C4 V4
  clear j0 j1 j2 j3 j4 j5 j6 j7 j8 v0
  go_upto_region 5 with (fail)
  obtain ⟨w6, ew⟩ : ∃ W, w5.alloc (.cells #[.int .i64 0, .int .i64 0, .int .i64 0, .int .i64 0, .int .i64 0, .int .i64 0, .int .i64 0, .int .i64 0, .string (str [])] 23) = W := ⟨_, rfl⟩
  obtain ⟨xb, eb⟩ : ∃ x, w5.heap.size = x := ⟨_, rfl⟩
  have C6 : Hid (w6.heap[cb]? = some (.cells #[.int .i64 k, .int .i64 i, .int .i64 n, .int .i64 s, .int .i64 p, .int .i64 q, .int .i64 l, .int .i64 t, .string (str U)] 23 (0, 0))) := Lib.hid (by rw [← ew]; exact (heap_alloc_old _ _ (Array.getElem?_eq_some_iff.1 C5.out).1).trans C5.out)
  have V6 : Hid (w6.heap[vb]? = some (.cells #[.nilIface] 39 (0, 0))) := Lib.hid (by rw [← ew]; exact (heap_alloc_old _ _ (Array.getElem?_eq_some_iff.1 V5.out).1).trans V5.out)
  have X6 : Hid (w6.heap[xb]? = some (.cells #[.int .i64 0, .int .i64 0, .int .i64 0, .int .i64 0, .int .i64 0, .int .i64 0, .int .i64 0, .int .i64 0, .string (str [])] 23 (0, 0))) := Lib.hid (by rw [← ew, ← eb]; exact heap_alloc_new w5 _)
  have B6 : Hid (Below w.heap.size w w6) := Lib.hid (by rw [← ew]; exact B5.out.alloc B5.out.size _)
  rw [ew, eb]
  clear ew eb B5 C5 V5
  go_wp2_with fail
  refine (LKnown_any _).mono ?_
  rintro e w7 ⟨rfl, b7⟩
  have C7 := Lib.hid ((b7.block cb (Array.getElem?_eq_some_iff.1 C6.out).1).trans C6.out)
  have V7 := Lib.hid ((b7.block vb (Array.getElem?_eq_some_iff.1 V6.out).1).trans V6.out)
  have X7 := Lib.hid ((b7.block xb (Array.getElem?_eq_some_iff.1 X6.out).1).trans X6.out)
  have B7 := Lib.hid (B6.out.trans (b7.mono B6.out.size))
  clear b7 B6 C6 V6 X6
  go_wp2_with fail
  go_ret
  exact ⟨rfl, B7.out⟩
end Go.Proofs.Ytdbaphmhfoajgaa
