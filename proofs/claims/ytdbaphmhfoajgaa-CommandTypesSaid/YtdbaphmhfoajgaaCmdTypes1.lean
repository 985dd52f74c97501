/-
  CommandTypes, its walk.
-/
import Derived.Test.YtdbaphmhfoajgaaCmdTypes0
import Derived.Deep.RegionHeld3
namespace Go.Proofs.Ytdbaphmhfoajgaa
open Go.RowKit
set_option linter.unusedVariables false
set_option linter.unusedSimpArgs false

set_option maxRecDepth 100000 in
set_option maxHeartbeats 4000000 in
theorem Types_in (k i n s p q l t : Int) (S : List UInt8) (id pr qt : Int) (tv : TypeId) (vU : List UInt8 → Value) (w : World) (h1 : 1 ≤ k) (h4 : k ≤ 4)
    (hB : ∀ U : List UInt8, U.length ≤ 60 → ∀ W, Calls Try.prog 24 #[.agg #[.int .i64 k, .int .i64 i, .int .i64 n, .int .i64 s, .int .i64 p, .int .i64 q, .int .i64 l, .int .i64 t, .string (str U)]] W fun e w' => e = .returned (.agg #[.iface tv (vU U)]) ∧ Below W.heap.size W w')
    (hO : ∀ U : List UInt8, U.length ≤ 60 → ∀ W, Calls Try.prog 15 #[.agg #[.iface tv (vU U)]] W fun e w' => e = .returned (.tuple #[(askedC ⟨k, i, n, s, p, q, l, t, U⟩).val, .bool true]) ∧ Below W.heap.size W w') :
    Calls Try.prog 5 #[.agg #[.int .i64 k, .int .i64 i, .int .i64 n, .int .i64 s, .int .i64 p, .int .i64 q, .int .i64 l, .int .i64 t, .string (str S)], .int .i64 id, .int .i64 pr, .int .i64 qt] w fun e w' => e = .returned (.bool true) ∧ Below w.heap.size w w' := by
  have d1 : decide (k < 1) = false := decide_eq_false (by omega)
  have d2 : decide (4 < k) = false := decide_eq_false (by omega)
  replace hB := Lib.hid hB
  replace hO := Lib.hid hO
  go_enter Try.func5, Try.ntmps5
  go_wp2_with fail
  obtain ⟨w0, ew⟩ : ∃ W, w.alloc (.cells #[.int .i64 k, .int .i64 i, .int .i64 n, .int .i64 s, .int .i64 p, .int .i64 q, .int .i64 l, .int .i64 t, .string (str S)] 23) = W := ⟨_, rfl⟩
  obtain ⟨cb, ecb⟩ : ∃ cb, w.heap.size = cb := ⟨_, rfl⟩
  have hcb : w.heap.size ≤ cb := by omega
  have B0 : Hid (Below w.heap.size w w0) := Lib.hid (by rw [← ew]; exact (Below.refl _ w).alloc (Nat.le_refl _) _)
  have C0 : Hid (w0.heap[cb]? = some (.cells #[.int .i64 k, .int .i64 i, .int .i64 n, .int .i64 s, .int .i64 p, .int .i64 q, .int .i64 l, .int .i64 t, .string (str S)] 23 (0, 0))) := Lib.hid (by rw [← ew, ← ecb]; exact heap_alloc_new w _)
  rw [ew, ecb]
  clear ew ecb
  refine (LShort_any k i n s p q l t S w0).mono ?_
  rintro e w1 ⟨rfl, b1⟩
  have hU := take60 S
  obtain ⟨U, eU⟩ : ∃ U, S.take 60 = U := ⟨_, rfl⟩
  rw [eU] at hU ⊢
  clear eU
  have C1 := (b1.block cb (Array.getElem?_eq_some_iff.1 C0.out).1).trans C0.out
  obtain ⟨fr0, fr1, fr2, fr3, fr4, fr5, fr6, fr7, fr8, m0, m1, m2, m3, m4, m5, m6, m7, m8⟩ := block9 C1
  replace C1 := Lib.hid C1
  have B1 := Lib.hid (B0.out.trans (b1.mono B0.out.size))
  clear b1 B0 C0
  go_upto_region 2 with (fail)
  rw [set9 _ _ _ _ _ _ _ _ _ C1.out]
  have C2 : Hid ((w1.setRow cb #[.int .i64 k, .int .i64 i, .int .i64 n, .int .i64 s, .int .i64 p, .int .i64 q, .int .i64 l, .int .i64 t, .string (str U)]).heap[cb]? = some (.cells #[.int .i64 k, .int .i64 i, .int .i64 n, .int .i64 s, .int .i64 p, .int .i64 q, .int .i64 l, .int .i64 t, .string (str U)] 23 (0, 0))) := Lib.hid (setRow_heap _ _ _ _ _ _ C1.out)
  have B2 : Hid (Below w.heap.size w (w1.setRow cb #[.int .i64 k, .int .i64 i, .int .i64 n, .int .i64 s, .int .i64 p, .int .i64 q, .int .i64 l, .int .i64 t, .string (str U)])) := Lib.hid (below_setRow B1.out hcb _)
  obtain ⟨w2, ew⟩ : ∃ W, w1.setRow cb #[.int .i64 k, .int .i64 i, .int .i64 n, .int .i64 s, .int .i64 p, .int .i64 q, .int .i64 l, .int .i64 t, .string (str U)] = W := ⟨_, rfl⟩
  rw [ew] at C2 B2 ⊢
  clear ew C1 B1 fr0 fr1 fr2 fr3 fr4 fr5 fr6 fr7 fr8 m0 m1 m2 m3 m4 m5 m6 m7 m8
  have HB := fun W => hB.out U hU W
  have HO := fun W => hO.out U hU W
  have HA := fun W => Asked_any ⟨k, i, n, s, p, q, l, t, U⟩ W
  obtain ⟨ac, eac⟩ : ∃ y, askedC ⟨k, i, n, s, p, q, l, t, U⟩ = y := ⟨_, rfl⟩
  simp only [eac] at HO HA
  clear eac
  obtain ⟨K, I, N, Z, P, Q, G, T, M⟩ := ac
  rw [show (C.val ⟨K, I, N, Z, P, Q, G, T, M⟩) = .agg #[.int .i64 K, .int .i64 I, .int .i64 N, .int .i64 Z, .int .i64 P, .int .i64 Q, .int .i64 G, .int .i64 T, .string (str M)] from rfl] at HO HA
  rw [show (C.val ⟨k, i, n, s, p, q, l, t, U⟩) = .agg #[.int .i64 k, .int .i64 i, .int .i64 n, .int .i64 s, .int .i64 p, .int .i64 q, .int .i64 l, .int .i64 t, .string (str U)] from rfl] at HA
  obtain ⟨vv, ev⟩ : ∃ v, vU U = v := ⟨_, rfl⟩
  simp only [ev] at HB HO
  clear ev
  have HLO := fun W => LOrder_any k i n s p q l t U W
  have HOr := fun W => Order_any i n s p q l t U W (by omega)
  have HMu := fun W => Must_any i n s p q l t U W (by omega)
  replace HB := Lib.hid HB
  replace HO := Lib.hid HO
  replace HA := Lib.hid HA
  replace HLO := Lib.hid HLO
  replace HOr := Lib.hid HOr
  replace HMu := Lib.hid HMu
  obtain ⟨j0, j1, j2, j3, j4, j5, j6, j7, j8⟩ := cmd_at C2.out
  go_wp2_with fail
  refine (HB.out _).mono ?_
  rintro e w3 ⟨rfl, b3⟩
  have C3 := Lib.hid ((b3.block cb (Array.getElem?_eq_some_iff.1 C2.out).1).trans C2.out)
  have B3 := Lib.hid (B2.out.trans (b3.mono B2.out.size))
  clear b3 B2 C2
  clear j0 j1 j2 j3 j4 j5 j6 j7 j8 HB
  go_upto_region 3 with (fail)
  obtain ⟨w4, ew⟩ : ∃ W, w3.alloc (.cells #[.iface tv vv] 39) = W := ⟨_, rfl⟩
  obtain ⟨vb, eb⟩ : ∃ x, w3.heap.size = x := ⟨_, rfl⟩
  have C4 : Hid (w4.heap[cb]? = some (.cells #[.int .i64 k, .int .i64 i, .int .i64 n, .int .i64 s, .int .i64 p, .int .i64 q, .int .i64 l, .int .i64 t, .string (str U)] 23 (0, 0))) := Lib.hid (by rw [← ew]; exact (heap_alloc_old _ _ (Array.getElem?_eq_some_iff.1 C3.out).1).trans C3.out)
  have V4 : Hid (w4.heap[vb]? = some (.cells #[.iface tv vv] 39 (0, 0))) := Lib.hid (by rw [← ew, ← eb]; exact heap_alloc_new w3 _)
  have B4 : Hid (Below w.heap.size w w4) := Lib.hid (by rw [← ew]; exact B3.out.alloc B3.out.size _)
  rw [ew, eb]
  clear ew eb B3 C3
  obtain ⟨j0, j1, j2, j3, j4, j5, j6, j7, j8⟩ := cmd_at C4.out
  have v0 : w4.cell? ⟨vb, 0, none⟩ = some (.iface tv vv) := by rw [Lib.cell_of_heap V4.out]; rfl
  go_wp2_with fail
  refine (HO.out _).mono ?_
  rintro e w5 ⟨rfl, b5⟩
  have C5 := Lib.hid ((b5.block cb (Array.getElem?_eq_some_iff.1 C4.out).1).trans C4.out)
  have V5 := Lib.hid ((b5.block vb (Array.getElem?_eq_some_iff.1 V4.out).1).trans V4.out)
  have B5 := Lib.hid (B4.out.trans (b5.mono B4.out.size))
  clear b5 B4 C4 V4
  clear j0 j1 j2 j3 j4 j5 j6 j7 j8 v0 HO V5
  go_upto_region 7 with (fail)
  obtain ⟨w6, ew⟩ : ∃ W, w5.alloc (.cells #[.int .i64 K, .int .i64 I, .int .i64 N, .int .i64 Z, .int .i64 P, .int .i64 Q, .int .i64 G, .int .i64 T, .string (str M)] 23) = W := ⟨_, rfl⟩
  obtain ⟨xb, eb⟩ : ∃ x, w5.heap.size = x := ⟨_, rfl⟩
  have C6 : Hid (w6.heap[cb]? = some (.cells #[.int .i64 k, .int .i64 i, .int .i64 n, .int .i64 s, .int .i64 p, .int .i64 q, .int .i64 l, .int .i64 t, .string (str U)] 23 (0, 0))) := Lib.hid (by rw [← ew]; exact (heap_alloc_old _ _ (Array.getElem?_eq_some_iff.1 C5.out).1).trans C5.out)
  have X6 : Hid (w6.heap[xb]? = some (.cells #[.int .i64 K, .int .i64 I, .int .i64 N, .int .i64 Z, .int .i64 P, .int .i64 Q, .int .i64 G, .int .i64 T, .string (str M)] 23 (0, 0))) := Lib.hid (by rw [← ew, ← eb]; exact heap_alloc_new w5 _)
  have B6 : Hid (Below w.heap.size w w6) := Lib.hid (by rw [← ew]; exact B5.out.alloc B5.out.size _)
  rw [ew, eb]
  clear ew eb B5 C5
  obtain ⟨j0, j1, j2, j3, j4, j5, j6, j7, j8⟩ := cmd_at C6.out
  go_wp2_with fail
  refine (HLO.out _).mono ?_
  rintro e w7 ⟨rfl, b7⟩
  have C7 := Lib.hid ((b7.block cb (Array.getElem?_eq_some_iff.1 C6.out).1).trans C6.out)
  have X7 := Lib.hid ((b7.block xb (Array.getElem?_eq_some_iff.1 X6.out).1).trans X6.out)
  have B7 := Lib.hid (B6.out.trans (b7.mono B6.out.size))
  clear b7 B6 C6 X6
  clear j0 j1 j2 j3 j4 j5 j6 j7 j8
  go_wp2_with fail
  refine (HOr.out _).mono ?_
  rintro e w8 ⟨rfl, b8⟩
  have C8 := Lib.hid ((b8.block cb (Array.getElem?_eq_some_iff.1 C7.out).1).trans C7.out)
  have X8 := Lib.hid ((b8.block xb (Array.getElem?_eq_some_iff.1 X7.out).1).trans X7.out)
  have B8 := Lib.hid (B7.out.trans (b8.mono B7.out.size))
  clear b8 B7 C7 X7
  go_wp2_with fail
  refine (Of_order i n s p q l t U _ (by omega)).mono ?_
  rintro e w9 ⟨rfl, b9⟩
  have C9 := Lib.hid ((b9.block cb (Array.getElem?_eq_some_iff.1 C8.out).1).trans C8.out)
  have X9 := Lib.hid ((b9.block xb (Array.getElem?_eq_some_iff.1 X8.out).1).trans X8.out)
  have B9 := Lib.hid (B8.out.trans (b9.mono B8.out.size))
  clear b9 B8 C8 X8
  go_upto_region 8 with (fail)
  obtain ⟨w10, ew⟩ : ∃ W, w9.alloc (.cells #[.int .i64 1, .int .i64 i, .int .i64 n, .int .i64 s, .int .i64 p, .int .i64 q, .int .i64 l, .int .i64 t, .string (str U)] 23) = W := ⟨_, rfl⟩
  obtain ⟨ob, eb⟩ : ∃ x, w9.heap.size = x := ⟨_, rfl⟩
  have C10 : Hid (w10.heap[cb]? = some (.cells #[.int .i64 k, .int .i64 i, .int .i64 n, .int .i64 s, .int .i64 p, .int .i64 q, .int .i64 l, .int .i64 t, .string (str U)] 23 (0, 0))) := Lib.hid (by rw [← ew]; exact (heap_alloc_old _ _ (Array.getElem?_eq_some_iff.1 C9.out).1).trans C9.out)
  have X10 : Hid (w10.heap[xb]? = some (.cells #[.int .i64 K, .int .i64 I, .int .i64 N, .int .i64 Z, .int .i64 P, .int .i64 Q, .int .i64 G, .int .i64 T, .string (str M)] 23 (0, 0))) := Lib.hid (by rw [← ew]; exact (heap_alloc_old _ _ (Array.getElem?_eq_some_iff.1 X9.out).1).trans X9.out)
  have O10 : Hid (w10.heap[ob]? = some (.cells #[.int .i64 1, .int .i64 i, .int .i64 n, .int .i64 s, .int .i64 p, .int .i64 q, .int .i64 l, .int .i64 t, .string (str U)] 23 (0, 0))) := Lib.hid (by rw [← ew, ← eb]; exact heap_alloc_new w9 _)
  have B10 : Hid (Below w.heap.size w w10) := Lib.hid (by rw [← ew]; exact B9.out.alloc B9.out.size _)
  rw [ew, eb]
  clear ew eb B9 C9 X9
  go_wp2_with fail
  refine (Withdrawal_any id _).mono ?_
  rintro e w11 ⟨rfl, b11⟩
  have C11 := Lib.hid ((b11.block cb (Array.getElem?_eq_some_iff.1 C10.out).1).trans C10.out)
  have X11 := Lib.hid ((b11.block xb (Array.getElem?_eq_some_iff.1 X10.out).1).trans X10.out)
  have O11 := Lib.hid ((b11.block ob (Array.getElem?_eq_some_iff.1 O10.out).1).trans O10.out)
  have B11 := Lib.hid (B10.out.trans (b11.mono B10.out.size))
  clear b11 B10 C10 X10 O10
  go_wp2_with fail
  refine (Of_withdrawal id _).mono ?_
  rintro e w12 ⟨rfl, b12⟩
  have C12 := Lib.hid ((b12.block cb (Array.getElem?_eq_some_iff.1 C11.out).1).trans C11.out)
  have X12 := Lib.hid ((b12.block xb (Array.getElem?_eq_some_iff.1 X11.out).1).trans X11.out)
  have O12 := Lib.hid ((b12.block ob (Array.getElem?_eq_some_iff.1 O11.out).1).trans O11.out)
  have B12 := Lib.hid (B11.out.trans (b12.mono B11.out.size))
  clear b12 B11 C11 X11 O11
  go_upto_region 9 with (fail)
  obtain ⟨w13, ew⟩ : ∃ W, w12.alloc (.cells #[.int .i64 2, .int .i64 id, .int .i64 0, .int .i64 0, .int .i64 0, .int .i64 0, .int .i64 0, .int .i64 0, .string (str [])] 23) = W := ⟨_, rfl⟩
  obtain ⟨wb, eb⟩ : ∃ x, w12.heap.size = x := ⟨_, rfl⟩
  have C13 : Hid (w13.heap[cb]? = some (.cells #[.int .i64 k, .int .i64 i, .int .i64 n, .int .i64 s, .int .i64 p, .int .i64 q, .int .i64 l, .int .i64 t, .string (str U)] 23 (0, 0))) := Lib.hid (by rw [← ew]; exact (heap_alloc_old _ _ (Array.getElem?_eq_some_iff.1 C12.out).1).trans C12.out)
  have X13 : Hid (w13.heap[xb]? = some (.cells #[.int .i64 K, .int .i64 I, .int .i64 N, .int .i64 Z, .int .i64 P, .int .i64 Q, .int .i64 G, .int .i64 T, .string (str M)] 23 (0, 0))) := Lib.hid (by rw [← ew]; exact (heap_alloc_old _ _ (Array.getElem?_eq_some_iff.1 X12.out).1).trans X12.out)
  have O13 : Hid (w13.heap[ob]? = some (.cells #[.int .i64 1, .int .i64 i, .int .i64 n, .int .i64 s, .int .i64 p, .int .i64 q, .int .i64 l, .int .i64 t, .string (str U)] 23 (0, 0))) := Lib.hid (by rw [← ew]; exact (heap_alloc_old _ _ (Array.getElem?_eq_some_iff.1 O12.out).1).trans O12.out)
  have W13 : Hid (w13.heap[wb]? = some (.cells #[.int .i64 2, .int .i64 id, .int .i64 0, .int .i64 0, .int .i64 0, .int .i64 0, .int .i64 0, .int .i64 0, .string (str [])] 23 (0, 0))) := Lib.hid (by rw [← ew, ← eb]; exact heap_alloc_new w12 _)
  have B13 : Hid (Below w.heap.size w w13) := Lib.hid (by rw [← ew]; exact B12.out.alloc B12.out.size _)
  rw [ew, eb]
  clear ew eb B12 C12 X12 O12
  go_wp2_with fail
  refine (VCut_any id qt _).mono ?_
  rintro e w14 ⟨rfl, b14⟩
  have C14 := Lib.hid ((b14.block cb (Array.getElem?_eq_some_iff.1 C13.out).1).trans C13.out)
  have X14 := Lib.hid ((b14.block xb (Array.getElem?_eq_some_iff.1 X13.out).1).trans X13.out)
  have O14 := Lib.hid ((b14.block ob (Array.getElem?_eq_some_iff.1 O13.out).1).trans O13.out)
  have W14 := Lib.hid ((b14.block wb (Array.getElem?_eq_some_iff.1 W13.out).1).trans W13.out)
  have B14 := Lib.hid (B13.out.trans (b14.mono B13.out.size))
  clear b14 B13 C13 X13 O13 W13
  go_wp2_with fail
  refine (Of_cut id qt _).mono ?_
  rintro e w15 ⟨rfl, b15⟩
  have C15 := Lib.hid ((b15.block cb (Array.getElem?_eq_some_iff.1 C14.out).1).trans C14.out)
  have X15 := Lib.hid ((b15.block xb (Array.getElem?_eq_some_iff.1 X14.out).1).trans X14.out)
  have O15 := Lib.hid ((b15.block ob (Array.getElem?_eq_some_iff.1 O14.out).1).trans O14.out)
  have W15 := Lib.hid ((b15.block wb (Array.getElem?_eq_some_iff.1 W14.out).1).trans W14.out)
  have B15 := Lib.hid (B14.out.trans (b15.mono B14.out.size))
  clear b15 B14 C14 X14 O14 W14
  go_upto_region 10 with (fail)
  obtain ⟨w16, ew⟩ : ∃ W, w15.alloc (.cells #[.int .i64 3, .int .i64 id, .int .i64 0, .int .i64 0, .int .i64 0, .int .i64 qt, .int .i64 0, .int .i64 0, .string (str [])] 23) = W := ⟨_, rfl⟩
  obtain ⟨yb, eb⟩ : ∃ x, w15.heap.size = x := ⟨_, rfl⟩
  have C16 : Hid (w16.heap[cb]? = some (.cells #[.int .i64 k, .int .i64 i, .int .i64 n, .int .i64 s, .int .i64 p, .int .i64 q, .int .i64 l, .int .i64 t, .string (str U)] 23 (0, 0))) := Lib.hid (by rw [← ew]; exact (heap_alloc_old _ _ (Array.getElem?_eq_some_iff.1 C15.out).1).trans C15.out)
  have X16 : Hid (w16.heap[xb]? = some (.cells #[.int .i64 K, .int .i64 I, .int .i64 N, .int .i64 Z, .int .i64 P, .int .i64 Q, .int .i64 G, .int .i64 T, .string (str M)] 23 (0, 0))) := Lib.hid (by rw [← ew]; exact (heap_alloc_old _ _ (Array.getElem?_eq_some_iff.1 X15.out).1).trans X15.out)
  have O16 : Hid (w16.heap[ob]? = some (.cells #[.int .i64 1, .int .i64 i, .int .i64 n, .int .i64 s, .int .i64 p, .int .i64 q, .int .i64 l, .int .i64 t, .string (str U)] 23 (0, 0))) := Lib.hid (by rw [← ew]; exact (heap_alloc_old _ _ (Array.getElem?_eq_some_iff.1 O15.out).1).trans O15.out)
  have W16 : Hid (w16.heap[wb]? = some (.cells #[.int .i64 2, .int .i64 id, .int .i64 0, .int .i64 0, .int .i64 0, .int .i64 0, .int .i64 0, .int .i64 0, .string (str [])] 23 (0, 0))) := Lib.hid (by rw [← ew]; exact (heap_alloc_old _ _ (Array.getElem?_eq_some_iff.1 W15.out).1).trans W15.out)
  have Y16 : Hid (w16.heap[yb]? = some (.cells #[.int .i64 3, .int .i64 id, .int .i64 0, .int .i64 0, .int .i64 0, .int .i64 qt, .int .i64 0, .int .i64 0, .string (str [])] 23 (0, 0))) := Lib.hid (by rw [← ew, ← eb]; exact heap_alloc_new w15 _)
  have B16 : Hid (Below w.heap.size w w16) := Lib.hid (by rw [← ew]; exact B15.out.alloc B15.out.size _)
  rw [ew, eb]
  clear ew eb B15 C15 X15 O15 W15
  go_wp2_with fail
  refine (Change_any id pr qt _).mono ?_
  rintro e w17 ⟨rfl, b17⟩
  have C17 := Lib.hid ((b17.block cb (Array.getElem?_eq_some_iff.1 C16.out).1).trans C16.out)
  have X17 := Lib.hid ((b17.block xb (Array.getElem?_eq_some_iff.1 X16.out).1).trans X16.out)
  have O17 := Lib.hid ((b17.block ob (Array.getElem?_eq_some_iff.1 O16.out).1).trans O16.out)
  have W17 := Lib.hid ((b17.block wb (Array.getElem?_eq_some_iff.1 W16.out).1).trans W16.out)
  have Y17 := Lib.hid ((b17.block yb (Array.getElem?_eq_some_iff.1 Y16.out).1).trans Y16.out)
  have B17 := Lib.hid (B16.out.trans (b17.mono B16.out.size))
  clear b17 B16 C16 X16 O16 W16 Y16
  go_wp2_with fail
  refine (Of_change id pr qt _).mono ?_
  rintro e w18 ⟨rfl, b18⟩
  have C18 := Lib.hid ((b18.block cb (Array.getElem?_eq_some_iff.1 C17.out).1).trans C17.out)
  have X18 := Lib.hid ((b18.block xb (Array.getElem?_eq_some_iff.1 X17.out).1).trans X17.out)
  have O18 := Lib.hid ((b18.block ob (Array.getElem?_eq_some_iff.1 O17.out).1).trans O17.out)
  have W18 := Lib.hid ((b18.block wb (Array.getElem?_eq_some_iff.1 W17.out).1).trans W17.out)
  have Y18 := Lib.hid ((b18.block yb (Array.getElem?_eq_some_iff.1 Y17.out).1).trans Y17.out)
  have B18 := Lib.hid (B17.out.trans (b18.mono B17.out.size))
  clear b18 B17 C17 X17 O17 W17 Y17
  go_upto_region 11 with (fail)
  obtain ⟨w19, ew⟩ : ∃ W, w18.alloc (.cells #[.int .i64 4, .int .i64 id, .int .i64 0, .int .i64 0, .int .i64 pr, .int .i64 qt, .int .i64 0, .int .i64 0, .string (str [])] 23) = W := ⟨_, rfl⟩
  obtain ⟨hb, eb⟩ : ∃ x, w18.heap.size = x := ⟨_, rfl⟩
  have C19 : Hid (w19.heap[cb]? = some (.cells #[.int .i64 k, .int .i64 i, .int .i64 n, .int .i64 s, .int .i64 p, .int .i64 q, .int .i64 l, .int .i64 t, .string (str U)] 23 (0, 0))) := Lib.hid (by rw [← ew]; exact (heap_alloc_old _ _ (Array.getElem?_eq_some_iff.1 C18.out).1).trans C18.out)
  have X19 : Hid (w19.heap[xb]? = some (.cells #[.int .i64 K, .int .i64 I, .int .i64 N, .int .i64 Z, .int .i64 P, .int .i64 Q, .int .i64 G, .int .i64 T, .string (str M)] 23 (0, 0))) := Lib.hid (by rw [← ew]; exact (heap_alloc_old _ _ (Array.getElem?_eq_some_iff.1 X18.out).1).trans X18.out)
  have O19 : Hid (w19.heap[ob]? = some (.cells #[.int .i64 1, .int .i64 i, .int .i64 n, .int .i64 s, .int .i64 p, .int .i64 q, .int .i64 l, .int .i64 t, .string (str U)] 23 (0, 0))) := Lib.hid (by rw [← ew]; exact (heap_alloc_old _ _ (Array.getElem?_eq_some_iff.1 O18.out).1).trans O18.out)
  have W19 : Hid (w19.heap[wb]? = some (.cells #[.int .i64 2, .int .i64 id, .int .i64 0, .int .i64 0, .int .i64 0, .int .i64 0, .int .i64 0, .int .i64 0, .string (str [])] 23 (0, 0))) := Lib.hid (by rw [← ew]; exact (heap_alloc_old _ _ (Array.getElem?_eq_some_iff.1 W18.out).1).trans W18.out)
  have Y19 : Hid (w19.heap[yb]? = some (.cells #[.int .i64 3, .int .i64 id, .int .i64 0, .int .i64 0, .int .i64 0, .int .i64 qt, .int .i64 0, .int .i64 0, .string (str [])] 23 (0, 0))) := Lib.hid (by rw [← ew]; exact (heap_alloc_old _ _ (Array.getElem?_eq_some_iff.1 Y18.out).1).trans Y18.out)
  have H19 : Hid (w19.heap[hb]? = some (.cells #[.int .i64 4, .int .i64 id, .int .i64 0, .int .i64 0, .int .i64 pr, .int .i64 qt, .int .i64 0, .int .i64 0, .string (str [])] 23 (0, 0))) := Lib.hid (by rw [← ew, ← eb]; exact heap_alloc_new w18 _)
  have B19 : Hid (Below w.heap.size w w19) := Lib.hid (by rw [← ew]; exact B18.out.alloc B18.out.size _)
  rw [ew, eb]
  clear ew eb B18 C18 X18 O18 W18 Y18
  obtain ⟨j0, j1, j2, j3, j4, j5, j6, j7, j8⟩ := cmd_at C19.out
  go_upto_region 13 with (fail)
  obtain ⟨w20, ew⟩ : ∃ W, w19.alloc (.cells #[.int .i64 1, .int .i64 i, .int .i64 n, .int .i64 s, .int .i64 p, .int .i64 q, .int .i64 l, .int .i64 t, .string (str U)] 23) = W := ⟨_, rfl⟩
  obtain ⟨db, eb⟩ : ∃ x, w19.heap.size = x := ⟨_, rfl⟩
  have C20 : Hid (w20.heap[cb]? = some (.cells #[.int .i64 k, .int .i64 i, .int .i64 n, .int .i64 s, .int .i64 p, .int .i64 q, .int .i64 l, .int .i64 t, .string (str U)] 23 (0, 0))) := Lib.hid (by rw [← ew]; exact (heap_alloc_old _ _ (Array.getElem?_eq_some_iff.1 C19.out).1).trans C19.out)
  have X20 : Hid (w20.heap[xb]? = some (.cells #[.int .i64 K, .int .i64 I, .int .i64 N, .int .i64 Z, .int .i64 P, .int .i64 Q, .int .i64 G, .int .i64 T, .string (str M)] 23 (0, 0))) := Lib.hid (by rw [← ew]; exact (heap_alloc_old _ _ (Array.getElem?_eq_some_iff.1 X19.out).1).trans X19.out)
  have O20 : Hid (w20.heap[ob]? = some (.cells #[.int .i64 1, .int .i64 i, .int .i64 n, .int .i64 s, .int .i64 p, .int .i64 q, .int .i64 l, .int .i64 t, .string (str U)] 23 (0, 0))) := Lib.hid (by rw [← ew]; exact (heap_alloc_old _ _ (Array.getElem?_eq_some_iff.1 O19.out).1).trans O19.out)
  have W20 : Hid (w20.heap[wb]? = some (.cells #[.int .i64 2, .int .i64 id, .int .i64 0, .int .i64 0, .int .i64 0, .int .i64 0, .int .i64 0, .int .i64 0, .string (str [])] 23 (0, 0))) := Lib.hid (by rw [← ew]; exact (heap_alloc_old _ _ (Array.getElem?_eq_some_iff.1 W19.out).1).trans W19.out)
  have Y20 : Hid (w20.heap[yb]? = some (.cells #[.int .i64 3, .int .i64 id, .int .i64 0, .int .i64 0, .int .i64 0, .int .i64 qt, .int .i64 0, .int .i64 0, .string (str [])] 23 (0, 0))) := Lib.hid (by rw [← ew]; exact (heap_alloc_old _ _ (Array.getElem?_eq_some_iff.1 Y19.out).1).trans Y19.out)
  have H20 : Hid (w20.heap[hb]? = some (.cells #[.int .i64 4, .int .i64 id, .int .i64 0, .int .i64 0, .int .i64 pr, .int .i64 qt, .int .i64 0, .int .i64 0, .string (str [])] 23 (0, 0))) := Lib.hid (by rw [← ew]; exact (heap_alloc_old _ _ (Array.getElem?_eq_some_iff.1 H19.out).1).trans H19.out)
  have D20 : Hid (w20.heap[db]? = some (.cells #[.int .i64 1, .int .i64 i, .int .i64 n, .int .i64 s, .int .i64 p, .int .i64 q, .int .i64 l, .int .i64 t, .string (str U)] 23 (0, 0))) := Lib.hid (by rw [← ew, ← eb]; exact heap_alloc_new w19 _)
  have B20 : Hid (Below w.heap.size w w20) := Lib.hid (by rw [← ew]; exact B19.out.alloc B19.out.size _)
  rw [ew, eb]
  clear ew eb B19 C19 X19 O19 W19 Y19 H19
  clear j0 j1 j2 j3 j4 j5 j6 j7 j8
  have nil0 := str_none
  have hof : Hid (∀ W : World, Below w20.heap.size w20 W → (fun W : World => W.cell? ⟨cb, 0, none⟩ = some (.int .i64 k) ∧ W.cell? ⟨cb, 1, none⟩ = some (.int .i64 i) ∧ W.cell? ⟨cb, 2, none⟩ = some (.int .i64 n) ∧ W.cell? ⟨cb, 3, none⟩ = some (.int .i64 s) ∧ W.cell? ⟨cb, 4, none⟩ = some (.int .i64 p) ∧ W.cell? ⟨cb, 5, none⟩ = some (.int .i64 q) ∧ W.cell? ⟨cb, 6, none⟩ = some (.int .i64 l) ∧ W.cell? ⟨cb, 7, none⟩ = some (.int .i64 t) ∧ W.cell? ⟨cb, 8, none⟩ = some (.string (str U)) ∧ W.cell? ⟨xb, 0, none⟩ = some (.int .i64 K) ∧ W.cell? ⟨xb, 1, none⟩ = some (.int .i64 I) ∧ W.cell? ⟨xb, 2, none⟩ = some (.int .i64 N) ∧ W.cell? ⟨xb, 3, none⟩ = some (.int .i64 Z) ∧ W.cell? ⟨xb, 4, none⟩ = some (.int .i64 P) ∧ W.cell? ⟨xb, 5, none⟩ = some (.int .i64 Q) ∧ W.cell? ⟨xb, 6, none⟩ = some (.int .i64 G) ∧ W.cell? ⟨xb, 7, none⟩ = some (.int .i64 T) ∧ W.cell? ⟨xb, 8, none⟩ = some (.string (str M)) ∧ W.cell? ⟨ob, 0, none⟩ = some (.int .i64 1) ∧ W.cell? ⟨ob, 1, none⟩ = some (.int .i64 i) ∧ W.cell? ⟨ob, 2, none⟩ = some (.int .i64 n) ∧ W.cell? ⟨ob, 3, none⟩ = some (.int .i64 s) ∧ W.cell? ⟨ob, 4, none⟩ = some (.int .i64 p) ∧ W.cell? ⟨ob, 5, none⟩ = some (.int .i64 q) ∧ W.cell? ⟨ob, 6, none⟩ = some (.int .i64 l) ∧ W.cell? ⟨ob, 7, none⟩ = some (.int .i64 t) ∧ W.cell? ⟨ob, 8, none⟩ = some (.string (str U)) ∧ W.cell? ⟨wb, 0, none⟩ = some (.int .i64 2) ∧ W.cell? ⟨wb, 1, none⟩ = some (.int .i64 id) ∧ W.cell? ⟨wb, 2, none⟩ = some (.int .i64 0) ∧ W.cell? ⟨wb, 3, none⟩ = some (.int .i64 0) ∧ W.cell? ⟨wb, 4, none⟩ = some (.int .i64 0) ∧ W.cell? ⟨wb, 5, none⟩ = some (.int .i64 0) ∧ W.cell? ⟨wb, 6, none⟩ = some (.int .i64 0) ∧ W.cell? ⟨wb, 7, none⟩ = some (.int .i64 0) ∧ W.cell? ⟨wb, 8, none⟩ = some (.string (str [])) ∧ W.cell? ⟨yb, 0, none⟩ = some (.int .i64 3) ∧ W.cell? ⟨yb, 1, none⟩ = some (.int .i64 id) ∧ W.cell? ⟨yb, 2, none⟩ = some (.int .i64 0) ∧ W.cell? ⟨yb, 3, none⟩ = some (.int .i64 0) ∧ W.cell? ⟨yb, 4, none⟩ = some (.int .i64 0) ∧ W.cell? ⟨yb, 5, none⟩ = some (.int .i64 qt) ∧ W.cell? ⟨yb, 6, none⟩ = some (.int .i64 0) ∧ W.cell? ⟨yb, 7, none⟩ = some (.int .i64 0) ∧ W.cell? ⟨yb, 8, none⟩ = some (.string (str [])) ∧ W.cell? ⟨hb, 0, none⟩ = some (.int .i64 4) ∧ W.cell? ⟨hb, 1, none⟩ = some (.int .i64 id) ∧ W.cell? ⟨hb, 2, none⟩ = some (.int .i64 0) ∧ W.cell? ⟨hb, 3, none⟩ = some (.int .i64 0) ∧ W.cell? ⟨hb, 4, none⟩ = some (.int .i64 pr) ∧ W.cell? ⟨hb, 5, none⟩ = some (.int .i64 qt) ∧ W.cell? ⟨hb, 6, none⟩ = some (.int .i64 0) ∧ W.cell? ⟨hb, 7, none⟩ = some (.int .i64 0) ∧ W.cell? ⟨hb, 8, none⟩ = some (.string (str [])) ∧ W.cell? ⟨db, 0, none⟩ = some (.int .i64 1) ∧ W.cell? ⟨db, 1, none⟩ = some (.int .i64 i) ∧ W.cell? ⟨db, 2, none⟩ = some (.int .i64 n) ∧ W.cell? ⟨db, 3, none⟩ = some (.int .i64 s) ∧ W.cell? ⟨db, 4, none⟩ = some (.int .i64 p) ∧ W.cell? ⟨db, 5, none⟩ = some (.int .i64 q) ∧ W.cell? ⟨db, 6, none⟩ = some (.int .i64 l) ∧ W.cell? ⟨db, 7, none⟩ = some (.int .i64 t) ∧ W.cell? ⟨db, 8, none⟩ = some (.string (str U))) W) := Lib.hid (fun W b => by
    obtain ⟨c_0, c_1, c_2, c_3, c_4, c_5, c_6, c_7, c_8⟩ := cmd_at ((b.block cb (Array.getElem?_eq_some_iff.1 C20.out).1).trans C20.out)
    obtain ⟨x_0, x_1, x_2, x_3, x_4, x_5, x_6, x_7, x_8⟩ := cmd_at ((b.block xb (Array.getElem?_eq_some_iff.1 X20.out).1).trans X20.out)
    obtain ⟨o_0, o_1, o_2, o_3, o_4, o_5, o_6, o_7, o_8⟩ := cmd_at ((b.block ob (Array.getElem?_eq_some_iff.1 O20.out).1).trans O20.out)
    obtain ⟨w_0, w_1, w_2, w_3, w_4, w_5, w_6, w_7, w_8⟩ := cmd_at ((b.block wb (Array.getElem?_eq_some_iff.1 W20.out).1).trans W20.out)
    obtain ⟨y_0, y_1, y_2, y_3, y_4, y_5, y_6, y_7, y_8⟩ := cmd_at ((b.block yb (Array.getElem?_eq_some_iff.1 Y20.out).1).trans Y20.out)
    obtain ⟨h_0, h_1, h_2, h_3, h_4, h_5, h_6, h_7, h_8⟩ := cmd_at ((b.block hb (Array.getElem?_eq_some_iff.1 H20.out).1).trans H20.out)
    obtain ⟨d_0, d_1, d_2, d_3, d_4, d_5, d_6, d_7, d_8⟩ := cmd_at ((b.block db (Array.getElem?_eq_some_iff.1 D20.out).1).trans D20.out)
    exact ⟨c_0, c_1, c_2, c_3, c_4, c_5, c_6, c_7, c_8, x_0, x_1, x_2, x_3, x_4, x_5, x_6, x_7, x_8, o_0, o_1, o_2, o_3, o_4, o_5, o_6, o_7, o_8, w_0, w_1, w_2, w_3, w_4, w_5, w_6, w_7, w_8, y_0, y_1, y_2, y_3, y_4, y_5, y_6, y_7, y_8, h_0, h_1, h_2, h_3, h_4, h_5, h_6, h_7, h_8, d_0, d_1, d_2, d_3, d_4, d_5, d_6, d_7, d_8⟩)
  have hz0 := hof.out _ ((Below.refl w20.heap.size w20).drew)
  (try simp only at hz0)
  go_wp2_with fail
  go_region_held3 (fun W : World => W.cell? ⟨cb, 0, none⟩ = some (.int .i64 k) ∧ W.cell? ⟨cb, 1, none⟩ = some (.int .i64 i) ∧ W.cell? ⟨cb, 2, none⟩ = some (.int .i64 n) ∧ W.cell? ⟨cb, 3, none⟩ = some (.int .i64 s) ∧ W.cell? ⟨cb, 4, none⟩ = some (.int .i64 p) ∧ W.cell? ⟨cb, 5, none⟩ = some (.int .i64 q) ∧ W.cell? ⟨cb, 6, none⟩ = some (.int .i64 l) ∧ W.cell? ⟨cb, 7, none⟩ = some (.int .i64 t) ∧ W.cell? ⟨cb, 8, none⟩ = some (.string (str U)) ∧ W.cell? ⟨xb, 0, none⟩ = some (.int .i64 K) ∧ W.cell? ⟨xb, 1, none⟩ = some (.int .i64 I) ∧ W.cell? ⟨xb, 2, none⟩ = some (.int .i64 N) ∧ W.cell? ⟨xb, 3, none⟩ = some (.int .i64 Z) ∧ W.cell? ⟨xb, 4, none⟩ = some (.int .i64 P) ∧ W.cell? ⟨xb, 5, none⟩ = some (.int .i64 Q) ∧ W.cell? ⟨xb, 6, none⟩ = some (.int .i64 G) ∧ W.cell? ⟨xb, 7, none⟩ = some (.int .i64 T) ∧ W.cell? ⟨xb, 8, none⟩ = some (.string (str M)) ∧ W.cell? ⟨ob, 0, none⟩ = some (.int .i64 1) ∧ W.cell? ⟨ob, 1, none⟩ = some (.int .i64 i) ∧ W.cell? ⟨ob, 2, none⟩ = some (.int .i64 n) ∧ W.cell? ⟨ob, 3, none⟩ = some (.int .i64 s) ∧ W.cell? ⟨ob, 4, none⟩ = some (.int .i64 p) ∧ W.cell? ⟨ob, 5, none⟩ = some (.int .i64 q) ∧ W.cell? ⟨ob, 6, none⟩ = some (.int .i64 l) ∧ W.cell? ⟨ob, 7, none⟩ = some (.int .i64 t) ∧ W.cell? ⟨ob, 8, none⟩ = some (.string (str U)) ∧ W.cell? ⟨wb, 0, none⟩ = some (.int .i64 2) ∧ W.cell? ⟨wb, 1, none⟩ = some (.int .i64 id) ∧ W.cell? ⟨wb, 2, none⟩ = some (.int .i64 0) ∧ W.cell? ⟨wb, 3, none⟩ = some (.int .i64 0) ∧ W.cell? ⟨wb, 4, none⟩ = some (.int .i64 0) ∧ W.cell? ⟨wb, 5, none⟩ = some (.int .i64 0) ∧ W.cell? ⟨wb, 6, none⟩ = some (.int .i64 0) ∧ W.cell? ⟨wb, 7, none⟩ = some (.int .i64 0) ∧ W.cell? ⟨wb, 8, none⟩ = some (.string (str [])) ∧ W.cell? ⟨yb, 0, none⟩ = some (.int .i64 3) ∧ W.cell? ⟨yb, 1, none⟩ = some (.int .i64 id) ∧ W.cell? ⟨yb, 2, none⟩ = some (.int .i64 0) ∧ W.cell? ⟨yb, 3, none⟩ = some (.int .i64 0) ∧ W.cell? ⟨yb, 4, none⟩ = some (.int .i64 0) ∧ W.cell? ⟨yb, 5, none⟩ = some (.int .i64 qt) ∧ W.cell? ⟨yb, 6, none⟩ = some (.int .i64 0) ∧ W.cell? ⟨yb, 7, none⟩ = some (.int .i64 0) ∧ W.cell? ⟨yb, 8, none⟩ = some (.string (str [])) ∧ W.cell? ⟨hb, 0, none⟩ = some (.int .i64 4) ∧ W.cell? ⟨hb, 1, none⟩ = some (.int .i64 id) ∧ W.cell? ⟨hb, 2, none⟩ = some (.int .i64 0) ∧ W.cell? ⟨hb, 3, none⟩ = some (.int .i64 0) ∧ W.cell? ⟨hb, 4, none⟩ = some (.int .i64 pr) ∧ W.cell? ⟨hb, 5, none⟩ = some (.int .i64 qt) ∧ W.cell? ⟨hb, 6, none⟩ = some (.int .i64 0) ∧ W.cell? ⟨hb, 7, none⟩ = some (.int .i64 0) ∧ W.cell? ⟨hb, 8, none⟩ = some (.string (str [])) ∧ W.cell? ⟨db, 0, none⟩ = some (.int .i64 1) ∧ W.cell? ⟨db, 1, none⟩ = some (.int .i64 i) ∧ W.cell? ⟨db, 2, none⟩ = some (.int .i64 n) ∧ W.cell? ⟨db, 3, none⟩ = some (.int .i64 s) ∧ W.cell? ⟨db, 4, none⟩ = some (.int .i64 p) ∧ W.cell? ⟨db, 5, none⟩ = some (.int .i64 q) ∧ W.cell? ⟨db, 6, none⟩ = some (.int .i64 l) ∧ W.cell? ⟨db, 7, none⟩ = some (.int .i64 t) ∧ W.cell? ⟨db, 8, none⟩ = some (.string (str U))) (first | with_reducible assumption | with_reducible exact hz0)
    (first
     | (go_at_call 21; (with_reducible refine (LKnown_any u5).mono ?_); rintro e u6 ⟨rfl, v6⟩; have G6 := (G5.out).trans (v6.mono (G5.out).size); have z6 := hof.out _ G6; replace G6 := Lib.hid G6)
     | (go_at_call 19; (with_reducible refine (HLO.out u4).mono ?_); rintro e u5 ⟨rfl, v5⟩; have G5 := (G4.out).trans (v5.mono (G4.out).size); have z5 := hof.out _ G5; replace G5 := Lib.hid G5)
     | (go_at_call 20; (with_reducible refine (HMu.out u3).mono ?_); rintro e u4 ⟨rfl, v4⟩; have G4 := (G3.out).trans (v4.mono (G3.out).size); have z4 := hof.out _ G4; replace G4 := Lib.hid G4)
     | (go_at_call 18; (with_reducible refine (HOr.out u2).mono ?_); rintro e u3 ⟨rfl, v3⟩; have G3 := (G2.out).trans (v3.mono (G2.out).size); have z3 := hof.out _ G3; replace G3 := Lib.hid G3)
     | (go_at_call 19; (with_reducible refine (HLO.out u1).mono ?_); rintro e u2 ⟨rfl, v2⟩; have G2 := (G1.out).trans (v2.mono (G1.out).size); have z2 := hof.out _ G2; replace G2 := Lib.hid G2)
     | (go_at_call 26; (with_reducible refine (HA.out _).mono ?_); rintro e u1 ⟨rfl, v1⟩; have G1 := (((Below.refl w20.heap.size w20).drew)).trans (v1.mono (((Below.refl w20.heap.size w20).drew)).size); have z1 := hof.out _ G1; replace G1 := Lib.hid G1))
  have B99 := Lib.hid (B20.out.trans (G6.out.mono B20.out.size))
  clear hz0 hof z1 z2 z3 z4 z5 z6
  go_wp2_with fail
  go_ret
  exact ⟨rfl, B99.out⟩
theorem Types_walk (k i n s p q l t : Int) (S : List UInt8) (id pr qt : Int) (w : World) :
    Calls Try.prog 5 #[.agg #[.int .i64 k, .int .i64 i, .int .i64 n, .int .i64 s, .int .i64 p, .int .i64 q, .int .i64 l, .int .i64 t, .string (str S)], .int .i64 id, .int .i64 pr, .int .i64 qt] w fun e w' => e = .returned (.bool true) ∧ Below w.heap.size w w' := by
  by_cases hl : k < 1
  · exact Types_low k i n s p q l t S id pr qt w hl
  by_cases hh : 4 < k
  · exact Types_high k i n s p q l t S id pr qt w (by omega) hh
  have h0 : k = 1 ∨ k = 2 ∨ k = 3 ∨ k = 4 := by omega
  rcases h0 with rfl | rfl | rfl | rfl
  · exact Types_in 1 i n s p q l t S id pr qt 48 (fun U => (.agg #[.int .i64 i, .int .i64 n, .int .i64 s, .int .i64 p, .int .i64 q, .int .i64 l, .int .i64 t, .string (str U)])) w (by omega) (by omega) (fun U hU W => Back_1 i n s p q l t U W (by omega))
      (fun U hU W => by
        rw [show askedC ⟨1, i, n, s, p, q, l, t, U⟩ = ⟨1, i, n, s, p, q, l, t, U⟩ by simp [askedC]]
        exact Of_order i n s p q l t U W (by omega))
  · exact Types_in 2 i n s p q l t S id pr qt 58 (fun U => (.agg #[.int .i64 i])) w (by omega) (by omega) (fun U hU W => Back_2 i n s p q l t U W (by omega))
      (fun U hU W => by
        rw [show askedC ⟨2, i, n, s, p, q, l, t, U⟩ = ⟨2, i, 0, 0, 0, 0, 0, 0, []⟩ by simp [askedC]]
        exact Of_withdrawal i W)
  · exact Types_in 3 i n s p q l t S id pr qt 42 (fun U => (.agg #[.int .i64 i, .int .i64 q])) w (by omega) (by omega) (fun U hU W => Back_3 i n s p q l t U W (by omega))
      (fun U hU W => by
        rw [show askedC ⟨3, i, n, s, p, q, l, t, U⟩ = ⟨3, i, 0, 0, 0, q, 0, 0, []⟩ by simp [askedC]]
        exact Of_cut i q W)
  · exact Types_in 4 i n s p q l t S id pr qt 45 (fun U => (.agg #[.int .i64 i, .int .i64 p, .int .i64 q])) w (by omega) (by omega) (fun U hU W => Back_4 i n s p q l t U W (by omega))
      (fun U hU W => by
        rw [show askedC ⟨4, i, n, s, p, q, l, t, U⟩ = ⟨4, i, 0, 0, p, q, 0, 0, []⟩ by simp [askedC]]
        exact Of_change i p q W)
end Go.Proofs.Ytdbaphmhfoajgaa
