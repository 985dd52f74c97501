/-
  CommandSizes, its walk where the Kind is 2.
-/
import Derived.Test.YtdbaphmhfoajgaaCmdSizes0
import Derived.Deep.RegionHeld3
import Derived.RegionTactic
namespace Go.Proofs.Ytdbaphmhfoajgaa
open Go.RowKit
set_option linter.unusedVariables false
set_option linter.unusedSimpArgs false

set_option maxRecDepth 100000 in
set_option maxHeartbeats 1000000 in
theorem Sizes_bad (k i n s p q l t k' i' n' s' p' q' l' t' : Int) (S S' : List UInt8) (w : World) (kb : I64 k) (ib : I64 i) (nb : I64 n) (sb : I64 s) (pb : I64 p) (qb : I64 q) (lb : I64 l) (tb : I64 t) (hE : ∀ U : List UInt8, S.take 60 = U → C.right ⟨k, i, n, s, p, q, l, t, U⟩ ≠ 0) :
    Calls Try.prog 8 #[.agg #[.int .i64 k, .int .i64 i, .int .i64 n, .int .i64 s, .int .i64 p, .int .i64 q, .int .i64 l, .int .i64 t, .string (str S)], .agg #[.int .i64 k', .int .i64 i', .int .i64 n', .int .i64 s', .int .i64 p', .int .i64 q', .int .i64 l', .int .i64 t', .string (str S')]] w fun e w' => e = .returned (.bool true) ∧ Below w.heap.size w w' := by
  have hE := Lib.hid (hE _ rfl)
  go_enter Try.func8, Try.ntmps8
  go_wp2_with fail
  obtain ⟨w0, ew⟩ : ∃ W, ((w.alloc (.cells #[.int .i64 k, .int .i64 i, .int .i64 n, .int .i64 s, .int .i64 p, .int .i64 q, .int .i64 l, .int .i64 t, .string (str S)] 23)).alloc (.cells #[.int .i64 k', .int .i64 i', .int .i64 n', .int .i64 s', .int .i64 p', .int .i64 q', .int .i64 l', .int .i64 t', .string (str S')] 23)) = W := ⟨_, rfl⟩
  obtain ⟨cb, ecb⟩ : ∃ cb, w.heap.size = cb := ⟨_, rfl⟩
  obtain ⟨ob, eob⟩ : ∃ ob, cb + 1 = ob := ⟨_, rfl⟩
  have hcb : w.heap.size ≤ cb := by omega
  have hob : w.heap.size ≤ ob := by omega
  have hne : cb ≠ ob := by omega
  have B0 : Hid (Below w.heap.size w w0) := Lib.hid (by rw [← ew]; exact ((Below.refl _ w).alloc (Nat.le_refl _) _).alloc (by simp) _)
  have C0 : Hid (w0.heap[cb]? = some (.cells #[.int .i64 k, .int .i64 i, .int .i64 n, .int .i64 s, .int .i64 p, .int .i64 q, .int .i64 l, .int .i64 t, .string (str S)] 23 (0, 0))) := Lib.hid (by rw [← ew, ← ecb]; exact (heap_alloc_old _ _ (by simp)).trans (heap_alloc_new w _))
  have D0 : Hid (w0.heap[ob]? = some (.cells #[.int .i64 k', .int .i64 i', .int .i64 n', .int .i64 s', .int .i64 p', .int .i64 q', .int .i64 l', .int .i64 t', .string (str S')] 23 (0, 0))) := Lib.hid (by rw [← ew, ← eob, ← ecb]; exact heap_alloc2_new w _ _)
  rw [ew, ecb, eob]
  clear ew ecb eob
  refine (LShort_any k i n s p q l t S w0).mono ?_
  rintro e w1 ⟨rfl, b1⟩
  have hU := take60 S
  obtain ⟨U, eU⟩ : ∃ U, S.take 60 = U := ⟨_, rfl⟩
  rw [eU] at hU hE ⊢
  clear eU
  have C1 := (b1.block cb (Array.getElem?_eq_some_iff.1 C0.out).1).trans C0.out
  have D1 := Lib.hid ((b1.block ob (Array.getElem?_eq_some_iff.1 D0.out).1).trans D0.out)
  obtain ⟨fr0, fr1, fr2, fr3, fr4, fr5, fr6, fr7, fr8, m0, m1, m2, m3, m4, m5, m6, m7, m8⟩ := block9 C1
  replace C1 := Lib.hid C1
  have B1 := Lib.hid (B0.out.trans (b1.mono B0.out.size))
  clear b1 B0 C0 D0
  go_upto_region 2 with (fail)
  rw [set9 _ _ _ _ _ _ _ _ _ C1.out]
  have C2 : Hid ((w1.setRow cb #[.int .i64 k, .int .i64 i, .int .i64 n, .int .i64 s, .int .i64 p, .int .i64 q, .int .i64 l, .int .i64 t, .string (str U)]).heap[cb]? = some (.cells #[.int .i64 k, .int .i64 i, .int .i64 n, .int .i64 s, .int .i64 p, .int .i64 q, .int .i64 l, .int .i64 t, .string (str U)] 23 (0, 0))) := Lib.hid (setRow_heap _ _ _ _ _ _ C1.out)
  have D2 : Hid ((w1.setRow cb #[.int .i64 k, .int .i64 i, .int .i64 n, .int .i64 s, .int .i64 p, .int .i64 q, .int .i64 l, .int .i64 t, .string (str U)]).heap[ob]? = some (.cells #[.int .i64 k', .int .i64 i', .int .i64 n', .int .i64 s', .int .i64 p', .int .i64 q', .int .i64 l', .int .i64 t', .string (str S')] 23 (0, 0))) := Lib.hid ((setRow_other w1 cb ob _ (fun e => hne (by first | exact e | exact e.symm))).trans D1.out)
  have B2 : Hid (Below w.heap.size w (w1.setRow cb #[.int .i64 k, .int .i64 i, .int .i64 n, .int .i64 s, .int .i64 p, .int .i64 q, .int .i64 l, .int .i64 t, .string (str U)])) := Lib.hid (below_setRow B1.out hcb _)
  obtain ⟨w2, ew⟩ : ∃ W, w1.setRow cb #[.int .i64 k, .int .i64 i, .int .i64 n, .int .i64 s, .int .i64 p, .int .i64 q, .int .i64 l, .int .i64 t, .string (str U)] = W := ⟨_, rfl⟩
  rw [ew] at C2 D2 B2 ⊢
  clear ew C1 B1 D1 fr0 fr1 fr2 fr3 fr4 fr5 fr6 fr7 fr8 m0 m1 m2 m3 m4 m5 m6 m7 m8
  have hu := fun W => PEncode_any ⟨k, i, n, s, p, q, l, t, U⟩ W (show C.Ok ⟨k, i, n, s, p, q, l, t, U⟩ from ⟨kb, ib, nb, sb, pb, qb, lb, tb, fun _ => Nat.le_trans hU (by omega)⟩)
  rw [encR_no hE.out] at hu
  obtain ⟨E, eE⟩ : ∃ E, C.right ⟨k, i, n, s, p, q, l, t, U⟩ = E := ⟨_, rfl⟩
  simp only [eE] at hu
  rw [eE] at hE
  rw [show (C.val ⟨k, i, n, s, p, q, l, t, U⟩) = .agg #[.int .i64 k, .int .i64 i, .int .i64 n, .int .i64 s, .int .i64 p, .int .i64 q, .int .i64 l, .int .i64 t, .string (str U)] from rfl] at hu
  replace hu := Lib.hid hu
  clear eE
  have i1 : ((E : Int) != 0) = true := by have := hE.out; simp; omega
  obtain ⟨j0, j1, j2, j3, j4, j5, j6, j7, j8⟩ := cmd_at C2.out
  go_wp2_with fail
  refine (hu.out w2).mono ?_
  rintro e w3 ⟨r1, rfl, R1, b3⟩
  have B3 := Lib.hid (B2.out.trans (b3.mono B2.out.size))
  obtain ⟨A1, n1, c1, rfl, en1, S1⟩ := R1.src (by simp)
  obtain rfl : n1 = 0 := en1
  clear b3 R1 S1 j0 j1 j2 j3 j4 j5 j6 j7 j8 C2 D2 B2
  go_wp2_with fail
  refine (LKnown_any _).mono ?_
  rintro e wd ⟨rfl, bd⟩
  have Bd := Lib.hid (B3.out.trans (bd.mono B3.out.size))
  go_wp2_with fail
  go_ret
  exact ⟨rfl, Bd.out⟩
set_option maxRecDepth 100000 in
set_option maxHeartbeats 1000000 in
theorem Sizes_2 (i n s p q l t k' i' n' s' p' q' l' t' : Int) (S S' : List UInt8) (w : World) (kb : I64 2) (ib : I64 i) (nb : I64 n) (sb : I64 s) (pb : I64 p) (qb : I64 q) (lb : I64 l) (tb : I64 t) (kc : I64 k') (ic : I64 i') (nc : I64 n') (sc : I64 s') (pc : I64 p') (qc : I64 q') (lc : I64 l') (tc : I64 t') (hE : ∀ U : List UInt8, S.take 60 = U → C.right ⟨2, i, n, s, p, q, l, t, U⟩ = 0) :
    Calls Try.prog 8 #[.agg #[.int .i64 2, .int .i64 i, .int .i64 n, .int .i64 s, .int .i64 p, .int .i64 q, .int .i64 l, .int .i64 t, .string (str S)], .agg #[.int .i64 k', .int .i64 i', .int .i64 n', .int .i64 s', .int .i64 p', .int .i64 q', .int .i64 l', .int .i64 t', .string (str S')]] w fun e w' => e = .returned (.bool true) ∧ Below w.heap.size w w' := by
  have hE := Lib.hid (hE _ rfl)
  go_enter Try.func8, Try.ntmps8
  go_wp2_with fail
  obtain ⟨w0, ew⟩ : ∃ W, ((w.alloc (.cells #[.int .i64 2, .int .i64 i, .int .i64 n, .int .i64 s, .int .i64 p, .int .i64 q, .int .i64 l, .int .i64 t, .string (str S)] 23)).alloc (.cells #[.int .i64 k', .int .i64 i', .int .i64 n', .int .i64 s', .int .i64 p', .int .i64 q', .int .i64 l', .int .i64 t', .string (str S')] 23)) = W := ⟨_, rfl⟩
  obtain ⟨cb, ecb⟩ : ∃ cb, w.heap.size = cb := ⟨_, rfl⟩
  obtain ⟨ob, eob⟩ : ∃ ob, cb + 1 = ob := ⟨_, rfl⟩
  have hcb : w.heap.size ≤ cb := by omega
  have hob : w.heap.size ≤ ob := by omega
  have hne : cb ≠ ob := by omega
  have B0 : Hid (Below w.heap.size w w0) := Lib.hid (by rw [← ew]; exact ((Below.refl _ w).alloc (Nat.le_refl _) _).alloc (by simp) _)
  have C0 : Hid (w0.heap[cb]? = some (.cells #[.int .i64 2, .int .i64 i, .int .i64 n, .int .i64 s, .int .i64 p, .int .i64 q, .int .i64 l, .int .i64 t, .string (str S)] 23 (0, 0))) := Lib.hid (by rw [← ew, ← ecb]; exact (heap_alloc_old _ _ (by simp)).trans (heap_alloc_new w _))
  have D0 : Hid (w0.heap[ob]? = some (.cells #[.int .i64 k', .int .i64 i', .int .i64 n', .int .i64 s', .int .i64 p', .int .i64 q', .int .i64 l', .int .i64 t', .string (str S')] 23 (0, 0))) := Lib.hid (by rw [← ew, ← eob, ← ecb]; exact heap_alloc2_new w _ _)
  rw [ew, ecb, eob]
  clear ew ecb eob
  refine (LShort_any 2 i n s p q l t S w0).mono ?_
  rintro e w1 ⟨rfl, b1⟩
  have hU := take60 S
  obtain ⟨U, eU⟩ : ∃ U, S.take 60 = U := ⟨_, rfl⟩
  rw [eU] at hU hE ⊢
  clear eU
  have C1 := (b1.block cb (Array.getElem?_eq_some_iff.1 C0.out).1).trans C0.out
  have D1 := Lib.hid ((b1.block ob (Array.getElem?_eq_some_iff.1 D0.out).1).trans D0.out)
  obtain ⟨fr0, fr1, fr2, fr3, fr4, fr5, fr6, fr7, fr8, m0, m1, m2, m3, m4, m5, m6, m7, m8⟩ := block9 C1
  replace C1 := Lib.hid C1
  have B1 := Lib.hid (B0.out.trans (b1.mono B0.out.size))
  clear b1 B0 C0 D0
  go_upto_region 2 with (fail)
  rw [set9 _ _ _ _ _ _ _ _ _ C1.out]
  have C2 : Hid ((w1.setRow cb #[.int .i64 2, .int .i64 i, .int .i64 n, .int .i64 s, .int .i64 p, .int .i64 q, .int .i64 l, .int .i64 t, .string (str U)]).heap[cb]? = some (.cells #[.int .i64 2, .int .i64 i, .int .i64 n, .int .i64 s, .int .i64 p, .int .i64 q, .int .i64 l, .int .i64 t, .string (str U)] 23 (0, 0))) := Lib.hid (setRow_heap _ _ _ _ _ _ C1.out)
  have D2 : Hid ((w1.setRow cb #[.int .i64 2, .int .i64 i, .int .i64 n, .int .i64 s, .int .i64 p, .int .i64 q, .int .i64 l, .int .i64 t, .string (str U)]).heap[ob]? = some (.cells #[.int .i64 k', .int .i64 i', .int .i64 n', .int .i64 s', .int .i64 p', .int .i64 q', .int .i64 l', .int .i64 t', .string (str S')] 23 (0, 0))) := Lib.hid ((setRow_other w1 cb ob _ (fun e => hne (by first | exact e | exact e.symm))).trans D1.out)
  have B2 : Hid (Below w.heap.size w (w1.setRow cb #[.int .i64 2, .int .i64 i, .int .i64 n, .int .i64 s, .int .i64 p, .int .i64 q, .int .i64 l, .int .i64 t, .string (str U)])) := Lib.hid (below_setRow B1.out hcb _)
  obtain ⟨w2, ew⟩ : ∃ W, w1.setRow cb #[.int .i64 2, .int .i64 i, .int .i64 n, .int .i64 s, .int .i64 p, .int .i64 q, .int .i64 l, .int .i64 t, .string (str U)] = W := ⟨_, rfl⟩
  rw [ew] at C2 D2 B2 ⊢
  clear ew C1 B1 D1 fr0 fr1 fr2 fr3 fr4 fr5 fr6 fr7 fr8 m0 m1 m2 m3 m4 m5 m6 m7 m8
  have hsm := same_2 i n s p q l t n' s' p' q' l' t' U S'
  have hlen := enc_len_2 i n s p q l t U
  have hp := fun W => PEncode_any ⟨2, i, n, s, p, q, l, t, U⟩ W (show C.Ok ⟨2, i, n, s, p, q, l, t, U⟩ from ⟨kb, ib, nb, sb, pb, qb, lb, tb, fun _ => Nat.le_trans hU (by omega)⟩)
  have hd := fun W => PEncode_any ⟨2, i, n', s', p', q', l', t', S'⟩ W (show C.Ok ⟨2, i, n', s', p', q', l', t', S'⟩ from ⟨kb, ib, nc, sc, pc, qc, lc, tc, fun h => absurd (show ((2 : Nat) : Int) = 1 from h) (by decide)⟩)
  rw [hsm.1, hsm.2] at hd
  rw [hE.out, encR_yes hE.out] at hp hd
  clear hsm
  obtain ⟨X, eX⟩ : ∃ X, encC ⟨2, i, n, s, p, q, l, t, U⟩ = X := ⟨_, rfl⟩
  rw [eX] at hlen
  simp only [eX] at hp hd
  obtain ⟨hl1, hl2⟩ := hlen
  rw [show (C.val ⟨2, i, n, s, p, q, l, t, U⟩) = .agg #[.int .i64 2, .int .i64 i, .int .i64 n, .int .i64 s, .int .i64 p, .int .i64 q, .int .i64 l, .int .i64 t, .string (str U)] from rfl] at hp
  rw [show (C.val ⟨2, i, n', s', p', q', l', t', S'⟩) = .agg #[.int .i64 2, .int .i64 i, .int .i64 n', .int .i64 s', .int .i64 p', .int .i64 q', .int .i64 l', .int .i64 t', .string (str S')] from rfl] at hd
  replace hp := Lib.hid hp
  replace hd := Lib.hid hd
  clear eX hE
  obtain ⟨j0, j1, j2, j3, j4, j5, j6, j7, j8⟩ := cmd_at C2.out
  go_wp2_with fail
  refine (hp.out w2).mono ?_
  rintro e w3 ⟨r1, rfl, R1, b3⟩
  have C3 := Lib.hid ((b3.block cb (Array.getElem?_eq_some_iff.1 C2.out).1).trans C2.out)
  have D3 := Lib.hid ((b3.block ob (Array.getElem?_eq_some_iff.1 D2.out).1).trans D2.out)
  have B3 := Lib.hid (B2.out.trans (b3.mono B2.out.size))
  clear b3 hp j0 j1 j2 j3 j4 j5 j6 j7 j8 C2 D2 B2
  obtain ⟨A1, n1, c1, rfl, en1, S1⟩ := R1.src (by omega)
  obtain ⟨g, rfl, hg⟩ := rb_first' R1 (by omega)
  replace R1 := Lib.hid R1
  replace S1 := Lib.hid S1
  obtain ⟨j0, j1, j2, j3, j4, j5, j6, j7, j8⟩ := cmd_at C3.out
  obtain ⟨o0, o1, o2, o3, o4, o5, o6, o7, o8⟩ := cmd_at D3.out
  go_upto_region 7 with (fail)
  clear o0 o1 o2 o3 o4 o5 o6 o7 o8
  obtain ⟨w4, ew⟩ : ∃ W, w3.alloc (.cells #[.int .i64 k', .int .i64 i', .int .i64 n', .int .i64 s', .int .i64 p', .int .i64 q', .int .i64 l', .int .i64 t', .string (str S')] 23) = W := ⟨_, rfl⟩
  obtain ⟨db, edb⟩ : ∃ b, w3.heap.size = b := ⟨_, rfl⟩
  have hdc : cb ≠ db := by have := (Array.getElem?_eq_some_iff.1 C3.out).1; omega
  have hdw : w.heap.size ≤ db := by have := B3.out.size; omega
  have C4 : Hid (w4.heap[cb]? = some (.cells #[.int .i64 2, .int .i64 i, .int .i64 n, .int .i64 s, .int .i64 p, .int .i64 q, .int .i64 l, .int .i64 t, .string (str U)] 23 (0, 0))) := Lib.hid (by rw [← ew]; exact (heap_alloc_old _ _ (Array.getElem?_eq_some_iff.1 C3.out).1).trans C3.out)
  have E4 : Hid (w4.heap[db]? = some (.cells #[.int .i64 k', .int .i64 i', .int .i64 n', .int .i64 s', .int .i64 p', .int .i64 q', .int .i64 l', .int .i64 t', .string (str S')] 23 (0, 0))) := Lib.hid (by rw [← ew, ← edb]; exact heap_alloc_new w3 _)
  have B4 : Hid (Below w.heap.size w w4) := Lib.hid (by rw [← ew]; exact B3.out.alloc B3.out.size _)
  have V4 : Hid (Below w3.heap.size w3 w4) := Lib.hid (by rw [← ew]; exact (Below.refl _ w3).alloc (Nat.le_refl _) _)
  have hdb : w3.heap.size ≤ db := by omega
  rw [ew, edb]
  clear ew edb C3 D3 B3 j0 j1 j2 j3 j4 j5 j6 j7 j8
  obtain ⟨j0, j1, j2, j3, j4, j5, j6, j7, j8⟩ := cmd_at C4.out
  obtain ⟨f0, f1, f2, f3, f4, f5, f6, f7, f8, o0, o1, o2, o3, o4, o5, o6, o7, o8⟩ := block9 E4.out
  go_region
  have E5 : Hid ((((w4.setCell ⟨db, 0, none⟩ (.int .i64 2)).setCell ⟨db, 1, none⟩ (.int .i64 i)).drew).heap[db]? = some (.cells #[.int .i64 2, .int .i64 i, .int .i64 n', .int .i64 s', .int .i64 p', .int .i64 q', .int .i64 l', .int .i64 t', .string (str S')] 23 (0, 0))) := Lib.hid (heap_setCell_same (w4.setCell ⟨db, 0, none⟩ (.int .i64 2)) db 1 _ _ (.int .i64 i) (heap_setCell_same w4 db 0 _ _ (.int .i64 2) E4.out))
  have Q5 : Hid (Only (fun b => b = db) w4 (((w4.setCell ⟨db, 0, none⟩ (.int .i64 2)).setCell ⟨db, 1, none⟩ (.int .i64 i)).drew)) := Lib.hid (((set_only w4 db 0 (.int .i64 2)).trans (set_only _ db 1 (.int .i64 i))).drewN 1)
  obtain ⟨w5, ew⟩ : ∃ W, ((w4.setCell ⟨db, 0, none⟩ (.int .i64 2)).setCell ⟨db, 1, none⟩ (.int .i64 i)).drew = W := ⟨_, rfl⟩
  rw [ew] at E5 Q5 ⊢
  have C5 := Lib.hid ((Q5.out.block cb (Array.getElem?_eq_some_iff.1 C4.out).1 hdc).trans C4.out)
  have B5 := Lib.hid (B4.out.trans (Q5.out.below B4.out.size (fun b hb e => by have e : b = db := e; omega)))
  have V5 := Lib.hid (V4.out.trans (Q5.out.below V4.out.size (fun b hb e => by have e : b = db := e; omega)))
  clear ew Q5 E4 C4 B4 V4 j0 j1 j2 j3 j4 j5 j6 j7 j8 f0 f1 f2 f3 f4 f5 f6 f7 f8 o0 o1 o2 o3 o4 o5 o6 o7 o8
  obtain ⟨j0, j1, j2, j3, j4, j5, j6, j7, j8⟩ := cmd_at C5.out
  obtain ⟨f0, f1, f2, f3, f4, f5, f6, f7, f8, o0, o1, o2, o3, o4, o5, o6, o7, o8⟩ := block9 E5.out
  go_upto_region 18 with (fail)
  have w6 := w5
  have E6 := E5
  have C6 := C5
  have B6 := B5
  have V6 := V5
  clear w6
  clear E5 C5 B5 V5 j0 j1 j2 j3 j4 j5 j6 j7 j8 f0 f1 f2 f3 f4 f5 f6 f7 f8 o0 o1 o2 o3 o4 o5 o6 o7 o8
  obtain ⟨o0, o1, o2, o3, o4, o5, o6, o7, o8⟩ := cmd_at E6.out
  go_wp2_with fail
  refine (hd.out _).mono ?_
  rintro e w7 ⟨r2, rfl, R2, b7⟩
  have C7 := Lib.hid ((b7.block cb (Array.getElem?_eq_some_iff.1 C6.out).1).trans C6.out)
  have B7 := Lib.hid (B6.out.trans (b7.mono B6.out.size))
  have V7 := Lib.hid (V6.out.trans (b7.mono V6.out.size))
  obtain ⟨A2, n2, c2, rfl, en2, S2⟩ := R2.src (by omega)
  replace R1 := Lib.hid (rb_keep R1.out V7.out)
  replace S1 := Lib.hid (S1.out.below V7.out)
  replace S2 := Lib.hid S2
  have hg0 := (rb_cell (show X.length = n1 by omega) R1.out 0 (by omega)).1
  rw [hl2] at hg0
  replace hg0 : w7.cell? ⟨g, 0, none⟩ = some (.int .u8 2) := hg0
  clear R2 b7 hd C6 B6 V6 E6 o0 o1 o2 o3 o4 o5 o6 o7 o8
  obtain rfl : n1 = 9 := by omega
  have hof : Hid (∀ W : World, Below w7.heap.size w7 W → (fun W : World => W.cell? ⟨cb, 0, none⟩ = some (.int .i64 2) ∧ W.cell? ⟨g, 0, none⟩ = some (.int .u8 2) ∧ (convert 27 9 (.slice (some ⟨g, 0, none⟩) 9 c1)).run Try.prog W = .ok (.string (str X)) W ∧ (convert 27 9 (.slice A2 n2 c2)).run Try.prog W = .ok (.string (str X)) W) W) := Lib.hid (fun W b =>
    ⟨(cmd_at ((b.block cb (Array.getElem?_eq_some_iff.1 C7.out).1).trans C7.out)).1, (b.cell (p := ⟨g, 0, none⟩) (World.block_lt_of_cell? _ _ hg0)).trans hg0, (S1.out.below b).str, (S2.out.below b).str⟩)
  have hz0 := hof.out _ ((Below.refl w7.heap.size w7).drew)
  clear hg0
  have hw1 : IntKind.i64.wrap 2 = 2 := by decide
  replace hl1 := Lib.hid hl1
  replace hl2 := Lib.hid hl2
  replace en1 := Lib.hid en1
  replace en2 := Lib.hid en2
  (try simp only at hz0)
  go_wp2_with fail
  go_region_held3 (fun W : World => W.cell? ⟨cb, 0, none⟩ = some (.int .i64 2) ∧ W.cell? ⟨g, 0, none⟩ = some (.int .u8 2) ∧ (convert 27 9 (.slice (some ⟨g, 0, none⟩) 9 c1)).run Try.prog W = .ok (.string (str X)) W ∧ (convert 27 9 (.slice A2 n2 c2)).run Try.prog W = .ok (.string (str X)) W) (first | with_reducible assumption | with_reducible exact hz0)
    ((go_at_call 21; refine (LKnown_any _).mono ?_; rintro e w8 ⟨rfl, b8⟩; have D8 := ((Below.refl w7.heap.size w7).drew).trans b8; have z8 := hof.out _ D8; replace D8 := Lib.hid D8))
  have B8 := Lib.hid (B7.out.trans (D8.out.mono B7.out.size))
  clear hz0 z8 D8
  go_wp2_with fail
  go_ret
  exact ⟨rfl, B8.out⟩
end Go.Proofs.Ytdbaphmhfoajgaa
