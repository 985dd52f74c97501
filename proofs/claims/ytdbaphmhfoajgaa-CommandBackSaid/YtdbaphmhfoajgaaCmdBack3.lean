/-
  CommandBack, its walks: both are right and ask the same.
-/
import Derived.Test.YtdbaphmhfoajgaaCmdBackA
import Derived.Deep.CutRange
import Derived.Deep.RegionHeld3
import Derived.RegionTactic
namespace Go.Proofs.Ytdbaphmhfoajgaa
open Go.RowKit
set_option linter.unusedVariables false
set_option linter.unusedSimpArgs false

set_option maxRecDepth 100000 in
set_option maxHeartbeats 2000000 in
theorem Back_same_y (k i n s p q l t k' i' n' s' p' q' l' t' : Int) (S S' : List UInt8) (A : Option Addr) (nb0 capb : Nat) (lbs : List UInt8) (w : World) (kb : I64 k) (ib : I64 i) (nb : I64 n) (sb : I64 s) (pb : I64 p) (qb : I64 q) (lb : I64 l) (tb : I64 t) (kc : I64 k') (ic : I64 i') (nc : I64 n') (sc : I64 s') (pc : I64 p') (qc : I64 q') (lc : I64 l') (tc : I64 t') (hA : Hid (Src w A nb0 capb lbs)) (hn : nb0 ≤ 140737488351232) (hE : ∀ U : List UInt8, S.take 60 = U → C.right ⟨k, i, n, s, p, q, l, t, U⟩ = 0) (hF : ∀ V : List UInt8, S'.take 60 = V → C.right ⟨k', i', n', s', p', q', l', t', V⟩ = 0) (hG : ∀ U V : List UInt8, S.take 60 = U → S'.take 60 = V → askedC ⟨k, i, n, s, p, q, l, t, U⟩ = askedC ⟨k', i', n', s', p', q', l', t', V⟩) (hg : Hid ((decC lbs).2 = 0)) :
    Calls Try.prog 6 #[.agg #[.int .i64 k, .int .i64 i, .int .i64 n, .int .i64 s, .int .i64 p, .int .i64 q, .int .i64 l, .int .i64 t, .string (str S)], .agg #[.int .i64 k', .int .i64 i', .int .i64 n', .int .i64 s', .int .i64 p', .int .i64 q', .int .i64 l', .int .i64 t', .string (str S')], .slice A nb0 capb] w fun e w' => e = .returned (.bool true) ∧ Below w.heap.size w w' := by
  have hE := Lib.hid (hE _ rfl)
  have hF := Lib.hid (hF _ rfl)
  have hG := Lib.hid (hG _ _ rfl rfl)
  go_enter Try.func6, Try.ntmps6
  go_wp2_with fail
  obtain ⟨w0, ew⟩ : ∃ W, ((w.alloc (.cells #[.int .i64 k, .int .i64 i, .int .i64 n, .int .i64 s, .int .i64 p, .int .i64 q, .int .i64 l, .int .i64 t, .string (str S)] 23)).alloc (.cells #[.int .i64 k', .int .i64 i', .int .i64 n', .int .i64 s', .int .i64 p', .int .i64 q', .int .i64 l', .int .i64 t', .string (str S')] 23)) = W := ⟨_, rfl⟩
  obtain ⟨cb, ecb⟩ : ∃ cb, w.heap.size = cb := ⟨_, rfl⟩
  obtain ⟨ob, eob⟩ : ∃ ob, cb + 1 = ob := ⟨_, rfl⟩
  have hcb : w.heap.size ≤ cb := by omega
  have hob : w.heap.size ≤ ob := by omega
  have hne : cb ≠ ob := by omega
  have B0 : Hid (Below w.heap.size w w0) := Lib.hid (by rw [← ew]; exact ((Below.refl _ w).alloc (Nat.le_refl _) _).alloc (by simp) _)
  have C0 : Hid (w0.heap[cb]? = some (.cells #[.int .i64 k, .int .i64 i, .int .i64 n, .int .i64 s, .int .i64 p, .int .i64 q, .int .i64 l, .int .i64 t, .string (str S)] 23 (0, 0))) := Lib.hid (by rw [← ew, ← ecb]; exact (heap_alloc_old _ _ (by simp)).trans (heap_alloc_new w _))
  have D0 : Hid (w0.heap[ob]? = some (.cells #[.int .i64 k', .int .i64 i', .int .i64 n', .int .i64 s', .int .i64 p', .int .i64 q', .int .i64 l', .int .i64 t', .string (str S')] 23 (0, 0))) := Lib.hid (by rw [← ew, ← eob, ← ecb]; exact heap_alloc2_new w _ _)
  rw [ew, ecb, eob]
  clear ew ecb eob
  refine (LShort_any k i n s p q l t S w0).mono ?_
  rintro e w1 ⟨rfl, b1⟩
  have hU := take60 S
  obtain ⟨U, eU⟩ : ∃ U, S.take 60 = U := ⟨_, rfl⟩
  rw [eU] at hU hE hG ⊢
  clear eU
  have C1 := (b1.block cb (Array.getElem?_eq_some_iff.1 C0.out).1).trans C0.out
  have D1 := Lib.hid ((b1.block ob (Array.getElem?_eq_some_iff.1 D0.out).1).trans D0.out)
  obtain ⟨fr0, fr1, fr2, fr3, fr4, fr5, fr6, fr7, fr8, m0, m1, m2, m3, m4, m5, m6, m7, m8⟩ := block9 C1
  replace C1 := Lib.hid C1
  have B1 := Lib.hid (B0.out.trans (b1.mono B0.out.size))
  clear b1 B0 C0 D0
  go_upto_region 2 with (fail)
  rw [set9 _ _ _ _ _ _ _ _ _ C1.out]
  have C2 : Hid ((w1.setRow cb #[.int .i64 k, .int .i64 i, .int .i64 n, .int .i64 s, .int .i64 p, .int .i64 q, .int .i64 l, .int .i64 t, .string (str U)]).heap[cb]? = some (.cells #[.int .i64 k, .int .i64 i, .int .i64 n, .int .i64 s, .int .i64 p, .int .i64 q, .int .i64 l, .int .i64 t, .string (str U)] 23 (0, 0))) := Lib.hid (setRow_heap _ _ _ _ _ _ C1.out)
  have D2 : Hid ((w1.setRow cb #[.int .i64 k, .int .i64 i, .int .i64 n, .int .i64 s, .int .i64 p, .int .i64 q, .int .i64 l, .int .i64 t, .string (str U)]).heap[ob]? = some (.cells #[.int .i64 k', .int .i64 i', .int .i64 n', .int .i64 s', .int .i64 p', .int .i64 q', .int .i64 l', .int .i64 t', .string (str S')] 23 (0, 0))) := Lib.hid ((setRow_other w1 cb ob _ (fun e => hne (by first | exact e | exact e.symm))).trans D1.out)
  have B2 : Hid (Below w.heap.size w (w1.setRow cb #[.int .i64 k, .int .i64 i, .int .i64 n, .int .i64 s, .int .i64 p, .int .i64 q, .int .i64 l, .int .i64 t, .string (str U)])) := Lib.hid (below_setRow B1.out hcb _)
  obtain ⟨w2, ew⟩ : ∃ W, w1.setRow cb #[.int .i64 k, .int .i64 i, .int .i64 n, .int .i64 s, .int .i64 p, .int .i64 q, .int .i64 l, .int .i64 t, .string (str U)] = W := ⟨_, rfl⟩
  rw [ew] at C2 D2 B2 ⊢
  clear ew C1 B1 D1 fr0 fr1 fr2 fr3 fr4 fr5 fr6 fr7 fr8 m0 m1 m2 m3 m4 m5 m6 m7 m8
  obtain ⟨o0, o1, o2, o3, o4, o5, o6, o7, o8⟩ := cmd_at D2.out
  go_wp2_with fail
  refine (LShort_any k' i' n' s' p' q' l' t' S' w2).mono ?_
  rintro e w3 ⟨rfl, b3⟩
  have hV := take60 S'
  obtain ⟨V, eV⟩ : ∃ V, S'.take 60 = V := ⟨_, rfl⟩
  rw [eV] at hV hF hG ⊢
  clear eV o0 o1 o2 o3 o4 o5 o6 o7 o8
  have C3 := Lib.hid ((b3.block cb (Array.getElem?_eq_some_iff.1 C2.out).1).trans C2.out)
  have D3 := Lib.hid ((b3.block ob (Array.getElem?_eq_some_iff.1 D2.out).1).trans D2.out)
  have B3 := Lib.hid (B2.out.trans (b3.mono B2.out.size))
  clear b3 C2 D2 B2
  obtain ⟨fr0, fr1, fr2, fr3, fr4, fr5, fr6, fr7, fr8, m0, m1, m2, m3, m4, m5, m6, m7, m8⟩ := block9 D3.out
  go_upto_region 3 with (fail)
  rw [set9 _ _ _ _ _ _ _ _ _ D3.out]
  have D4 : Hid ((w3.setRow ob #[.int .i64 k', .int .i64 i', .int .i64 n', .int .i64 s', .int .i64 p', .int .i64 q', .int .i64 l', .int .i64 t', .string (str V)]).heap[ob]? = some (.cells #[.int .i64 k', .int .i64 i', .int .i64 n', .int .i64 s', .int .i64 p', .int .i64 q', .int .i64 l', .int .i64 t', .string (str V)] 23 (0, 0))) := Lib.hid (setRow_heap _ _ _ _ _ _ D3.out)
  have C4 : Hid ((w3.setRow ob #[.int .i64 k', .int .i64 i', .int .i64 n', .int .i64 s', .int .i64 p', .int .i64 q', .int .i64 l', .int .i64 t', .string (str V)]).heap[cb]? = some (.cells #[.int .i64 k, .int .i64 i, .int .i64 n, .int .i64 s, .int .i64 p, .int .i64 q, .int .i64 l, .int .i64 t, .string (str U)] 23 (0, 0))) := Lib.hid ((setRow_other w3 ob cb _ (fun e => hne (by first | exact e | exact e.symm))).trans C3.out)
  have B4 : Hid (Below w.heap.size w (w3.setRow ob #[.int .i64 k', .int .i64 i', .int .i64 n', .int .i64 s', .int .i64 p', .int .i64 q', .int .i64 l', .int .i64 t', .string (str V)])) := Lib.hid (below_setRow B3.out hob _)
  obtain ⟨w4, ew⟩ : ∃ W, w3.setRow ob #[.int .i64 k', .int .i64 i', .int .i64 n', .int .i64 s', .int .i64 p', .int .i64 q', .int .i64 l', .int .i64 t', .string (str V)] = W := ⟨_, rfl⟩
  rw [ew] at C4 D4 B4 ⊢
  clear ew C3 B3 D3 fr0 fr1 fr2 fr3 fr4 fr5 fr6 fr7 fr8 m0 m1 m2 m3 m4 m5 m6 m7 m8
  have hp := fun W => PEncode_any ⟨k, i, n, s, p, q, l, t, U⟩ W (show C.Ok ⟨k, i, n, s, p, q, l, t, U⟩ from ⟨kb, ib, nb, sb, pb, qb, lb, tb, fun _ => Nat.le_trans hU (by omega)⟩)
  have hd := fun W => PEncode_any ⟨k', i', n', s', p', q', l', t', V⟩ W (show C.Ok ⟨k', i', n', s', p', q', l', t', V⟩ from ⟨kc, ic, nc, sc, pc, qc, lc, tc, fun _ => Nat.le_trans hV (by omega)⟩)
  have HP := fun W => PRight_any ⟨k, i, n, s, p, q, l, t, U⟩ W (fun _ => Nat.le_trans hU (by omega))
  rw [hE.out, encR_yes hE.out] at hp
  rw [hE.out] at HP
  obtain ⟨c1a, c1b⟩ := dec_of_enc (c := ⟨k, i, n, s, p, q, l, t, U⟩) ⟨ib, pb, qb, lb⟩ hU hE.out
  have hX := encC_len ⟨k, i, n, s, p, q, l, t, U⟩
  have HA := fun W => Asked_any ⟨k, i, n, s, p, q, l, t, U⟩ W
  have hxy := enc_same (c := ⟨k, i, n, s, p, q, l, t, U⟩) (d := ⟨k', i', n', s', p', q', l', t', V⟩) ⟨ib, pb, qb, lb⟩ ⟨ic, pc, qc, lc⟩ hU hV hE.out hF.out
  have HB := fun W => Asked_any ⟨k', i', n', s', p', q', l', t', V⟩ W
  rw [hF.out, encR_yes hF.out] at hd
  have hY := encC_len ⟨k', i', n', s', p', q', l', t', V⟩
  rw [← hxy.2 hG.out] at hd hY
  simp only [← hG.out] at HB
  clear hxy hG
  obtain ⟨X, eX⟩ : ∃ X, encC ⟨k, i, n, s, p, q, l, t, U⟩ = X := ⟨_, rfl⟩
  rw [eX] at c1a hX
  skip
  rw [eX] at hY
  simp only [eX] at hp
  simp only [eX] at hd
  obtain ⟨ac, eac⟩ : ∃ y, askedC ⟨k, i, n, s, p, q, l, t, U⟩ = y := ⟨_, rfl⟩
  rw [eac] at c1a
  simp only [eac] at HA
  skip
  simp only [eac] at HB
  clear eX eac c1b
  obtain ⟨K, I, N, Z, P, Q, G, T, M⟩ := ac
  rw [show (C.val ⟨K, I, N, Z, P, Q, G, T, M⟩) = .agg #[.int .i64 K, .int .i64 I, .int .i64 N, .int .i64 Z, .int .i64 P, .int .i64 Q, .int .i64 G, .int .i64 T, .string (str M)] from rfl] at HA
  rw [show (C.val ⟨K, I, N, Z, P, Q, G, T, M⟩) = .agg #[.int .i64 K, .int .i64 I, .int .i64 N, .int .i64 Z, .int .i64 P, .int .i64 Q, .int .i64 G, .int .i64 T, .string (str M)] from rfl] at HB
  rw [show (C.val ⟨k, i, n, s, p, q, l, t, U⟩) = .agg #[.int .i64 k, .int .i64 i, .int .i64 n, .int .i64 s, .int .i64 p, .int .i64 q, .int .i64 l, .int .i64 t, .string (str U)] from rfl] at HA
  rw [show (C.val ⟨k', i', n', s', p', q', l', t', V⟩) = .agg #[.int .i64 k', .int .i64 i', .int .i64 n', .int .i64 s', .int .i64 p', .int .i64 q', .int .i64 l', .int .i64 t', .string (str V)] from rfl] at HB
  replace HA := Lib.hid HA
  replace HB := Lib.hid HB
  replace c1a := Lib.hid c1a
  rw [show (C.val ⟨k, i, n, s, p, q, l, t, U⟩) = .agg #[.int .i64 k, .int .i64 i, .int .i64 n, .int .i64 s, .int .i64 p, .int .i64 q, .int .i64 l, .int .i64 t, .string (str U)] from rfl] at hp HP
  rw [show (C.val ⟨k', i', n', s', p', q', l', t', V⟩) = .agg #[.int .i64 k', .int .i64 i', .int .i64 n', .int .i64 s', .int .i64 p', .int .i64 q', .int .i64 l', .int .i64 t', .string (str V)] from rfl] at hd
  replace hp := Lib.hid hp
  replace hd := Lib.hid hd
  replace HP := Lib.hid HP
  obtain ⟨j0, j1, j2, j3, j4, j5, j6, j7, j8⟩ := cmd_at C4.out
  go_wp2_with fail
  refine (hp.out _).mono ?_
  rintro e w5 ⟨r1, rfl, R1, b5⟩
  have C5 := Lib.hid ((b5.block cb (Array.getElem?_eq_some_iff.1 C4.out).1).trans C4.out)
  have D5 := Lib.hid ((b5.block ob (Array.getElem?_eq_some_iff.1 D4.out).1).trans D4.out)
  have B5 := Lib.hid (B4.out.trans (b5.mono B4.out.size))
  clear b5 j0 j1 j2 j3 j4 j5 j6 j7 j8 hp C4 D4 B4
  obtain ⟨A1, n1, c1, rfl, en1, S1⟩ := R1.src (by first | simp | omega)
  replace S1 := Lib.hid S1
  replace en1 := Lib.hid en1
  clear R1
  obtain ⟨o0, o1, o2, o3, o4, o5, o6, o7, o8⟩ := cmd_at D5.out
  go_wp2_with fail
  refine (hd.out _).mono ?_
  rintro e w6 ⟨r2, rfl, R2, b6⟩
  have C6 := Lib.hid ((b6.block cb (Array.getElem?_eq_some_iff.1 C5.out).1).trans C5.out)
  have D6 := Lib.hid ((b6.block ob (Array.getElem?_eq_some_iff.1 D5.out).1).trans D5.out)
  have B6 := Lib.hid (B5.out.trans (b6.mono B5.out.size))
  replace S1 := Lib.hid (S1.out.below b6)
  clear b6 o0 o1 o2 o3 o4 o5 o6 o7 o8 hd C5 D5 B5
  obtain ⟨A2, n2, c2, rfl, en2, S2⟩ := R2.src (by omega)
  replace S2 := Lib.hid S2
  replace en2 := Lib.hid en2
  clear R2
  obtain ⟨j0, j1, j2, j3, j4, j5, j6, j7, j8⟩ := cmd_at C6.out
  go_wp2_with fail
  refine (HP.out _).mono ?_
  rintro e w7 ⟨rfl, b7⟩
  have C7 := Lib.hid ((b7.block cb (Array.getElem?_eq_some_iff.1 C6.out).1).trans C6.out)
  have D7 := Lib.hid ((b7.block ob (Array.getElem?_eq_some_iff.1 D6.out).1).trans D6.out)
  have B7 := Lib.hid (B6.out.trans (b7.mono B6.out.size))
  replace S1 := Lib.hid (S1.out.below b7)
  replace S2 := Lib.hid (S2.out.below b7)
  clear b7 j0 j1 j2 j3 j4 j5 j6 j7 j8 HP C6 D6 B6
  have hdx := PDecode_any A1 n1 c1 X w7 (by have := en1.out; omega) (Lib.hid S1.out.hb)
  rw [c1a.out, show (C.val ⟨K, I, N, Z, P, Q, G, T, M⟩) = .agg #[.int .i64 K, .int .i64 I, .int .i64 N, .int .i64 Z, .int .i64 P, .int .i64 Q, .int .i64 G, .int .i64 T, .string (str M)] from rfl] at hdx
  replace hdx := Lib.hid hdx
  go_wp2_with fail
  refine hdx.out.mono ?_
  rintro e w8 ⟨rfl, b8⟩
  have C8 := Lib.hid ((b8.block cb (Array.getElem?_eq_some_iff.1 C7.out).1).trans C7.out)
  have D8 := Lib.hid ((b8.block ob (Array.getElem?_eq_some_iff.1 D7.out).1).trans D7.out)
  have B8 := Lib.hid (B7.out.trans (b8.mono B7.out.size))
  replace S1 := Lib.hid (S1.out.below b8)
  replace S2 := Lib.hid (S2.out.below b8)
  clear b8 hdx C7 D7 B7
  go_upto_region 9 with (fail)
  obtain ⟨w9, ew⟩ : ∃ W, w8.alloc (.cells #[.int .i64 K, .int .i64 I, .int .i64 N, .int .i64 Z, .int .i64 P, .int .i64 Q, .int .i64 G, .int .i64 T, .string (str M)] 23) = W := ⟨_, rfl⟩
  obtain ⟨ab, eab⟩ : ∃ x, w8.heap.size = x := ⟨_, rfl⟩
  have b9 : Below w8.heap.size w8 w9 := by rw [← ew]; exact (Below.refl _ w8).alloc (Nat.le_refl _) _
  have C9 := Lib.hid ((b9.block cb (Array.getElem?_eq_some_iff.1 C8.out).1).trans C8.out)
  have D9 := Lib.hid ((b9.block ob (Array.getElem?_eq_some_iff.1 D8.out).1).trans D8.out)
  have B9 := Lib.hid (B8.out.trans (b9.mono B8.out.size))
  have A9 : Hid (w9.heap[ab]? = some (.cells #[.int .i64 K, .int .i64 I, .int .i64 N, .int .i64 Z, .int .i64 P, .int .i64 Q, .int .i64 G, .int .i64 T, .string (str M)] 23 (0, 0))) := Lib.hid (by rw [← ew, ← eab]; exact heap_alloc_new w8 _)
  replace S1 := Lib.hid (S1.out.below b9)
  replace S2 := Lib.hid (S2.out.below b9)
  rw [ew, eab]
  clear ew eab b9 C8 D8 B8
  have hof : Hid (∀ W : World, Below w9.heap.size w9 W → (fun W : World => W.cell? ⟨ab, 0, none⟩ = some (.int .i64 K) ∧ W.cell? ⟨ab, 1, none⟩ = some (.int .i64 I) ∧ W.cell? ⟨ab, 2, none⟩ = some (.int .i64 N) ∧ W.cell? ⟨ab, 3, none⟩ = some (.int .i64 Z) ∧ W.cell? ⟨ab, 4, none⟩ = some (.int .i64 P) ∧ W.cell? ⟨ab, 5, none⟩ = some (.int .i64 Q) ∧ W.cell? ⟨ab, 6, none⟩ = some (.int .i64 G) ∧ W.cell? ⟨ab, 7, none⟩ = some (.int .i64 T) ∧ W.cell? ⟨ab, 8, none⟩ = some (.string (str M)) ∧ W.cell? ⟨cb, 0, none⟩ = some (.int .i64 k) ∧ W.cell? ⟨cb, 1, none⟩ = some (.int .i64 i) ∧ W.cell? ⟨cb, 2, none⟩ = some (.int .i64 n) ∧ W.cell? ⟨cb, 3, none⟩ = some (.int .i64 s) ∧ W.cell? ⟨cb, 4, none⟩ = some (.int .i64 p) ∧ W.cell? ⟨cb, 5, none⟩ = some (.int .i64 q) ∧ W.cell? ⟨cb, 6, none⟩ = some (.int .i64 l) ∧ W.cell? ⟨cb, 7, none⟩ = some (.int .i64 t) ∧ W.cell? ⟨cb, 8, none⟩ = some (.string (str U)) ∧ W.cell? ⟨ob, 0, none⟩ = some (.int .i64 k') ∧ W.cell? ⟨ob, 1, none⟩ = some (.int .i64 i') ∧ W.cell? ⟨ob, 2, none⟩ = some (.int .i64 n') ∧ W.cell? ⟨ob, 3, none⟩ = some (.int .i64 s') ∧ W.cell? ⟨ob, 4, none⟩ = some (.int .i64 p') ∧ W.cell? ⟨ob, 5, none⟩ = some (.int .i64 q') ∧ W.cell? ⟨ob, 6, none⟩ = some (.int .i64 l') ∧ W.cell? ⟨ob, 7, none⟩ = some (.int .i64 t') ∧ W.cell? ⟨ob, 8, none⟩ = some (.string (str V)) ∧ (convert 27 9 (.slice A1 n1 c1)).run Try.prog W = .ok (.string (str X)) W ∧ (convert 27 9 (.slice A2 n2 c2)).run Try.prog W = .ok (.string (str X)) W) W) := Lib.hid (fun W b => by
    obtain ⟨a0, a1, a2, a3, a4, a5, a6, a7, a8⟩ := cmd_at ((b.block ab (Array.getElem?_eq_some_iff.1 A9.out).1).trans A9.out)
    obtain ⟨j0, j1, j2, j3, j4, j5, j6, j7, j8⟩ := cmd_at ((b.block cb (Array.getElem?_eq_some_iff.1 C9.out).1).trans C9.out)
    obtain ⟨o0, o1, o2, o3, o4, o5, o6, o7, o8⟩ := cmd_at ((b.block ob (Array.getElem?_eq_some_iff.1 D9.out).1).trans D9.out)
    exact ⟨a0, a1, a2, a3, a4, a5, a6, a7, a8, j0, j1, j2, j3, j4, j5, j6, j7, j8, o0, o1, o2, o3, o4, o5, o6, o7, o8, (S1.out.below b).str, (S2.out.below b).str⟩)
  have hz0 := hof.out _ ((Below.refl w9.heap.size w9).drew)
  (try simp only at hz0)
  go_wp2_with fail
  go_region_held3 (fun W : World => W.cell? ⟨ab, 0, none⟩ = some (.int .i64 K) ∧ W.cell? ⟨ab, 1, none⟩ = some (.int .i64 I) ∧ W.cell? ⟨ab, 2, none⟩ = some (.int .i64 N) ∧ W.cell? ⟨ab, 3, none⟩ = some (.int .i64 Z) ∧ W.cell? ⟨ab, 4, none⟩ = some (.int .i64 P) ∧ W.cell? ⟨ab, 5, none⟩ = some (.int .i64 Q) ∧ W.cell? ⟨ab, 6, none⟩ = some (.int .i64 G) ∧ W.cell? ⟨ab, 7, none⟩ = some (.int .i64 T) ∧ W.cell? ⟨ab, 8, none⟩ = some (.string (str M)) ∧ W.cell? ⟨cb, 0, none⟩ = some (.int .i64 k) ∧ W.cell? ⟨cb, 1, none⟩ = some (.int .i64 i) ∧ W.cell? ⟨cb, 2, none⟩ = some (.int .i64 n) ∧ W.cell? ⟨cb, 3, none⟩ = some (.int .i64 s) ∧ W.cell? ⟨cb, 4, none⟩ = some (.int .i64 p) ∧ W.cell? ⟨cb, 5, none⟩ = some (.int .i64 q) ∧ W.cell? ⟨cb, 6, none⟩ = some (.int .i64 l) ∧ W.cell? ⟨cb, 7, none⟩ = some (.int .i64 t) ∧ W.cell? ⟨cb, 8, none⟩ = some (.string (str U)) ∧ W.cell? ⟨ob, 0, none⟩ = some (.int .i64 k') ∧ W.cell? ⟨ob, 1, none⟩ = some (.int .i64 i') ∧ W.cell? ⟨ob, 2, none⟩ = some (.int .i64 n') ∧ W.cell? ⟨ob, 3, none⟩ = some (.int .i64 s') ∧ W.cell? ⟨ob, 4, none⟩ = some (.int .i64 p') ∧ W.cell? ⟨ob, 5, none⟩ = some (.int .i64 q') ∧ W.cell? ⟨ob, 6, none⟩ = some (.int .i64 l') ∧ W.cell? ⟨ob, 7, none⟩ = some (.int .i64 t') ∧ W.cell? ⟨ob, 8, none⟩ = some (.string (str V)) ∧ (convert 27 9 (.slice A1 n1 c1)).run Try.prog W = .ok (.string (str X)) W ∧ (convert 27 9 (.slice A2 n2 c2)).run Try.prog W = .ok (.string (str X)) W) (first | with_reducible assumption | with_reducible exact hz0)
    (first
     | (go_at_call 26; (with_reducible refine (HB.out u2).mono ?_); rintro e u3 ⟨rfl, v3⟩; have D3 := D2.out.trans (v3.mono D2.out.size); have z3 := hof.out _ D3; replace D3 := Lib.hid D3)
     | (go_at_call 26; (with_reducible refine (HA.out u1).mono ?_); rintro e u2 ⟨rfl, v2⟩; have D2 := D1.out.trans (v2.mono D1.out.size); have z2 := hof.out _ D2; replace D2 := Lib.hid D2)
     | (go_at_call 26; (with_reducible refine (HA.out _).mono ?_); rintro e u1 ⟨rfl, v1⟩; have D1 := ((Below.refl w9.heap.size w9).drew).trans v1; have z1 := hof.out _ D1; replace D1 := Lib.hid D1))
  have B10 := Lib.hid (B9.out.trans (D3.out.mono B9.out.size))
  obtain ⟨w10, ew⟩ : ∃ W, u3 = W := ⟨_, rfl⟩
  rw [ew] at B10 ⊢
  clear hz0 hof z1 z2 z3  S1 S2 A9 C9 D9 B9 HA HB
  have hq := PDecode_any A nb0 capb lbs w10 (by omega) (Lib.hid (hA.out.hb.below B10.out))
  obtain ⟨z1, z2, z3⟩ := enc_of_dec hg.out
  have hz := fun W => PEncode_any (decC lbs).1 W z1
  rw [z2, encR_yes z2, z3] at hz
  rw [hg.out] at hq
  clear z1 z2 z3
  obtain ⟨y, ey⟩ : ∃ y, (decC lbs).1 = y := ⟨_, rfl⟩
  rw [ey] at hq
  simp only [ey] at hz
  clear ey
  obtain ⟨K0, I0, N0, Z0, P0, Q0, G0, T0, M0⟩ := y
  rw [show (C.val ⟨K0, I0, N0, Z0, P0, Q0, G0, T0, M0⟩) = .agg #[.int .i64 K0, .int .i64 I0, .int .i64 N0, .int .i64 Z0, .int .i64 P0, .int .i64 Q0, .int .i64 G0, .int .i64 T0, .string (str M0)] from rfl] at hq hz
  replace hz := Lib.hid hz
  replace hq := Lib.hid hq
  go_wp2_with fail
  refine hq.out.mono ?_
  rintro e w11 ⟨rfl, b11⟩
  have B11 := Lib.hid (B10.out.trans (b11.mono B10.out.size))
  clear b11 hq
  go_upto_region 12 with (fail)
  obtain ⟨wz, ew⟩ : ∃ W, w11.alloc (.cells #[.int .i64 K0, .int .i64 I0, .int .i64 N0, .int .i64 Z0, .int .i64 P0, .int .i64 Q0, .int .i64 G0, .int .i64 T0, .string (str M0)] 23) = W := ⟨_, rfl⟩
  obtain ⟨zb, ezb⟩ : ∃ x, w11.heap.size = x := ⟨_, rfl⟩
  have Bz : Hid (Below w.heap.size w wz) := Lib.hid (by rw [← ew]; exact B11.out.alloc B11.out.size _)
  have Cz : Hid (wz.heap[zb]? = some (.cells #[.int .i64 K0, .int .i64 I0, .int .i64 N0, .int .i64 Z0, .int .i64 P0, .int .i64 Q0, .int .i64 G0, .int .i64 T0, .string (str M0)] 23 (0, 0))) := Lib.hid (by rw [← ew, ← ezb]; exact heap_alloc_new w11 _)
  rw [ew, ezb]
  clear ew ezb B11
  obtain ⟨j0, j1, j2, j3, j4, j5, j6, j7, j8⟩ := cmd_at Cz.out
  go_wp2_with fail
  refine (hz.out _).mono ?_
  rintro e wy ⟨r3, rfl, R3, by3⟩
  have By := Lib.hid (Bz.out.trans (by3.mono Bz.out.size))
  obtain ⟨A3, n3, c3, rfl, en3, S3⟩ := R3.src (by have := hA.out.hb.1; omega)
  have hs3 := S3.str
  have hsb := (hA.out.below By.out).str
  clear by3 Bz Cz j0 j1 j2 j3 j4 j5 j6 j7 j8 hz R3 en3 S3
  go_wp2_with fail
  refine (LKnown_any _).mono ?_
  rintro e wx ⟨rfl, bx⟩
  have Bx := Lib.hid (By.out.trans (bx.mono By.out.size))
  go_wp2_with fail
  go_ret
  exact ⟨rfl, Bx.out⟩
set_option maxRecDepth 100000 in
set_option maxHeartbeats 2000000 in
theorem Back_same_n (k i n s p q l t k' i' n' s' p' q' l' t' : Int) (S S' : List UInt8) (A : Option Addr) (nb0 capb : Nat) (lbs : List UInt8) (w : World) (kb : I64 k) (ib : I64 i) (nb : I64 n) (sb : I64 s) (pb : I64 p) (qb : I64 q) (lb : I64 l) (tb : I64 t) (kc : I64 k') (ic : I64 i') (nc : I64 n') (sc : I64 s') (pc : I64 p') (qc : I64 q') (lc : I64 l') (tc : I64 t') (hA : Hid (Src w A nb0 capb lbs)) (hn : nb0 ≤ 140737488351232) (hE : ∀ U : List UInt8, S.take 60 = U → C.right ⟨k, i, n, s, p, q, l, t, U⟩ = 0) (hF : ∀ V : List UInt8, S'.take 60 = V → C.right ⟨k', i', n', s', p', q', l', t', V⟩ = 0) (hG : ∀ U V : List UInt8, S.take 60 = U → S'.take 60 = V → askedC ⟨k, i, n, s, p, q, l, t, U⟩ = askedC ⟨k', i', n', s', p', q', l', t', V⟩) (hg : Hid ((decC lbs).2 ≠ 0)) :
    Calls Try.prog 6 #[.agg #[.int .i64 k, .int .i64 i, .int .i64 n, .int .i64 s, .int .i64 p, .int .i64 q, .int .i64 l, .int .i64 t, .string (str S)], .agg #[.int .i64 k', .int .i64 i', .int .i64 n', .int .i64 s', .int .i64 p', .int .i64 q', .int .i64 l', .int .i64 t', .string (str S')], .slice A nb0 capb] w fun e w' => e = .returned (.bool true) ∧ Below w.heap.size w w' := by
  have hE := Lib.hid (hE _ rfl)
  have hF := Lib.hid (hF _ rfl)
  have hG := Lib.hid (hG _ _ rfl rfl)
  go_enter Try.func6, Try.ntmps6
  go_wp2_with fail
  obtain ⟨w0, ew⟩ : ∃ W, ((w.alloc (.cells #[.int .i64 k, .int .i64 i, .int .i64 n, .int .i64 s, .int .i64 p, .int .i64 q, .int .i64 l, .int .i64 t, .string (str S)] 23)).alloc (.cells #[.int .i64 k', .int .i64 i', .int .i64 n', .int .i64 s', .int .i64 p', .int .i64 q', .int .i64 l', .int .i64 t', .string (str S')] 23)) = W := ⟨_, rfl⟩
  obtain ⟨cb, ecb⟩ : ∃ cb, w.heap.size = cb := ⟨_, rfl⟩
  obtain ⟨ob, eob⟩ : ∃ ob, cb + 1 = ob := ⟨_, rfl⟩
  have hcb : w.heap.size ≤ cb := by omega
  have hob : w.heap.size ≤ ob := by omega
  have hne : cb ≠ ob := by omega
  have B0 : Hid (Below w.heap.size w w0) := Lib.hid (by rw [← ew]; exact ((Below.refl _ w).alloc (Nat.le_refl _) _).alloc (by simp) _)
  have C0 : Hid (w0.heap[cb]? = some (.cells #[.int .i64 k, .int .i64 i, .int .i64 n, .int .i64 s, .int .i64 p, .int .i64 q, .int .i64 l, .int .i64 t, .string (str S)] 23 (0, 0))) := Lib.hid (by rw [← ew, ← ecb]; exact (heap_alloc_old _ _ (by simp)).trans (heap_alloc_new w _))
  have D0 : Hid (w0.heap[ob]? = some (.cells #[.int .i64 k', .int .i64 i', .int .i64 n', .int .i64 s', .int .i64 p', .int .i64 q', .int .i64 l', .int .i64 t', .string (str S')] 23 (0, 0))) := Lib.hid (by rw [← ew, ← eob, ← ecb]; exact heap_alloc2_new w _ _)
  rw [ew, ecb, eob]
  clear ew ecb eob
  refine (LShort_any k i n s p q l t S w0).mono ?_
  rintro e w1 ⟨rfl, b1⟩
  have hU := take60 S
  obtain ⟨U, eU⟩ : ∃ U, S.take 60 = U := ⟨_, rfl⟩
  rw [eU] at hU hE hG ⊢
  clear eU
  have C1 := (b1.block cb (Array.getElem?_eq_some_iff.1 C0.out).1).trans C0.out
  have D1 := Lib.hid ((b1.block ob (Array.getElem?_eq_some_iff.1 D0.out).1).trans D0.out)
  obtain ⟨fr0, fr1, fr2, fr3, fr4, fr5, fr6, fr7, fr8, m0, m1, m2, m3, m4, m5, m6, m7, m8⟩ := block9 C1
  replace C1 := Lib.hid C1
  have B1 := Lib.hid (B0.out.trans (b1.mono B0.out.size))
  clear b1 B0 C0 D0
  go_upto_region 2 with (fail)
  rw [set9 _ _ _ _ _ _ _ _ _ C1.out]
  have C2 : Hid ((w1.setRow cb #[.int .i64 k, .int .i64 i, .int .i64 n, .int .i64 s, .int .i64 p, .int .i64 q, .int .i64 l, .int .i64 t, .string (str U)]).heap[cb]? = some (.cells #[.int .i64 k, .int .i64 i, .int .i64 n, .int .i64 s, .int .i64 p, .int .i64 q, .int .i64 l, .int .i64 t, .string (str U)] 23 (0, 0))) := Lib.hid (setRow_heap _ _ _ _ _ _ C1.out)
  have D2 : Hid ((w1.setRow cb #[.int .i64 k, .int .i64 i, .int .i64 n, .int .i64 s, .int .i64 p, .int .i64 q, .int .i64 l, .int .i64 t, .string (str U)]).heap[ob]? = some (.cells #[.int .i64 k', .int .i64 i', .int .i64 n', .int .i64 s', .int .i64 p', .int .i64 q', .int .i64 l', .int .i64 t', .string (str S')] 23 (0, 0))) := Lib.hid ((setRow_other w1 cb ob _ (fun e => hne (by first | exact e | exact e.symm))).trans D1.out)
  have B2 : Hid (Below w.heap.size w (w1.setRow cb #[.int .i64 k, .int .i64 i, .int .i64 n, .int .i64 s, .int .i64 p, .int .i64 q, .int .i64 l, .int .i64 t, .string (str U)])) := Lib.hid (below_setRow B1.out hcb _)
  obtain ⟨w2, ew⟩ : ∃ W, w1.setRow cb #[.int .i64 k, .int .i64 i, .int .i64 n, .int .i64 s, .int .i64 p, .int .i64 q, .int .i64 l, .int .i64 t, .string (str U)] = W := ⟨_, rfl⟩
  rw [ew] at C2 D2 B2 ⊢
  clear ew C1 B1 D1 fr0 fr1 fr2 fr3 fr4 fr5 fr6 fr7 fr8 m0 m1 m2 m3 m4 m5 m6 m7 m8
  obtain ⟨o0, o1, o2, o3, o4, o5, o6, o7, o8⟩ := cmd_at D2.out
  go_wp2_with fail
  refine (LShort_any k' i' n' s' p' q' l' t' S' w2).mono ?_
  rintro e w3 ⟨rfl, b3⟩
  have hV := take60 S'
  obtain ⟨V, eV⟩ : ∃ V, S'.take 60 = V := ⟨_, rfl⟩
  rw [eV] at hV hF hG ⊢
  clear eV o0 o1 o2 o3 o4 o5 o6 o7 o8
  have C3 := Lib.hid ((b3.block cb (Array.getElem?_eq_some_iff.1 C2.out).1).trans C2.out)
  have D3 := Lib.hid ((b3.block ob (Array.getElem?_eq_some_iff.1 D2.out).1).trans D2.out)
  have B3 := Lib.hid (B2.out.trans (b3.mono B2.out.size))
  clear b3 C2 D2 B2
  obtain ⟨fr0, fr1, fr2, fr3, fr4, fr5, fr6, fr7, fr8, m0, m1, m2, m3, m4, m5, m6, m7, m8⟩ := block9 D3.out
  go_upto_region 3 with (fail)
  rw [set9 _ _ _ _ _ _ _ _ _ D3.out]
  have D4 : Hid ((w3.setRow ob #[.int .i64 k', .int .i64 i', .int .i64 n', .int .i64 s', .int .i64 p', .int .i64 q', .int .i64 l', .int .i64 t', .string (str V)]).heap[ob]? = some (.cells #[.int .i64 k', .int .i64 i', .int .i64 n', .int .i64 s', .int .i64 p', .int .i64 q', .int .i64 l', .int .i64 t', .string (str V)] 23 (0, 0))) := Lib.hid (setRow_heap _ _ _ _ _ _ D3.out)
  have C4 : Hid ((w3.setRow ob #[.int .i64 k', .int .i64 i', .int .i64 n', .int .i64 s', .int .i64 p', .int .i64 q', .int .i64 l', .int .i64 t', .string (str V)]).heap[cb]? = some (.cells #[.int .i64 k, .int .i64 i, .int .i64 n, .int .i64 s, .int .i64 p, .int .i64 q, .int .i64 l, .int .i64 t, .string (str U)] 23 (0, 0))) := Lib.hid ((setRow_other w3 ob cb _ (fun e => hne (by first | exact e | exact e.symm))).trans C3.out)
  have B4 : Hid (Below w.heap.size w (w3.setRow ob #[.int .i64 k', .int .i64 i', .int .i64 n', .int .i64 s', .int .i64 p', .int .i64 q', .int .i64 l', .int .i64 t', .string (str V)])) := Lib.hid (below_setRow B3.out hob _)
  obtain ⟨w4, ew⟩ : ∃ W, w3.setRow ob #[.int .i64 k', .int .i64 i', .int .i64 n', .int .i64 s', .int .i64 p', .int .i64 q', .int .i64 l', .int .i64 t', .string (str V)] = W := ⟨_, rfl⟩
  rw [ew] at C4 D4 B4 ⊢
  clear ew C3 B3 D3 fr0 fr1 fr2 fr3 fr4 fr5 fr6 fr7 fr8 m0 m1 m2 m3 m4 m5 m6 m7 m8
  have hp := fun W => PEncode_any ⟨k, i, n, s, p, q, l, t, U⟩ W (show C.Ok ⟨k, i, n, s, p, q, l, t, U⟩ from ⟨kb, ib, nb, sb, pb, qb, lb, tb, fun _ => Nat.le_trans hU (by omega)⟩)
  have hd := fun W => PEncode_any ⟨k', i', n', s', p', q', l', t', V⟩ W (show C.Ok ⟨k', i', n', s', p', q', l', t', V⟩ from ⟨kc, ic, nc, sc, pc, qc, lc, tc, fun _ => Nat.le_trans hV (by omega)⟩)
  have HP := fun W => PRight_any ⟨k, i, n, s, p, q, l, t, U⟩ W (fun _ => Nat.le_trans hU (by omega))
  rw [hE.out, encR_yes hE.out] at hp
  rw [hE.out] at HP
  obtain ⟨c1a, c1b⟩ := dec_of_enc (c := ⟨k, i, n, s, p, q, l, t, U⟩) ⟨ib, pb, qb, lb⟩ hU hE.out
  have hX := encC_len ⟨k, i, n, s, p, q, l, t, U⟩
  have HA := fun W => Asked_any ⟨k, i, n, s, p, q, l, t, U⟩ W
  have hxy := enc_same (c := ⟨k, i, n, s, p, q, l, t, U⟩) (d := ⟨k', i', n', s', p', q', l', t', V⟩) ⟨ib, pb, qb, lb⟩ ⟨ic, pc, qc, lc⟩ hU hV hE.out hF.out
  have HB := fun W => Asked_any ⟨k', i', n', s', p', q', l', t', V⟩ W
  rw [hF.out, encR_yes hF.out] at hd
  have hY := encC_len ⟨k', i', n', s', p', q', l', t', V⟩
  rw [← hxy.2 hG.out] at hd hY
  simp only [← hG.out] at HB
  clear hxy hG
  obtain ⟨X, eX⟩ : ∃ X, encC ⟨k, i, n, s, p, q, l, t, U⟩ = X := ⟨_, rfl⟩
  rw [eX] at c1a hX
  skip
  rw [eX] at hY
  simp only [eX] at hp
  simp only [eX] at hd
  obtain ⟨ac, eac⟩ : ∃ y, askedC ⟨k, i, n, s, p, q, l, t, U⟩ = y := ⟨_, rfl⟩
  rw [eac] at c1a
  simp only [eac] at HA
  skip
  simp only [eac] at HB
  clear eX eac c1b
  obtain ⟨K, I, N, Z, P, Q, G, T, M⟩ := ac
  rw [show (C.val ⟨K, I, N, Z, P, Q, G, T, M⟩) = .agg #[.int .i64 K, .int .i64 I, .int .i64 N, .int .i64 Z, .int .i64 P, .int .i64 Q, .int .i64 G, .int .i64 T, .string (str M)] from rfl] at HA
  rw [show (C.val ⟨K, I, N, Z, P, Q, G, T, M⟩) = .agg #[.int .i64 K, .int .i64 I, .int .i64 N, .int .i64 Z, .int .i64 P, .int .i64 Q, .int .i64 G, .int .i64 T, .string (str M)] from rfl] at HB
  rw [show (C.val ⟨k, i, n, s, p, q, l, t, U⟩) = .agg #[.int .i64 k, .int .i64 i, .int .i64 n, .int .i64 s, .int .i64 p, .int .i64 q, .int .i64 l, .int .i64 t, .string (str U)] from rfl] at HA
  rw [show (C.val ⟨k', i', n', s', p', q', l', t', V⟩) = .agg #[.int .i64 k', .int .i64 i', .int .i64 n', .int .i64 s', .int .i64 p', .int .i64 q', .int .i64 l', .int .i64 t', .string (str V)] from rfl] at HB
  replace HA := Lib.hid HA
  replace HB := Lib.hid HB
  replace c1a := Lib.hid c1a
  rw [show (C.val ⟨k, i, n, s, p, q, l, t, U⟩) = .agg #[.int .i64 k, .int .i64 i, .int .i64 n, .int .i64 s, .int .i64 p, .int .i64 q, .int .i64 l, .int .i64 t, .string (str U)] from rfl] at hp HP
  rw [show (C.val ⟨k', i', n', s', p', q', l', t', V⟩) = .agg #[.int .i64 k', .int .i64 i', .int .i64 n', .int .i64 s', .int .i64 p', .int .i64 q', .int .i64 l', .int .i64 t', .string (str V)] from rfl] at hd
  replace hp := Lib.hid hp
  replace hd := Lib.hid hd
  replace HP := Lib.hid HP
  obtain ⟨j0, j1, j2, j3, j4, j5, j6, j7, j8⟩ := cmd_at C4.out
  go_wp2_with fail
  refine (hp.out _).mono ?_
  rintro e w5 ⟨r1, rfl, R1, b5⟩
  have C5 := Lib.hid ((b5.block cb (Array.getElem?_eq_some_iff.1 C4.out).1).trans C4.out)
  have D5 := Lib.hid ((b5.block ob (Array.getElem?_eq_some_iff.1 D4.out).1).trans D4.out)
  have B5 := Lib.hid (B4.out.trans (b5.mono B4.out.size))
  clear b5 j0 j1 j2 j3 j4 j5 j6 j7 j8 hp C4 D4 B4
  obtain ⟨A1, n1, c1, rfl, en1, S1⟩ := R1.src (by first | simp | omega)
  replace S1 := Lib.hid S1
  replace en1 := Lib.hid en1
  clear R1
  obtain ⟨o0, o1, o2, o3, o4, o5, o6, o7, o8⟩ := cmd_at D5.out
  go_wp2_with fail
  refine (hd.out _).mono ?_
  rintro e w6 ⟨r2, rfl, R2, b6⟩
  have C6 := Lib.hid ((b6.block cb (Array.getElem?_eq_some_iff.1 C5.out).1).trans C5.out)
  have D6 := Lib.hid ((b6.block ob (Array.getElem?_eq_some_iff.1 D5.out).1).trans D5.out)
  have B6 := Lib.hid (B5.out.trans (b6.mono B5.out.size))
  replace S1 := Lib.hid (S1.out.below b6)
  clear b6 o0 o1 o2 o3 o4 o5 o6 o7 o8 hd C5 D5 B5
  obtain ⟨A2, n2, c2, rfl, en2, S2⟩ := R2.src (by omega)
  replace S2 := Lib.hid S2
  replace en2 := Lib.hid en2
  clear R2
  obtain ⟨j0, j1, j2, j3, j4, j5, j6, j7, j8⟩ := cmd_at C6.out
  go_wp2_with fail
  refine (HP.out _).mono ?_
  rintro e w7 ⟨rfl, b7⟩
  have C7 := Lib.hid ((b7.block cb (Array.getElem?_eq_some_iff.1 C6.out).1).trans C6.out)
  have D7 := Lib.hid ((b7.block ob (Array.getElem?_eq_some_iff.1 D6.out).1).trans D6.out)
  have B7 := Lib.hid (B6.out.trans (b7.mono B6.out.size))
  replace S1 := Lib.hid (S1.out.below b7)
  replace S2 := Lib.hid (S2.out.below b7)
  clear b7 j0 j1 j2 j3 j4 j5 j6 j7 j8 HP C6 D6 B6
  have hdx := PDecode_any A1 n1 c1 X w7 (by have := en1.out; omega) (Lib.hid S1.out.hb)
  rw [c1a.out, show (C.val ⟨K, I, N, Z, P, Q, G, T, M⟩) = .agg #[.int .i64 K, .int .i64 I, .int .i64 N, .int .i64 Z, .int .i64 P, .int .i64 Q, .int .i64 G, .int .i64 T, .string (str M)] from rfl] at hdx
  replace hdx := Lib.hid hdx
  go_wp2_with fail
  refine hdx.out.mono ?_
  rintro e w8 ⟨rfl, b8⟩
  have C8 := Lib.hid ((b8.block cb (Array.getElem?_eq_some_iff.1 C7.out).1).trans C7.out)
  have D8 := Lib.hid ((b8.block ob (Array.getElem?_eq_some_iff.1 D7.out).1).trans D7.out)
  have B8 := Lib.hid (B7.out.trans (b8.mono B7.out.size))
  replace S1 := Lib.hid (S1.out.below b8)
  replace S2 := Lib.hid (S2.out.below b8)
  clear b8 hdx C7 D7 B7
  go_upto_region 9 with (fail)
  obtain ⟨w9, ew⟩ : ∃ W, w8.alloc (.cells #[.int .i64 K, .int .i64 I, .int .i64 N, .int .i64 Z, .int .i64 P, .int .i64 Q, .int .i64 G, .int .i64 T, .string (str M)] 23) = W := ⟨_, rfl⟩
  obtain ⟨ab, eab⟩ : ∃ x, w8.heap.size = x := ⟨_, rfl⟩
  have b9 : Below w8.heap.size w8 w9 := by rw [← ew]; exact (Below.refl _ w8).alloc (Nat.le_refl _) _
  have C9 := Lib.hid ((b9.block cb (Array.getElem?_eq_some_iff.1 C8.out).1).trans C8.out)
  have D9 := Lib.hid ((b9.block ob (Array.getElem?_eq_some_iff.1 D8.out).1).trans D8.out)
  have B9 := Lib.hid (B8.out.trans (b9.mono B8.out.size))
  have A9 : Hid (w9.heap[ab]? = some (.cells #[.int .i64 K, .int .i64 I, .int .i64 N, .int .i64 Z, .int .i64 P, .int .i64 Q, .int .i64 G, .int .i64 T, .string (str M)] 23 (0, 0))) := Lib.hid (by rw [← ew, ← eab]; exact heap_alloc_new w8 _)
  replace S1 := Lib.hid (S1.out.below b9)
  replace S2 := Lib.hid (S2.out.below b9)
  rw [ew, eab]
  clear ew eab b9 C8 D8 B8
  have hof : Hid (∀ W : World, Below w9.heap.size w9 W → (fun W : World => W.cell? ⟨ab, 0, none⟩ = some (.int .i64 K) ∧ W.cell? ⟨ab, 1, none⟩ = some (.int .i64 I) ∧ W.cell? ⟨ab, 2, none⟩ = some (.int .i64 N) ∧ W.cell? ⟨ab, 3, none⟩ = some (.int .i64 Z) ∧ W.cell? ⟨ab, 4, none⟩ = some (.int .i64 P) ∧ W.cell? ⟨ab, 5, none⟩ = some (.int .i64 Q) ∧ W.cell? ⟨ab, 6, none⟩ = some (.int .i64 G) ∧ W.cell? ⟨ab, 7, none⟩ = some (.int .i64 T) ∧ W.cell? ⟨ab, 8, none⟩ = some (.string (str M)) ∧ W.cell? ⟨cb, 0, none⟩ = some (.int .i64 k) ∧ W.cell? ⟨cb, 1, none⟩ = some (.int .i64 i) ∧ W.cell? ⟨cb, 2, none⟩ = some (.int .i64 n) ∧ W.cell? ⟨cb, 3, none⟩ = some (.int .i64 s) ∧ W.cell? ⟨cb, 4, none⟩ = some (.int .i64 p) ∧ W.cell? ⟨cb, 5, none⟩ = some (.int .i64 q) ∧ W.cell? ⟨cb, 6, none⟩ = some (.int .i64 l) ∧ W.cell? ⟨cb, 7, none⟩ = some (.int .i64 t) ∧ W.cell? ⟨cb, 8, none⟩ = some (.string (str U)) ∧ W.cell? ⟨ob, 0, none⟩ = some (.int .i64 k') ∧ W.cell? ⟨ob, 1, none⟩ = some (.int .i64 i') ∧ W.cell? ⟨ob, 2, none⟩ = some (.int .i64 n') ∧ W.cell? ⟨ob, 3, none⟩ = some (.int .i64 s') ∧ W.cell? ⟨ob, 4, none⟩ = some (.int .i64 p') ∧ W.cell? ⟨ob, 5, none⟩ = some (.int .i64 q') ∧ W.cell? ⟨ob, 6, none⟩ = some (.int .i64 l') ∧ W.cell? ⟨ob, 7, none⟩ = some (.int .i64 t') ∧ W.cell? ⟨ob, 8, none⟩ = some (.string (str V)) ∧ (convert 27 9 (.slice A1 n1 c1)).run Try.prog W = .ok (.string (str X)) W ∧ (convert 27 9 (.slice A2 n2 c2)).run Try.prog W = .ok (.string (str X)) W) W) := Lib.hid (fun W b => by
    obtain ⟨a0, a1, a2, a3, a4, a5, a6, a7, a8⟩ := cmd_at ((b.block ab (Array.getElem?_eq_some_iff.1 A9.out).1).trans A9.out)
    obtain ⟨j0, j1, j2, j3, j4, j5, j6, j7, j8⟩ := cmd_at ((b.block cb (Array.getElem?_eq_some_iff.1 C9.out).1).trans C9.out)
    obtain ⟨o0, o1, o2, o3, o4, o5, o6, o7, o8⟩ := cmd_at ((b.block ob (Array.getElem?_eq_some_iff.1 D9.out).1).trans D9.out)
    exact ⟨a0, a1, a2, a3, a4, a5, a6, a7, a8, j0, j1, j2, j3, j4, j5, j6, j7, j8, o0, o1, o2, o3, o4, o5, o6, o7, o8, (S1.out.below b).str, (S2.out.below b).str⟩)
  have hz0 := hof.out _ ((Below.refl w9.heap.size w9).drew)
  (try simp only at hz0)
  go_wp2_with fail
  go_region_held3 (fun W : World => W.cell? ⟨ab, 0, none⟩ = some (.int .i64 K) ∧ W.cell? ⟨ab, 1, none⟩ = some (.int .i64 I) ∧ W.cell? ⟨ab, 2, none⟩ = some (.int .i64 N) ∧ W.cell? ⟨ab, 3, none⟩ = some (.int .i64 Z) ∧ W.cell? ⟨ab, 4, none⟩ = some (.int .i64 P) ∧ W.cell? ⟨ab, 5, none⟩ = some (.int .i64 Q) ∧ W.cell? ⟨ab, 6, none⟩ = some (.int .i64 G) ∧ W.cell? ⟨ab, 7, none⟩ = some (.int .i64 T) ∧ W.cell? ⟨ab, 8, none⟩ = some (.string (str M)) ∧ W.cell? ⟨cb, 0, none⟩ = some (.int .i64 k) ∧ W.cell? ⟨cb, 1, none⟩ = some (.int .i64 i) ∧ W.cell? ⟨cb, 2, none⟩ = some (.int .i64 n) ∧ W.cell? ⟨cb, 3, none⟩ = some (.int .i64 s) ∧ W.cell? ⟨cb, 4, none⟩ = some (.int .i64 p) ∧ W.cell? ⟨cb, 5, none⟩ = some (.int .i64 q) ∧ W.cell? ⟨cb, 6, none⟩ = some (.int .i64 l) ∧ W.cell? ⟨cb, 7, none⟩ = some (.int .i64 t) ∧ W.cell? ⟨cb, 8, none⟩ = some (.string (str U)) ∧ W.cell? ⟨ob, 0, none⟩ = some (.int .i64 k') ∧ W.cell? ⟨ob, 1, none⟩ = some (.int .i64 i') ∧ W.cell? ⟨ob, 2, none⟩ = some (.int .i64 n') ∧ W.cell? ⟨ob, 3, none⟩ = some (.int .i64 s') ∧ W.cell? ⟨ob, 4, none⟩ = some (.int .i64 p') ∧ W.cell? ⟨ob, 5, none⟩ = some (.int .i64 q') ∧ W.cell? ⟨ob, 6, none⟩ = some (.int .i64 l') ∧ W.cell? ⟨ob, 7, none⟩ = some (.int .i64 t') ∧ W.cell? ⟨ob, 8, none⟩ = some (.string (str V)) ∧ (convert 27 9 (.slice A1 n1 c1)).run Try.prog W = .ok (.string (str X)) W ∧ (convert 27 9 (.slice A2 n2 c2)).run Try.prog W = .ok (.string (str X)) W) (first | with_reducible assumption | with_reducible exact hz0)
    (first
     | (go_at_call 26; (with_reducible refine (HB.out u2).mono ?_); rintro e u3 ⟨rfl, v3⟩; have D3 := D2.out.trans (v3.mono D2.out.size); have z3 := hof.out _ D3; replace D3 := Lib.hid D3)
     | (go_at_call 26; (with_reducible refine (HA.out u1).mono ?_); rintro e u2 ⟨rfl, v2⟩; have D2 := D1.out.trans (v2.mono D1.out.size); have z2 := hof.out _ D2; replace D2 := Lib.hid D2)
     | (go_at_call 26; (with_reducible refine (HA.out _).mono ?_); rintro e u1 ⟨rfl, v1⟩; have D1 := ((Below.refl w9.heap.size w9).drew).trans v1; have z1 := hof.out _ D1; replace D1 := Lib.hid D1))
  have B10 := Lib.hid (B9.out.trans (D3.out.mono B9.out.size))
  obtain ⟨w10, ew⟩ : ∃ W, u3 = W := ⟨_, rfl⟩
  rw [ew] at B10 ⊢
  clear hz0 hof z1 z2 z3  S1 S2 A9 C9 D9 B9 HA HB
  have hq := PDecode_any A nb0 capb lbs w10 (by omega) (Lib.hid (hA.out.hb.below B10.out))
  rw [dec_no hg.out, show zeroC.val = .agg #[.int .i64 0, .int .i64 0, .int .i64 0, .int .i64 0, .int .i64 0, .int .i64 0, .int .i64 0, .int .i64 0, .string (str [])] from rfl] at hq
  obtain ⟨g, eg⟩ : ∃ g, (decC lbs).2 = g := ⟨_, rfl⟩
  rw [eg] at hq hg
  clear eg
  have i9 : ((g : Int) == 0) = false := by have := hg.out; simp; omega
  replace hq := Lib.hid hq
  go_wp2_with fail
  refine hq.out.mono ?_
  rintro e w11 ⟨rfl, b11⟩
  have B11 := Lib.hid (B10.out.trans (b11.mono B10.out.size))
  clear b11 hq
  go_upto_region 12 with (fail)
  obtain ⟨wz, ew⟩ : ∃ W, w11.alloc (.cells #[.int .i64 0, .int .i64 0, .int .i64 0, .int .i64 0, .int .i64 0, .int .i64 0, .int .i64 0, .int .i64 0, .string (str [])] 23) = W := ⟨_, rfl⟩
  obtain ⟨zb, ezb⟩ : ∃ x, w11.heap.size = x := ⟨_, rfl⟩
  have Bz : Hid (Below w.heap.size w wz) := Lib.hid (by rw [← ew]; exact B11.out.alloc B11.out.size _)
  have Cz : Hid (wz.heap[zb]? = some (.cells #[.int .i64 0, .int .i64 0, .int .i64 0, .int .i64 0, .int .i64 0, .int .i64 0, .int .i64 0, .int .i64 0, .string (str [])] 23 (0, 0))) := Lib.hid (by rw [← ew, ← ezb]; exact heap_alloc_new w11 _)
  rw [ew, ezb]
  clear ew ezb B11
  obtain ⟨j0, j1, j2, j3, j4, j5, j6, j7, j8⟩ := cmd_at Cz.out
  have nil0 := str_none
  go_wp2_with fail
  refine (LKnown_any _).mono ?_
  rintro e wx ⟨rfl, bx⟩
  have Bx := Lib.hid (Bz.out.trans (bx.mono Bz.out.size))
  go_wp2_with fail
  go_ret
  exact ⟨rfl, Bx.out⟩
end Go.Proofs.Ytdbaphmhfoajgaa
