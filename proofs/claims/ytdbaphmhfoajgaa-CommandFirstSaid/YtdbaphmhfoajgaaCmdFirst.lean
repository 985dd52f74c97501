/-
  CommandFirst, its walk.
-/
import Derived.Test.YtdbaphmhfoajgaaCmdFirst0
import Derived.Deep.RegionHeld3
namespace Go.Proofs.Ytdbaphmhfoajgaa
open Go.RowKit
set_option linter.unusedVariables false
set_option linter.unusedSimpArgs false

set_option maxRecDepth 100000 in
set_option maxHeartbeats 4000000 in
theorem First_walk (k i n s p q l t : Int) (S : List UInt8) (wh : Int) (w : World) (kb : I64 k) (ib : I64 i) (nb : I64 n) (sb : I64 s) (pb : I64 p) (qb : I64 q) (lb : I64 l) (tb : I64 t) (t1 : -9223372036854775808 ≤ wh) (t2 : wh ≤ 9223372036854775807) :
    Calls Try.prog 7 #[.agg #[.int .i64 k, .int .i64 i, .int .i64 n, .int .i64 s, .int .i64 p, .int .i64 q, .int .i64 l, .int .i64 t, .string (str S)], .int .i64 wh] w fun e w' => e = .returned (.bool true) ∧ Below w.heap.size w w' := by
  go_enter Try.func7, Try.ntmps7
  go_wp2_with fail
  obtain ⟨w0, ew⟩ : ∃ W, w.alloc (.cells #[.int .i64 k, .int .i64 i, .int .i64 n, .int .i64 s, .int .i64 p, .int .i64 q, .int .i64 l, .int .i64 t, .string (str S)] 23) = W := ⟨_, rfl⟩
  obtain ⟨cb, ecb⟩ : ∃ cb, w.heap.size = cb := ⟨_, rfl⟩
  have hcb : w.heap.size ≤ cb := by omega
  have B0 : Hid (Below w.heap.size w w0) := Lib.hid (by rw [← ew]; exact (Below.refl _ w).alloc (Nat.le_refl _) _)
  have C0 : Hid (w0.heap[cb]? = some (.cells #[.int .i64 k, .int .i64 i, .int .i64 n, .int .i64 s, .int .i64 p, .int .i64 q, .int .i64 l, .int .i64 t, .string (str S)] 23 (0, 0))) := Lib.hid (by rw [← ew, ← ecb]; exact heap_alloc_new w _)
  rw [ew, ecb]
  clear ew ecb
  refine (LShort_any k i n s p q l t S w0).mono ?_
  rintro e w1 ⟨rfl, b1⟩
  have hU := take60 S
  obtain ⟨U, eU⟩ : ∃ U, S.take 60 = U := ⟨_, rfl⟩
  rw [eU] at hU ⊢
  clear eU
  have C1 := (b1.block cb (Array.getElem?_eq_some_iff.1 C0.out).1).trans C0.out
  obtain ⟨fr0, fr1, fr2, fr3, fr4, fr5, fr6, fr7, fr8, m0, m1, m2, m3, m4, m5, m6, m7, m8⟩ := block9 C1
  replace C1 := Lib.hid C1
  have B1 := Lib.hid (B0.out.trans (b1.mono B0.out.size))
  clear b1 B0 C0
  go_upto_region 2 with (fail)
  rw [set9 _ _ _ _ _ _ _ _ _ C1.out]
  have C2 : Hid ((w1.setRow cb #[.int .i64 k, .int .i64 i, .int .i64 n, .int .i64 s, .int .i64 p, .int .i64 q, .int .i64 l, .int .i64 t, .string (str U)]).heap[cb]? = some (.cells #[.int .i64 k, .int .i64 i, .int .i64 n, .int .i64 s, .int .i64 p, .int .i64 q, .int .i64 l, .int .i64 t, .string (str U)] 23 (0, 0))) := Lib.hid (setRow_heap _ _ _ _ _ _ C1.out)
  have B2 : Hid (Below w.heap.size w (w1.setRow cb #[.int .i64 k, .int .i64 i, .int .i64 n, .int .i64 s, .int .i64 p, .int .i64 q, .int .i64 l, .int .i64 t, .string (str U)])) := Lib.hid (below_setRow B1.out hcb _)
  obtain ⟨w2, ew⟩ : ∃ W, w1.setRow cb #[.int .i64 k, .int .i64 i, .int .i64 n, .int .i64 s, .int .i64 p, .int .i64 q, .int .i64 l, .int .i64 t, .string (str U)] = W := ⟨_, rfl⟩
  rw [ew] at C2 B2 ⊢
  clear ew C1 B1 fr0 fr1 fr2 fr3 fr4 fr5 fr6 fr7 fr8 m0 m1 m2 m3 m4 m5 m6 m7 m8
  have ha := withinN_le wh 8
  have HW := fun W => Within_any wh 8 W (by omega) t1 t2
  obtain ⟨a, ea⟩ : ∃ a, withinN wh 8 = a := ⟨_, rfl⟩
  rw [ea] at ha
  simp only [ea] at HW
  clear ea
  replace HW := Lib.hid HW
  go_wp2_with fail
  refine (HW.out _).mono ?_
  rintro e w' ⟨rfl, rfl⟩
  go_upto_region 6 with (fail)
  obtain ⟨w6, ew⟩ : ∃ W, ((w2.alloc (.cells #[.int .i64 1, .int .i64 1, .int .i64 1, .int .i64 2, .int .i64 5, .int .i64 5, .int .i64 0, .int .i64 1, .string { data := #[] }] 23)).alloc (.cells #[.int .i64 31, .int .i64 1, .int .i64 21, .int .i64 27, .int .i64 24, .int .i64 28, .int .i64 29, .int .i64 23, .int .i64 20] 28)).alloc (.cells #[.int .i64 1, .int .i64 1, .int .i64 1, .int .i64 2, .int .i64 5, .int .i64 5, .int .i64 0, .int .i64 1, .string { data := #[] }] 23) = W := ⟨_, rfl⟩
  obtain ⟨eb, eeb⟩ : ∃ b, w2.heap.size + 1 = b := ⟨_, rfl⟩
  obtain ⟨xb, exb⟩ : ∃ b, eb + 1 = b := ⟨_, rfl⟩
  have hwc : cb < w2.heap.size := (Array.getElem?_eq_some_iff.1 C2.out).1
  have X6 : Hid (w6.heap[xb]? = some (.cells (fC a a).cells 23 (0, 0))) := Lib.hid (by
    rw [fC_start, ← ew, ← exb, ← eeb]
    have h := heap_alloc_new ((w2.alloc (.cells #[.int .i64 1, .int .i64 1, .int .i64 1, .int .i64 2, .int .i64 5, .int .i64 5, .int .i64 0, .int .i64 1, .string { data := #[] }] 23)).alloc (.cells #[.int .i64 31, .int .i64 1, .int .i64 21, .int .i64 27, .int .i64 24, .int .i64 28, .int .i64 29, .int .i64 23, .int .i64 20] 28)) (.cells #[.int .i64 1, .int .i64 1, .int .i64 1, .int .i64 2, .int .i64 5, .int .i64 5, .int .i64 0, .int .i64 1, .string { data := #[] }] 23)
    rw [show ((w2.alloc (.cells #[.int .i64 1, .int .i64 1, .int .i64 1, .int .i64 2, .int .i64 5, .int .i64 5, .int .i64 0, .int .i64 1, .string { data := #[] }] 23)).alloc (.cells #[.int .i64 31, .int .i64 1, .int .i64 21, .int .i64 27, .int .i64 24, .int .i64 28, .int .i64 29, .int .i64 23, .int .i64 20] 28)).heap.size = w2.heap.size + 1 + 1 by simp] at h
    exact h)
  have E6 : Hid (w6.heap[eb]? = some (.cells #[.int .i64 31, .int .i64 1, .int .i64 21, .int .i64 27, .int .i64 24, .int .i64 28, .int .i64 29, .int .i64 23, .int .i64 20] 28 (0, 0))) := Lib.hid (by
    rw [← ew, ← eeb]
    exact (heap_alloc_old _ _ (by simp)).trans (heap_alloc2_new w2 _ _))
  have C6 : Hid (w6.heap[cb]? = some (.cells #[.int .i64 k, .int .i64 i, .int .i64 n, .int .i64 s, .int .i64 p, .int .i64 q, .int .i64 l, .int .i64 t, .string (str U)] 23 (0, 0))) := Lib.hid (by
    rw [← ew]
    exact (heap_alloc_old _ _ (by simp; omega)).trans ((heap_alloc_old _ _ (by simp; omega)).trans ((heap_alloc_old _ _ hwc).trans C2.out)))
  have hw2 := B2.out.size
  have B6 : Hid (Below w.heap.size w w6) := Lib.hid (by
    rw [← ew]
    exact ((B2.out.alloc hw2 _).alloc (by simp; omega) _).alloc (by simp; omega) _)
  rw [ew]
  rw [eeb, exb]
  have hxw : w.heap.size ≤ xb := by omega
  have hxc : cb ≠ xb := by omega
  have hxe : eb ≠ xb := by omega
  clear ew eeb exb C2 B2 hw2 hwc
  have O6 := Lib.hid (Only.refl (fun b => b = xb) w6)
  go_wp2_with fail
  go_loopw [9] (fun ix wr => ∃ (j : Nat) (z : Int), ix = .int .i64 z ∧ z = (j : Int) ∧ a ≤ j ∧ j ≤ 9 ∧ Hid (wr.heap[xb]? = some (.cells (fC a j).cells 23 (0, 0))) ∧ Hid (Only (fun b => b = xb) w6 wr)) (fun ix _ => (9 - intOf ix).toNat)
  case atStart => exact ⟨a, a, rfl, rfl, Nat.le_refl _, by omega, X6, O6⟩
  case round =>
    obtain ⟨j, z, rfl, hzj, haj, hj9, hx, hO⟩ := hrel
    clear X6 O6
    have hcase : j = 9 ∨ j = 0 ∨ j = 1 ∨ j = 2 ∨ j = 3 ∨ j = 4 ∨ j = 5 ∨ j = 6 ∨ j = 7 ∨ j = 8 := by omega
    rcases hcase with rfl | rfl | rfl | rfl | rfl | rfl | rfl | rfl | rfl | rfl
    · obtain rfl : z = 9 := by omega
      clear hzj haj hj9
      have CR := Lib.hid ((hO.out.block cb (Array.getElem?_eq_some_iff.1 C6.out).1 hxc).trans C6.out)
      have ER := Lib.hid ((hO.out.block eb (Array.getElem?_eq_some_iff.1 E6.out).1 hxe).trans E6.out)
      have BR := Lib.hid (B6.out.trans (hO.out.below B6.out.size (fun b hb e => by have e : b = xb := e; omega)))
      have hp := fun W => PEncode_any (fC a 9) W (fC_ok ha)
      rw [fC_right ha, encR_no (by rw [fC_right ha]; exact whyN_ne ha)] at hp
      have hu := fun W => PEncode_any ⟨k, i, n, s, p, q, l, t, U⟩ W (show C.Ok ⟨k, i, n, s, p, q, l, t, U⟩ from ⟨kb, ib, nb, sb, pb, qb, lb, tb, fun _ => Nat.le_trans hU (by omega)⟩)
      have HP := fun W => PRight_any ⟨k, i, n, s, p, q, l, t, U⟩ W (fun _ => Nat.le_trans hU (by omega))
      obtain ⟨E2, eE⟩ : ∃ E, C.right ⟨k, i, n, s, p, q, l, t, U⟩ = E := ⟨_, rfl⟩
      obtain ⟨X2, eX⟩ : ∃ E, encR ⟨k, i, n, s, p, q, l, t, U⟩ = E := ⟨_, rfl⟩
      have hXl : X2.length ≤ 300 := by rw [← eX]; exact encR_len _
      simp only [eE, eX] at hu HP
      clear eE eX
      have hwy : wr.cell? ⟨eb, a, none⟩ = some (.int .i64 (whyN a)) := by
        rw [Lib.cell_of_heap ER.out]
        rcases nine ha with rfl | rfl | rfl | rfl | rfl | rfl | rfl | rfl | rfl <;> rfl
      replace hwy := Lib.hid hwy
      obtain ⟨E, eE⟩ : ∃ E, whyN a = E := ⟨_, rfl⟩
      rw [eE] at hp hwy
      clear eE
      obtain ⟨y, ey⟩ : ∃ y, fC a 9 = y := ⟨_, rfl⟩
      rw [ey] at hx
      simp only [ey] at hp
      clear ey
      obtain ⟨K, I, N, Z, P, Q, G, T, V⟩ := y
      rw [show (C.val ⟨K, I, N, Z, P, Q, G, T, V⟩) = .agg #[.int .i64 K, .int .i64 I, .int .i64 N, .int .i64 Z, .int .i64 P, .int .i64 Q, .int .i64 G, .int .i64 T, .string (str V)] from rfl] at hp
      rw [show (C.val ⟨k, i, n, s, p, q, l, t, U⟩) = .agg #[.int .i64 k, .int .i64 i, .int .i64 n, .int .i64 s, .int .i64 p, .int .i64 q, .int .i64 l, .int .i64 t, .string (str U)] from rfl] at hu HP
      have hx' : wr.heap[xb]? = some (.cells #[.int .i64 K, .int .i64 I, .int .i64 N, .int .i64 Z, .int .i64 P, .int .i64 Q, .int .i64 G, .int .i64 T, .string (str V)] 23 (0, 0)) := hx.out
      obtain ⟨m0, m1, m2, m3, m4, m5, m6, m7, m8⟩ := cmd_at hx'
      replace hx' := Lib.hid hx'
      replace hp := Lib.hid hp
      replace hu := Lib.hid hu
      replace HP := Lib.hid HP
      clear hx hO C6 E6 B6
      go_wp2_with fail
      refine (hp.out _).mono ?_
      rintro e w7 ⟨r1, rfl, R1, b7⟩
      have C7 := Lib.hid ((b7.block cb (Array.getElem?_eq_some_iff.1 CR.out).1).trans CR.out)
      have hw7 := Lib.hid ((b7.cell (p := ⟨eb, a, none⟩) (World.block_lt_of_cell? _ _ hwy.out)).trans hwy.out)
      have B7 := Lib.hid (BR.out.trans (b7.mono BR.out.size))
      obtain ⟨A1, n1, c1, rfl, en1, S1⟩ := R1.src (by simp)
      obtain rfl : n1 = 0 := en1
      clear b7 CR ER BR hx' m0 m1 m2 m3 m4 m5 m6 m7 m8 R1 S1 hwy
      obtain ⟨j0, j1, j2, j3, j4, j5, j6, j7, j8⟩ := cmd_at C7.out
      go_wp2_with fail
      refine (hu.out _).mono ?_
      rintro e w8 ⟨r2, rfl, R2, b8⟩
      have C8 := Lib.hid ((b8.block cb (Array.getElem?_eq_some_iff.1 C7.out).1).trans C7.out)
      have hw8 := (b8.cell (p := ⟨eb, a, none⟩) (World.block_lt_of_cell? _ _ hw7.out)).trans hw7.out
      have B8 := Lib.hid (B7.out.trans (b8.mono B7.out.size))
      clear b8 C7 B7 hw7 R2 j0 j1 j2 j3 j4 j5 j6 j7 j8
      obtain ⟨j0, j1, j2, j3, j4, j5, j6, j7, j8⟩ := cmd_at C8.out
      have q1 : (0 : Int) ≤ (a : Int) := by omega
      have q2 : (a : Int) < 9 := by omega
      have q3 : a < 9 := by omega
      go_wp2_with fail
      refine (HP.out _).mono ?_
      rintro e w9 ⟨rfl, b9⟩
      have B9 := Lib.hid (B8.out.trans (b9.mono B8.out.size))
      clear b9 C8 B8 hw8 j0 j1 j2 j3 j4 j5 j6 j7 j8
      go_wp2_with fail
      refine (LKnown_any _).mono ?_
      rintro e wd ⟨rfl, bd⟩
      have Bd := Lib.hid (B9.out.trans (bd.mono B9.out.size))
      go_wp2_with fail
      go_ret
      exact ⟨rfl, Bd.out⟩
    · obtain rfl : z = 0 := by omega
      have es := Lib.hid (fC_0 haj)
      clear hzj
      obtain ⟨y, ey⟩ : ∃ y, fC a 0 = y := ⟨_, rfl⟩
      rw [ey] at hx
      replace ey := Lib.hid ey
      obtain ⟨K, I, N, Z, P, Q, G, T, V⟩ := y
      have hx' : wr.heap[xb]? = some (.cells #[.int .i64 K, .int .i64 I, .int .i64 N, .int .i64 Z, .int .i64 P, .int .i64 Q, .int .i64 G, .int .i64 T, .string (str V)] 23 (0, 0)) := hx.out
      obtain ⟨m0, m1, m2, m3, m4, m5, m6, m7, m8⟩ := cmd_at hx'
      have fz : wr.frozen? ⟨xb, 0, none⟩ = false := Lib.frozen_of_heap hx' 0
      have hn := Lib.hid (heap_setCell_same wr xb 0 _ _ (.int .i64 9) hx')
      have ho := Lib.hid (hO.out.trans (set_only wr xb 0 (.int .i64 9)))
      clear hx' hx hO
      go_wp2_with fail
      go_roundw
      case rel => exact ⟨1, 1, rfl, rfl, by omega, by omega, Lib.hid (by rw [es.out, ey.out]; exact hn.out), ho⟩
      case measure => simp [intOf]
    · obtain rfl : z = 1 := by omega
      have es := Lib.hid (fC_1 haj)
      clear hzj
      obtain ⟨y, ey⟩ : ∃ y, fC a 1 = y := ⟨_, rfl⟩
      rw [ey] at hx
      replace ey := Lib.hid ey
      obtain ⟨K, I, N, Z, P, Q, G, T, V⟩ := y
      have hx' : wr.heap[xb]? = some (.cells #[.int .i64 K, .int .i64 I, .int .i64 N, .int .i64 Z, .int .i64 P, .int .i64 Q, .int .i64 G, .int .i64 T, .string (str V)] 23 (0, 0)) := hx.out
      obtain ⟨m0, m1, m2, m3, m4, m5, m6, m7, m8⟩ := cmd_at hx'
      have fz : wr.frozen? ⟨xb, 1, none⟩ = false := Lib.frozen_of_heap hx' 1
      have hn := Lib.hid (heap_setCell_same wr xb 1 _ _ (.int .i64 0) hx')
      have ho := Lib.hid (hO.out.trans (set_only wr xb 1 (.int .i64 0)))
      clear hx' hx hO
      go_wp2_with fail
      go_roundw
      case rel => exact ⟨2, 2, rfl, rfl, by omega, by omega, Lib.hid (by rw [es.out, ey.out]; exact hn.out), ho⟩
      case measure => simp [intOf]
    · obtain rfl : z = 2 := by omega
      have es := Lib.hid (fC_2 haj)
      clear hzj
      obtain ⟨y, ey⟩ : ∃ y, fC a 2 = y := ⟨_, rfl⟩
      rw [ey] at hx
      replace ey := Lib.hid ey
      obtain ⟨K, I, N, Z, P, Q, G, T, V⟩ := y
      have hx' : wr.heap[xb]? = some (.cells #[.int .i64 K, .int .i64 I, .int .i64 N, .int .i64 Z, .int .i64 P, .int .i64 Q, .int .i64 G, .int .i64 T, .string (str V)] 23 (0, 0)) := hx.out
      obtain ⟨m0, m1, m2, m3, m4, m5, m6, m7, m8⟩ := cmd_at hx'
      have fz : wr.frozen? ⟨xb, 3, none⟩ = false := Lib.frozen_of_heap hx' 3
      have hn := Lib.hid (heap_setCell_same wr xb 3 _ _ (.int .i64 7) hx')
      have ho := Lib.hid (hO.out.trans (set_only wr xb 3 (.int .i64 7)))
      clear hx' hx hO
      go_wp2_with fail
      go_roundw
      case rel => exact ⟨3, 3, rfl, rfl, by omega, by omega, Lib.hid (by rw [es.out, ey.out]; exact hn.out), ho⟩
      case measure => simp [intOf]
    · obtain rfl : z = 3 := by omega
      have es := Lib.hid (fC_3 haj)
      clear hzj
      obtain ⟨y, ey⟩ : ∃ y, fC a 3 = y := ⟨_, rfl⟩
      rw [ey] at hx
      replace ey := Lib.hid ey
      obtain ⟨K, I, N, Z, P, Q, G, T, V⟩ := y
      have hx' : wr.heap[xb]? = some (.cells #[.int .i64 K, .int .i64 I, .int .i64 N, .int .i64 Z, .int .i64 P, .int .i64 Q, .int .i64 G, .int .i64 T, .string (str V)] 23 (0, 0)) := hx.out
      obtain ⟨m0, m1, m2, m3, m4, m5, m6, m7, m8⟩ := cmd_at hx'
      have fz : wr.frozen? ⟨xb, 7, none⟩ = false := Lib.frozen_of_heap hx' 7
      have hn := Lib.hid (heap_setCell_same wr xb 7 _ _ (.int .i64 0) hx')
      have ho := Lib.hid (hO.out.trans (set_only wr xb 7 (.int .i64 0)))
      clear hx' hx hO
      go_wp2_with fail
      go_roundw
      case rel => exact ⟨4, 4, rfl, rfl, by omega, by omega, Lib.hid (by rw [es.out, ey.out]; exact hn.out), ho⟩
      case measure => simp [intOf]
    · obtain rfl : z = 4 := by omega
      have es := Lib.hid (fC_4 haj)
      clear hzj
      obtain ⟨y, ey⟩ : ∃ y, fC a 4 = y := ⟨_, rfl⟩
      rw [ey] at hx
      replace ey := Lib.hid ey
      obtain ⟨K, I, N, Z, P, Q, G, T, V⟩ := y
      have hx' : wr.heap[xb]? = some (.cells #[.int .i64 K, .int .i64 I, .int .i64 N, .int .i64 Z, .int .i64 P, .int .i64 Q, .int .i64 G, .int .i64 T, .string (str V)] 23 (0, 0)) := hx.out
      obtain ⟨m0, m1, m2, m3, m4, m5, m6, m7, m8⟩ := cmd_at hx'
      have fz : wr.frozen? ⟨xb, 5, none⟩ = false := Lib.frozen_of_heap hx' 5
      have hn := Lib.hid (heap_setCell_same wr xb 5 _ _ (.int .i64 0) hx')
      have ho := Lib.hid (hO.out.trans (set_only wr xb 5 (.int .i64 0)))
      clear hx' hx hO
      go_wp2_with fail
      go_roundw
      case rel => exact ⟨5, 5, rfl, rfl, by omega, by omega, Lib.hid (by rw [es.out, ey.out]; exact hn.out), ho⟩
      case measure => simp [intOf]
    · obtain rfl : z = 5 := by omega
      have es := Lib.hid (fC_5 haj)
      clear hzj
      obtain ⟨y, ey⟩ : ∃ y, fC a 5 = y := ⟨_, rfl⟩
      rw [ey] at hx
      replace ey := Lib.hid ey
      obtain ⟨K, I, N, Z, P, Q, G, T, V⟩ := y
      have hx' : wr.heap[xb]? = some (.cells #[.int .i64 K, .int .i64 I, .int .i64 N, .int .i64 Z, .int .i64 P, .int .i64 Q, .int .i64 G, .int .i64 T, .string (str V)] 23 (0, 0)) := hx.out
      obtain ⟨m0, m1, m2, m3, m4, m5, m6, m7, m8⟩ := cmd_at hx'
      have fz : wr.frozen? ⟨xb, 6, none⟩ = false := Lib.frozen_of_heap hx' 6
      have hn := Lib.hid (heap_setCell_same wr xb 6 _ _ (.int .i64 (-1)) hx')
      have ho := Lib.hid (hO.out.trans (set_only wr xb 6 (.int .i64 (-1))))
      clear hx' hx hO
      go_wp2_with fail
      go_roundw
      case rel => exact ⟨6, 6, rfl, rfl, by omega, by omega, Lib.hid (by rw [es.out, ey.out]; exact hn.out), ho⟩
      case measure => simp [intOf]
    · obtain rfl : z = 6 := by omega
      have es := Lib.hid (fC_6 haj)
      clear hzj
      obtain ⟨y, ey⟩ : ∃ y, fC a 6 = y := ⟨_, rfl⟩
      rw [ey] at hx
      replace ey := Lib.hid ey
      obtain ⟨K, I, N, Z, P, Q, G, T, V⟩ := y
      have hx' : wr.heap[xb]? = some (.cells #[.int .i64 K, .int .i64 I, .int .i64 N, .int .i64 Z, .int .i64 P, .int .i64 Q, .int .i64 G, .int .i64 T, .string (str V)] 23 (0, 0)) := hx.out
      obtain ⟨m0, m1, m2, m3, m4, m5, m6, m7, m8⟩ := cmd_at hx'
      have fz : wr.frozen? ⟨xb, 8, none⟩ = false := Lib.frozen_of_heap hx' 8
      have hn := Lib.hid (heap_setCell_same wr xb 8 _ _ (.string (str [1])) hx')
      have ho := Lib.hid (hO.out.trans (set_only wr xb 8 (.string (str [1]))))
      clear hx' hx hO
      go_wp2_with fail
      go_roundw
      case rel => exact ⟨7, 7, rfl, rfl, by omega, by omega, Lib.hid (by rw [es.out, ey.out]; exact hn.out), ho⟩
      case measure => simp [intOf]
    · obtain rfl : z = 7 := by omega
      have es := Lib.hid (fC_7 haj)
      clear hzj
      obtain ⟨y, ey⟩ : ∃ y, fC a 7 = y := ⟨_, rfl⟩
      rw [ey] at hx
      replace ey := Lib.hid ey
      obtain ⟨K, I, N, Z, P, Q, G, T, V⟩ := y
      have hx' : wr.heap[xb]? = some (.cells #[.int .i64 K, .int .i64 I, .int .i64 N, .int .i64 Z, .int .i64 P, .int .i64 Q, .int .i64 G, .int .i64 T, .string (str V)] 23 (0, 0)) := hx.out
      obtain ⟨m0, m1, m2, m3, m4, m5, m6, m7, m8⟩ := cmd_at hx'
      have fz : wr.frozen? ⟨xb, 4, none⟩ = false := Lib.frozen_of_heap hx' 4
      have hn := Lib.hid (heap_setCell_same wr xb 4 _ _ (.int .i64 1125899906842624) hx')
      have ho := Lib.hid (hO.out.trans (set_only wr xb 4 (.int .i64 1125899906842624)))
      clear hx' hx hO
      go_wp2_with fail
      go_roundw
      case rel => exact ⟨8, 8, rfl, rfl, by omega, by omega, Lib.hid (by rw [es.out, ey.out]; exact hn.out), ho⟩
      case measure => simp [intOf]
    · obtain rfl : z = 8 := by omega
      have es := Lib.hid (fC_8 haj)
      clear hzj
      obtain ⟨y, ey⟩ : ∃ y, fC a 8 = y := ⟨_, rfl⟩
      rw [ey] at hx
      replace ey := Lib.hid ey
      obtain ⟨K, I, N, Z, P, Q, G, T, V⟩ := y
      have hx' : wr.heap[xb]? = some (.cells #[.int .i64 K, .int .i64 I, .int .i64 N, .int .i64 Z, .int .i64 P, .int .i64 Q, .int .i64 G, .int .i64 T, .string (str V)] 23 (0, 0)) := hx.out
      obtain ⟨m0, m1, m2, m3, m4, m5, m6, m7, m8⟩ := cmd_at hx'
      have fz : wr.frozen? ⟨xb, 2, none⟩ = false := Lib.frozen_of_heap hx' 2
      have hn := Lib.hid (heap_setCell_same wr xb 2 _ _ (.int .i64 256) hx')
      have ho := Lib.hid (hO.out.trans (set_only wr xb 2 (.int .i64 256)))
      clear hx' hx hO
      go_wp2_with fail
      go_roundw
      case rel => exact ⟨9, 9, rfl, rfl, by omega, by omega, Lib.hid (by rw [es.out, ey.out]; exact hn.out), ho⟩
      case measure => simp [intOf]
end Go.Proofs.Ytdbaphmhfoajgaa
