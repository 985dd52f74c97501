/-
  Contract: read, of the program.
-/
import Derived.Test.YtdbaphmhfoajgaaCmdRead
namespace Go.Proofs.Ytdbaphmhfoajgaa
open Go.RowKit
set_option linter.unusedVariables false
set_option linter.unusedSimpArgs false

set_option maxRecDepth 100000 in
set_option maxHeartbeats 1000000 in
theorem PRead_1 (c g : Nat) (L : List UInt8) (i n s t p q l : Int) (S : List UInt8) (k0 y0 k1 y1 k2 y2 k3 y3 k4 y4 k5 y5 k6 y6 k7 y7 k8 y8 : Nat) (w : World) (h : Hid (PR c g L k0 y0 w)) (hg : g ≤ c) (ea0 : Hid ((wrap64 (numL (rdTake L k0 y0 8).1) : Int) = i)) (eb0 : Hid ((rdTake L k0 y0 8).2.1 = k1)) (ec0 : Hid ((rdTake L k0 y0 8).2.2 = y1)) (ea1 : Hid (((headN (rdTake L k1 y1 1).1 : Nat) : Int) = n)) (eb1 : Hid ((rdTake L k1 y1 1).2.1 = k2)) (ec1 : Hid ((rdTake L k1 y1 1).2.2 = y2)) (ea2 : Hid (((headN (rdTake L k2 y2 1).1 : Nat) : Int) = s)) (eb2 : Hid ((rdTake L k2 y2 1).2.1 = k3)) (ec2 : Hid ((rdTake L k2 y2 1).2.2 = y3)) (ea3 : Hid (((headN (rdTake L k3 y3 1).1 : Nat) : Int) = t)) (eb3 : Hid ((rdTake L k3 y3 1).2.1 = k4)) (ec3 : Hid ((rdTake L k3 y3 1).2.2 = y4)) (ea4 : Hid ((wrap64 (numL (rdTake L k4 y4 8).1) : Int) = p)) (eb4 : Hid ((rdTake L k4 y4 8).2.1 = k5)) (ec4 : Hid ((rdTake L k4 y4 8).2.2 = y5)) (ea5 : Hid ((wrap64 (numL (rdTake L k5 y5 8).1) : Int) = q)) (eb5 : Hid ((rdTake L k5 y5 8).2.1 = k6)) (ec5 : Hid ((rdTake L k5 y5 8).2.2 = y6)) (ea6 : Hid ((wrap64 (numL (rdTake L k6 y6 8).1) : Int) = l)) (eb6 : Hid ((rdTake L k6 y6 8).2.1 = k7)) (ec6 : Hid ((rdTake L k6 y6 8).2.2 = y7)) (ea7 : Hid ((rdText L k7 y7).1 = S)) (eb7 : Hid ((rdText L k7 y7).2.1 = k8)) (ec7 : Hid ((rdText L k7 y7).2.2 = y8)) :
    Calls Try.prog 49 #[.pointer (some ⟨c, 0, none⟩), .int .i64 1] w fun e w' => e = .returned (.agg #[.int .i64 1, .int .i64 i, .int .i64 n, .int .i64 s, .int .i64 p, .int .i64 q, .int .i64 l, .int .i64 t, .string (str S)]) ∧ PR c g L k8 y8 w' ∧ Only (fun b => b = c) w w' := by
  have hcw := h.out.lt
  obtain ⟨w0, ew⟩ : ∃ W, w.alloc (.cells #[.int .i64 0, .int .i64 0, .int .i64 0, .int .i64 0, .int .i64 0, .int .i64 0, .int .i64 0, .int .i64 0, .string { data := #[] }] 23) = W := ⟨_, rfl⟩
  have P0 : Hid (PR c g L k0 y0 w0) := Lib.hid (by rw [← ew]; exact h.out.only (alloc_only w _) (fun e => e) (fun e => e))
  have O0 : Hid (Only (fun b => b = c) w w0) := Lib.hid (by rw [← ew]; exact (alloc_only w _).mono (fun _ _ e => e.elim))
  have H0 : Hid (w0.heap[w.heap.size]? = some (.cells #[.int .i64 0, .int .i64 0, .int .i64 0, .int .i64 0, .int .i64 0, .int .i64 0, .int .i64 0, .int .i64 0, .string (str [])] 23 (0, 0))) := Lib.hid (by rw [← ew]; exact heap_alloc_new w _)
  replace ew := Lib.hid ew
  obtain ⟨rb, erb⟩ : ∃ rb, w.heap.size = rb := ⟨_, rfl⟩
  rw [erb] at H0
  have hrb : c < rb := by omega
  replace erb := Lib.hid erb
  go_enter Try.func49, Try.ntmps49
  go_wp2_with fail
  rw [ew.out, erb.out]
  refine (PLong_any c g L k0 y0 w0 P0).mono ?_
  rintro e w1 ⟨rfl, P1, G1⟩
  rw [ea0.out]
  rw [eb0.out, ec0.out] at P1
  have hb1 : rb < w1.heap.size := Nat.lt_of_lt_of_le (Array.getElem?_eq_some_iff.1 H0.out).1 G1.size
  have H1 := Lib.hid ((G1.block rb (Array.getElem?_eq_some_iff.1 H0.out).1 (fun e => by injection e with e; omega)).trans H0.out)
  have O1 := Lib.hid (O0.out.trans ((only_grown G1).mono (fun j _ e => by injection e)))
  clear G1
  go_upto_region 2 with (fail)
  obtain ⟨w2, ew2⟩ : ∃ W, w1.alloc (.cells #[.int .i64 1, .int .i64 i, .int .i64 0, .int .i64 0, .int .i64 0, .int .i64 0, .int .i64 0, .int .i64 0, .string { data := #[] }] 23) = W := ⟨_, rfl⟩
  obtain ⟨cb, ecb⟩ : ∃ cb, w1.heap.size = cb := ⟨_, rfl⟩
  have R2 : Hid (RS (PR c g L) c rb cb k1 y1 #[.int .i64 1, .int .i64 i, .int .i64 0, .int .i64 0, .int .i64 0, .int .i64 0, .int .i64 0, .int .i64 0, .string (str [])] w w2) := Lib.hid (by
    rw [← ew2]
    refine ⟨P1.only (alloc_only w1 _) (fun e => e) (fun e => e), (heap_alloc_old _ _ hb1).trans H1.out, by rw [← ecb]; exact heap_alloc_new w1 _, O1.out.step (alloc_only w1 _) (fun _ _ e => e.elim), by omega, by omega, by omega, by rw [erb.out]; exact Nat.le_refl _, by have := erb.out; omega⟩)
  rw [ew2, ecb]
  have hbc : rb < cb := by omega
  clear ew2 ecb P1 H1 O1 P0 O0 H0 hb1
  go_wp2_with fail
  refine (PByte_any c g L k1 y1 w2 (Lib.hid R2.out.rd)).mono ?_
  rintro e w3 ⟨rfl, P, G⟩
  rw [ea1.out]
  rw [eb1.out, ec1.out] at P
  have R3 := Lib.hid (R2.out.read P G)
  clear P G
  obtain ⟨j0, j1, j2, j3, j4, j5, j6, j7, j8⟩ := cmd_at R3.out.cmd
  have fz : w3.frozen? ⟨cb, 2, none⟩ = false := Lib.frozen_of_heap R3.out.cmd 2
  go_upto_region 5 with (fail)
  have R4 : Hid (RS (PR c g L) c rb cb k2 y2 #[.int .i64 1, .int .i64 i, .int .i64 n, .int .i64 0, .int .i64 0, .int .i64 0, .int .i64 0, .int .i64 0, .string (str [])] w (w3.setCell ⟨cb, 2, none⟩ (.int .i64 n))) := Lib.hid (R3.out.store (keeps_pr c g L hg) 2 _)
  obtain ⟨w4, ew⟩ : ∃ W, w3.setCell ⟨cb, 2, none⟩ (.int .i64 n) = W := ⟨_, rfl⟩
  rw [ew] at R4 ⊢
  clear ew fz j0 j1 j2 j3 j4 j5 j6 j7 j8 R2 R3
  go_wp2_with fail
  refine (PByte_any c g L k2 y2 w4 (Lib.hid R4.out.rd)).mono ?_
  rintro e w5 ⟨rfl, P, G⟩
  rw [ea2.out]
  rw [eb2.out, ec2.out] at P
  have R5 := Lib.hid (R4.out.read P G)
  clear P G
  obtain ⟨j0, j1, j2, j3, j4, j5, j6, j7, j8⟩ := cmd_at R5.out.cmd
  have fz : w5.frozen? ⟨cb, 3, none⟩ = false := Lib.frozen_of_heap R5.out.cmd 3
  go_upto_region 6 with (fail)
  have R6 : Hid (RS (PR c g L) c rb cb k3 y3 #[.int .i64 1, .int .i64 i, .int .i64 n, .int .i64 s, .int .i64 0, .int .i64 0, .int .i64 0, .int .i64 0, .string (str [])] w (w5.setCell ⟨cb, 3, none⟩ (.int .i64 s))) := Lib.hid (R5.out.store (keeps_pr c g L hg) 3 _)
  obtain ⟨w6, ew⟩ : ∃ W, w5.setCell ⟨cb, 3, none⟩ (.int .i64 s) = W := ⟨_, rfl⟩
  rw [ew] at R6 ⊢
  clear ew fz j0 j1 j2 j3 j4 j5 j6 j7 j8 R4 R5
  go_wp2_with fail
  refine (PByte_any c g L k3 y3 w6 (Lib.hid R6.out.rd)).mono ?_
  rintro e w7 ⟨rfl, P, G⟩
  rw [ea3.out]
  rw [eb3.out, ec3.out] at P
  have R7 := Lib.hid (R6.out.read P G)
  clear P G
  obtain ⟨j0, j1, j2, j3, j4, j5, j6, j7, j8⟩ := cmd_at R7.out.cmd
  have fz : w7.frozen? ⟨cb, 7, none⟩ = false := Lib.frozen_of_heap R7.out.cmd 7
  go_upto_region 7 with (fail)
  have R8 : Hid (RS (PR c g L) c rb cb k4 y4 #[.int .i64 1, .int .i64 i, .int .i64 n, .int .i64 s, .int .i64 0, .int .i64 0, .int .i64 0, .int .i64 t, .string (str [])] w (w7.setCell ⟨cb, 7, none⟩ (.int .i64 t))) := Lib.hid (R7.out.store (keeps_pr c g L hg) 7 _)
  obtain ⟨w8, ew⟩ : ∃ W, w7.setCell ⟨cb, 7, none⟩ (.int .i64 t) = W := ⟨_, rfl⟩
  rw [ew] at R8 ⊢
  clear ew fz j0 j1 j2 j3 j4 j5 j6 j7 j8 R6 R7
  go_wp2_with fail
  refine (PLong_any c g L k4 y4 w8 (Lib.hid R8.out.rd)).mono ?_
  rintro e w9 ⟨rfl, P, G⟩
  rw [ea4.out]
  rw [eb4.out, ec4.out] at P
  have R9 := Lib.hid (R8.out.read P G)
  clear P G
  obtain ⟨j0, j1, j2, j3, j4, j5, j6, j7, j8⟩ := cmd_at R9.out.cmd
  have fz : w9.frozen? ⟨cb, 4, none⟩ = false := Lib.frozen_of_heap R9.out.cmd 4
  go_upto_region 8 with (fail)
  have R10 : Hid (RS (PR c g L) c rb cb k5 y5 #[.int .i64 1, .int .i64 i, .int .i64 n, .int .i64 s, .int .i64 p, .int .i64 0, .int .i64 0, .int .i64 t, .string (str [])] w (w9.setCell ⟨cb, 4, none⟩ (.int .i64 p))) := Lib.hid (R9.out.store (keeps_pr c g L hg) 4 _)
  obtain ⟨w10, ew⟩ : ∃ W, w9.setCell ⟨cb, 4, none⟩ (.int .i64 p) = W := ⟨_, rfl⟩
  rw [ew] at R10 ⊢
  clear ew fz j0 j1 j2 j3 j4 j5 j6 j7 j8 R8 R9
  go_wp2_with fail
  refine (PLong_any c g L k5 y5 w10 (Lib.hid R10.out.rd)).mono ?_
  rintro e w11 ⟨rfl, P, G⟩
  rw [ea5.out]
  rw [eb5.out, ec5.out] at P
  have R11 := Lib.hid (R10.out.read P G)
  clear P G
  obtain ⟨j0, j1, j2, j3, j4, j5, j6, j7, j8⟩ := cmd_at R11.out.cmd
  have fz : w11.frozen? ⟨cb, 5, none⟩ = false := Lib.frozen_of_heap R11.out.cmd 5
  go_upto_region 9 with (fail)
  have R12 : Hid (RS (PR c g L) c rb cb k6 y6 #[.int .i64 1, .int .i64 i, .int .i64 n, .int .i64 s, .int .i64 p, .int .i64 q, .int .i64 0, .int .i64 t, .string (str [])] w (w11.setCell ⟨cb, 5, none⟩ (.int .i64 q))) := Lib.hid (R11.out.store (keeps_pr c g L hg) 5 _)
  obtain ⟨w12, ew⟩ : ∃ W, w11.setCell ⟨cb, 5, none⟩ (.int .i64 q) = W := ⟨_, rfl⟩
  rw [ew] at R12 ⊢
  clear ew fz j0 j1 j2 j3 j4 j5 j6 j7 j8 R10 R11
  go_wp2_with fail
  refine (PLong_any c g L k6 y6 w12 (Lib.hid R12.out.rd)).mono ?_
  rintro e w13 ⟨rfl, P, G⟩
  rw [ea6.out]
  rw [eb6.out, ec6.out] at P
  have R13 := Lib.hid (R12.out.read P G)
  clear P G
  obtain ⟨j0, j1, j2, j3, j4, j5, j6, j7, j8⟩ := cmd_at R13.out.cmd
  have fz : w13.frozen? ⟨cb, 6, none⟩ = false := Lib.frozen_of_heap R13.out.cmd 6
  go_upto_region 10 with (fail)
  have R14 : Hid (RS (PR c g L) c rb cb k7 y7 #[.int .i64 1, .int .i64 i, .int .i64 n, .int .i64 s, .int .i64 p, .int .i64 q, .int .i64 l, .int .i64 t, .string (str [])] w (w13.setCell ⟨cb, 6, none⟩ (.int .i64 l))) := Lib.hid (R13.out.store (keeps_pr c g L hg) 6 _)
  obtain ⟨w14, ew⟩ : ∃ W, w13.setCell ⟨cb, 6, none⟩ (.int .i64 l) = W := ⟨_, rfl⟩
  rw [ew] at R14 ⊢
  clear ew fz j0 j1 j2 j3 j4 j5 j6 j7 j8 R12 R13
  go_wp2_with fail
  refine (PText_any c g L k7 y7 w14 (Lib.hid R14.out.rd)).mono ?_
  rintro e w15 ⟨rfl, P, G⟩
  rw [ea7.out]
  rw [eb7.out, ec7.out] at P
  have R15 := Lib.hid (R14.out.read P G)
  clear P G
  obtain ⟨j0, j1, j2, j3, j4, j5, j6, j7, j8⟩ := cmd_at R15.out.cmd
  have fz : w15.frozen? ⟨cb, 8, none⟩ = false := Lib.frozen_of_heap R15.out.cmd 8
  go_upto_region 16 with (fail)
  have R16 : Hid (RS (PR c g L) c rb cb k8 y8 #[.int .i64 1, .int .i64 i, .int .i64 n, .int .i64 s, .int .i64 p, .int .i64 q, .int .i64 l, .int .i64 t, .string (str S)] w (w15.setCell ⟨cb, 8, none⟩ (.string (str S)))) := Lib.hid (R15.out.store (keeps_pr c g L hg) 8 _)
  obtain ⟨w16, ew⟩ : ∃ W, w15.setCell ⟨cb, 8, none⟩ (.string (str S)) = W := ⟨_, rfl⟩
  rw [ew] at R16 ⊢
  clear ew fz j0 j1 j2 j3 j4 j5 j6 j7 j8 R14 R15
  obtain ⟨j0, j1, j2, j3, j4, j5, j6, j7, j8⟩ := cmd_at R16.out.cmd
  obtain ⟨fr0, fr1, fr2, fr3, fr4, fr5, fr6, fr7, fr8, m0, m1, m2, m3, m4, m5, m6, m7, m8⟩ := block9 R16.out.res
  go_wp2_with fail
  rw [set9 _ _ _ _ _ _ _ _ _ R16.out.res]
  (try simp only [Exit.inBlock, Exit.then])
  refine bodyPost_ret (results_cell_row rfl _ _ (rb) 23 _ (0, 0) _ rfl (setRow_heap _ _ _ _ _ _ R16.out.res) rfl rfl rfl) rfl ?_
  exact ⟨rfl, (keeps_pr c g L hg).keep _ _ _ _ _ R16.out.rd (setRow_only _ _ _) (fun i e => by rw [e]; exact hrb), R16.out.only.step (setRow_only _ _ _) (fun i hi e => by have := erb.out; omega)⟩
set_option maxRecDepth 100000 in
set_option maxHeartbeats 1000000 in
theorem PRead_2 (c g : Nat) (L : List UInt8) (i : Int) (k0 y0 k1 y1 : Nat) (w : World) (h : Hid (PR c g L k0 y0 w)) (hg : g ≤ c) (ea0 : Hid ((wrap64 (numL (rdTake L k0 y0 8).1) : Int) = i)) (eb0 : Hid ((rdTake L k0 y0 8).2.1 = k1)) (ec0 : Hid ((rdTake L k0 y0 8).2.2 = y1)) :
    Calls Try.prog 49 #[.pointer (some ⟨c, 0, none⟩), .int .i64 2] w fun e w' => e = .returned (.agg #[.int .i64 2, .int .i64 i, .int .i64 0, .int .i64 0, .int .i64 0, .int .i64 0, .int .i64 0, .int .i64 0, .string (str [])]) ∧ PR c g L k1 y1 w' ∧ Only (fun b => b = c) w w' := by
  have hcw := h.out.lt
  obtain ⟨w0, ew⟩ : ∃ W, w.alloc (.cells #[.int .i64 0, .int .i64 0, .int .i64 0, .int .i64 0, .int .i64 0, .int .i64 0, .int .i64 0, .int .i64 0, .string { data := #[] }] 23) = W := ⟨_, rfl⟩
  have P0 : Hid (PR c g L k0 y0 w0) := Lib.hid (by rw [← ew]; exact h.out.only (alloc_only w _) (fun e => e) (fun e => e))
  have O0 : Hid (Only (fun b => b = c) w w0) := Lib.hid (by rw [← ew]; exact (alloc_only w _).mono (fun _ _ e => e.elim))
  have H0 : Hid (w0.heap[w.heap.size]? = some (.cells #[.int .i64 0, .int .i64 0, .int .i64 0, .int .i64 0, .int .i64 0, .int .i64 0, .int .i64 0, .int .i64 0, .string (str [])] 23 (0, 0))) := Lib.hid (by rw [← ew]; exact heap_alloc_new w _)
  replace ew := Lib.hid ew
  obtain ⟨rb, erb⟩ : ∃ rb, w.heap.size = rb := ⟨_, rfl⟩
  rw [erb] at H0
  have hrb : c < rb := by omega
  replace erb := Lib.hid erb
  go_enter Try.func49, Try.ntmps49
  go_wp2_with fail
  rw [ew.out, erb.out]
  refine (PLong_any c g L k0 y0 w0 P0).mono ?_
  rintro e w1 ⟨rfl, P1, G1⟩
  rw [ea0.out]
  rw [eb0.out, ec0.out] at P1
  have hb1 : rb < w1.heap.size := Nat.lt_of_lt_of_le (Array.getElem?_eq_some_iff.1 H0.out).1 G1.size
  have H1 := Lib.hid ((G1.block rb (Array.getElem?_eq_some_iff.1 H0.out).1 (fun e => by injection e with e; omega)).trans H0.out)
  have O1 := Lib.hid (O0.out.trans ((only_grown G1).mono (fun j _ e => by injection e)))
  clear G1
  go_upto_region 2 with (fail)
  obtain ⟨w2, ew2⟩ : ∃ W, w1.alloc (.cells #[.int .i64 2, .int .i64 i, .int .i64 0, .int .i64 0, .int .i64 0, .int .i64 0, .int .i64 0, .int .i64 0, .string { data := #[] }] 23) = W := ⟨_, rfl⟩
  obtain ⟨cb, ecb⟩ : ∃ cb, w1.heap.size = cb := ⟨_, rfl⟩
  have R2 : Hid (RS (PR c g L) c rb cb k1 y1 #[.int .i64 2, .int .i64 i, .int .i64 0, .int .i64 0, .int .i64 0, .int .i64 0, .int .i64 0, .int .i64 0, .string (str [])] w w2) := Lib.hid (by
    rw [← ew2]
    refine ⟨P1.only (alloc_only w1 _) (fun e => e) (fun e => e), (heap_alloc_old _ _ hb1).trans H1.out, by rw [← ecb]; exact heap_alloc_new w1 _, O1.out.step (alloc_only w1 _) (fun _ _ e => e.elim), by omega, by omega, by omega, by rw [erb.out]; exact Nat.le_refl _, by have := erb.out; omega⟩)
  rw [ew2, ecb]
  have hbc : rb < cb := by omega
  clear ew2 ecb P1 H1 O1 P0 O0 H0 hb1
  obtain ⟨j0, j1, j2, j3, j4, j5, j6, j7, j8⟩ := cmd_at R2.out.cmd
  obtain ⟨fr0, fr1, fr2, fr3, fr4, fr5, fr6, fr7, fr8, m0, m1, m2, m3, m4, m5, m6, m7, m8⟩ := block9 R2.out.res
  go_wp2_with fail
  rw [set9 _ _ _ _ _ _ _ _ _ R2.out.res]
  (try simp only [Exit.inBlock, Exit.then])
  refine bodyPost_ret (results_cell_row rfl _ _ (rb) 23 _ (0, 0) _ rfl (setRow_heap _ _ _ _ _ _ R2.out.res) rfl rfl rfl) rfl ?_
  exact ⟨rfl, (keeps_pr c g L hg).keep _ _ _ _ _ R2.out.rd (setRow_only _ _ _) (fun i e => by rw [e]; exact hrb), R2.out.only.step (setRow_only _ _ _) (fun i hi e => by have := erb.out; omega)⟩
set_option maxRecDepth 100000 in
set_option maxHeartbeats 1000000 in
theorem PRead_3 (c g : Nat) (L : List UInt8) (i q : Int) (k0 y0 k1 y1 k2 y2 : Nat) (w : World) (h : Hid (PR c g L k0 y0 w)) (hg : g ≤ c) (ea0 : Hid ((wrap64 (numL (rdTake L k0 y0 8).1) : Int) = i)) (eb0 : Hid ((rdTake L k0 y0 8).2.1 = k1)) (ec0 : Hid ((rdTake L k0 y0 8).2.2 = y1)) (ea1 : Hid ((wrap64 (numL (rdTake L k1 y1 8).1) : Int) = q)) (eb1 : Hid ((rdTake L k1 y1 8).2.1 = k2)) (ec1 : Hid ((rdTake L k1 y1 8).2.2 = y2)) :
    Calls Try.prog 49 #[.pointer (some ⟨c, 0, none⟩), .int .i64 3] w fun e w' => e = .returned (.agg #[.int .i64 3, .int .i64 i, .int .i64 0, .int .i64 0, .int .i64 0, .int .i64 q, .int .i64 0, .int .i64 0, .string (str [])]) ∧ PR c g L k2 y2 w' ∧ Only (fun b => b = c) w w' := by
  have hcw := h.out.lt
  obtain ⟨w0, ew⟩ : ∃ W, w.alloc (.cells #[.int .i64 0, .int .i64 0, .int .i64 0, .int .i64 0, .int .i64 0, .int .i64 0, .int .i64 0, .int .i64 0, .string { data := #[] }] 23) = W := ⟨_, rfl⟩
  have P0 : Hid (PR c g L k0 y0 w0) := Lib.hid (by rw [← ew]; exact h.out.only (alloc_only w _) (fun e => e) (fun e => e))
  have O0 : Hid (Only (fun b => b = c) w w0) := Lib.hid (by rw [← ew]; exact (alloc_only w _).mono (fun _ _ e => e.elim))
  have H0 : Hid (w0.heap[w.heap.size]? = some (.cells #[.int .i64 0, .int .i64 0, .int .i64 0, .int .i64 0, .int .i64 0, .int .i64 0, .int .i64 0, .int .i64 0, .string (str [])] 23 (0, 0))) := Lib.hid (by rw [← ew]; exact heap_alloc_new w _)
  replace ew := Lib.hid ew
  obtain ⟨rb, erb⟩ : ∃ rb, w.heap.size = rb := ⟨_, rfl⟩
  rw [erb] at H0
  have hrb : c < rb := by omega
  replace erb := Lib.hid erb
  go_enter Try.func49, Try.ntmps49
  go_wp2_with fail
  rw [ew.out, erb.out]
  refine (PLong_any c g L k0 y0 w0 P0).mono ?_
  rintro e w1 ⟨rfl, P1, G1⟩
  rw [ea0.out]
  rw [eb0.out, ec0.out] at P1
  have hb1 : rb < w1.heap.size := Nat.lt_of_lt_of_le (Array.getElem?_eq_some_iff.1 H0.out).1 G1.size
  have H1 := Lib.hid ((G1.block rb (Array.getElem?_eq_some_iff.1 H0.out).1 (fun e => by injection e with e; omega)).trans H0.out)
  have O1 := Lib.hid (O0.out.trans ((only_grown G1).mono (fun j _ e => by injection e)))
  clear G1
  go_upto_region 2 with (fail)
  obtain ⟨w2, ew2⟩ : ∃ W, w1.alloc (.cells #[.int .i64 3, .int .i64 i, .int .i64 0, .int .i64 0, .int .i64 0, .int .i64 0, .int .i64 0, .int .i64 0, .string { data := #[] }] 23) = W := ⟨_, rfl⟩
  obtain ⟨cb, ecb⟩ : ∃ cb, w1.heap.size = cb := ⟨_, rfl⟩
  have R2 : Hid (RS (PR c g L) c rb cb k1 y1 #[.int .i64 3, .int .i64 i, .int .i64 0, .int .i64 0, .int .i64 0, .int .i64 0, .int .i64 0, .int .i64 0, .string (str [])] w w2) := Lib.hid (by
    rw [← ew2]
    refine ⟨P1.only (alloc_only w1 _) (fun e => e) (fun e => e), (heap_alloc_old _ _ hb1).trans H1.out, by rw [← ecb]; exact heap_alloc_new w1 _, O1.out.step (alloc_only w1 _) (fun _ _ e => e.elim), by omega, by omega, by omega, by rw [erb.out]; exact Nat.le_refl _, by have := erb.out; omega⟩)
  rw [ew2, ecb]
  have hbc : rb < cb := by omega
  clear ew2 ecb P1 H1 O1 P0 O0 H0 hb1
  go_wp2_with fail
  refine (PLong_any c g L k1 y1 w2 (Lib.hid R2.out.rd)).mono ?_
  rintro e w3 ⟨rfl, P, G⟩
  rw [ea1.out]
  rw [eb1.out, ec1.out] at P
  have R3 := Lib.hid (R2.out.read P G)
  clear P G
  obtain ⟨j0, j1, j2, j3, j4, j5, j6, j7, j8⟩ := cmd_at R3.out.cmd
  have fz : w3.frozen? ⟨cb, 5, none⟩ = false := Lib.frozen_of_heap R3.out.cmd 5
  go_upto_region 16 with (fail)
  have R4 : Hid (RS (PR c g L) c rb cb k2 y2 #[.int .i64 3, .int .i64 i, .int .i64 0, .int .i64 0, .int .i64 0, .int .i64 q, .int .i64 0, .int .i64 0, .string (str [])] w (w3.setCell ⟨cb, 5, none⟩ (.int .i64 q))) := Lib.hid (R3.out.store (keeps_pr c g L hg) 5 _)
  obtain ⟨w4, ew⟩ : ∃ W, w3.setCell ⟨cb, 5, none⟩ (.int .i64 q) = W := ⟨_, rfl⟩
  rw [ew] at R4 ⊢
  clear ew fz j0 j1 j2 j3 j4 j5 j6 j7 j8 R2 R3
  obtain ⟨j0, j1, j2, j3, j4, j5, j6, j7, j8⟩ := cmd_at R4.out.cmd
  obtain ⟨fr0, fr1, fr2, fr3, fr4, fr5, fr6, fr7, fr8, m0, m1, m2, m3, m4, m5, m6, m7, m8⟩ := block9 R4.out.res
  go_wp2_with fail
  rw [set9 _ _ _ _ _ _ _ _ _ R4.out.res]
  (try simp only [Exit.inBlock, Exit.then])
  refine bodyPost_ret (results_cell_row rfl _ _ (rb) 23 _ (0, 0) _ rfl (setRow_heap _ _ _ _ _ _ R4.out.res) rfl rfl rfl) rfl ?_
  exact ⟨rfl, (keeps_pr c g L hg).keep _ _ _ _ _ R4.out.rd (setRow_only _ _ _) (fun i e => by rw [e]; exact hrb), R4.out.only.step (setRow_only _ _ _) (fun i hi e => by have := erb.out; omega)⟩
set_option maxRecDepth 100000 in
set_option maxHeartbeats 1000000 in
theorem PRead_4 (c g : Nat) (L : List UInt8) (i p q : Int) (k0 y0 k1 y1 k2 y2 k3 y3 : Nat) (w : World) (h : Hid (PR c g L k0 y0 w)) (hg : g ≤ c) (ea0 : Hid ((wrap64 (numL (rdTake L k0 y0 8).1) : Int) = i)) (eb0 : Hid ((rdTake L k0 y0 8).2.1 = k1)) (ec0 : Hid ((rdTake L k0 y0 8).2.2 = y1)) (ea1 : Hid ((wrap64 (numL (rdTake L k1 y1 8).1) : Int) = p)) (eb1 : Hid ((rdTake L k1 y1 8).2.1 = k2)) (ec1 : Hid ((rdTake L k1 y1 8).2.2 = y2)) (ea2 : Hid ((wrap64 (numL (rdTake L k2 y2 8).1) : Int) = q)) (eb2 : Hid ((rdTake L k2 y2 8).2.1 = k3)) (ec2 : Hid ((rdTake L k2 y2 8).2.2 = y3)) :
    Calls Try.prog 49 #[.pointer (some ⟨c, 0, none⟩), .int .i64 4] w fun e w' => e = .returned (.agg #[.int .i64 4, .int .i64 i, .int .i64 0, .int .i64 0, .int .i64 p, .int .i64 q, .int .i64 0, .int .i64 0, .string (str [])]) ∧ PR c g L k3 y3 w' ∧ Only (fun b => b = c) w w' := by
  have hcw := h.out.lt
  obtain ⟨w0, ew⟩ : ∃ W, w.alloc (.cells #[.int .i64 0, .int .i64 0, .int .i64 0, .int .i64 0, .int .i64 0, .int .i64 0, .int .i64 0, .int .i64 0, .string { data := #[] }] 23) = W := ⟨_, rfl⟩
  have P0 : Hid (PR c g L k0 y0 w0) := Lib.hid (by rw [← ew]; exact h.out.only (alloc_only w _) (fun e => e) (fun e => e))
  have O0 : Hid (Only (fun b => b = c) w w0) := Lib.hid (by rw [← ew]; exact (alloc_only w _).mono (fun _ _ e => e.elim))
  have H0 : Hid (w0.heap[w.heap.size]? = some (.cells #[.int .i64 0, .int .i64 0, .int .i64 0, .int .i64 0, .int .i64 0, .int .i64 0, .int .i64 0, .int .i64 0, .string (str [])] 23 (0, 0))) := Lib.hid (by rw [← ew]; exact heap_alloc_new w _)
  replace ew := Lib.hid ew
  obtain ⟨rb, erb⟩ : ∃ rb, w.heap.size = rb := ⟨_, rfl⟩
  rw [erb] at H0
  have hrb : c < rb := by omega
  replace erb := Lib.hid erb
  go_enter Try.func49, Try.ntmps49
  go_wp2_with fail
  rw [ew.out, erb.out]
  refine (PLong_any c g L k0 y0 w0 P0).mono ?_
  rintro e w1 ⟨rfl, P1, G1⟩
  rw [ea0.out]
  rw [eb0.out, ec0.out] at P1
  have hb1 : rb < w1.heap.size := Nat.lt_of_lt_of_le (Array.getElem?_eq_some_iff.1 H0.out).1 G1.size
  have H1 := Lib.hid ((G1.block rb (Array.getElem?_eq_some_iff.1 H0.out).1 (fun e => by injection e with e; omega)).trans H0.out)
  have O1 := Lib.hid (O0.out.trans ((only_grown G1).mono (fun j _ e => by injection e)))
  clear G1
  go_upto_region 2 with (fail)
  obtain ⟨w2, ew2⟩ : ∃ W, w1.alloc (.cells #[.int .i64 4, .int .i64 i, .int .i64 0, .int .i64 0, .int .i64 0, .int .i64 0, .int .i64 0, .int .i64 0, .string { data := #[] }] 23) = W := ⟨_, rfl⟩
  obtain ⟨cb, ecb⟩ : ∃ cb, w1.heap.size = cb := ⟨_, rfl⟩
  have R2 : Hid (RS (PR c g L) c rb cb k1 y1 #[.int .i64 4, .int .i64 i, .int .i64 0, .int .i64 0, .int .i64 0, .int .i64 0, .int .i64 0, .int .i64 0, .string (str [])] w w2) := Lib.hid (by
    rw [← ew2]
    refine ⟨P1.only (alloc_only w1 _) (fun e => e) (fun e => e), (heap_alloc_old _ _ hb1).trans H1.out, by rw [← ecb]; exact heap_alloc_new w1 _, O1.out.step (alloc_only w1 _) (fun _ _ e => e.elim), by omega, by omega, by omega, by rw [erb.out]; exact Nat.le_refl _, by have := erb.out; omega⟩)
  rw [ew2, ecb]
  have hbc : rb < cb := by omega
  clear ew2 ecb P1 H1 O1 P0 O0 H0 hb1
  go_wp2_with fail
  refine (PLong_any c g L k1 y1 w2 (Lib.hid R2.out.rd)).mono ?_
  rintro e w3 ⟨rfl, P, G⟩
  rw [ea1.out]
  rw [eb1.out, ec1.out] at P
  have R3 := Lib.hid (R2.out.read P G)
  clear P G
  obtain ⟨j0, j1, j2, j3, j4, j5, j6, j7, j8⟩ := cmd_at R3.out.cmd
  have fz : w3.frozen? ⟨cb, 4, none⟩ = false := Lib.frozen_of_heap R3.out.cmd 4
  go_upto_region 15 with (fail)
  have R4 : Hid (RS (PR c g L) c rb cb k2 y2 #[.int .i64 4, .int .i64 i, .int .i64 0, .int .i64 0, .int .i64 p, .int .i64 0, .int .i64 0, .int .i64 0, .string (str [])] w (w3.setCell ⟨cb, 4, none⟩ (.int .i64 p))) := Lib.hid (R3.out.store (keeps_pr c g L hg) 4 _)
  obtain ⟨w4, ew⟩ : ∃ W, w3.setCell ⟨cb, 4, none⟩ (.int .i64 p) = W := ⟨_, rfl⟩
  rw [ew] at R4 ⊢
  clear ew fz j0 j1 j2 j3 j4 j5 j6 j7 j8 R2 R3
  go_wp2_with fail
  refine (PLong_any c g L k2 y2 w4 (Lib.hid R4.out.rd)).mono ?_
  rintro e w5 ⟨rfl, P, G⟩
  rw [ea2.out]
  rw [eb2.out, ec2.out] at P
  have R5 := Lib.hid (R4.out.read P G)
  clear P G
  obtain ⟨j0, j1, j2, j3, j4, j5, j6, j7, j8⟩ := cmd_at R5.out.cmd
  have fz : w5.frozen? ⟨cb, 5, none⟩ = false := Lib.frozen_of_heap R5.out.cmd 5
  go_upto_region 16 with (fail)
  have R6 : Hid (RS (PR c g L) c rb cb k3 y3 #[.int .i64 4, .int .i64 i, .int .i64 0, .int .i64 0, .int .i64 p, .int .i64 q, .int .i64 0, .int .i64 0, .string (str [])] w (w5.setCell ⟨cb, 5, none⟩ (.int .i64 q))) := Lib.hid (R5.out.store (keeps_pr c g L hg) 5 _)
  obtain ⟨w6, ew⟩ : ∃ W, w5.setCell ⟨cb, 5, none⟩ (.int .i64 q) = W := ⟨_, rfl⟩
  rw [ew] at R6 ⊢
  clear ew fz j0 j1 j2 j3 j4 j5 j6 j7 j8 R4 R5
  obtain ⟨j0, j1, j2, j3, j4, j5, j6, j7, j8⟩ := cmd_at R6.out.cmd
  obtain ⟨fr0, fr1, fr2, fr3, fr4, fr5, fr6, fr7, fr8, m0, m1, m2, m3, m4, m5, m6, m7, m8⟩ := block9 R6.out.res
  go_wp2_with fail
  rw [set9 _ _ _ _ _ _ _ _ _ R6.out.res]
  (try simp only [Exit.inBlock, Exit.then])
  refine bodyPost_ret (results_cell_row rfl _ _ (rb) 23 _ (0, 0) _ rfl (setRow_heap _ _ _ _ _ _ R6.out.res) rfl rfl rfl) rfl ?_
  exact ⟨rfl, (keeps_pr c g L hg).keep _ _ _ _ _ R6.out.rd (setRow_only _ _ _) (fun i e => by rw [e]; exact hrb), R6.out.only.step (setRow_only _ _ _) (fun i hi e => by have := erb.out; omega)⟩
theorem readV_1 (l : List UInt8) (k y : Nat) : readV l k y 1 = ⟨1, wrap64 (numL (dI l k y).1), (headN (dN l k y).1 : Nat), (headN (dS l k y).1 : Nat), wrap64 (numL (dP l k y).1), wrap64 (numL (dQ l k y).1), wrap64 (numL (dL l k y).1), (headN (dT l k y).1 : Nat), (dX l k y).1⟩ := if_pos rfl
theorem readP_1 (l : List UInt8) (k y : Nat) : readP l k y 1 = (dX l k y).2 := if_pos rfl
theorem readV_2 (l : List UInt8) (k y : Nat) : readV l k y 2 = ⟨2, wrap64 (numL (dI l k y).1), 0, 0, 0, 0, 0, 0, []⟩ := (if_neg (by decide)).trans (if_pos rfl)
theorem readP_2 (l : List UInt8) (k y : Nat) : readP l k y 2 = (dI l k y).2 := (if_neg (by decide)).trans (if_pos rfl)
theorem readV_3 (l : List UInt8) (k y : Nat) : readV l k y 3 = ⟨3, wrap64 (numL (dI l k y).1), 0, 0, 0, wrap64 (numL (eA l k y).1), 0, 0, []⟩ := (if_neg (by decide)).trans ((if_neg (by decide)).trans (if_pos rfl))
theorem readP_3 (l : List UInt8) (k y : Nat) : readP l k y 3 = (eA l k y).2 := (if_neg (by decide)).trans ((if_neg (by decide)).trans (if_pos rfl))
theorem readV_4 (l : List UInt8) (k y : Nat) : readV l k y 4 = ⟨4, wrap64 (numL (dI l k y).1), 0, 0, wrap64 (numL (eA l k y).1), wrap64 (numL (eB l k y).1), 0, 0, []⟩ := (if_neg (by decide)).trans ((if_neg (by decide)).trans (if_neg (by decide)))
theorem readP_4 (l : List UInt8) (k y : Nat) : readP l k y 4 = (eB l k y).2 := (if_neg (by decide)).trans ((if_neg (by decide)).trans (if_neg (by decide)))
set_option maxRecDepth 100000 in
set_option maxHeartbeats 1000000 in
theorem PRead_at1 (c g : Nat) (l : List UInt8) (k y : Nat) (w : World) (h : Hid (PR c g l k y w)) (hg : g ≤ c) :
    Calls Try.prog 49 #[.pointer (some ⟨c, 0, none⟩), .int .i64 1] w fun e w' => e = .returned (readV l k y 1).val ∧ PR c g l (readP l k y 1).1 (readP l k y 1).2 w' ∧ Only (fun b => b = c) w w' := by
    rw [readV_1, readP_1]
    obtain ⟨i, ei⟩ : ∃ x, (wrap64 (numL (dI l k y).1) : Int) = x := ⟨_, rfl⟩
    obtain ⟨k1, ek1⟩ : ∃ x, (dI l k y).2.1 = x := ⟨_, rfl⟩
    obtain ⟨y1, ey1⟩ : ∃ x, (dI l k y).2.2 = x := ⟨_, rfl⟩
    obtain ⟨n, en⟩ : ∃ x, ((headN (dN l k y).1 : Nat) : Int) = x := ⟨_, rfl⟩
    obtain ⟨k2, ek2⟩ : ∃ x, (dN l k y).2.1 = x := ⟨_, rfl⟩
    obtain ⟨y2, ey2⟩ : ∃ x, (dN l k y).2.2 = x := ⟨_, rfl⟩
    obtain ⟨s, es⟩ : ∃ x, ((headN (dS l k y).1 : Nat) : Int) = x := ⟨_, rfl⟩
    obtain ⟨k3, ek3⟩ : ∃ x, (dS l k y).2.1 = x := ⟨_, rfl⟩
    obtain ⟨y3, ey3⟩ : ∃ x, (dS l k y).2.2 = x := ⟨_, rfl⟩
    obtain ⟨t, et⟩ : ∃ x, ((headN (dT l k y).1 : Nat) : Int) = x := ⟨_, rfl⟩
    obtain ⟨k4, ek4⟩ : ∃ x, (dT l k y).2.1 = x := ⟨_, rfl⟩
    obtain ⟨y4, ey4⟩ : ∃ x, (dT l k y).2.2 = x := ⟨_, rfl⟩
    obtain ⟨p, ep⟩ : ∃ x, (wrap64 (numL (dP l k y).1) : Int) = x := ⟨_, rfl⟩
    obtain ⟨k5, ek5⟩ : ∃ x, (dP l k y).2.1 = x := ⟨_, rfl⟩
    obtain ⟨y5, ey5⟩ : ∃ x, (dP l k y).2.2 = x := ⟨_, rfl⟩
    obtain ⟨q, eq⟩ : ∃ x, (wrap64 (numL (dQ l k y).1) : Int) = x := ⟨_, rfl⟩
    obtain ⟨k6, ek6⟩ : ∃ x, (dQ l k y).2.1 = x := ⟨_, rfl⟩
    obtain ⟨y6, ey6⟩ : ∃ x, (dQ l k y).2.2 = x := ⟨_, rfl⟩
    obtain ⟨lz, elz⟩ : ∃ x, (wrap64 (numL (dL l k y).1) : Int) = x := ⟨_, rfl⟩
    obtain ⟨k7, ek7⟩ : ∃ x, (dL l k y).2.1 = x := ⟨_, rfl⟩
    obtain ⟨y7, ey7⟩ : ∃ x, (dL l k y).2.2 = x := ⟨_, rfl⟩
    obtain ⟨S, eS⟩ : ∃ x, (dX l k y).1 = x := ⟨_, rfl⟩
    obtain ⟨k8, ek8⟩ : ∃ x, (dX l k y).2.1 = x := ⟨_, rfl⟩
    obtain ⟨y8, ey8⟩ : ∃ x, (dX l k y).2.2 = x := ⟨_, rfl⟩
    rw [ei, en, es, et, ep, eq, elz, eS, ek8, ey8]
    exact PRead_1 c g l i n s t p q lz S k y k1 y1 k2 y2 k3 y3 k4 y4 k5 y5 k6 y6 k7 y7 k8 y8 w h hg (Lib.hid (by rw [← ei, dI])) (Lib.hid (by rw [← ek1, dI])) (Lib.hid (by rw [← ey1, dI])) (Lib.hid (by rw [← en, dN, ek1, ey1])) (Lib.hid (by rw [← ek2, dN, ek1, ey1])) (Lib.hid (by rw [← ey2, dN, ek1, ey1])) (Lib.hid (by rw [← es, dS, ek2, ey2])) (Lib.hid (by rw [← ek3, dS, ek2, ey2])) (Lib.hid (by rw [← ey3, dS, ek2, ey2])) (Lib.hid (by rw [← et, dT, ek3, ey3])) (Lib.hid (by rw [← ek4, dT, ek3, ey3])) (Lib.hid (by rw [← ey4, dT, ek3, ey3])) (Lib.hid (by rw [← ep, dP, ek4, ey4])) (Lib.hid (by rw [← ek5, dP, ek4, ey4])) (Lib.hid (by rw [← ey5, dP, ek4, ey4])) (Lib.hid (by rw [← eq, dQ, ek5, ey5])) (Lib.hid (by rw [← ek6, dQ, ek5, ey5])) (Lib.hid (by rw [← ey6, dQ, ek5, ey5])) (Lib.hid (by rw [← elz, dL, ek6, ey6])) (Lib.hid (by rw [← ek7, dL, ek6, ey6])) (Lib.hid (by rw [← ey7, dL, ek6, ey6])) (Lib.hid (by rw [← eS, dX, ek7, ey7])) (Lib.hid (by rw [← ek8, dX, ek7, ey7])) (Lib.hid (by rw [← ey8, dX, ek7, ey7]))
set_option maxRecDepth 100000 in
set_option maxHeartbeats 1000000 in
theorem PRead_at2 (c g : Nat) (l : List UInt8) (k y : Nat) (w : World) (h : Hid (PR c g l k y w)) (hg : g ≤ c) :
    Calls Try.prog 49 #[.pointer (some ⟨c, 0, none⟩), .int .i64 2] w fun e w' => e = .returned (readV l k y 2).val ∧ PR c g l (readP l k y 2).1 (readP l k y 2).2 w' ∧ Only (fun b => b = c) w w' := by
    rw [readV_2, readP_2]
    obtain ⟨i, ei⟩ : ∃ x, (wrap64 (numL (dI l k y).1) : Int) = x := ⟨_, rfl⟩
    obtain ⟨k1, ek1⟩ : ∃ x, (dI l k y).2.1 = x := ⟨_, rfl⟩
    obtain ⟨y1, ey1⟩ : ∃ x, (dI l k y).2.2 = x := ⟨_, rfl⟩
    rw [ei, ek1, ey1]
    exact PRead_2 c g l i k y k1 y1 w h hg (Lib.hid (by rw [← ei, dI])) (Lib.hid (by rw [← ek1, dI])) (Lib.hid (by rw [← ey1, dI]))
set_option maxRecDepth 100000 in
set_option maxHeartbeats 1000000 in
theorem PRead_at3 (c g : Nat) (l : List UInt8) (k y : Nat) (w : World) (h : Hid (PR c g l k y w)) (hg : g ≤ c) :
    Calls Try.prog 49 #[.pointer (some ⟨c, 0, none⟩), .int .i64 3] w fun e w' => e = .returned (readV l k y 3).val ∧ PR c g l (readP l k y 3).1 (readP l k y 3).2 w' ∧ Only (fun b => b = c) w w' := by
    rw [readV_3, readP_3]
    obtain ⟨i, ei⟩ : ∃ x, (wrap64 (numL (dI l k y).1) : Int) = x := ⟨_, rfl⟩
    obtain ⟨k1, ek1⟩ : ∃ x, (dI l k y).2.1 = x := ⟨_, rfl⟩
    obtain ⟨y1, ey1⟩ : ∃ x, (dI l k y).2.2 = x := ⟨_, rfl⟩
    obtain ⟨q, eq⟩ : ∃ x, (wrap64 (numL (eA l k y).1) : Int) = x := ⟨_, rfl⟩
    obtain ⟨k2, ek2⟩ : ∃ x, (eA l k y).2.1 = x := ⟨_, rfl⟩
    obtain ⟨y2, ey2⟩ : ∃ x, (eA l k y).2.2 = x := ⟨_, rfl⟩
    rw [ei, eq, ek2, ey2]
    exact PRead_3 c g l i q k y k1 y1 k2 y2 w h hg (Lib.hid (by rw [← ei, dI])) (Lib.hid (by rw [← ek1, dI])) (Lib.hid (by rw [← ey1, dI])) (Lib.hid (by rw [← eq, eA, ek1, ey1])) (Lib.hid (by rw [← ek2, eA, ek1, ey1])) (Lib.hid (by rw [← ey2, eA, ek1, ey1]))
set_option maxRecDepth 100000 in
set_option maxHeartbeats 1000000 in
theorem PRead_at4 (c g : Nat) (l : List UInt8) (k y : Nat) (w : World) (h : Hid (PR c g l k y w)) (hg : g ≤ c) :
    Calls Try.prog 49 #[.pointer (some ⟨c, 0, none⟩), .int .i64 4] w fun e w' => e = .returned (readV l k y 4).val ∧ PR c g l (readP l k y 4).1 (readP l k y 4).2 w' ∧ Only (fun b => b = c) w w' := by
    rw [readV_4, readP_4]
    obtain ⟨i, ei⟩ : ∃ x, (wrap64 (numL (dI l k y).1) : Int) = x := ⟨_, rfl⟩
    obtain ⟨k1, ek1⟩ : ∃ x, (dI l k y).2.1 = x := ⟨_, rfl⟩
    obtain ⟨y1, ey1⟩ : ∃ x, (dI l k y).2.2 = x := ⟨_, rfl⟩
    obtain ⟨p, ep⟩ : ∃ x, (wrap64 (numL (eA l k y).1) : Int) = x := ⟨_, rfl⟩
    obtain ⟨k2, ek2⟩ : ∃ x, (eA l k y).2.1 = x := ⟨_, rfl⟩
    obtain ⟨y2, ey2⟩ : ∃ x, (eA l k y).2.2 = x := ⟨_, rfl⟩
    obtain ⟨q, eq⟩ : ∃ x, (wrap64 (numL (eB l k y).1) : Int) = x := ⟨_, rfl⟩
    obtain ⟨k3, ek3⟩ : ∃ x, (eB l k y).2.1 = x := ⟨_, rfl⟩
    obtain ⟨y3, ey3⟩ : ∃ x, (eB l k y).2.2 = x := ⟨_, rfl⟩
    rw [ei, ep, eq, ek3, ey3]
    exact PRead_4 c g l i p q k y k1 y1 k2 y2 k3 y3 w h hg (Lib.hid (by rw [← ei, dI])) (Lib.hid (by rw [← ek1, dI])) (Lib.hid (by rw [← ey1, dI])) (Lib.hid (by rw [← ep, eA, ek1, ey1])) (Lib.hid (by rw [← ek2, eA, ek1, ey1])) (Lib.hid (by rw [← ey2, eA, ek1, ey1])) (Lib.hid (by rw [← eq, eB, ek2, ey2])) (Lib.hid (by rw [← ek3, eB, ek2, ey2])) (Lib.hid (by rw [← ey3, eB, ek2, ey2]))
theorem PRead_any (c g : Nat) (l : List UInt8) (k y : Nat) (z : Int) (w : World) (h : Hid (PR c g l k y w)) (hg : g ≤ c) (z1 : 1 ≤ z) (z2 : z ≤ 4) :
    Calls Try.prog 49 #[.pointer (some ⟨c, 0, none⟩), .int .i64 z] w fun e w' => e = .returned (readV l k y z).val ∧ PR c g l (readP l k y z).1 (readP l k y z).2 w' ∧ Only (fun b => b = c) w w' := by
  have h0 : z = 1 ∨ z = 2 ∨ z = 3 ∨ z = 4 := by omega
  rcases h0 with rfl | rfl | rfl | rfl
  · exact PRead_at1 c g l k y w h hg
  · exact PRead_at2 c g l k y w h hg
  · exact PRead_at3 c g l k y w h hg
  · exact PRead_at4 c g l k y w h hg
end Go.Proofs.Ytdbaphmhfoajgaa
