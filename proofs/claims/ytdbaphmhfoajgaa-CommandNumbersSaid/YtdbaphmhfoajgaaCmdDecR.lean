/-
  Contract: Decode, of the document.
-/
import Derived.Test.YtdbaphmhfoajgaaCmdSrc
import Derived.Test.YtdbaphmhfoajgaaCmdRef
import Derived.Test.YtdbaphmhfoajgaaCmdReadP
import Derived.Test.YtdbaphmhfoajgaaCmdDec
namespace Go.Proofs.Ytdbaphmhfoajgaa
open Go.RowKit
set_option linter.unusedVariables false
set_option linter.unusedSimpArgs false

set_option maxRecDepth 100000 in
set_option maxHeartbeats 1000000 in
theorem RDec_low (A : Option Addr) (n0 cap : Nat) (L : List UInt8) (z : Int) (k0 y0 : Nat) (w : World) (h : Hid (Src w A n0 cap L)) (ez : Hid (((headN (rdTake L 0 0 1).1 : Nat) : Int) = z)) (ek : Hid ((rdTake L 0 0 1).2.1 = k0)) (ey : Hid ((rdTake L 0 0 1).2.2 = y0)) (hz : z < 1) :
    Calls Try.prog 42 #[.slice A n0 cap] w fun e w' => e = .returned (.tuple #[zeroC.val, .int .i64 31]) ∧ Below w.heap.size w w' := by
  have d1 : decide (z < 1) = true := decide_eq_true (by omega)
  obtain ⟨w0, ew⟩ : ∃ W, (w.alloc (.cells #[.int .i64 0, .int .i64 0, .int .i64 0, .int .i64 0, .int .i64 0, .int .i64 0, .int .i64 0, .int .i64 0, .string { data := #[] }] 23)).alloc (.cells #[.slice A n0 cap, .int .i64 0, .int .i64 0] 101) = W := ⟨_, rfl⟩
  obtain ⟨rb, erb⟩ : ∃ rb, w.heap.size = rb := ⟨_, rfl⟩
  obtain ⟨c, ec⟩ : ∃ c, w.heap.size + 1 = c := ⟨_, rfl⟩
  have hA : Hid (∀ b off sp, A = some ⟨b, off, sp⟩ → b < c) := Lib.hid (fun b off sp e => by have := (h.out.at' _ e).1; have h2 : b < w.heap.size := this; omega)
  have bb : Below w.heap.size w w0 := by rw [← ew]; exact ((Below.refl _ w).alloc (Nat.le_refl _) _).alloc (by simp) _
  have P0 : Hid (Rd c A n0 cap L 0 0 w0) := Lib.hid ⟨by rw [← ew, ← ec]; exact heap_alloc2_new w _ _, h.out.hb.below bb, fun b off sp e => by have := hA.out b off sp e; omega, Nat.zero_le _, h.out.ncap, h.out.cmax, h.out.nmax, h.out.none0, fun ad e => (h.out.at' ad e).2⟩
  have H0 : Hid (w0.heap[rb]? = some (.cells #[.int .i64 0, .int .i64 0, .int .i64 0, .int .i64 0, .int .i64 0, .int .i64 0, .int .i64 0, .int .i64 0, .string (str [])] 23 (0, 0))) := Lib.hid (by rw [← ew, ← erb]; exact (heap_alloc_old _ _ (by simp)).trans (heap_alloc_new w _))
  have O0 : Hid (Only (fun b => b = c) w w0) := Lib.hid ((only_below bb).mono (fun _ _ e => e.elim))
  have hsz : w0.heap.size = w.heap.size + 2 := by rw [← ew]; simp
  have hrc : rb < c := by omega
  have hcw : c < w0.heap.size := by omega
  replace ew := Lib.hid ew
  replace ec := Lib.hid ec
  replace erb := Lib.hid erb
  replace bb := Lib.hid bb
  clear h
  go_enter Try.func42, Try.ntmps42
  go_wp2_with fail
  rw [ew.out, ec.out, erb.out]
  refine (RByte_any c A n0 cap L 0 0 w0 P0).mono ?_
  rintro e w1 ⟨rfl, P1, G1⟩
  rw [ez.out]
  rw [ek.out, ey.out] at P1
  have hb1 : rb < w1.heap.size := Nat.lt_of_lt_of_le (Array.getElem?_eq_some_iff.1 H0.out).1 G1.size
  have H1 := Lib.hid ((G1.block rb (Array.getElem?_eq_some_iff.1 H0.out).1 (fun e => by injection e with e; omega)).trans H0.out)
  have O1 := Lib.hid (O0.out.trans ((only_grown G1).mono (fun j _ e => by injection e)))
  have hw1 : w0.heap.size ≤ w1.heap.size := G1.size
  clear G1
  go_upto_region 3 with (fail)
  obtain ⟨w2, ew2⟩ : ∃ W, w1.alloc (.cells #[.int .i64 z, .int .i64 0, .int .i64 0, .int .i64 0, .int .i64 0, .int .i64 0, .int .i64 0, .int .i64 0, .string { data := #[] }] 23) = W := ⟨_, rfl⟩
  obtain ⟨cb, ecb⟩ : ∃ cb, w1.heap.size = cb := ⟨_, rfl⟩
  have R0 : Hid (RS (fun k y w => Rd c A n0 cap L k y w) c rb cb k0 y0 #[.int .i64 z, .int .i64 0, .int .i64 0, .int .i64 0, .int .i64 0, .int .i64 0, .int .i64 0, .int .i64 0, .string (str [])] w w2) := Lib.hid (by
    rw [← ew2]
    refine ⟨(keeps_rd c A n0 cap L hA.out).keep k0 y0 w1 _ (fun _ => False) P1 (alloc_only w1 _) (fun _ e => e.elim), (heap_alloc_old _ _ hb1).trans H1.out, by rw [← ecb]; exact heap_alloc_new w1 _, O1.out.step (alloc_only w1 _) (fun _ _ e => e.elim), by omega, by omega, by omega, by rw [erb.out]; exact Nat.le_refl _, by omega⟩)
  rw [ew2, ecb]
  have hbc : rb < cb := by omega
  have hwr : w.heap.size ≤ rb := by have := erb.out; omega
  have hwc : w.heap.size ≤ c := by omega
  clear ew2 ecb P1 H1 O1 P0 O0 H0 hb1 bb hsz hcw hw1
  obtain ⟨j0, j1, j2, j3, j4, j5, j6, j7, j8⟩ := cmd_at R0.out.cmd
  obtain ⟨fr0, fr1, fr2, fr3, fr4, fr5, fr6, fr7, fr8, m0, m1, m2, m3, m4, m5, m6, m7, m8⟩ := block9 R0.out.res
  go_wp2_with fail
  rw [set9 _ _ _ _ _ _ _ _ _ R0.out.res]
  (try simp only [Exit.inBlock, Exit.then])
  refine bodyPost_ret (results_cell_row_tmp rfl _ _ (rb) 23 _ (0, 0) _ rfl (setRow_heap _ _ _ _ _ _ R0.out.res) rfl rfl rfl) rfl ?_
  exact ⟨rfl, below_setRow (R0.out.only.below (Nat.le_refl _) (fun j hj e => by have e : j = c := e; omega)) hwr _⟩
set_option maxRecDepth 100000 in
set_option maxHeartbeats 1000000 in
theorem RDec_high (A : Option Addr) (n0 cap : Nat) (L : List UInt8) (z : Int) (k0 y0 : Nat) (w : World) (h : Hid (Src w A n0 cap L)) (ez : Hid (((headN (rdTake L 0 0 1).1 : Nat) : Int) = z)) (ek : Hid ((rdTake L 0 0 1).2.1 = k0)) (ey : Hid ((rdTake L 0 0 1).2.2 = y0)) (hz0 : 1 ≤ z) (hz : 4 < z) :
    Calls Try.prog 42 #[.slice A n0 cap] w fun e w' => e = .returned (.tuple #[zeroC.val, .int .i64 31]) ∧ Below w.heap.size w w' := by
  have d1 : decide (z < 1) = false := decide_eq_false (by omega)
  have d2 : decide (4 < z) = true := decide_eq_true (by omega)
  obtain ⟨w0, ew⟩ : ∃ W, (w.alloc (.cells #[.int .i64 0, .int .i64 0, .int .i64 0, .int .i64 0, .int .i64 0, .int .i64 0, .int .i64 0, .int .i64 0, .string { data := #[] }] 23)).alloc (.cells #[.slice A n0 cap, .int .i64 0, .int .i64 0] 101) = W := ⟨_, rfl⟩
  obtain ⟨rb, erb⟩ : ∃ rb, w.heap.size = rb := ⟨_, rfl⟩
  obtain ⟨c, ec⟩ : ∃ c, w.heap.size + 1 = c := ⟨_, rfl⟩
  have hA : Hid (∀ b off sp, A = some ⟨b, off, sp⟩ → b < c) := Lib.hid (fun b off sp e => by have := (h.out.at' _ e).1; have h2 : b < w.heap.size := this; omega)
  have bb : Below w.heap.size w w0 := by rw [← ew]; exact ((Below.refl _ w).alloc (Nat.le_refl _) _).alloc (by simp) _
  have P0 : Hid (Rd c A n0 cap L 0 0 w0) := Lib.hid ⟨by rw [← ew, ← ec]; exact heap_alloc2_new w _ _, h.out.hb.below bb, fun b off sp e => by have := hA.out b off sp e; omega, Nat.zero_le _, h.out.ncap, h.out.cmax, h.out.nmax, h.out.none0, fun ad e => (h.out.at' ad e).2⟩
  have H0 : Hid (w0.heap[rb]? = some (.cells #[.int .i64 0, .int .i64 0, .int .i64 0, .int .i64 0, .int .i64 0, .int .i64 0, .int .i64 0, .int .i64 0, .string (str [])] 23 (0, 0))) := Lib.hid (by rw [← ew, ← erb]; exact (heap_alloc_old _ _ (by simp)).trans (heap_alloc_new w _))
  have O0 : Hid (Only (fun b => b = c) w w0) := Lib.hid ((only_below bb).mono (fun _ _ e => e.elim))
  have hsz : w0.heap.size = w.heap.size + 2 := by rw [← ew]; simp
  have hrc : rb < c := by omega
  have hcw : c < w0.heap.size := by omega
  replace ew := Lib.hid ew
  replace ec := Lib.hid ec
  replace erb := Lib.hid erb
  replace bb := Lib.hid bb
  clear h
  go_enter Try.func42, Try.ntmps42
  go_wp2_with fail
  rw [ew.out, ec.out, erb.out]
  refine (RByte_any c A n0 cap L 0 0 w0 P0).mono ?_
  rintro e w1 ⟨rfl, P1, G1⟩
  rw [ez.out]
  rw [ek.out, ey.out] at P1
  have hb1 : rb < w1.heap.size := Nat.lt_of_lt_of_le (Array.getElem?_eq_some_iff.1 H0.out).1 G1.size
  have H1 := Lib.hid ((G1.block rb (Array.getElem?_eq_some_iff.1 H0.out).1 (fun e => by injection e with e; omega)).trans H0.out)
  have O1 := Lib.hid (O0.out.trans ((only_grown G1).mono (fun j _ e => by injection e)))
  have hw1 : w0.heap.size ≤ w1.heap.size := G1.size
  clear G1
  go_upto_region 3 with (fail)
  obtain ⟨w2, ew2⟩ : ∃ W, w1.alloc (.cells #[.int .i64 z, .int .i64 0, .int .i64 0, .int .i64 0, .int .i64 0, .int .i64 0, .int .i64 0, .int .i64 0, .string { data := #[] }] 23) = W := ⟨_, rfl⟩
  obtain ⟨cb, ecb⟩ : ∃ cb, w1.heap.size = cb := ⟨_, rfl⟩
  have R0 : Hid (RS (fun k y w => Rd c A n0 cap L k y w) c rb cb k0 y0 #[.int .i64 z, .int .i64 0, .int .i64 0, .int .i64 0, .int .i64 0, .int .i64 0, .int .i64 0, .int .i64 0, .string (str [])] w w2) := Lib.hid (by
    rw [← ew2]
    refine ⟨(keeps_rd c A n0 cap L hA.out).keep k0 y0 w1 _ (fun _ => False) P1 (alloc_only w1 _) (fun _ e => e.elim), (heap_alloc_old _ _ hb1).trans H1.out, by rw [← ecb]; exact heap_alloc_new w1 _, O1.out.step (alloc_only w1 _) (fun _ _ e => e.elim), by omega, by omega, by omega, by rw [erb.out]; exact Nat.le_refl _, by omega⟩)
  rw [ew2, ecb]
  have hbc : rb < cb := by omega
  have hwr : w.heap.size ≤ rb := by have := erb.out; omega
  have hwc : w.heap.size ≤ c := by omega
  clear ew2 ecb P1 H1 O1 P0 O0 H0 hb1 bb hsz hcw hw1
  obtain ⟨j0, j1, j2, j3, j4, j5, j6, j7, j8⟩ := cmd_at R0.out.cmd
  obtain ⟨fr0, fr1, fr2, fr3, fr4, fr5, fr6, fr7, fr8, m0, m1, m2, m3, m4, m5, m6, m7, m8⟩ := block9 R0.out.res
  go_wp2_with fail
  rw [set9 _ _ _ _ _ _ _ _ _ R0.out.res]
  (try simp only [Exit.inBlock, Exit.then])
  refine bodyPost_ret (results_cell_row_tmp rfl _ _ (rb) 23 _ (0, 0) _ rfl (setRow_heap _ _ _ _ _ _ R0.out.res) rfl rfl rfl) rfl ?_
  exact ⟨rfl, below_setRow (R0.out.only.below (Nat.le_refl _) (fun j hj e => by have e : j = c := e; omega)) hwr _⟩
set_option maxRecDepth 100000 in
set_option maxHeartbeats 1000000 in
theorem RDec_1_end (A : Option Addr) (n0 cap : Nat) (L : List UInt8) (i n s t p q l : Int) (S : List UInt8) (k0 y0 k1 y1 k2 y2 k3 y3 k4 y4 k5 y5 k6 y6 k7 y7 k8 y8 : Nat) (w : World) (h : Hid (Src w A n0 cap L)) (ez : Hid (((headN (rdTake L 0 0 1).1 : Nat) : Int) = 1)) (ek : Hid ((rdTake L 0 0 1).2.1 = k0)) (ey : Hid ((rdTake L 0 0 1).2.2 = y0)) (ea0 : Hid ((wrap64 (numL (rdTake L k0 y0 8).1) : Int) = i)) (eb0 : Hid ((rdTake L k0 y0 8).2.1 = k1)) (ec0 : Hid ((rdTake L k0 y0 8).2.2 = y1)) (ea1 : Hid (((headN (rdTake L k1 y1 1).1 : Nat) : Int) = n)) (eb1 : Hid ((rdTake L k1 y1 1).2.1 = k2)) (ec1 : Hid ((rdTake L k1 y1 1).2.2 = y2)) (ea2 : Hid (((headN (rdTake L k2 y2 1).1 : Nat) : Int) = s)) (eb2 : Hid ((rdTake L k2 y2 1).2.1 = k3)) (ec2 : Hid ((rdTake L k2 y2 1).2.2 = y3)) (ea3 : Hid (((headN (rdTake L k3 y3 1).1 : Nat) : Int) = t)) (eb3 : Hid ((rdTake L k3 y3 1).2.1 = k4)) (ec3 : Hid ((rdTake L k3 y3 1).2.2 = y4)) (ea4 : Hid ((wrap64 (numL (rdTake L k4 y4 8).1) : Int) = p)) (eb4 : Hid ((rdTake L k4 y4 8).2.1 = k5)) (ec4 : Hid ((rdTake L k4 y4 8).2.2 = y5)) (ea5 : Hid ((wrap64 (numL (rdTake L k5 y5 8).1) : Int) = q)) (eb5 : Hid ((rdTake L k5 y5 8).2.1 = k6)) (ec5 : Hid ((rdTake L k5 y5 8).2.2 = y6)) (ea6 : Hid ((wrap64 (numL (rdTake L k6 y6 8).1) : Int) = l)) (eb6 : Hid ((rdTake L k6 y6 8).2.1 = k7)) (ec6 : Hid ((rdTake L k6 y6 8).2.2 = y7)) (ea7 : Hid ((rdText L k7 y7).1 = S)) (eb7 : Hid ((rdText L k7 y7).2.1 = k8)) (ec7 : Hid ((rdText L k7 y7).2.2 = y8)) (hy : y8 ≤ 1000) (hS : S.length ≤ 255) (E : Nat) (hE : Hid (rdEnd L k8 y8 = E)) (h0 : E ≠ 0) :
    Calls Try.prog 42 #[.slice A n0 cap] w fun e w' => e = .returned (.tuple #[zeroC.val, .int .i64 12]) ∧ Below w.heap.size w w' := by
  have i1 : ((E : Int) != 0) = true := by simp; omega
  clear h0
  obtain ⟨w0, ew⟩ : ∃ W, (w.alloc (.cells #[.int .i64 0, .int .i64 0, .int .i64 0, .int .i64 0, .int .i64 0, .int .i64 0, .int .i64 0, .int .i64 0, .string { data := #[] }] 23)).alloc (.cells #[.slice A n0 cap, .int .i64 0, .int .i64 0] 101) = W := ⟨_, rfl⟩
  obtain ⟨rb, erb⟩ : ∃ rb, w.heap.size = rb := ⟨_, rfl⟩
  obtain ⟨c, ec⟩ : ∃ c, w.heap.size + 1 = c := ⟨_, rfl⟩
  have hA : Hid (∀ b off sp, A = some ⟨b, off, sp⟩ → b < c) := Lib.hid (fun b off sp e => by have := (h.out.at' _ e).1; have h2 : b < w.heap.size := this; omega)
  have bb : Below w.heap.size w w0 := by rw [← ew]; exact ((Below.refl _ w).alloc (Nat.le_refl _) _).alloc (by simp) _
  have P0 : Hid (Rd c A n0 cap L 0 0 w0) := Lib.hid ⟨by rw [← ew, ← ec]; exact heap_alloc2_new w _ _, h.out.hb.below bb, fun b off sp e => by have := hA.out b off sp e; omega, Nat.zero_le _, h.out.ncap, h.out.cmax, h.out.nmax, h.out.none0, fun ad e => (h.out.at' ad e).2⟩
  have H0 : Hid (w0.heap[rb]? = some (.cells #[.int .i64 0, .int .i64 0, .int .i64 0, .int .i64 0, .int .i64 0, .int .i64 0, .int .i64 0, .int .i64 0, .string (str [])] 23 (0, 0))) := Lib.hid (by rw [← ew, ← erb]; exact (heap_alloc_old _ _ (by simp)).trans (heap_alloc_new w _))
  have O0 : Hid (Only (fun b => b = c) w w0) := Lib.hid ((only_below bb).mono (fun _ _ e => e.elim))
  have hsz : w0.heap.size = w.heap.size + 2 := by rw [← ew]; simp
  have hrc : rb < c := by omega
  have hcw : c < w0.heap.size := by omega
  replace ew := Lib.hid ew
  replace ec := Lib.hid ec
  replace erb := Lib.hid erb
  replace bb := Lib.hid bb
  clear h
  go_enter Try.func42, Try.ntmps42
  go_wp2_with fail
  rw [ew.out, ec.out, erb.out]
  refine (RByte_any c A n0 cap L 0 0 w0 P0).mono ?_
  rintro e w1 ⟨rfl, P1, G1⟩
  rw [ez.out]
  rw [ek.out, ey.out] at P1
  have hb1 : rb < w1.heap.size := Nat.lt_of_lt_of_le (Array.getElem?_eq_some_iff.1 H0.out).1 G1.size
  have H1 := Lib.hid ((G1.block rb (Array.getElem?_eq_some_iff.1 H0.out).1 (fun e => by injection e with e; omega)).trans H0.out)
  have O1 := Lib.hid (O0.out.trans ((only_grown G1).mono (fun j _ e => by injection e)))
  have hw1 : w0.heap.size ≤ w1.heap.size := G1.size
  clear G1
  go_upto_region 3 with (fail)
  obtain ⟨w2, ew2⟩ : ∃ W, w1.alloc (.cells #[.int .i64 1, .int .i64 0, .int .i64 0, .int .i64 0, .int .i64 0, .int .i64 0, .int .i64 0, .int .i64 0, .string { data := #[] }] 23) = W := ⟨_, rfl⟩
  obtain ⟨cb, ecb⟩ : ∃ cb, w1.heap.size = cb := ⟨_, rfl⟩
  have R0 : Hid (RS (fun k y w => Rd c A n0 cap L k y w) c rb cb k0 y0 #[.int .i64 1, .int .i64 0, .int .i64 0, .int .i64 0, .int .i64 0, .int .i64 0, .int .i64 0, .int .i64 0, .string (str [])] w w2) := Lib.hid (by
    rw [← ew2]
    refine ⟨(keeps_rd c A n0 cap L hA.out).keep k0 y0 w1 _ (fun _ => False) P1 (alloc_only w1 _) (fun _ e => e.elim), (heap_alloc_old _ _ hb1).trans H1.out, by rw [← ecb]; exact heap_alloc_new w1 _, O1.out.step (alloc_only w1 _) (fun _ _ e => e.elim), by omega, by omega, by omega, by rw [erb.out]; exact Nat.le_refl _, by omega⟩)
  rw [ew2, ecb]
  have hbc : rb < cb := by omega
  have hwr : w.heap.size ≤ rb := by have := erb.out; omega
  have hwc : w.heap.size ≤ c := by omega
  clear ew2 ecb P1 H1 O1 P0 O0 H0 hb1 bb hsz hcw hw1
  obtain ⟨j0, j1, j2, j3, j4, j5, j6, j7, j8⟩ := cmd_at R0.out.cmd
  go_wp2_with fail
  refine (RLong_any c A n0 cap L k0 y0 w2 (Lib.hid R0.out.rd)).mono ?_
  rintro e u1 ⟨rfl, P, G⟩
  rw [ea0.out]
  rw [eb0.out, ec0.out] at P
  have R1 : Hid (RS (fun k y w => Rd c A n0 cap L k y w) c rb cb k1 y1 #[.int .i64 1, .int .i64 0, .int .i64 0, .int .i64 0, .int .i64 0, .int .i64 0, .int .i64 0, .int .i64 0, .string (str [])] w u1) := Lib.hid (R0.out.read P G)
  clear P G j0 j1 j2 j3 j4 j5 j6 j7 j8
  obtain ⟨j0, j1, j2, j3, j4, j5, j6, j7, j8⟩ := cmd_at R1.out.cmd
  have fz : u1.frozen? ⟨cb, 1, none⟩ = false := Lib.frozen_of_heap R1.out.cmd 1
  have R2 : Hid (RS (fun k y w => Rd c A n0 cap L k y w) c rb cb k1 y1 #[.int .i64 1, .int .i64 i, .int .i64 0, .int .i64 0, .int .i64 0, .int .i64 0, .int .i64 0, .int .i64 0, .string (str [])] w (u1.setCell ⟨cb, 1, none⟩ (.int .i64 i))) := Lib.hid (R1.out.store (keeps_rd c A n0 cap L hA.out) 1 _)
  go_upto_region 6 with (fail)
  obtain ⟨u2, ew⟩ : ∃ W, u1.setCell ⟨cb, 1, none⟩ (.int .i64 i) = W := ⟨_, rfl⟩
  rw [ew] at R2 ⊢
  clear ew fz j0 j1 j2 j3 j4 j5 j6 j7 j8 R0 R1
  obtain ⟨j0, j1, j2, j3, j4, j5, j6, j7, j8⟩ := cmd_at R2.out.cmd
  go_upto_region 8 with (fail)
  clear j0 j1 j2 j3 j4 j5 j6 j7 j8
  go_wp2_with fail
  refine (RByte_any c A n0 cap L k1 y1 u2 (Lib.hid R2.out.rd)).mono ?_
  rintro e u3 ⟨rfl, P, G⟩
  rw [ea1.out]
  rw [eb1.out, ec1.out] at P
  have R3 : Hid (RS (fun k y w => Rd c A n0 cap L k y w) c rb cb k2 y2 #[.int .i64 1, .int .i64 i, .int .i64 0, .int .i64 0, .int .i64 0, .int .i64 0, .int .i64 0, .int .i64 0, .string (str [])] w u3) := Lib.hid (R2.out.read P G)
  clear P G
  obtain ⟨j0, j1, j2, j3, j4, j5, j6, j7, j8⟩ := cmd_at R3.out.cmd
  have fz : u3.frozen? ⟨cb, 2, none⟩ = false := Lib.frozen_of_heap R3.out.cmd 2
  have R4 : Hid (RS (fun k y w => Rd c A n0 cap L k y w) c rb cb k2 y2 #[.int .i64 1, .int .i64 i, .int .i64 n, .int .i64 0, .int .i64 0, .int .i64 0, .int .i64 0, .int .i64 0, .string (str [])] w (u3.setCell ⟨cb, 2, none⟩ (.int .i64 n))) := Lib.hid (R3.out.store (keeps_rd c A n0 cap L hA.out) 2 _)
  go_upto_region 9 with (fail)
  obtain ⟨u4, ew⟩ : ∃ W, u3.setCell ⟨cb, 2, none⟩ (.int .i64 n) = W := ⟨_, rfl⟩
  rw [ew] at R4 ⊢
  clear ew fz j0 j1 j2 j3 j4 j5 j6 j7 j8 R2 R3
  go_wp2_with fail
  refine (RByte_any c A n0 cap L k2 y2 u4 (Lib.hid R4.out.rd)).mono ?_
  rintro e u5 ⟨rfl, P, G⟩
  rw [ea2.out]
  rw [eb2.out, ec2.out] at P
  have R5 : Hid (RS (fun k y w => Rd c A n0 cap L k y w) c rb cb k3 y3 #[.int .i64 1, .int .i64 i, .int .i64 n, .int .i64 0, .int .i64 0, .int .i64 0, .int .i64 0, .int .i64 0, .string (str [])] w u5) := Lib.hid (R4.out.read P G)
  clear P G
  obtain ⟨j0, j1, j2, j3, j4, j5, j6, j7, j8⟩ := cmd_at R5.out.cmd
  have fz : u5.frozen? ⟨cb, 3, none⟩ = false := Lib.frozen_of_heap R5.out.cmd 3
  have R6 : Hid (RS (fun k y w => Rd c A n0 cap L k y w) c rb cb k3 y3 #[.int .i64 1, .int .i64 i, .int .i64 n, .int .i64 s, .int .i64 0, .int .i64 0, .int .i64 0, .int .i64 0, .string (str [])] w (u5.setCell ⟨cb, 3, none⟩ (.int .i64 s))) := Lib.hid (R5.out.store (keeps_rd c A n0 cap L hA.out) 3 _)
  go_upto_region 10 with (fail)
  obtain ⟨u6, ew⟩ : ∃ W, u5.setCell ⟨cb, 3, none⟩ (.int .i64 s) = W := ⟨_, rfl⟩
  rw [ew] at R6 ⊢
  clear ew fz j0 j1 j2 j3 j4 j5 j6 j7 j8 R4 R5
  go_wp2_with fail
  refine (RByte_any c A n0 cap L k3 y3 u6 (Lib.hid R6.out.rd)).mono ?_
  rintro e u7 ⟨rfl, P, G⟩
  rw [ea3.out]
  rw [eb3.out, ec3.out] at P
  have R7 : Hid (RS (fun k y w => Rd c A n0 cap L k y w) c rb cb k4 y4 #[.int .i64 1, .int .i64 i, .int .i64 n, .int .i64 s, .int .i64 0, .int .i64 0, .int .i64 0, .int .i64 0, .string (str [])] w u7) := Lib.hid (R6.out.read P G)
  clear P G
  obtain ⟨j0, j1, j2, j3, j4, j5, j6, j7, j8⟩ := cmd_at R7.out.cmd
  have fz : u7.frozen? ⟨cb, 7, none⟩ = false := Lib.frozen_of_heap R7.out.cmd 7
  have R8 : Hid (RS (fun k y w => Rd c A n0 cap L k y w) c rb cb k4 y4 #[.int .i64 1, .int .i64 i, .int .i64 n, .int .i64 s, .int .i64 0, .int .i64 0, .int .i64 0, .int .i64 t, .string (str [])] w (u7.setCell ⟨cb, 7, none⟩ (.int .i64 t))) := Lib.hid (R7.out.store (keeps_rd c A n0 cap L hA.out) 7 _)
  go_upto_region 11 with (fail)
  obtain ⟨u8, ew⟩ : ∃ W, u7.setCell ⟨cb, 7, none⟩ (.int .i64 t) = W := ⟨_, rfl⟩
  rw [ew] at R8 ⊢
  clear ew fz j0 j1 j2 j3 j4 j5 j6 j7 j8 R6 R7
  go_wp2_with fail
  refine (RLong_any c A n0 cap L k4 y4 u8 (Lib.hid R8.out.rd)).mono ?_
  rintro e u9 ⟨rfl, P, G⟩
  rw [ea4.out]
  rw [eb4.out, ec4.out] at P
  have R9 : Hid (RS (fun k y w => Rd c A n0 cap L k y w) c rb cb k5 y5 #[.int .i64 1, .int .i64 i, .int .i64 n, .int .i64 s, .int .i64 0, .int .i64 0, .int .i64 0, .int .i64 t, .string (str [])] w u9) := Lib.hid (R8.out.read P G)
  clear P G
  obtain ⟨j0, j1, j2, j3, j4, j5, j6, j7, j8⟩ := cmd_at R9.out.cmd
  have fz : u9.frozen? ⟨cb, 4, none⟩ = false := Lib.frozen_of_heap R9.out.cmd 4
  have R10 : Hid (RS (fun k y w => Rd c A n0 cap L k y w) c rb cb k5 y5 #[.int .i64 1, .int .i64 i, .int .i64 n, .int .i64 s, .int .i64 p, .int .i64 0, .int .i64 0, .int .i64 t, .string (str [])] w (u9.setCell ⟨cb, 4, none⟩ (.int .i64 p))) := Lib.hid (R9.out.store (keeps_rd c A n0 cap L hA.out) 4 _)
  go_upto_region 12 with (fail)
  obtain ⟨u10, ew⟩ : ∃ W, u9.setCell ⟨cb, 4, none⟩ (.int .i64 p) = W := ⟨_, rfl⟩
  rw [ew] at R10 ⊢
  clear ew fz j0 j1 j2 j3 j4 j5 j6 j7 j8 R8 R9
  go_wp2_with fail
  refine (RLong_any c A n0 cap L k5 y5 u10 (Lib.hid R10.out.rd)).mono ?_
  rintro e u11 ⟨rfl, P, G⟩
  rw [ea5.out]
  rw [eb5.out, ec5.out] at P
  have R11 : Hid (RS (fun k y w => Rd c A n0 cap L k y w) c rb cb k6 y6 #[.int .i64 1, .int .i64 i, .int .i64 n, .int .i64 s, .int .i64 p, .int .i64 0, .int .i64 0, .int .i64 t, .string (str [])] w u11) := Lib.hid (R10.out.read P G)
  clear P G
  obtain ⟨j0, j1, j2, j3, j4, j5, j6, j7, j8⟩ := cmd_at R11.out.cmd
  have fz : u11.frozen? ⟨cb, 5, none⟩ = false := Lib.frozen_of_heap R11.out.cmd 5
  have R12 : Hid (RS (fun k y w => Rd c A n0 cap L k y w) c rb cb k6 y6 #[.int .i64 1, .int .i64 i, .int .i64 n, .int .i64 s, .int .i64 p, .int .i64 q, .int .i64 0, .int .i64 t, .string (str [])] w (u11.setCell ⟨cb, 5, none⟩ (.int .i64 q))) := Lib.hid (R11.out.store (keeps_rd c A n0 cap L hA.out) 5 _)
  go_upto_region 13 with (fail)
  obtain ⟨u12, ew⟩ : ∃ W, u11.setCell ⟨cb, 5, none⟩ (.int .i64 q) = W := ⟨_, rfl⟩
  rw [ew] at R12 ⊢
  clear ew fz j0 j1 j2 j3 j4 j5 j6 j7 j8 R10 R11
  go_wp2_with fail
  refine (RLong_any c A n0 cap L k6 y6 u12 (Lib.hid R12.out.rd)).mono ?_
  rintro e u13 ⟨rfl, P, G⟩
  rw [ea6.out]
  rw [eb6.out, ec6.out] at P
  have R13 : Hid (RS (fun k y w => Rd c A n0 cap L k y w) c rb cb k7 y7 #[.int .i64 1, .int .i64 i, .int .i64 n, .int .i64 s, .int .i64 p, .int .i64 q, .int .i64 0, .int .i64 t, .string (str [])] w u13) := Lib.hid (R12.out.read P G)
  clear P G
  obtain ⟨j0, j1, j2, j3, j4, j5, j6, j7, j8⟩ := cmd_at R13.out.cmd
  have fz : u13.frozen? ⟨cb, 6, none⟩ = false := Lib.frozen_of_heap R13.out.cmd 6
  have R14 : Hid (RS (fun k y w => Rd c A n0 cap L k y w) c rb cb k7 y7 #[.int .i64 1, .int .i64 i, .int .i64 n, .int .i64 s, .int .i64 p, .int .i64 q, .int .i64 l, .int .i64 t, .string (str [])] w (u13.setCell ⟨cb, 6, none⟩ (.int .i64 l))) := Lib.hid (R13.out.store (keeps_rd c A n0 cap L hA.out) 6 _)
  go_upto_region 14 with (fail)
  obtain ⟨u14, ew⟩ : ∃ W, u13.setCell ⟨cb, 6, none⟩ (.int .i64 l) = W := ⟨_, rfl⟩
  rw [ew] at R14 ⊢
  clear ew fz j0 j1 j2 j3 j4 j5 j6 j7 j8 R12 R13
  go_wp2_with fail
  refine (RText_any c A n0 cap L k7 y7 u14 (Lib.hid R14.out.rd)).mono ?_
  rintro e u15 ⟨rfl, P, G⟩
  rw [ea7.out]
  rw [eb7.out, ec7.out] at P
  have R15 : Hid (RS (fun k y w => Rd c A n0 cap L k y w) c rb cb k8 y8 #[.int .i64 1, .int .i64 i, .int .i64 n, .int .i64 s, .int .i64 p, .int .i64 q, .int .i64 l, .int .i64 t, .string (str [])] w u15) := Lib.hid (R14.out.read P G)
  clear P G
  obtain ⟨j0, j1, j2, j3, j4, j5, j6, j7, j8⟩ := cmd_at R15.out.cmd
  have fz : u15.frozen? ⟨cb, 8, none⟩ = false := Lib.frozen_of_heap R15.out.cmd 8
  have R16 : Hid (RS (fun k y w => Rd c A n0 cap L k y w) c rb cb k8 y8 #[.int .i64 1, .int .i64 i, .int .i64 n, .int .i64 s, .int .i64 p, .int .i64 q, .int .i64 l, .int .i64 t, .string (str S)] w (u15.setCell ⟨cb, 8, none⟩ (.string (str S)))) := Lib.hid (R15.out.store (keeps_rd c A n0 cap L hA.out) 8 _)
  go_upto_region 20 with (fail)
  obtain ⟨u16, ew⟩ : ∃ W, u15.setCell ⟨cb, 8, none⟩ (.string (str S)) = W := ⟨_, rfl⟩
  rw [ew] at R16 ⊢
  clear ew fz j0 j1 j2 j3 j4 j5 j6 j7 j8 R14 R15
  go_wp2_with fail
  refine (REnd_any c A n0 cap L k8 y8 u16 (Lib.hid R16.out.rd) hy).mono ?_
  rintro e w9 ⟨rfl, qq, rfl⟩
  rw [hE.out]
  have Rq : Hid (RS (fun k y w => Rd c A n0 cap L k y w) c rb cb k8 y8 #[.int .i64 1, .int .i64 i, .int .i64 n, .int .i64 s, .int .i64 p, .int .i64 q, .int .i64 l, .int .i64 t, .string (str S)] w (u16.drewN qq)) := Lib.hid (R16.out.draws (keeps_rd c A n0 cap L hA.out) qq)
  obtain ⟨uq, ewq⟩ : ∃ W, u16.drewN qq = W := ⟨_, rfl⟩
  rw [ewq] at Rq ⊢
  clear ewq R16
  obtain ⟨fr0, fr1, fr2, fr3, fr4, fr5, fr6, fr7, fr8, m0, m1, m2, m3, m4, m5, m6, m7, m8⟩ := block9 Rq.out.res
  go_wp2_with fail
  rw [set9 _ _ _ _ _ _ _ _ _ Rq.out.res]
  (try simp only [Exit.inBlock, Exit.then])
  refine bodyPost_ret (results_cell_row_tmp rfl _ _ (rb) 23 _ (0, 0) _ rfl (setRow_heap _ _ _ _ _ _ Rq.out.res) rfl rfl rfl) rfl ?_
  exact ⟨rfl, below_setRow (Rq.out.only.below (Nat.le_refl _) (fun j hj e => by have e : j = c := e; omega)) hwr _⟩
set_option maxRecDepth 100000 in
set_option maxHeartbeats 1000000 in
theorem RDec_1_right (A : Option Addr) (n0 cap : Nat) (L : List UInt8) (i n s t p q l : Int) (S : List UInt8) (k0 y0 k1 y1 k2 y2 k3 y3 k4 y4 k5 y5 k6 y6 k7 y7 k8 y8 : Nat) (w : World) (h : Hid (Src w A n0 cap L)) (ez : Hid (((headN (rdTake L 0 0 1).1 : Nat) : Int) = 1)) (ek : Hid ((rdTake L 0 0 1).2.1 = k0)) (ey : Hid ((rdTake L 0 0 1).2.2 = y0)) (ea0 : Hid ((wrap64 (numL (rdTake L k0 y0 8).1) : Int) = i)) (eb0 : Hid ((rdTake L k0 y0 8).2.1 = k1)) (ec0 : Hid ((rdTake L k0 y0 8).2.2 = y1)) (ea1 : Hid (((headN (rdTake L k1 y1 1).1 : Nat) : Int) = n)) (eb1 : Hid ((rdTake L k1 y1 1).2.1 = k2)) (ec1 : Hid ((rdTake L k1 y1 1).2.2 = y2)) (ea2 : Hid (((headN (rdTake L k2 y2 1).1 : Nat) : Int) = s)) (eb2 : Hid ((rdTake L k2 y2 1).2.1 = k3)) (ec2 : Hid ((rdTake L k2 y2 1).2.2 = y3)) (ea3 : Hid (((headN (rdTake L k3 y3 1).1 : Nat) : Int) = t)) (eb3 : Hid ((rdTake L k3 y3 1).2.1 = k4)) (ec3 : Hid ((rdTake L k3 y3 1).2.2 = y4)) (ea4 : Hid ((wrap64 (numL (rdTake L k4 y4 8).1) : Int) = p)) (eb4 : Hid ((rdTake L k4 y4 8).2.1 = k5)) (ec4 : Hid ((rdTake L k4 y4 8).2.2 = y5)) (ea5 : Hid ((wrap64 (numL (rdTake L k5 y5 8).1) : Int) = q)) (eb5 : Hid ((rdTake L k5 y5 8).2.1 = k6)) (ec5 : Hid ((rdTake L k5 y5 8).2.2 = y6)) (ea6 : Hid ((wrap64 (numL (rdTake L k6 y6 8).1) : Int) = l)) (eb6 : Hid ((rdTake L k6 y6 8).2.1 = k7)) (ec6 : Hid ((rdTake L k6 y6 8).2.2 = y7)) (ea7 : Hid ((rdText L k7 y7).1 = S)) (eb7 : Hid ((rdText L k7 y7).2.1 = k8)) (ec7 : Hid ((rdText L k7 y7).2.2 = y8)) (hy : y8 ≤ 1000) (hS : S.length ≤ 255) (hE : Hid (rdEnd L k8 y8 = 0)) (E : Nat) (hR : Hid ((C.mk 1 i n s p q l t S).right = E)) (h0 : E ≠ 0) :
    Calls Try.prog 42 #[.slice A n0 cap] w fun e w' => e = .returned (.tuple #[zeroC.val, .int .i64 E]) ∧ Below w.heap.size w w' := by
  have i1 : ((E : Int) != 0) = true := by simp; omega
  clear h0
  obtain ⟨w0, ew⟩ : ∃ W, (w.alloc (.cells #[.int .i64 0, .int .i64 0, .int .i64 0, .int .i64 0, .int .i64 0, .int .i64 0, .int .i64 0, .int .i64 0, .string { data := #[] }] 23)).alloc (.cells #[.slice A n0 cap, .int .i64 0, .int .i64 0] 101) = W := ⟨_, rfl⟩
  obtain ⟨rb, erb⟩ : ∃ rb, w.heap.size = rb := ⟨_, rfl⟩
  obtain ⟨c, ec⟩ : ∃ c, w.heap.size + 1 = c := ⟨_, rfl⟩
  have hA : Hid (∀ b off sp, A = some ⟨b, off, sp⟩ → b < c) := Lib.hid (fun b off sp e => by have := (h.out.at' _ e).1; have h2 : b < w.heap.size := this; omega)
  have bb : Below w.heap.size w w0 := by rw [← ew]; exact ((Below.refl _ w).alloc (Nat.le_refl _) _).alloc (by simp) _
  have P0 : Hid (Rd c A n0 cap L 0 0 w0) := Lib.hid ⟨by rw [← ew, ← ec]; exact heap_alloc2_new w _ _, h.out.hb.below bb, fun b off sp e => by have := hA.out b off sp e; omega, Nat.zero_le _, h.out.ncap, h.out.cmax, h.out.nmax, h.out.none0, fun ad e => (h.out.at' ad e).2⟩
  have H0 : Hid (w0.heap[rb]? = some (.cells #[.int .i64 0, .int .i64 0, .int .i64 0, .int .i64 0, .int .i64 0, .int .i64 0, .int .i64 0, .int .i64 0, .string (str [])] 23 (0, 0))) := Lib.hid (by rw [← ew, ← erb]; exact (heap_alloc_old _ _ (by simp)).trans (heap_alloc_new w _))
  have O0 : Hid (Only (fun b => b = c) w w0) := Lib.hid ((only_below bb).mono (fun _ _ e => e.elim))
  have hsz : w0.heap.size = w.heap.size + 2 := by rw [← ew]; simp
  have hrc : rb < c := by omega
  have hcw : c < w0.heap.size := by omega
  replace ew := Lib.hid ew
  replace ec := Lib.hid ec
  replace erb := Lib.hid erb
  replace bb := Lib.hid bb
  clear h
  go_enter Try.func42, Try.ntmps42
  go_wp2_with fail
  rw [ew.out, ec.out, erb.out]
  refine (RByte_any c A n0 cap L 0 0 w0 P0).mono ?_
  rintro e w1 ⟨rfl, P1, G1⟩
  rw [ez.out]
  rw [ek.out, ey.out] at P1
  have hb1 : rb < w1.heap.size := Nat.lt_of_lt_of_le (Array.getElem?_eq_some_iff.1 H0.out).1 G1.size
  have H1 := Lib.hid ((G1.block rb (Array.getElem?_eq_some_iff.1 H0.out).1 (fun e => by injection e with e; omega)).trans H0.out)
  have O1 := Lib.hid (O0.out.trans ((only_grown G1).mono (fun j _ e => by injection e)))
  have hw1 : w0.heap.size ≤ w1.heap.size := G1.size
  clear G1
  go_upto_region 3 with (fail)
  obtain ⟨w2, ew2⟩ : ∃ W, w1.alloc (.cells #[.int .i64 1, .int .i64 0, .int .i64 0, .int .i64 0, .int .i64 0, .int .i64 0, .int .i64 0, .int .i64 0, .string { data := #[] }] 23) = W := ⟨_, rfl⟩
  obtain ⟨cb, ecb⟩ : ∃ cb, w1.heap.size = cb := ⟨_, rfl⟩
  have R0 : Hid (RS (fun k y w => Rd c A n0 cap L k y w) c rb cb k0 y0 #[.int .i64 1, .int .i64 0, .int .i64 0, .int .i64 0, .int .i64 0, .int .i64 0, .int .i64 0, .int .i64 0, .string (str [])] w w2) := Lib.hid (by
    rw [← ew2]
    refine ⟨(keeps_rd c A n0 cap L hA.out).keep k0 y0 w1 _ (fun _ => False) P1 (alloc_only w1 _) (fun _ e => e.elim), (heap_alloc_old _ _ hb1).trans H1.out, by rw [← ecb]; exact heap_alloc_new w1 _, O1.out.step (alloc_only w1 _) (fun _ _ e => e.elim), by omega, by omega, by omega, by rw [erb.out]; exact Nat.le_refl _, by omega⟩)
  rw [ew2, ecb]
  have hbc : rb < cb := by omega
  have hwr : w.heap.size ≤ rb := by have := erb.out; omega
  have hwc : w.heap.size ≤ c := by omega
  clear ew2 ecb P1 H1 O1 P0 O0 H0 hb1 bb hsz hcw hw1
  obtain ⟨j0, j1, j2, j3, j4, j5, j6, j7, j8⟩ := cmd_at R0.out.cmd
  go_wp2_with fail
  refine (RLong_any c A n0 cap L k0 y0 w2 (Lib.hid R0.out.rd)).mono ?_
  rintro e u1 ⟨rfl, P, G⟩
  rw [ea0.out]
  rw [eb0.out, ec0.out] at P
  have R1 : Hid (RS (fun k y w => Rd c A n0 cap L k y w) c rb cb k1 y1 #[.int .i64 1, .int .i64 0, .int .i64 0, .int .i64 0, .int .i64 0, .int .i64 0, .int .i64 0, .int .i64 0, .string (str [])] w u1) := Lib.hid (R0.out.read P G)
  clear P G j0 j1 j2 j3 j4 j5 j6 j7 j8
  obtain ⟨j0, j1, j2, j3, j4, j5, j6, j7, j8⟩ := cmd_at R1.out.cmd
  have fz : u1.frozen? ⟨cb, 1, none⟩ = false := Lib.frozen_of_heap R1.out.cmd 1
  have R2 : Hid (RS (fun k y w => Rd c A n0 cap L k y w) c rb cb k1 y1 #[.int .i64 1, .int .i64 i, .int .i64 0, .int .i64 0, .int .i64 0, .int .i64 0, .int .i64 0, .int .i64 0, .string (str [])] w (u1.setCell ⟨cb, 1, none⟩ (.int .i64 i))) := Lib.hid (R1.out.store (keeps_rd c A n0 cap L hA.out) 1 _)
  go_upto_region 6 with (fail)
  obtain ⟨u2, ew⟩ : ∃ W, u1.setCell ⟨cb, 1, none⟩ (.int .i64 i) = W := ⟨_, rfl⟩
  rw [ew] at R2 ⊢
  clear ew fz j0 j1 j2 j3 j4 j5 j6 j7 j8 R0 R1
  obtain ⟨j0, j1, j2, j3, j4, j5, j6, j7, j8⟩ := cmd_at R2.out.cmd
  go_upto_region 8 with (fail)
  clear j0 j1 j2 j3 j4 j5 j6 j7 j8
  go_wp2_with fail
  refine (RByte_any c A n0 cap L k1 y1 u2 (Lib.hid R2.out.rd)).mono ?_
  rintro e u3 ⟨rfl, P, G⟩
  rw [ea1.out]
  rw [eb1.out, ec1.out] at P
  have R3 : Hid (RS (fun k y w => Rd c A n0 cap L k y w) c rb cb k2 y2 #[.int .i64 1, .int .i64 i, .int .i64 0, .int .i64 0, .int .i64 0, .int .i64 0, .int .i64 0, .int .i64 0, .string (str [])] w u3) := Lib.hid (R2.out.read P G)
  clear P G
  obtain ⟨j0, j1, j2, j3, j4, j5, j6, j7, j8⟩ := cmd_at R3.out.cmd
  have fz : u3.frozen? ⟨cb, 2, none⟩ = false := Lib.frozen_of_heap R3.out.cmd 2
  have R4 : Hid (RS (fun k y w => Rd c A n0 cap L k y w) c rb cb k2 y2 #[.int .i64 1, .int .i64 i, .int .i64 n, .int .i64 0, .int .i64 0, .int .i64 0, .int .i64 0, .int .i64 0, .string (str [])] w (u3.setCell ⟨cb, 2, none⟩ (.int .i64 n))) := Lib.hid (R3.out.store (keeps_rd c A n0 cap L hA.out) 2 _)
  go_upto_region 9 with (fail)
  obtain ⟨u4, ew⟩ : ∃ W, u3.setCell ⟨cb, 2, none⟩ (.int .i64 n) = W := ⟨_, rfl⟩
  rw [ew] at R4 ⊢
  clear ew fz j0 j1 j2 j3 j4 j5 j6 j7 j8 R2 R3
  go_wp2_with fail
  refine (RByte_any c A n0 cap L k2 y2 u4 (Lib.hid R4.out.rd)).mono ?_
  rintro e u5 ⟨rfl, P, G⟩
  rw [ea2.out]
  rw [eb2.out, ec2.out] at P
  have R5 : Hid (RS (fun k y w => Rd c A n0 cap L k y w) c rb cb k3 y3 #[.int .i64 1, .int .i64 i, .int .i64 n, .int .i64 0, .int .i64 0, .int .i64 0, .int .i64 0, .int .i64 0, .string (str [])] w u5) := Lib.hid (R4.out.read P G)
  clear P G
  obtain ⟨j0, j1, j2, j3, j4, j5, j6, j7, j8⟩ := cmd_at R5.out.cmd
  have fz : u5.frozen? ⟨cb, 3, none⟩ = false := Lib.frozen_of_heap R5.out.cmd 3
  have R6 : Hid (RS (fun k y w => Rd c A n0 cap L k y w) c rb cb k3 y3 #[.int .i64 1, .int .i64 i, .int .i64 n, .int .i64 s, .int .i64 0, .int .i64 0, .int .i64 0, .int .i64 0, .string (str [])] w (u5.setCell ⟨cb, 3, none⟩ (.int .i64 s))) := Lib.hid (R5.out.store (keeps_rd c A n0 cap L hA.out) 3 _)
  go_upto_region 10 with (fail)
  obtain ⟨u6, ew⟩ : ∃ W, u5.setCell ⟨cb, 3, none⟩ (.int .i64 s) = W := ⟨_, rfl⟩
  rw [ew] at R6 ⊢
  clear ew fz j0 j1 j2 j3 j4 j5 j6 j7 j8 R4 R5
  go_wp2_with fail
  refine (RByte_any c A n0 cap L k3 y3 u6 (Lib.hid R6.out.rd)).mono ?_
  rintro e u7 ⟨rfl, P, G⟩
  rw [ea3.out]
  rw [eb3.out, ec3.out] at P
  have R7 : Hid (RS (fun k y w => Rd c A n0 cap L k y w) c rb cb k4 y4 #[.int .i64 1, .int .i64 i, .int .i64 n, .int .i64 s, .int .i64 0, .int .i64 0, .int .i64 0, .int .i64 0, .string (str [])] w u7) := Lib.hid (R6.out.read P G)
  clear P G
  obtain ⟨j0, j1, j2, j3, j4, j5, j6, j7, j8⟩ := cmd_at R7.out.cmd
  have fz : u7.frozen? ⟨cb, 7, none⟩ = false := Lib.frozen_of_heap R7.out.cmd 7
  have R8 : Hid (RS (fun k y w => Rd c A n0 cap L k y w) c rb cb k4 y4 #[.int .i64 1, .int .i64 i, .int .i64 n, .int .i64 s, .int .i64 0, .int .i64 0, .int .i64 0, .int .i64 t, .string (str [])] w (u7.setCell ⟨cb, 7, none⟩ (.int .i64 t))) := Lib.hid (R7.out.store (keeps_rd c A n0 cap L hA.out) 7 _)
  go_upto_region 11 with (fail)
  obtain ⟨u8, ew⟩ : ∃ W, u7.setCell ⟨cb, 7, none⟩ (.int .i64 t) = W := ⟨_, rfl⟩
  rw [ew] at R8 ⊢
  clear ew fz j0 j1 j2 j3 j4 j5 j6 j7 j8 R6 R7
  go_wp2_with fail
  refine (RLong_any c A n0 cap L k4 y4 u8 (Lib.hid R8.out.rd)).mono ?_
  rintro e u9 ⟨rfl, P, G⟩
  rw [ea4.out]
  rw [eb4.out, ec4.out] at P
  have R9 : Hid (RS (fun k y w => Rd c A n0 cap L k y w) c rb cb k5 y5 #[.int .i64 1, .int .i64 i, .int .i64 n, .int .i64 s, .int .i64 0, .int .i64 0, .int .i64 0, .int .i64 t, .string (str [])] w u9) := Lib.hid (R8.out.read P G)
  clear P G
  obtain ⟨j0, j1, j2, j3, j4, j5, j6, j7, j8⟩ := cmd_at R9.out.cmd
  have fz : u9.frozen? ⟨cb, 4, none⟩ = false := Lib.frozen_of_heap R9.out.cmd 4
  have R10 : Hid (RS (fun k y w => Rd c A n0 cap L k y w) c rb cb k5 y5 #[.int .i64 1, .int .i64 i, .int .i64 n, .int .i64 s, .int .i64 p, .int .i64 0, .int .i64 0, .int .i64 t, .string (str [])] w (u9.setCell ⟨cb, 4, none⟩ (.int .i64 p))) := Lib.hid (R9.out.store (keeps_rd c A n0 cap L hA.out) 4 _)
  go_upto_region 12 with (fail)
  obtain ⟨u10, ew⟩ : ∃ W, u9.setCell ⟨cb, 4, none⟩ (.int .i64 p) = W := ⟨_, rfl⟩
  rw [ew] at R10 ⊢
  clear ew fz j0 j1 j2 j3 j4 j5 j6 j7 j8 R8 R9
  go_wp2_with fail
  refine (RLong_any c A n0 cap L k5 y5 u10 (Lib.hid R10.out.rd)).mono ?_
  rintro e u11 ⟨rfl, P, G⟩
  rw [ea5.out]
  rw [eb5.out, ec5.out] at P
  have R11 : Hid (RS (fun k y w => Rd c A n0 cap L k y w) c rb cb k6 y6 #[.int .i64 1, .int .i64 i, .int .i64 n, .int .i64 s, .int .i64 p, .int .i64 0, .int .i64 0, .int .i64 t, .string (str [])] w u11) := Lib.hid (R10.out.read P G)
  clear P G
  obtain ⟨j0, j1, j2, j3, j4, j5, j6, j7, j8⟩ := cmd_at R11.out.cmd
  have fz : u11.frozen? ⟨cb, 5, none⟩ = false := Lib.frozen_of_heap R11.out.cmd 5
  have R12 : Hid (RS (fun k y w => Rd c A n0 cap L k y w) c rb cb k6 y6 #[.int .i64 1, .int .i64 i, .int .i64 n, .int .i64 s, .int .i64 p, .int .i64 q, .int .i64 0, .int .i64 t, .string (str [])] w (u11.setCell ⟨cb, 5, none⟩ (.int .i64 q))) := Lib.hid (R11.out.store (keeps_rd c A n0 cap L hA.out) 5 _)
  go_upto_region 13 with (fail)
  obtain ⟨u12, ew⟩ : ∃ W, u11.setCell ⟨cb, 5, none⟩ (.int .i64 q) = W := ⟨_, rfl⟩
  rw [ew] at R12 ⊢
  clear ew fz j0 j1 j2 j3 j4 j5 j6 j7 j8 R10 R11
  go_wp2_with fail
  refine (RLong_any c A n0 cap L k6 y6 u12 (Lib.hid R12.out.rd)).mono ?_
  rintro e u13 ⟨rfl, P, G⟩
  rw [ea6.out]
  rw [eb6.out, ec6.out] at P
  have R13 : Hid (RS (fun k y w => Rd c A n0 cap L k y w) c rb cb k7 y7 #[.int .i64 1, .int .i64 i, .int .i64 n, .int .i64 s, .int .i64 p, .int .i64 q, .int .i64 0, .int .i64 t, .string (str [])] w u13) := Lib.hid (R12.out.read P G)
  clear P G
  obtain ⟨j0, j1, j2, j3, j4, j5, j6, j7, j8⟩ := cmd_at R13.out.cmd
  have fz : u13.frozen? ⟨cb, 6, none⟩ = false := Lib.frozen_of_heap R13.out.cmd 6
  have R14 : Hid (RS (fun k y w => Rd c A n0 cap L k y w) c rb cb k7 y7 #[.int .i64 1, .int .i64 i, .int .i64 n, .int .i64 s, .int .i64 p, .int .i64 q, .int .i64 l, .int .i64 t, .string (str [])] w (u13.setCell ⟨cb, 6, none⟩ (.int .i64 l))) := Lib.hid (R13.out.store (keeps_rd c A n0 cap L hA.out) 6 _)
  go_upto_region 14 with (fail)
  obtain ⟨u14, ew⟩ : ∃ W, u13.setCell ⟨cb, 6, none⟩ (.int .i64 l) = W := ⟨_, rfl⟩
  rw [ew] at R14 ⊢
  clear ew fz j0 j1 j2 j3 j4 j5 j6 j7 j8 R12 R13
  go_wp2_with fail
  refine (RText_any c A n0 cap L k7 y7 u14 (Lib.hid R14.out.rd)).mono ?_
  rintro e u15 ⟨rfl, P, G⟩
  rw [ea7.out]
  rw [eb7.out, ec7.out] at P
  have R15 : Hid (RS (fun k y w => Rd c A n0 cap L k y w) c rb cb k8 y8 #[.int .i64 1, .int .i64 i, .int .i64 n, .int .i64 s, .int .i64 p, .int .i64 q, .int .i64 l, .int .i64 t, .string (str [])] w u15) := Lib.hid (R14.out.read P G)
  clear P G
  obtain ⟨j0, j1, j2, j3, j4, j5, j6, j7, j8⟩ := cmd_at R15.out.cmd
  have fz : u15.frozen? ⟨cb, 8, none⟩ = false := Lib.frozen_of_heap R15.out.cmd 8
  have R16 : Hid (RS (fun k y w => Rd c A n0 cap L k y w) c rb cb k8 y8 #[.int .i64 1, .int .i64 i, .int .i64 n, .int .i64 s, .int .i64 p, .int .i64 q, .int .i64 l, .int .i64 t, .string (str S)] w (u15.setCell ⟨cb, 8, none⟩ (.string (str S)))) := Lib.hid (R15.out.store (keeps_rd c A n0 cap L hA.out) 8 _)
  go_upto_region 20 with (fail)
  obtain ⟨u16, ew⟩ : ∃ W, u15.setCell ⟨cb, 8, none⟩ (.string (str S)) = W := ⟨_, rfl⟩
  rw [ew] at R16 ⊢
  clear ew fz j0 j1 j2 j3 j4 j5 j6 j7 j8 R14 R15
  go_wp2_with fail
  refine (REnd_any c A n0 cap L k8 y8 u16 (Lib.hid R16.out.rd) hy).mono ?_
  rintro e w9 ⟨rfl, qq, rfl⟩
  rw [hE.out]
  have Rq : Hid (RS (fun k y w => Rd c A n0 cap L k y w) c rb cb k8 y8 #[.int .i64 1, .int .i64 i, .int .i64 n, .int .i64 s, .int .i64 p, .int .i64 q, .int .i64 l, .int .i64 t, .string (str S)] w (u16.drewN qq)) := Lib.hid (R16.out.draws (keeps_rd c A n0 cap L hA.out) qq)
  obtain ⟨uq, ewq⟩ : ∃ W, u16.drewN qq = W := ⟨_, rfl⟩
  rw [ewq] at Rq ⊢
  clear ewq R16
  obtain ⟨j0, j1, j2, j3, j4, j5, j6, j7, j8⟩ := cmd_at Rq.out.cmd
  go_wp2_with fail
  refine (RRight_any ⟨1, i, n, s, p, q, l, t, S⟩ uq (fun _ => Nat.le_trans hS (by omega))).mono ?_
  rintro e w6 ⟨rfl, b6⟩
  rw [hR.out]
  have H6 := Lib.hid ((b6.block rb (Array.getElem?_eq_some_iff.1 Rq.out.res).1).trans Rq.out.res)
  have C6 := Lib.hid ((b6.block cb (Array.getElem?_eq_some_iff.1 Rq.out.cmd).1).trans Rq.out.cmd)
  have BB := Rq.out.only.below (Nat.le_refl _) (fun j hj e => by have e : j = c := e; omega)
  have B6 := Lib.hid (BB.trans (b6.mono BB.size))
  clear j0 j1 j2 j3 j4 j5 j6 j7 j8 b6 Rq BB
  obtain ⟨fr0, fr1, fr2, fr3, fr4, fr5, fr6, fr7, fr8, m0, m1, m2, m3, m4, m5, m6, m7, m8⟩ := block9 H6.out
  go_wp2_with fail
  rw [set9 _ _ _ _ _ _ _ _ _ H6.out]
  (try simp only [Exit.inBlock, Exit.then])
  refine bodyPost_ret (results_cell_row_tmp rfl _ _ (rb) 23 _ (0, 0) _ rfl (setRow_heap _ _ _ _ _ _ H6.out) rfl rfl rfl) rfl ?_
  exact ⟨rfl, below_setRow B6.out hwr _⟩
set_option maxRecDepth 100000 in
set_option maxHeartbeats 1000000 in
theorem RDec_1_ok (A : Option Addr) (n0 cap : Nat) (L : List UInt8) (i n s t p q l : Int) (S : List UInt8) (k0 y0 k1 y1 k2 y2 k3 y3 k4 y4 k5 y5 k6 y6 k7 y7 k8 y8 : Nat) (w : World) (h : Hid (Src w A n0 cap L)) (ez : Hid (((headN (rdTake L 0 0 1).1 : Nat) : Int) = 1)) (ek : Hid ((rdTake L 0 0 1).2.1 = k0)) (ey : Hid ((rdTake L 0 0 1).2.2 = y0)) (ea0 : Hid ((wrap64 (numL (rdTake L k0 y0 8).1) : Int) = i)) (eb0 : Hid ((rdTake L k0 y0 8).2.1 = k1)) (ec0 : Hid ((rdTake L k0 y0 8).2.2 = y1)) (ea1 : Hid (((headN (rdTake L k1 y1 1).1 : Nat) : Int) = n)) (eb1 : Hid ((rdTake L k1 y1 1).2.1 = k2)) (ec1 : Hid ((rdTake L k1 y1 1).2.2 = y2)) (ea2 : Hid (((headN (rdTake L k2 y2 1).1 : Nat) : Int) = s)) (eb2 : Hid ((rdTake L k2 y2 1).2.1 = k3)) (ec2 : Hid ((rdTake L k2 y2 1).2.2 = y3)) (ea3 : Hid (((headN (rdTake L k3 y3 1).1 : Nat) : Int) = t)) (eb3 : Hid ((rdTake L k3 y3 1).2.1 = k4)) (ec3 : Hid ((rdTake L k3 y3 1).2.2 = y4)) (ea4 : Hid ((wrap64 (numL (rdTake L k4 y4 8).1) : Int) = p)) (eb4 : Hid ((rdTake L k4 y4 8).2.1 = k5)) (ec4 : Hid ((rdTake L k4 y4 8).2.2 = y5)) (ea5 : Hid ((wrap64 (numL (rdTake L k5 y5 8).1) : Int) = q)) (eb5 : Hid ((rdTake L k5 y5 8).2.1 = k6)) (ec5 : Hid ((rdTake L k5 y5 8).2.2 = y6)) (ea6 : Hid ((wrap64 (numL (rdTake L k6 y6 8).1) : Int) = l)) (eb6 : Hid ((rdTake L k6 y6 8).2.1 = k7)) (ec6 : Hid ((rdTake L k6 y6 8).2.2 = y7)) (ea7 : Hid ((rdText L k7 y7).1 = S)) (eb7 : Hid ((rdText L k7 y7).2.1 = k8)) (ec7 : Hid ((rdText L k7 y7).2.2 = y8)) (hy : y8 ≤ 1000) (hS : S.length ≤ 255) (hE : Hid (rdEnd L k8 y8 = 0)) (hR : Hid ((C.mk 1 i n s p q l t S).right = 0)) :
    Calls Try.prog 42 #[.slice A n0 cap] w fun e w' => e = .returned (.tuple #[.agg #[.int .i64 1, .int .i64 i, .int .i64 n, .int .i64 s, .int .i64 p, .int .i64 q, .int .i64 l, .int .i64 t, .string (str S)], .int .i64 0]) ∧ Below w.heap.size w w' := by
  obtain ⟨w0, ew⟩ : ∃ W, (w.alloc (.cells #[.int .i64 0, .int .i64 0, .int .i64 0, .int .i64 0, .int .i64 0, .int .i64 0, .int .i64 0, .int .i64 0, .string { data := #[] }] 23)).alloc (.cells #[.slice A n0 cap, .int .i64 0, .int .i64 0] 101) = W := ⟨_, rfl⟩
  obtain ⟨rb, erb⟩ : ∃ rb, w.heap.size = rb := ⟨_, rfl⟩
  obtain ⟨c, ec⟩ : ∃ c, w.heap.size + 1 = c := ⟨_, rfl⟩
  have hA : Hid (∀ b off sp, A = some ⟨b, off, sp⟩ → b < c) := Lib.hid (fun b off sp e => by have := (h.out.at' _ e).1; have h2 : b < w.heap.size := this; omega)
  have bb : Below w.heap.size w w0 := by rw [← ew]; exact ((Below.refl _ w).alloc (Nat.le_refl _) _).alloc (by simp) _
  have P0 : Hid (Rd c A n0 cap L 0 0 w0) := Lib.hid ⟨by rw [← ew, ← ec]; exact heap_alloc2_new w _ _, h.out.hb.below bb, fun b off sp e => by have := hA.out b off sp e; omega, Nat.zero_le _, h.out.ncap, h.out.cmax, h.out.nmax, h.out.none0, fun ad e => (h.out.at' ad e).2⟩
  have H0 : Hid (w0.heap[rb]? = some (.cells #[.int .i64 0, .int .i64 0, .int .i64 0, .int .i64 0, .int .i64 0, .int .i64 0, .int .i64 0, .int .i64 0, .string (str [])] 23 (0, 0))) := Lib.hid (by rw [← ew, ← erb]; exact (heap_alloc_old _ _ (by simp)).trans (heap_alloc_new w _))
  have O0 : Hid (Only (fun b => b = c) w w0) := Lib.hid ((only_below bb).mono (fun _ _ e => e.elim))
  have hsz : w0.heap.size = w.heap.size + 2 := by rw [← ew]; simp
  have hrc : rb < c := by omega
  have hcw : c < w0.heap.size := by omega
  replace ew := Lib.hid ew
  replace ec := Lib.hid ec
  replace erb := Lib.hid erb
  replace bb := Lib.hid bb
  clear h
  go_enter Try.func42, Try.ntmps42
  go_wp2_with fail
  rw [ew.out, ec.out, erb.out]
  refine (RByte_any c A n0 cap L 0 0 w0 P0).mono ?_
  rintro e w1 ⟨rfl, P1, G1⟩
  rw [ez.out]
  rw [ek.out, ey.out] at P1
  have hb1 : rb < w1.heap.size := Nat.lt_of_lt_of_le (Array.getElem?_eq_some_iff.1 H0.out).1 G1.size
  have H1 := Lib.hid ((G1.block rb (Array.getElem?_eq_some_iff.1 H0.out).1 (fun e => by injection e with e; omega)).trans H0.out)
  have O1 := Lib.hid (O0.out.trans ((only_grown G1).mono (fun j _ e => by injection e)))
  have hw1 : w0.heap.size ≤ w1.heap.size := G1.size
  clear G1
  go_upto_region 3 with (fail)
  obtain ⟨w2, ew2⟩ : ∃ W, w1.alloc (.cells #[.int .i64 1, .int .i64 0, .int .i64 0, .int .i64 0, .int .i64 0, .int .i64 0, .int .i64 0, .int .i64 0, .string { data := #[] }] 23) = W := ⟨_, rfl⟩
  obtain ⟨cb, ecb⟩ : ∃ cb, w1.heap.size = cb := ⟨_, rfl⟩
  have R0 : Hid (RS (fun k y w => Rd c A n0 cap L k y w) c rb cb k0 y0 #[.int .i64 1, .int .i64 0, .int .i64 0, .int .i64 0, .int .i64 0, .int .i64 0, .int .i64 0, .int .i64 0, .string (str [])] w w2) := Lib.hid (by
    rw [← ew2]
    refine ⟨(keeps_rd c A n0 cap L hA.out).keep k0 y0 w1 _ (fun _ => False) P1 (alloc_only w1 _) (fun _ e => e.elim), (heap_alloc_old _ _ hb1).trans H1.out, by rw [← ecb]; exact heap_alloc_new w1 _, O1.out.step (alloc_only w1 _) (fun _ _ e => e.elim), by omega, by omega, by omega, by rw [erb.out]; exact Nat.le_refl _, by omega⟩)
  rw [ew2, ecb]
  have hbc : rb < cb := by omega
  have hwr : w.heap.size ≤ rb := by have := erb.out; omega
  have hwc : w.heap.size ≤ c := by omega
  clear ew2 ecb P1 H1 O1 P0 O0 H0 hb1 bb hsz hcw hw1
  obtain ⟨j0, j1, j2, j3, j4, j5, j6, j7, j8⟩ := cmd_at R0.out.cmd
  go_wp2_with fail
  refine (RLong_any c A n0 cap L k0 y0 w2 (Lib.hid R0.out.rd)).mono ?_
  rintro e u1 ⟨rfl, P, G⟩
  rw [ea0.out]
  rw [eb0.out, ec0.out] at P
  have R1 : Hid (RS (fun k y w => Rd c A n0 cap L k y w) c rb cb k1 y1 #[.int .i64 1, .int .i64 0, .int .i64 0, .int .i64 0, .int .i64 0, .int .i64 0, .int .i64 0, .int .i64 0, .string (str [])] w u1) := Lib.hid (R0.out.read P G)
  clear P G j0 j1 j2 j3 j4 j5 j6 j7 j8
  obtain ⟨j0, j1, j2, j3, j4, j5, j6, j7, j8⟩ := cmd_at R1.out.cmd
  have fz : u1.frozen? ⟨cb, 1, none⟩ = false := Lib.frozen_of_heap R1.out.cmd 1
  have R2 : Hid (RS (fun k y w => Rd c A n0 cap L k y w) c rb cb k1 y1 #[.int .i64 1, .int .i64 i, .int .i64 0, .int .i64 0, .int .i64 0, .int .i64 0, .int .i64 0, .int .i64 0, .string (str [])] w (u1.setCell ⟨cb, 1, none⟩ (.int .i64 i))) := Lib.hid (R1.out.store (keeps_rd c A n0 cap L hA.out) 1 _)
  go_upto_region 6 with (fail)
  obtain ⟨u2, ew⟩ : ∃ W, u1.setCell ⟨cb, 1, none⟩ (.int .i64 i) = W := ⟨_, rfl⟩
  rw [ew] at R2 ⊢
  clear ew fz j0 j1 j2 j3 j4 j5 j6 j7 j8 R0 R1
  obtain ⟨j0, j1, j2, j3, j4, j5, j6, j7, j8⟩ := cmd_at R2.out.cmd
  go_upto_region 8 with (fail)
  clear j0 j1 j2 j3 j4 j5 j6 j7 j8
  go_wp2_with fail
  refine (RByte_any c A n0 cap L k1 y1 u2 (Lib.hid R2.out.rd)).mono ?_
  rintro e u3 ⟨rfl, P, G⟩
  rw [ea1.out]
  rw [eb1.out, ec1.out] at P
  have R3 : Hid (RS (fun k y w => Rd c A n0 cap L k y w) c rb cb k2 y2 #[.int .i64 1, .int .i64 i, .int .i64 0, .int .i64 0, .int .i64 0, .int .i64 0, .int .i64 0, .int .i64 0, .string (str [])] w u3) := Lib.hid (R2.out.read P G)
  clear P G
  obtain ⟨j0, j1, j2, j3, j4, j5, j6, j7, j8⟩ := cmd_at R3.out.cmd
  have fz : u3.frozen? ⟨cb, 2, none⟩ = false := Lib.frozen_of_heap R3.out.cmd 2
  have R4 : Hid (RS (fun k y w => Rd c A n0 cap L k y w) c rb cb k2 y2 #[.int .i64 1, .int .i64 i, .int .i64 n, .int .i64 0, .int .i64 0, .int .i64 0, .int .i64 0, .int .i64 0, .string (str [])] w (u3.setCell ⟨cb, 2, none⟩ (.int .i64 n))) := Lib.hid (R3.out.store (keeps_rd c A n0 cap L hA.out) 2 _)
  go_upto_region 9 with (fail)
  obtain ⟨u4, ew⟩ : ∃ W, u3.setCell ⟨cb, 2, none⟩ (.int .i64 n) = W := ⟨_, rfl⟩
  rw [ew] at R4 ⊢
  clear ew fz j0 j1 j2 j3 j4 j5 j6 j7 j8 R2 R3
  go_wp2_with fail
  refine (RByte_any c A n0 cap L k2 y2 u4 (Lib.hid R4.out.rd)).mono ?_
  rintro e u5 ⟨rfl, P, G⟩
  rw [ea2.out]
  rw [eb2.out, ec2.out] at P
  have R5 : Hid (RS (fun k y w => Rd c A n0 cap L k y w) c rb cb k3 y3 #[.int .i64 1, .int .i64 i, .int .i64 n, .int .i64 0, .int .i64 0, .int .i64 0, .int .i64 0, .int .i64 0, .string (str [])] w u5) := Lib.hid (R4.out.read P G)
  clear P G
  obtain ⟨j0, j1, j2, j3, j4, j5, j6, j7, j8⟩ := cmd_at R5.out.cmd
  have fz : u5.frozen? ⟨cb, 3, none⟩ = false := Lib.frozen_of_heap R5.out.cmd 3
  have R6 : Hid (RS (fun k y w => Rd c A n0 cap L k y w) c rb cb k3 y3 #[.int .i64 1, .int .i64 i, .int .i64 n, .int .i64 s, .int .i64 0, .int .i64 0, .int .i64 0, .int .i64 0, .string (str [])] w (u5.setCell ⟨cb, 3, none⟩ (.int .i64 s))) := Lib.hid (R5.out.store (keeps_rd c A n0 cap L hA.out) 3 _)
  go_upto_region 10 with (fail)
  obtain ⟨u6, ew⟩ : ∃ W, u5.setCell ⟨cb, 3, none⟩ (.int .i64 s) = W := ⟨_, rfl⟩
  rw [ew] at R6 ⊢
  clear ew fz j0 j1 j2 j3 j4 j5 j6 j7 j8 R4 R5
  go_wp2_with fail
  refine (RByte_any c A n0 cap L k3 y3 u6 (Lib.hid R6.out.rd)).mono ?_
  rintro e u7 ⟨rfl, P, G⟩
  rw [ea3.out]
  rw [eb3.out, ec3.out] at P
  have R7 : Hid (RS (fun k y w => Rd c A n0 cap L k y w) c rb cb k4 y4 #[.int .i64 1, .int .i64 i, .int .i64 n, .int .i64 s, .int .i64 0, .int .i64 0, .int .i64 0, .int .i64 0, .string (str [])] w u7) := Lib.hid (R6.out.read P G)
  clear P G
  obtain ⟨j0, j1, j2, j3, j4, j5, j6, j7, j8⟩ := cmd_at R7.out.cmd
  have fz : u7.frozen? ⟨cb, 7, none⟩ = false := Lib.frozen_of_heap R7.out.cmd 7
  have R8 : Hid (RS (fun k y w => Rd c A n0 cap L k y w) c rb cb k4 y4 #[.int .i64 1, .int .i64 i, .int .i64 n, .int .i64 s, .int .i64 0, .int .i64 0, .int .i64 0, .int .i64 t, .string (str [])] w (u7.setCell ⟨cb, 7, none⟩ (.int .i64 t))) := Lib.hid (R7.out.store (keeps_rd c A n0 cap L hA.out) 7 _)
  go_upto_region 11 with (fail)
  obtain ⟨u8, ew⟩ : ∃ W, u7.setCell ⟨cb, 7, none⟩ (.int .i64 t) = W := ⟨_, rfl⟩
  rw [ew] at R8 ⊢
  clear ew fz j0 j1 j2 j3 j4 j5 j6 j7 j8 R6 R7
  go_wp2_with fail
  refine (RLong_any c A n0 cap L k4 y4 u8 (Lib.hid R8.out.rd)).mono ?_
  rintro e u9 ⟨rfl, P, G⟩
  rw [ea4.out]
  rw [eb4.out, ec4.out] at P
  have R9 : Hid (RS (fun k y w => Rd c A n0 cap L k y w) c rb cb k5 y5 #[.int .i64 1, .int .i64 i, .int .i64 n, .int .i64 s, .int .i64 0, .int .i64 0, .int .i64 0, .int .i64 t, .string (str [])] w u9) := Lib.hid (R8.out.read P G)
  clear P G
  obtain ⟨j0, j1, j2, j3, j4, j5, j6, j7, j8⟩ := cmd_at R9.out.cmd
  have fz : u9.frozen? ⟨cb, 4, none⟩ = false := Lib.frozen_of_heap R9.out.cmd 4
  have R10 : Hid (RS (fun k y w => Rd c A n0 cap L k y w) c rb cb k5 y5 #[.int .i64 1, .int .i64 i, .int .i64 n, .int .i64 s, .int .i64 p, .int .i64 0, .int .i64 0, .int .i64 t, .string (str [])] w (u9.setCell ⟨cb, 4, none⟩ (.int .i64 p))) := Lib.hid (R9.out.store (keeps_rd c A n0 cap L hA.out) 4 _)
  go_upto_region 12 with (fail)
  obtain ⟨u10, ew⟩ : ∃ W, u9.setCell ⟨cb, 4, none⟩ (.int .i64 p) = W := ⟨_, rfl⟩
  rw [ew] at R10 ⊢
  clear ew fz j0 j1 j2 j3 j4 j5 j6 j7 j8 R8 R9
  go_wp2_with fail
  refine (RLong_any c A n0 cap L k5 y5 u10 (Lib.hid R10.out.rd)).mono ?_
  rintro e u11 ⟨rfl, P, G⟩
  rw [ea5.out]
  rw [eb5.out, ec5.out] at P
  have R11 : Hid (RS (fun k y w => Rd c A n0 cap L k y w) c rb cb k6 y6 #[.int .i64 1, .int .i64 i, .int .i64 n, .int .i64 s, .int .i64 p, .int .i64 0, .int .i64 0, .int .i64 t, .string (str [])] w u11) := Lib.hid (R10.out.read P G)
  clear P G
  obtain ⟨j0, j1, j2, j3, j4, j5, j6, j7, j8⟩ := cmd_at R11.out.cmd
  have fz : u11.frozen? ⟨cb, 5, none⟩ = false := Lib.frozen_of_heap R11.out.cmd 5
  have R12 : Hid (RS (fun k y w => Rd c A n0 cap L k y w) c rb cb k6 y6 #[.int .i64 1, .int .i64 i, .int .i64 n, .int .i64 s, .int .i64 p, .int .i64 q, .int .i64 0, .int .i64 t, .string (str [])] w (u11.setCell ⟨cb, 5, none⟩ (.int .i64 q))) := Lib.hid (R11.out.store (keeps_rd c A n0 cap L hA.out) 5 _)
  go_upto_region 13 with (fail)
  obtain ⟨u12, ew⟩ : ∃ W, u11.setCell ⟨cb, 5, none⟩ (.int .i64 q) = W := ⟨_, rfl⟩
  rw [ew] at R12 ⊢
  clear ew fz j0 j1 j2 j3 j4 j5 j6 j7 j8 R10 R11
  go_wp2_with fail
  refine (RLong_any c A n0 cap L k6 y6 u12 (Lib.hid R12.out.rd)).mono ?_
  rintro e u13 ⟨rfl, P, G⟩
  rw [ea6.out]
  rw [eb6.out, ec6.out] at P
  have R13 : Hid (RS (fun k y w => Rd c A n0 cap L k y w) c rb cb k7 y7 #[.int .i64 1, .int .i64 i, .int .i64 n, .int .i64 s, .int .i64 p, .int .i64 q, .int .i64 0, .int .i64 t, .string (str [])] w u13) := Lib.hid (R12.out.read P G)
  clear P G
  obtain ⟨j0, j1, j2, j3, j4, j5, j6, j7, j8⟩ := cmd_at R13.out.cmd
  have fz : u13.frozen? ⟨cb, 6, none⟩ = false := Lib.frozen_of_heap R13.out.cmd 6
  have R14 : Hid (RS (fun k y w => Rd c A n0 cap L k y w) c rb cb k7 y7 #[.int .i64 1, .int .i64 i, .int .i64 n, .int .i64 s, .int .i64 p, .int .i64 q, .int .i64 l, .int .i64 t, .string (str [])] w (u13.setCell ⟨cb, 6, none⟩ (.int .i64 l))) := Lib.hid (R13.out.store (keeps_rd c A n0 cap L hA.out) 6 _)
  go_upto_region 14 with (fail)
  obtain ⟨u14, ew⟩ : ∃ W, u13.setCell ⟨cb, 6, none⟩ (.int .i64 l) = W := ⟨_, rfl⟩
  rw [ew] at R14 ⊢
  clear ew fz j0 j1 j2 j3 j4 j5 j6 j7 j8 R12 R13
  go_wp2_with fail
  refine (RText_any c A n0 cap L k7 y7 u14 (Lib.hid R14.out.rd)).mono ?_
  rintro e u15 ⟨rfl, P, G⟩
  rw [ea7.out]
  rw [eb7.out, ec7.out] at P
  have R15 : Hid (RS (fun k y w => Rd c A n0 cap L k y w) c rb cb k8 y8 #[.int .i64 1, .int .i64 i, .int .i64 n, .int .i64 s, .int .i64 p, .int .i64 q, .int .i64 l, .int .i64 t, .string (str [])] w u15) := Lib.hid (R14.out.read P G)
  clear P G
  obtain ⟨j0, j1, j2, j3, j4, j5, j6, j7, j8⟩ := cmd_at R15.out.cmd
  have fz : u15.frozen? ⟨cb, 8, none⟩ = false := Lib.frozen_of_heap R15.out.cmd 8
  have R16 : Hid (RS (fun k y w => Rd c A n0 cap L k y w) c rb cb k8 y8 #[.int .i64 1, .int .i64 i, .int .i64 n, .int .i64 s, .int .i64 p, .int .i64 q, .int .i64 l, .int .i64 t, .string (str S)] w (u15.setCell ⟨cb, 8, none⟩ (.string (str S)))) := Lib.hid (R15.out.store (keeps_rd c A n0 cap L hA.out) 8 _)
  go_upto_region 20 with (fail)
  obtain ⟨u16, ew⟩ : ∃ W, u15.setCell ⟨cb, 8, none⟩ (.string (str S)) = W := ⟨_, rfl⟩
  rw [ew] at R16 ⊢
  clear ew fz j0 j1 j2 j3 j4 j5 j6 j7 j8 R14 R15
  go_wp2_with fail
  refine (REnd_any c A n0 cap L k8 y8 u16 (Lib.hid R16.out.rd) hy).mono ?_
  rintro e w9 ⟨rfl, qq, rfl⟩
  rw [hE.out]
  have Rq : Hid (RS (fun k y w => Rd c A n0 cap L k y w) c rb cb k8 y8 #[.int .i64 1, .int .i64 i, .int .i64 n, .int .i64 s, .int .i64 p, .int .i64 q, .int .i64 l, .int .i64 t, .string (str S)] w (u16.drewN qq)) := Lib.hid (R16.out.draws (keeps_rd c A n0 cap L hA.out) qq)
  obtain ⟨uq, ewq⟩ : ∃ W, u16.drewN qq = W := ⟨_, rfl⟩
  rw [ewq] at Rq ⊢
  clear ewq R16
  obtain ⟨j0, j1, j2, j3, j4, j5, j6, j7, j8⟩ := cmd_at Rq.out.cmd
  go_wp2_with fail
  refine (RRight_any ⟨1, i, n, s, p, q, l, t, S⟩ uq (fun _ => Nat.le_trans hS (by omega))).mono ?_
  rintro e w6 ⟨rfl, b6⟩
  rw [hR.out]
  have H6 := Lib.hid ((b6.block rb (Array.getElem?_eq_some_iff.1 Rq.out.res).1).trans Rq.out.res)
  have C6 := Lib.hid ((b6.block cb (Array.getElem?_eq_some_iff.1 Rq.out.cmd).1).trans Rq.out.cmd)
  have BB := Rq.out.only.below (Nat.le_refl _) (fun j hj e => by have e : j = c := e; omega)
  have B6 := Lib.hid (BB.trans (b6.mono BB.size))
  clear j0 j1 j2 j3 j4 j5 j6 j7 j8 b6 Rq BB
  obtain ⟨j0, j1, j2, j3, j4, j5, j6, j7, j8⟩ := cmd_at C6.out
  obtain ⟨fr0, fr1, fr2, fr3, fr4, fr5, fr6, fr7, fr8, m0, m1, m2, m3, m4, m5, m6, m7, m8⟩ := block9 H6.out
  go_wp2_with fail
  rw [set9 _ _ _ _ _ _ _ _ _ H6.out]
  (try simp only [Exit.inBlock, Exit.then])
  refine bodyPost_ret (results_cell_row_tmp rfl _ _ (rb) 23 _ (0, 0) _ rfl (setRow_heap _ _ _ _ _ _ H6.out) rfl rfl rfl) rfl ?_
  exact ⟨rfl, below_setRow B6.out hwr _⟩
set_option maxRecDepth 100000 in
set_option maxHeartbeats 1000000 in
theorem RDec_2_end (A : Option Addr) (n0 cap : Nat) (L : List UInt8) (i : Int) (k0 y0 k1 y1 : Nat) (w : World) (h : Hid (Src w A n0 cap L)) (ez : Hid (((headN (rdTake L 0 0 1).1 : Nat) : Int) = 2)) (ek : Hid ((rdTake L 0 0 1).2.1 = k0)) (ey : Hid ((rdTake L 0 0 1).2.2 = y0)) (ea0 : Hid ((wrap64 (numL (rdTake L k0 y0 8).1) : Int) = i)) (eb0 : Hid ((rdTake L k0 y0 8).2.1 = k1)) (ec0 : Hid ((rdTake L k0 y0 8).2.2 = y1)) (hy : y1 ≤ 1000) (E : Nat) (hE : Hid (rdEnd L k1 y1 = E)) (h0 : E ≠ 0) :
    Calls Try.prog 42 #[.slice A n0 cap] w fun e w' => e = .returned (.tuple #[zeroC.val, .int .i64 12]) ∧ Below w.heap.size w w' := by
  have i1 : ((E : Int) != 0) = true := by simp; omega
  clear h0
  obtain ⟨w0, ew⟩ : ∃ W, (w.alloc (.cells #[.int .i64 0, .int .i64 0, .int .i64 0, .int .i64 0, .int .i64 0, .int .i64 0, .int .i64 0, .int .i64 0, .string { data := #[] }] 23)).alloc (.cells #[.slice A n0 cap, .int .i64 0, .int .i64 0] 101) = W := ⟨_, rfl⟩
  obtain ⟨rb, erb⟩ : ∃ rb, w.heap.size = rb := ⟨_, rfl⟩
  obtain ⟨c, ec⟩ : ∃ c, w.heap.size + 1 = c := ⟨_, rfl⟩
  have hA : Hid (∀ b off sp, A = some ⟨b, off, sp⟩ → b < c) := Lib.hid (fun b off sp e => by have := (h.out.at' _ e).1; have h2 : b < w.heap.size := this; omega)
  have bb : Below w.heap.size w w0 := by rw [← ew]; exact ((Below.refl _ w).alloc (Nat.le_refl _) _).alloc (by simp) _
  have P0 : Hid (Rd c A n0 cap L 0 0 w0) := Lib.hid ⟨by rw [← ew, ← ec]; exact heap_alloc2_new w _ _, h.out.hb.below bb, fun b off sp e => by have := hA.out b off sp e; omega, Nat.zero_le _, h.out.ncap, h.out.cmax, h.out.nmax, h.out.none0, fun ad e => (h.out.at' ad e).2⟩
  have H0 : Hid (w0.heap[rb]? = some (.cells #[.int .i64 0, .int .i64 0, .int .i64 0, .int .i64 0, .int .i64 0, .int .i64 0, .int .i64 0, .int .i64 0, .string (str [])] 23 (0, 0))) := Lib.hid (by rw [← ew, ← erb]; exact (heap_alloc_old _ _ (by simp)).trans (heap_alloc_new w _))
  have O0 : Hid (Only (fun b => b = c) w w0) := Lib.hid ((only_below bb).mono (fun _ _ e => e.elim))
  have hsz : w0.heap.size = w.heap.size + 2 := by rw [← ew]; simp
  have hrc : rb < c := by omega
  have hcw : c < w0.heap.size := by omega
  replace ew := Lib.hid ew
  replace ec := Lib.hid ec
  replace erb := Lib.hid erb
  replace bb := Lib.hid bb
  clear h
  go_enter Try.func42, Try.ntmps42
  go_wp2_with fail
  rw [ew.out, ec.out, erb.out]
  refine (RByte_any c A n0 cap L 0 0 w0 P0).mono ?_
  rintro e w1 ⟨rfl, P1, G1⟩
  rw [ez.out]
  rw [ek.out, ey.out] at P1
  have hb1 : rb < w1.heap.size := Nat.lt_of_lt_of_le (Array.getElem?_eq_some_iff.1 H0.out).1 G1.size
  have H1 := Lib.hid ((G1.block rb (Array.getElem?_eq_some_iff.1 H0.out).1 (fun e => by injection e with e; omega)).trans H0.out)
  have O1 := Lib.hid (O0.out.trans ((only_grown G1).mono (fun j _ e => by injection e)))
  have hw1 : w0.heap.size ≤ w1.heap.size := G1.size
  clear G1
  go_upto_region 3 with (fail)
  obtain ⟨w2, ew2⟩ : ∃ W, w1.alloc (.cells #[.int .i64 2, .int .i64 0, .int .i64 0, .int .i64 0, .int .i64 0, .int .i64 0, .int .i64 0, .int .i64 0, .string { data := #[] }] 23) = W := ⟨_, rfl⟩
  obtain ⟨cb, ecb⟩ : ∃ cb, w1.heap.size = cb := ⟨_, rfl⟩
  have R0 : Hid (RS (fun k y w => Rd c A n0 cap L k y w) c rb cb k0 y0 #[.int .i64 2, .int .i64 0, .int .i64 0, .int .i64 0, .int .i64 0, .int .i64 0, .int .i64 0, .int .i64 0, .string (str [])] w w2) := Lib.hid (by
    rw [← ew2]
    refine ⟨(keeps_rd c A n0 cap L hA.out).keep k0 y0 w1 _ (fun _ => False) P1 (alloc_only w1 _) (fun _ e => e.elim), (heap_alloc_old _ _ hb1).trans H1.out, by rw [← ecb]; exact heap_alloc_new w1 _, O1.out.step (alloc_only w1 _) (fun _ _ e => e.elim), by omega, by omega, by omega, by rw [erb.out]; exact Nat.le_refl _, by omega⟩)
  rw [ew2, ecb]
  have hbc : rb < cb := by omega
  have hwr : w.heap.size ≤ rb := by have := erb.out; omega
  have hwc : w.heap.size ≤ c := by omega
  clear ew2 ecb P1 H1 O1 P0 O0 H0 hb1 bb hsz hcw hw1
  obtain ⟨j0, j1, j2, j3, j4, j5, j6, j7, j8⟩ := cmd_at R0.out.cmd
  go_wp2_with fail
  refine (RLong_any c A n0 cap L k0 y0 w2 (Lib.hid R0.out.rd)).mono ?_
  rintro e u1 ⟨rfl, P, G⟩
  rw [ea0.out]
  rw [eb0.out, ec0.out] at P
  have R1 : Hid (RS (fun k y w => Rd c A n0 cap L k y w) c rb cb k1 y1 #[.int .i64 2, .int .i64 0, .int .i64 0, .int .i64 0, .int .i64 0, .int .i64 0, .int .i64 0, .int .i64 0, .string (str [])] w u1) := Lib.hid (R0.out.read P G)
  clear P G j0 j1 j2 j3 j4 j5 j6 j7 j8
  obtain ⟨j0, j1, j2, j3, j4, j5, j6, j7, j8⟩ := cmd_at R1.out.cmd
  have fz : u1.frozen? ⟨cb, 1, none⟩ = false := Lib.frozen_of_heap R1.out.cmd 1
  have R2 : Hid (RS (fun k y w => Rd c A n0 cap L k y w) c rb cb k1 y1 #[.int .i64 2, .int .i64 i, .int .i64 0, .int .i64 0, .int .i64 0, .int .i64 0, .int .i64 0, .int .i64 0, .string (str [])] w (u1.setCell ⟨cb, 1, none⟩ (.int .i64 i))) := Lib.hid (R1.out.store (keeps_rd c A n0 cap L hA.out) 1 _)
  go_upto_region 6 with (fail)
  obtain ⟨u2, ew⟩ : ∃ W, u1.setCell ⟨cb, 1, none⟩ (.int .i64 i) = W := ⟨_, rfl⟩
  rw [ew] at R2 ⊢
  clear ew fz j0 j1 j2 j3 j4 j5 j6 j7 j8 R0 R1
  obtain ⟨j0, j1, j2, j3, j4, j5, j6, j7, j8⟩ := cmd_at R2.out.cmd
  go_upto_region 20 with (fail)
  clear j0 j1 j2 j3 j4 j5 j6 j7 j8
  go_wp2_with fail
  refine (REnd_any c A n0 cap L k1 y1 u2 (Lib.hid R2.out.rd) hy).mono ?_
  rintro e w9 ⟨rfl, qq, rfl⟩
  rw [hE.out]
  have Rq : Hid (RS (fun k y w => Rd c A n0 cap L k y w) c rb cb k1 y1 #[.int .i64 2, .int .i64 i, .int .i64 0, .int .i64 0, .int .i64 0, .int .i64 0, .int .i64 0, .int .i64 0, .string (str [])] w (u2.drewN qq)) := Lib.hid (R2.out.draws (keeps_rd c A n0 cap L hA.out) qq)
  obtain ⟨uq, ewq⟩ : ∃ W, u2.drewN qq = W := ⟨_, rfl⟩
  rw [ewq] at Rq ⊢
  clear ewq R2
  obtain ⟨fr0, fr1, fr2, fr3, fr4, fr5, fr6, fr7, fr8, m0, m1, m2, m3, m4, m5, m6, m7, m8⟩ := block9 Rq.out.res
  go_wp2_with fail
  rw [set9 _ _ _ _ _ _ _ _ _ Rq.out.res]
  (try simp only [Exit.inBlock, Exit.then])
  refine bodyPost_ret (results_cell_row_tmp rfl _ _ (rb) 23 _ (0, 0) _ rfl (setRow_heap _ _ _ _ _ _ Rq.out.res) rfl rfl rfl) rfl ?_
  exact ⟨rfl, below_setRow (Rq.out.only.below (Nat.le_refl _) (fun j hj e => by have e : j = c := e; omega)) hwr _⟩
set_option maxRecDepth 100000 in
set_option maxHeartbeats 1000000 in
theorem RDec_2_right (A : Option Addr) (n0 cap : Nat) (L : List UInt8) (i : Int) (k0 y0 k1 y1 : Nat) (w : World) (h : Hid (Src w A n0 cap L)) (ez : Hid (((headN (rdTake L 0 0 1).1 : Nat) : Int) = 2)) (ek : Hid ((rdTake L 0 0 1).2.1 = k0)) (ey : Hid ((rdTake L 0 0 1).2.2 = y0)) (ea0 : Hid ((wrap64 (numL (rdTake L k0 y0 8).1) : Int) = i)) (eb0 : Hid ((rdTake L k0 y0 8).2.1 = k1)) (ec0 : Hid ((rdTake L k0 y0 8).2.2 = y1)) (hy : y1 ≤ 1000) (hE : Hid (rdEnd L k1 y1 = 0)) (E : Nat) (hR : Hid ((C.mk 2 i 0 0 0 0 0 0 []).right = E)) (h0 : E ≠ 0) :
    Calls Try.prog 42 #[.slice A n0 cap] w fun e w' => e = .returned (.tuple #[zeroC.val, .int .i64 E]) ∧ Below w.heap.size w w' := by
  have i1 : ((E : Int) != 0) = true := by simp; omega
  clear h0
  obtain ⟨w0, ew⟩ : ∃ W, (w.alloc (.cells #[.int .i64 0, .int .i64 0, .int .i64 0, .int .i64 0, .int .i64 0, .int .i64 0, .int .i64 0, .int .i64 0, .string { data := #[] }] 23)).alloc (.cells #[.slice A n0 cap, .int .i64 0, .int .i64 0] 101) = W := ⟨_, rfl⟩
  obtain ⟨rb, erb⟩ : ∃ rb, w.heap.size = rb := ⟨_, rfl⟩
  obtain ⟨c, ec⟩ : ∃ c, w.heap.size + 1 = c := ⟨_, rfl⟩
  have hA : Hid (∀ b off sp, A = some ⟨b, off, sp⟩ → b < c) := Lib.hid (fun b off sp e => by have := (h.out.at' _ e).1; have h2 : b < w.heap.size := this; omega)
  have bb : Below w.heap.size w w0 := by rw [← ew]; exact ((Below.refl _ w).alloc (Nat.le_refl _) _).alloc (by simp) _
  have P0 : Hid (Rd c A n0 cap L 0 0 w0) := Lib.hid ⟨by rw [← ew, ← ec]; exact heap_alloc2_new w _ _, h.out.hb.below bb, fun b off sp e => by have := hA.out b off sp e; omega, Nat.zero_le _, h.out.ncap, h.out.cmax, h.out.nmax, h.out.none0, fun ad e => (h.out.at' ad e).2⟩
  have H0 : Hid (w0.heap[rb]? = some (.cells #[.int .i64 0, .int .i64 0, .int .i64 0, .int .i64 0, .int .i64 0, .int .i64 0, .int .i64 0, .int .i64 0, .string (str [])] 23 (0, 0))) := Lib.hid (by rw [← ew, ← erb]; exact (heap_alloc_old _ _ (by simp)).trans (heap_alloc_new w _))
  have O0 : Hid (Only (fun b => b = c) w w0) := Lib.hid ((only_below bb).mono (fun _ _ e => e.elim))
  have hsz : w0.heap.size = w.heap.size + 2 := by rw [← ew]; simp
  have hrc : rb < c := by omega
  have hcw : c < w0.heap.size := by omega
  replace ew := Lib.hid ew
  replace ec := Lib.hid ec
  replace erb := Lib.hid erb
  replace bb := Lib.hid bb
  clear h
  go_enter Try.func42, Try.ntmps42
  go_wp2_with fail
  rw [ew.out, ec.out, erb.out]
  refine (RByte_any c A n0 cap L 0 0 w0 P0).mono ?_
  rintro e w1 ⟨rfl, P1, G1⟩
  rw [ez.out]
  rw [ek.out, ey.out] at P1
  have hb1 : rb < w1.heap.size := Nat.lt_of_lt_of_le (Array.getElem?_eq_some_iff.1 H0.out).1 G1.size
  have H1 := Lib.hid ((G1.block rb (Array.getElem?_eq_some_iff.1 H0.out).1 (fun e => by injection e with e; omega)).trans H0.out)
  have O1 := Lib.hid (O0.out.trans ((only_grown G1).mono (fun j _ e => by injection e)))
  have hw1 : w0.heap.size ≤ w1.heap.size := G1.size
  clear G1
  go_upto_region 3 with (fail)
  obtain ⟨w2, ew2⟩ : ∃ W, w1.alloc (.cells #[.int .i64 2, .int .i64 0, .int .i64 0, .int .i64 0, .int .i64 0, .int .i64 0, .int .i64 0, .int .i64 0, .string { data := #[] }] 23) = W := ⟨_, rfl⟩
  obtain ⟨cb, ecb⟩ : ∃ cb, w1.heap.size = cb := ⟨_, rfl⟩
  have R0 : Hid (RS (fun k y w => Rd c A n0 cap L k y w) c rb cb k0 y0 #[.int .i64 2, .int .i64 0, .int .i64 0, .int .i64 0, .int .i64 0, .int .i64 0, .int .i64 0, .int .i64 0, .string (str [])] w w2) := Lib.hid (by
    rw [← ew2]
    refine ⟨(keeps_rd c A n0 cap L hA.out).keep k0 y0 w1 _ (fun _ => False) P1 (alloc_only w1 _) (fun _ e => e.elim), (heap_alloc_old _ _ hb1).trans H1.out, by rw [← ecb]; exact heap_alloc_new w1 _, O1.out.step (alloc_only w1 _) (fun _ _ e => e.elim), by omega, by omega, by omega, by rw [erb.out]; exact Nat.le_refl _, by omega⟩)
  rw [ew2, ecb]
  have hbc : rb < cb := by omega
  have hwr : w.heap.size ≤ rb := by have := erb.out; omega
  have hwc : w.heap.size ≤ c := by omega
  clear ew2 ecb P1 H1 O1 P0 O0 H0 hb1 bb hsz hcw hw1
  obtain ⟨j0, j1, j2, j3, j4, j5, j6, j7, j8⟩ := cmd_at R0.out.cmd
  go_wp2_with fail
  refine (RLong_any c A n0 cap L k0 y0 w2 (Lib.hid R0.out.rd)).mono ?_
  rintro e u1 ⟨rfl, P, G⟩
  rw [ea0.out]
  rw [eb0.out, ec0.out] at P
  have R1 : Hid (RS (fun k y w => Rd c A n0 cap L k y w) c rb cb k1 y1 #[.int .i64 2, .int .i64 0, .int .i64 0, .int .i64 0, .int .i64 0, .int .i64 0, .int .i64 0, .int .i64 0, .string (str [])] w u1) := Lib.hid (R0.out.read P G)
  clear P G j0 j1 j2 j3 j4 j5 j6 j7 j8
  obtain ⟨j0, j1, j2, j3, j4, j5, j6, j7, j8⟩ := cmd_at R1.out.cmd
  have fz : u1.frozen? ⟨cb, 1, none⟩ = false := Lib.frozen_of_heap R1.out.cmd 1
  have R2 : Hid (RS (fun k y w => Rd c A n0 cap L k y w) c rb cb k1 y1 #[.int .i64 2, .int .i64 i, .int .i64 0, .int .i64 0, .int .i64 0, .int .i64 0, .int .i64 0, .int .i64 0, .string (str [])] w (u1.setCell ⟨cb, 1, none⟩ (.int .i64 i))) := Lib.hid (R1.out.store (keeps_rd c A n0 cap L hA.out) 1 _)
  go_upto_region 6 with (fail)
  obtain ⟨u2, ew⟩ : ∃ W, u1.setCell ⟨cb, 1, none⟩ (.int .i64 i) = W := ⟨_, rfl⟩
  rw [ew] at R2 ⊢
  clear ew fz j0 j1 j2 j3 j4 j5 j6 j7 j8 R0 R1
  obtain ⟨j0, j1, j2, j3, j4, j5, j6, j7, j8⟩ := cmd_at R2.out.cmd
  go_upto_region 20 with (fail)
  clear j0 j1 j2 j3 j4 j5 j6 j7 j8
  go_wp2_with fail
  refine (REnd_any c A n0 cap L k1 y1 u2 (Lib.hid R2.out.rd) hy).mono ?_
  rintro e w9 ⟨rfl, qq, rfl⟩
  rw [hE.out]
  have Rq : Hid (RS (fun k y w => Rd c A n0 cap L k y w) c rb cb k1 y1 #[.int .i64 2, .int .i64 i, .int .i64 0, .int .i64 0, .int .i64 0, .int .i64 0, .int .i64 0, .int .i64 0, .string (str [])] w (u2.drewN qq)) := Lib.hid (R2.out.draws (keeps_rd c A n0 cap L hA.out) qq)
  obtain ⟨uq, ewq⟩ : ∃ W, u2.drewN qq = W := ⟨_, rfl⟩
  rw [ewq] at Rq ⊢
  clear ewq R2
  obtain ⟨j0, j1, j2, j3, j4, j5, j6, j7, j8⟩ := cmd_at Rq.out.cmd
  go_wp2_with fail
  refine (RRight_any ⟨2, i, 0, 0, 0, 0, 0, 0, []⟩ uq (fun hk => absurd (show ((2 : Nat) : Int) = 1 from hk) (by decide))).mono ?_
  rintro e w6 ⟨rfl, b6⟩
  rw [hR.out]
  have H6 := Lib.hid ((b6.block rb (Array.getElem?_eq_some_iff.1 Rq.out.res).1).trans Rq.out.res)
  have C6 := Lib.hid ((b6.block cb (Array.getElem?_eq_some_iff.1 Rq.out.cmd).1).trans Rq.out.cmd)
  have BB := Rq.out.only.below (Nat.le_refl _) (fun j hj e => by have e : j = c := e; omega)
  have B6 := Lib.hid (BB.trans (b6.mono BB.size))
  clear j0 j1 j2 j3 j4 j5 j6 j7 j8 b6 Rq BB
  obtain ⟨fr0, fr1, fr2, fr3, fr4, fr5, fr6, fr7, fr8, m0, m1, m2, m3, m4, m5, m6, m7, m8⟩ := block9 H6.out
  go_wp2_with fail
  rw [set9 _ _ _ _ _ _ _ _ _ H6.out]
  (try simp only [Exit.inBlock, Exit.then])
  refine bodyPost_ret (results_cell_row_tmp rfl _ _ (rb) 23 _ (0, 0) _ rfl (setRow_heap _ _ _ _ _ _ H6.out) rfl rfl rfl) rfl ?_
  exact ⟨rfl, below_setRow B6.out hwr _⟩
set_option maxRecDepth 100000 in
set_option maxHeartbeats 1000000 in
theorem RDec_2_ok (A : Option Addr) (n0 cap : Nat) (L : List UInt8) (i : Int) (k0 y0 k1 y1 : Nat) (w : World) (h : Hid (Src w A n0 cap L)) (ez : Hid (((headN (rdTake L 0 0 1).1 : Nat) : Int) = 2)) (ek : Hid ((rdTake L 0 0 1).2.1 = k0)) (ey : Hid ((rdTake L 0 0 1).2.2 = y0)) (ea0 : Hid ((wrap64 (numL (rdTake L k0 y0 8).1) : Int) = i)) (eb0 : Hid ((rdTake L k0 y0 8).2.1 = k1)) (ec0 : Hid ((rdTake L k0 y0 8).2.2 = y1)) (hy : y1 ≤ 1000) (hE : Hid (rdEnd L k1 y1 = 0)) (hR : Hid ((C.mk 2 i 0 0 0 0 0 0 []).right = 0)) :
    Calls Try.prog 42 #[.slice A n0 cap] w fun e w' => e = .returned (.tuple #[.agg #[.int .i64 2, .int .i64 i, .int .i64 0, .int .i64 0, .int .i64 0, .int .i64 0, .int .i64 0, .int .i64 0, .string (str [])], .int .i64 0]) ∧ Below w.heap.size w w' := by
  obtain ⟨w0, ew⟩ : ∃ W, (w.alloc (.cells #[.int .i64 0, .int .i64 0, .int .i64 0, .int .i64 0, .int .i64 0, .int .i64 0, .int .i64 0, .int .i64 0, .string { data := #[] }] 23)).alloc (.cells #[.slice A n0 cap, .int .i64 0, .int .i64 0] 101) = W := ⟨_, rfl⟩
  obtain ⟨rb, erb⟩ : ∃ rb, w.heap.size = rb := ⟨_, rfl⟩
  obtain ⟨c, ec⟩ : ∃ c, w.heap.size + 1 = c := ⟨_, rfl⟩
  have hA : Hid (∀ b off sp, A = some ⟨b, off, sp⟩ → b < c) := Lib.hid (fun b off sp e => by have := (h.out.at' _ e).1; have h2 : b < w.heap.size := this; omega)
  have bb : Below w.heap.size w w0 := by rw [← ew]; exact ((Below.refl _ w).alloc (Nat.le_refl _) _).alloc (by simp) _
  have P0 : Hid (Rd c A n0 cap L 0 0 w0) := Lib.hid ⟨by rw [← ew, ← ec]; exact heap_alloc2_new w _ _, h.out.hb.below bb, fun b off sp e => by have := hA.out b off sp e; omega, Nat.zero_le _, h.out.ncap, h.out.cmax, h.out.nmax, h.out.none0, fun ad e => (h.out.at' ad e).2⟩
  have H0 : Hid (w0.heap[rb]? = some (.cells #[.int .i64 0, .int .i64 0, .int .i64 0, .int .i64 0, .int .i64 0, .int .i64 0, .int .i64 0, .int .i64 0, .string (str [])] 23 (0, 0))) := Lib.hid (by rw [← ew, ← erb]; exact (heap_alloc_old _ _ (by simp)).trans (heap_alloc_new w _))
  have O0 : Hid (Only (fun b => b = c) w w0) := Lib.hid ((only_below bb).mono (fun _ _ e => e.elim))
  have hsz : w0.heap.size = w.heap.size + 2 := by rw [← ew]; simp
  have hrc : rb < c := by omega
  have hcw : c < w0.heap.size := by omega
  replace ew := Lib.hid ew
  replace ec := Lib.hid ec
  replace erb := Lib.hid erb
  replace bb := Lib.hid bb
  clear h
  go_enter Try.func42, Try.ntmps42
  go_wp2_with fail
  rw [ew.out, ec.out, erb.out]
  refine (RByte_any c A n0 cap L 0 0 w0 P0).mono ?_
  rintro e w1 ⟨rfl, P1, G1⟩
  rw [ez.out]
  rw [ek.out, ey.out] at P1
  have hb1 : rb < w1.heap.size := Nat.lt_of_lt_of_le (Array.getElem?_eq_some_iff.1 H0.out).1 G1.size
  have H1 := Lib.hid ((G1.block rb (Array.getElem?_eq_some_iff.1 H0.out).1 (fun e => by injection e with e; omega)).trans H0.out)
  have O1 := Lib.hid (O0.out.trans ((only_grown G1).mono (fun j _ e => by injection e)))
  have hw1 : w0.heap.size ≤ w1.heap.size := G1.size
  clear G1
  go_upto_region 3 with (fail)
  obtain ⟨w2, ew2⟩ : ∃ W, w1.alloc (.cells #[.int .i64 2, .int .i64 0, .int .i64 0, .int .i64 0, .int .i64 0, .int .i64 0, .int .i64 0, .int .i64 0, .string { data := #[] }] 23) = W := ⟨_, rfl⟩
  obtain ⟨cb, ecb⟩ : ∃ cb, w1.heap.size = cb := ⟨_, rfl⟩
  have R0 : Hid (RS (fun k y w => Rd c A n0 cap L k y w) c rb cb k0 y0 #[.int .i64 2, .int .i64 0, .int .i64 0, .int .i64 0, .int .i64 0, .int .i64 0, .int .i64 0, .int .i64 0, .string (str [])] w w2) := Lib.hid (by
    rw [← ew2]
    refine ⟨(keeps_rd c A n0 cap L hA.out).keep k0 y0 w1 _ (fun _ => False) P1 (alloc_only w1 _) (fun _ e => e.elim), (heap_alloc_old _ _ hb1).trans H1.out, by rw [← ecb]; exact heap_alloc_new w1 _, O1.out.step (alloc_only w1 _) (fun _ _ e => e.elim), by omega, by omega, by omega, by rw [erb.out]; exact Nat.le_refl _, by omega⟩)
  rw [ew2, ecb]
  have hbc : rb < cb := by omega
  have hwr : w.heap.size ≤ rb := by have := erb.out; omega
  have hwc : w.heap.size ≤ c := by omega
  clear ew2 ecb P1 H1 O1 P0 O0 H0 hb1 bb hsz hcw hw1
  obtain ⟨j0, j1, j2, j3, j4, j5, j6, j7, j8⟩ := cmd_at R0.out.cmd
  go_wp2_with fail
  refine (RLong_any c A n0 cap L k0 y0 w2 (Lib.hid R0.out.rd)).mono ?_
  rintro e u1 ⟨rfl, P, G⟩
  rw [ea0.out]
  rw [eb0.out, ec0.out] at P
  have R1 : Hid (RS (fun k y w => Rd c A n0 cap L k y w) c rb cb k1 y1 #[.int .i64 2, .int .i64 0, .int .i64 0, .int .i64 0, .int .i64 0, .int .i64 0, .int .i64 0, .int .i64 0, .string (str [])] w u1) := Lib.hid (R0.out.read P G)
  clear P G j0 j1 j2 j3 j4 j5 j6 j7 j8
  obtain ⟨j0, j1, j2, j3, j4, j5, j6, j7, j8⟩ := cmd_at R1.out.cmd
  have fz : u1.frozen? ⟨cb, 1, none⟩ = false := Lib.frozen_of_heap R1.out.cmd 1
  have R2 : Hid (RS (fun k y w => Rd c A n0 cap L k y w) c rb cb k1 y1 #[.int .i64 2, .int .i64 i, .int .i64 0, .int .i64 0, .int .i64 0, .int .i64 0, .int .i64 0, .int .i64 0, .string (str [])] w (u1.setCell ⟨cb, 1, none⟩ (.int .i64 i))) := Lib.hid (R1.out.store (keeps_rd c A n0 cap L hA.out) 1 _)
  go_upto_region 6 with (fail)
  obtain ⟨u2, ew⟩ : ∃ W, u1.setCell ⟨cb, 1, none⟩ (.int .i64 i) = W := ⟨_, rfl⟩
  rw [ew] at R2 ⊢
  clear ew fz j0 j1 j2 j3 j4 j5 j6 j7 j8 R0 R1
  obtain ⟨j0, j1, j2, j3, j4, j5, j6, j7, j8⟩ := cmd_at R2.out.cmd
  go_upto_region 20 with (fail)
  clear j0 j1 j2 j3 j4 j5 j6 j7 j8
  go_wp2_with fail
  refine (REnd_any c A n0 cap L k1 y1 u2 (Lib.hid R2.out.rd) hy).mono ?_
  rintro e w9 ⟨rfl, qq, rfl⟩
  rw [hE.out]
  have Rq : Hid (RS (fun k y w => Rd c A n0 cap L k y w) c rb cb k1 y1 #[.int .i64 2, .int .i64 i, .int .i64 0, .int .i64 0, .int .i64 0, .int .i64 0, .int .i64 0, .int .i64 0, .string (str [])] w (u2.drewN qq)) := Lib.hid (R2.out.draws (keeps_rd c A n0 cap L hA.out) qq)
  obtain ⟨uq, ewq⟩ : ∃ W, u2.drewN qq = W := ⟨_, rfl⟩
  rw [ewq] at Rq ⊢
  clear ewq R2
  obtain ⟨j0, j1, j2, j3, j4, j5, j6, j7, j8⟩ := cmd_at Rq.out.cmd
  go_wp2_with fail
  refine (RRight_any ⟨2, i, 0, 0, 0, 0, 0, 0, []⟩ uq (fun hk => absurd (show ((2 : Nat) : Int) = 1 from hk) (by decide))).mono ?_
  rintro e w6 ⟨rfl, b6⟩
  rw [hR.out]
  have H6 := Lib.hid ((b6.block rb (Array.getElem?_eq_some_iff.1 Rq.out.res).1).trans Rq.out.res)
  have C6 := Lib.hid ((b6.block cb (Array.getElem?_eq_some_iff.1 Rq.out.cmd).1).trans Rq.out.cmd)
  have BB := Rq.out.only.below (Nat.le_refl _) (fun j hj e => by have e : j = c := e; omega)
  have B6 := Lib.hid (BB.trans (b6.mono BB.size))
  clear j0 j1 j2 j3 j4 j5 j6 j7 j8 b6 Rq BB
  obtain ⟨j0, j1, j2, j3, j4, j5, j6, j7, j8⟩ := cmd_at C6.out
  obtain ⟨fr0, fr1, fr2, fr3, fr4, fr5, fr6, fr7, fr8, m0, m1, m2, m3, m4, m5, m6, m7, m8⟩ := block9 H6.out
  go_wp2_with fail
  rw [set9 _ _ _ _ _ _ _ _ _ H6.out]
  (try simp only [Exit.inBlock, Exit.then])
  refine bodyPost_ret (results_cell_row_tmp rfl _ _ (rb) 23 _ (0, 0) _ rfl (setRow_heap _ _ _ _ _ _ H6.out) rfl rfl rfl) rfl ?_
  exact ⟨rfl, below_setRow B6.out hwr _⟩
set_option maxRecDepth 100000 in
set_option maxHeartbeats 1000000 in
theorem RDec_3_end (A : Option Addr) (n0 cap : Nat) (L : List UInt8) (i q : Int) (k0 y0 k1 y1 k2 y2 : Nat) (w : World) (h : Hid (Src w A n0 cap L)) (ez : Hid (((headN (rdTake L 0 0 1).1 : Nat) : Int) = 3)) (ek : Hid ((rdTake L 0 0 1).2.1 = k0)) (ey : Hid ((rdTake L 0 0 1).2.2 = y0)) (ea0 : Hid ((wrap64 (numL (rdTake L k0 y0 8).1) : Int) = i)) (eb0 : Hid ((rdTake L k0 y0 8).2.1 = k1)) (ec0 : Hid ((rdTake L k0 y0 8).2.2 = y1)) (ea1 : Hid ((wrap64 (numL (rdTake L k1 y1 8).1) : Int) = q)) (eb1 : Hid ((rdTake L k1 y1 8).2.1 = k2)) (ec1 : Hid ((rdTake L k1 y1 8).2.2 = y2)) (hy : y2 ≤ 1000) (E : Nat) (hE : Hid (rdEnd L k2 y2 = E)) (h0 : E ≠ 0) :
    Calls Try.prog 42 #[.slice A n0 cap] w fun e w' => e = .returned (.tuple #[zeroC.val, .int .i64 12]) ∧ Below w.heap.size w w' := by
  have i1 : ((E : Int) != 0) = true := by simp; omega
  clear h0
  obtain ⟨w0, ew⟩ : ∃ W, (w.alloc (.cells #[.int .i64 0, .int .i64 0, .int .i64 0, .int .i64 0, .int .i64 0, .int .i64 0, .int .i64 0, .int .i64 0, .string { data := #[] }] 23)).alloc (.cells #[.slice A n0 cap, .int .i64 0, .int .i64 0] 101) = W := ⟨_, rfl⟩
  obtain ⟨rb, erb⟩ : ∃ rb, w.heap.size = rb := ⟨_, rfl⟩
  obtain ⟨c, ec⟩ : ∃ c, w.heap.size + 1 = c := ⟨_, rfl⟩
  have hA : Hid (∀ b off sp, A = some ⟨b, off, sp⟩ → b < c) := Lib.hid (fun b off sp e => by have := (h.out.at' _ e).1; have h2 : b < w.heap.size := this; omega)
  have bb : Below w.heap.size w w0 := by rw [← ew]; exact ((Below.refl _ w).alloc (Nat.le_refl _) _).alloc (by simp) _
  have P0 : Hid (Rd c A n0 cap L 0 0 w0) := Lib.hid ⟨by rw [← ew, ← ec]; exact heap_alloc2_new w _ _, h.out.hb.below bb, fun b off sp e => by have := hA.out b off sp e; omega, Nat.zero_le _, h.out.ncap, h.out.cmax, h.out.nmax, h.out.none0, fun ad e => (h.out.at' ad e).2⟩
  have H0 : Hid (w0.heap[rb]? = some (.cells #[.int .i64 0, .int .i64 0, .int .i64 0, .int .i64 0, .int .i64 0, .int .i64 0, .int .i64 0, .int .i64 0, .string (str [])] 23 (0, 0))) := Lib.hid (by rw [← ew, ← erb]; exact (heap_alloc_old _ _ (by simp)).trans (heap_alloc_new w _))
  have O0 : Hid (Only (fun b => b = c) w w0) := Lib.hid ((only_below bb).mono (fun _ _ e => e.elim))
  have hsz : w0.heap.size = w.heap.size + 2 := by rw [← ew]; simp
  have hrc : rb < c := by omega
  have hcw : c < w0.heap.size := by omega
  replace ew := Lib.hid ew
  replace ec := Lib.hid ec
  replace erb := Lib.hid erb
  replace bb := Lib.hid bb
  clear h
  go_enter Try.func42, Try.ntmps42
  go_wp2_with fail
  rw [ew.out, ec.out, erb.out]
  refine (RByte_any c A n0 cap L 0 0 w0 P0).mono ?_
  rintro e w1 ⟨rfl, P1, G1⟩
  rw [ez.out]
  rw [ek.out, ey.out] at P1
  have hb1 : rb < w1.heap.size := Nat.lt_of_lt_of_le (Array.getElem?_eq_some_iff.1 H0.out).1 G1.size
  have H1 := Lib.hid ((G1.block rb (Array.getElem?_eq_some_iff.1 H0.out).1 (fun e => by injection e with e; omega)).trans H0.out)
  have O1 := Lib.hid (O0.out.trans ((only_grown G1).mono (fun j _ e => by injection e)))
  have hw1 : w0.heap.size ≤ w1.heap.size := G1.size
  clear G1
  go_upto_region 3 with (fail)
  obtain ⟨w2, ew2⟩ : ∃ W, w1.alloc (.cells #[.int .i64 3, .int .i64 0, .int .i64 0, .int .i64 0, .int .i64 0, .int .i64 0, .int .i64 0, .int .i64 0, .string { data := #[] }] 23) = W := ⟨_, rfl⟩
  obtain ⟨cb, ecb⟩ : ∃ cb, w1.heap.size = cb := ⟨_, rfl⟩
  have R0 : Hid (RS (fun k y w => Rd c A n0 cap L k y w) c rb cb k0 y0 #[.int .i64 3, .int .i64 0, .int .i64 0, .int .i64 0, .int .i64 0, .int .i64 0, .int .i64 0, .int .i64 0, .string (str [])] w w2) := Lib.hid (by
    rw [← ew2]
    refine ⟨(keeps_rd c A n0 cap L hA.out).keep k0 y0 w1 _ (fun _ => False) P1 (alloc_only w1 _) (fun _ e => e.elim), (heap_alloc_old _ _ hb1).trans H1.out, by rw [← ecb]; exact heap_alloc_new w1 _, O1.out.step (alloc_only w1 _) (fun _ _ e => e.elim), by omega, by omega, by omega, by rw [erb.out]; exact Nat.le_refl _, by omega⟩)
  rw [ew2, ecb]
  have hbc : rb < cb := by omega
  have hwr : w.heap.size ≤ rb := by have := erb.out; omega
  have hwc : w.heap.size ≤ c := by omega
  clear ew2 ecb P1 H1 O1 P0 O0 H0 hb1 bb hsz hcw hw1
  obtain ⟨j0, j1, j2, j3, j4, j5, j6, j7, j8⟩ := cmd_at R0.out.cmd
  go_wp2_with fail
  refine (RLong_any c A n0 cap L k0 y0 w2 (Lib.hid R0.out.rd)).mono ?_
  rintro e u1 ⟨rfl, P, G⟩
  rw [ea0.out]
  rw [eb0.out, ec0.out] at P
  have R1 : Hid (RS (fun k y w => Rd c A n0 cap L k y w) c rb cb k1 y1 #[.int .i64 3, .int .i64 0, .int .i64 0, .int .i64 0, .int .i64 0, .int .i64 0, .int .i64 0, .int .i64 0, .string (str [])] w u1) := Lib.hid (R0.out.read P G)
  clear P G j0 j1 j2 j3 j4 j5 j6 j7 j8
  obtain ⟨j0, j1, j2, j3, j4, j5, j6, j7, j8⟩ := cmd_at R1.out.cmd
  have fz : u1.frozen? ⟨cb, 1, none⟩ = false := Lib.frozen_of_heap R1.out.cmd 1
  have R2 : Hid (RS (fun k y w => Rd c A n0 cap L k y w) c rb cb k1 y1 #[.int .i64 3, .int .i64 i, .int .i64 0, .int .i64 0, .int .i64 0, .int .i64 0, .int .i64 0, .int .i64 0, .string (str [])] w (u1.setCell ⟨cb, 1, none⟩ (.int .i64 i))) := Lib.hid (R1.out.store (keeps_rd c A n0 cap L hA.out) 1 _)
  go_upto_region 6 with (fail)
  obtain ⟨u2, ew⟩ : ∃ W, u1.setCell ⟨cb, 1, none⟩ (.int .i64 i) = W := ⟨_, rfl⟩
  rw [ew] at R2 ⊢
  clear ew fz j0 j1 j2 j3 j4 j5 j6 j7 j8 R0 R1
  obtain ⟨j0, j1, j2, j3, j4, j5, j6, j7, j8⟩ := cmd_at R2.out.cmd
  go_upto_region 16 with (fail)
  clear j0 j1 j2 j3 j4 j5 j6 j7 j8
  go_wp2_with fail
  refine (RLong_any c A n0 cap L k1 y1 u2 (Lib.hid R2.out.rd)).mono ?_
  rintro e u3 ⟨rfl, P, G⟩
  rw [ea1.out]
  rw [eb1.out, ec1.out] at P
  have R3 : Hid (RS (fun k y w => Rd c A n0 cap L k y w) c rb cb k2 y2 #[.int .i64 3, .int .i64 i, .int .i64 0, .int .i64 0, .int .i64 0, .int .i64 0, .int .i64 0, .int .i64 0, .string (str [])] w u3) := Lib.hid (R2.out.read P G)
  clear P G
  obtain ⟨j0, j1, j2, j3, j4, j5, j6, j7, j8⟩ := cmd_at R3.out.cmd
  have fz : u3.frozen? ⟨cb, 5, none⟩ = false := Lib.frozen_of_heap R3.out.cmd 5
  have R4 : Hid (RS (fun k y w => Rd c A n0 cap L k y w) c rb cb k2 y2 #[.int .i64 3, .int .i64 i, .int .i64 0, .int .i64 0, .int .i64 0, .int .i64 q, .int .i64 0, .int .i64 0, .string (str [])] w (u3.setCell ⟨cb, 5, none⟩ (.int .i64 q))) := Lib.hid (R3.out.store (keeps_rd c A n0 cap L hA.out) 5 _)
  go_upto_region 20 with (fail)
  obtain ⟨u4, ew⟩ : ∃ W, u3.setCell ⟨cb, 5, none⟩ (.int .i64 q) = W := ⟨_, rfl⟩
  rw [ew] at R4 ⊢
  clear ew fz j0 j1 j2 j3 j4 j5 j6 j7 j8 R2 R3
  go_wp2_with fail
  refine (REnd_any c A n0 cap L k2 y2 u4 (Lib.hid R4.out.rd) hy).mono ?_
  rintro e w9 ⟨rfl, qq, rfl⟩
  rw [hE.out]
  have Rq : Hid (RS (fun k y w => Rd c A n0 cap L k y w) c rb cb k2 y2 #[.int .i64 3, .int .i64 i, .int .i64 0, .int .i64 0, .int .i64 0, .int .i64 q, .int .i64 0, .int .i64 0, .string (str [])] w (u4.drewN qq)) := Lib.hid (R4.out.draws (keeps_rd c A n0 cap L hA.out) qq)
  obtain ⟨uq, ewq⟩ : ∃ W, u4.drewN qq = W := ⟨_, rfl⟩
  rw [ewq] at Rq ⊢
  clear ewq R4
  obtain ⟨fr0, fr1, fr2, fr3, fr4, fr5, fr6, fr7, fr8, m0, m1, m2, m3, m4, m5, m6, m7, m8⟩ := block9 Rq.out.res
  go_wp2_with fail
  rw [set9 _ _ _ _ _ _ _ _ _ Rq.out.res]
  (try simp only [Exit.inBlock, Exit.then])
  refine bodyPost_ret (results_cell_row_tmp rfl _ _ (rb) 23 _ (0, 0) _ rfl (setRow_heap _ _ _ _ _ _ Rq.out.res) rfl rfl rfl) rfl ?_
  exact ⟨rfl, below_setRow (Rq.out.only.below (Nat.le_refl _) (fun j hj e => by have e : j = c := e; omega)) hwr _⟩
set_option maxRecDepth 100000 in
set_option maxHeartbeats 1000000 in
theorem RDec_3_right (A : Option Addr) (n0 cap : Nat) (L : List UInt8) (i q : Int) (k0 y0 k1 y1 k2 y2 : Nat) (w : World) (h : Hid (Src w A n0 cap L)) (ez : Hid (((headN (rdTake L 0 0 1).1 : Nat) : Int) = 3)) (ek : Hid ((rdTake L 0 0 1).2.1 = k0)) (ey : Hid ((rdTake L 0 0 1).2.2 = y0)) (ea0 : Hid ((wrap64 (numL (rdTake L k0 y0 8).1) : Int) = i)) (eb0 : Hid ((rdTake L k0 y0 8).2.1 = k1)) (ec0 : Hid ((rdTake L k0 y0 8).2.2 = y1)) (ea1 : Hid ((wrap64 (numL (rdTake L k1 y1 8).1) : Int) = q)) (eb1 : Hid ((rdTake L k1 y1 8).2.1 = k2)) (ec1 : Hid ((rdTake L k1 y1 8).2.2 = y2)) (hy : y2 ≤ 1000) (hE : Hid (rdEnd L k2 y2 = 0)) (E : Nat) (hR : Hid ((C.mk 3 i 0 0 0 q 0 0 []).right = E)) (h0 : E ≠ 0) :
    Calls Try.prog 42 #[.slice A n0 cap] w fun e w' => e = .returned (.tuple #[zeroC.val, .int .i64 E]) ∧ Below w.heap.size w w' := by
  have i1 : ((E : Int) != 0) = true := by simp; omega
  clear h0
  obtain ⟨w0, ew⟩ : ∃ W, (w.alloc (.cells #[.int .i64 0, .int .i64 0, .int .i64 0, .int .i64 0, .int .i64 0, .int .i64 0, .int .i64 0, .int .i64 0, .string { data := #[] }] 23)).alloc (.cells #[.slice A n0 cap, .int .i64 0, .int .i64 0] 101) = W := ⟨_, rfl⟩
  obtain ⟨rb, erb⟩ : ∃ rb, w.heap.size = rb := ⟨_, rfl⟩
  obtain ⟨c, ec⟩ : ∃ c, w.heap.size + 1 = c := ⟨_, rfl⟩
  have hA : Hid (∀ b off sp, A = some ⟨b, off, sp⟩ → b < c) := Lib.hid (fun b off sp e => by have := (h.out.at' _ e).1; have h2 : b < w.heap.size := this; omega)
  have bb : Below w.heap.size w w0 := by rw [← ew]; exact ((Below.refl _ w).alloc (Nat.le_refl _) _).alloc (by simp) _
  have P0 : Hid (Rd c A n0 cap L 0 0 w0) := Lib.hid ⟨by rw [← ew, ← ec]; exact heap_alloc2_new w _ _, h.out.hb.below bb, fun b off sp e => by have := hA.out b off sp e; omega, Nat.zero_le _, h.out.ncap, h.out.cmax, h.out.nmax, h.out.none0, fun ad e => (h.out.at' ad e).2⟩
  have H0 : Hid (w0.heap[rb]? = some (.cells #[.int .i64 0, .int .i64 0, .int .i64 0, .int .i64 0, .int .i64 0, .int .i64 0, .int .i64 0, .int .i64 0, .string (str [])] 23 (0, 0))) := Lib.hid (by rw [← ew, ← erb]; exact (heap_alloc_old _ _ (by simp)).trans (heap_alloc_new w _))
  have O0 : Hid (Only (fun b => b = c) w w0) := Lib.hid ((only_below bb).mono (fun _ _ e => e.elim))
  have hsz : w0.heap.size = w.heap.size + 2 := by rw [← ew]; simp
  have hrc : rb < c := by omega
  have hcw : c < w0.heap.size := by omega
  replace ew := Lib.hid ew
  replace ec := Lib.hid ec
  replace erb := Lib.hid erb
  replace bb := Lib.hid bb
  clear h
  go_enter Try.func42, Try.ntmps42
  go_wp2_with fail
  rw [ew.out, ec.out, erb.out]
  refine (RByte_any c A n0 cap L 0 0 w0 P0).mono ?_
  rintro e w1 ⟨rfl, P1, G1⟩
  rw [ez.out]
  rw [ek.out, ey.out] at P1
  have hb1 : rb < w1.heap.size := Nat.lt_of_lt_of_le (Array.getElem?_eq_some_iff.1 H0.out).1 G1.size
  have H1 := Lib.hid ((G1.block rb (Array.getElem?_eq_some_iff.1 H0.out).1 (fun e => by injection e with e; omega)).trans H0.out)
  have O1 := Lib.hid (O0.out.trans ((only_grown G1).mono (fun j _ e => by injection e)))
  have hw1 : w0.heap.size ≤ w1.heap.size := G1.size
  clear G1
  go_upto_region 3 with (fail)
  obtain ⟨w2, ew2⟩ : ∃ W, w1.alloc (.cells #[.int .i64 3, .int .i64 0, .int .i64 0, .int .i64 0, .int .i64 0, .int .i64 0, .int .i64 0, .int .i64 0, .string { data := #[] }] 23) = W := ⟨_, rfl⟩
  obtain ⟨cb, ecb⟩ : ∃ cb, w1.heap.size = cb := ⟨_, rfl⟩
  have R0 : Hid (RS (fun k y w => Rd c A n0 cap L k y w) c rb cb k0 y0 #[.int .i64 3, .int .i64 0, .int .i64 0, .int .i64 0, .int .i64 0, .int .i64 0, .int .i64 0, .int .i64 0, .string (str [])] w w2) := Lib.hid (by
    rw [← ew2]
    refine ⟨(keeps_rd c A n0 cap L hA.out).keep k0 y0 w1 _ (fun _ => False) P1 (alloc_only w1 _) (fun _ e => e.elim), (heap_alloc_old _ _ hb1).trans H1.out, by rw [← ecb]; exact heap_alloc_new w1 _, O1.out.step (alloc_only w1 _) (fun _ _ e => e.elim), by omega, by omega, by omega, by rw [erb.out]; exact Nat.le_refl _, by omega⟩)
  rw [ew2, ecb]
  have hbc : rb < cb := by omega
  have hwr : w.heap.size ≤ rb := by have := erb.out; omega
  have hwc : w.heap.size ≤ c := by omega
  clear ew2 ecb P1 H1 O1 P0 O0 H0 hb1 bb hsz hcw hw1
  obtain ⟨j0, j1, j2, j3, j4, j5, j6, j7, j8⟩ := cmd_at R0.out.cmd
  go_wp2_with fail
  refine (RLong_any c A n0 cap L k0 y0 w2 (Lib.hid R0.out.rd)).mono ?_
  rintro e u1 ⟨rfl, P, G⟩
  rw [ea0.out]
  rw [eb0.out, ec0.out] at P
  have R1 : Hid (RS (fun k y w => Rd c A n0 cap L k y w) c rb cb k1 y1 #[.int .i64 3, .int .i64 0, .int .i64 0, .int .i64 0, .int .i64 0, .int .i64 0, .int .i64 0, .int .i64 0, .string (str [])] w u1) := Lib.hid (R0.out.read P G)
  clear P G j0 j1 j2 j3 j4 j5 j6 j7 j8
  obtain ⟨j0, j1, j2, j3, j4, j5, j6, j7, j8⟩ := cmd_at R1.out.cmd
  have fz : u1.frozen? ⟨cb, 1, none⟩ = false := Lib.frozen_of_heap R1.out.cmd 1
  have R2 : Hid (RS (fun k y w => Rd c A n0 cap L k y w) c rb cb k1 y1 #[.int .i64 3, .int .i64 i, .int .i64 0, .int .i64 0, .int .i64 0, .int .i64 0, .int .i64 0, .int .i64 0, .string (str [])] w (u1.setCell ⟨cb, 1, none⟩ (.int .i64 i))) := Lib.hid (R1.out.store (keeps_rd c A n0 cap L hA.out) 1 _)
  go_upto_region 6 with (fail)
  obtain ⟨u2, ew⟩ : ∃ W, u1.setCell ⟨cb, 1, none⟩ (.int .i64 i) = W := ⟨_, rfl⟩
  rw [ew] at R2 ⊢
  clear ew fz j0 j1 j2 j3 j4 j5 j6 j7 j8 R0 R1
  obtain ⟨j0, j1, j2, j3, j4, j5, j6, j7, j8⟩ := cmd_at R2.out.cmd
  go_upto_region 16 with (fail)
  clear j0 j1 j2 j3 j4 j5 j6 j7 j8
  go_wp2_with fail
  refine (RLong_any c A n0 cap L k1 y1 u2 (Lib.hid R2.out.rd)).mono ?_
  rintro e u3 ⟨rfl, P, G⟩
  rw [ea1.out]
  rw [eb1.out, ec1.out] at P
  have R3 : Hid (RS (fun k y w => Rd c A n0 cap L k y w) c rb cb k2 y2 #[.int .i64 3, .int .i64 i, .int .i64 0, .int .i64 0, .int .i64 0, .int .i64 0, .int .i64 0, .int .i64 0, .string (str [])] w u3) := Lib.hid (R2.out.read P G)
  clear P G
  obtain ⟨j0, j1, j2, j3, j4, j5, j6, j7, j8⟩ := cmd_at R3.out.cmd
  have fz : u3.frozen? ⟨cb, 5, none⟩ = false := Lib.frozen_of_heap R3.out.cmd 5
  have R4 : Hid (RS (fun k y w => Rd c A n0 cap L k y w) c rb cb k2 y2 #[.int .i64 3, .int .i64 i, .int .i64 0, .int .i64 0, .int .i64 0, .int .i64 q, .int .i64 0, .int .i64 0, .string (str [])] w (u3.setCell ⟨cb, 5, none⟩ (.int .i64 q))) := Lib.hid (R3.out.store (keeps_rd c A n0 cap L hA.out) 5 _)
  go_upto_region 20 with (fail)
  obtain ⟨u4, ew⟩ : ∃ W, u3.setCell ⟨cb, 5, none⟩ (.int .i64 q) = W := ⟨_, rfl⟩
  rw [ew] at R4 ⊢
  clear ew fz j0 j1 j2 j3 j4 j5 j6 j7 j8 R2 R3
  go_wp2_with fail
  refine (REnd_any c A n0 cap L k2 y2 u4 (Lib.hid R4.out.rd) hy).mono ?_
  rintro e w9 ⟨rfl, qq, rfl⟩
  rw [hE.out]
  have Rq : Hid (RS (fun k y w => Rd c A n0 cap L k y w) c rb cb k2 y2 #[.int .i64 3, .int .i64 i, .int .i64 0, .int .i64 0, .int .i64 0, .int .i64 q, .int .i64 0, .int .i64 0, .string (str [])] w (u4.drewN qq)) := Lib.hid (R4.out.draws (keeps_rd c A n0 cap L hA.out) qq)
  obtain ⟨uq, ewq⟩ : ∃ W, u4.drewN qq = W := ⟨_, rfl⟩
  rw [ewq] at Rq ⊢
  clear ewq R4
  obtain ⟨j0, j1, j2, j3, j4, j5, j6, j7, j8⟩ := cmd_at Rq.out.cmd
  go_wp2_with fail
  refine (RRight_any ⟨3, i, 0, 0, 0, q, 0, 0, []⟩ uq (fun hk => absurd (show ((3 : Nat) : Int) = 1 from hk) (by decide))).mono ?_
  rintro e w6 ⟨rfl, b6⟩
  rw [hR.out]
  have H6 := Lib.hid ((b6.block rb (Array.getElem?_eq_some_iff.1 Rq.out.res).1).trans Rq.out.res)
  have C6 := Lib.hid ((b6.block cb (Array.getElem?_eq_some_iff.1 Rq.out.cmd).1).trans Rq.out.cmd)
  have BB := Rq.out.only.below (Nat.le_refl _) (fun j hj e => by have e : j = c := e; omega)
  have B6 := Lib.hid (BB.trans (b6.mono BB.size))
  clear j0 j1 j2 j3 j4 j5 j6 j7 j8 b6 Rq BB
  obtain ⟨fr0, fr1, fr2, fr3, fr4, fr5, fr6, fr7, fr8, m0, m1, m2, m3, m4, m5, m6, m7, m8⟩ := block9 H6.out
  go_wp2_with fail
  rw [set9 _ _ _ _ _ _ _ _ _ H6.out]
  (try simp only [Exit.inBlock, Exit.then])
  refine bodyPost_ret (results_cell_row_tmp rfl _ _ (rb) 23 _ (0, 0) _ rfl (setRow_heap _ _ _ _ _ _ H6.out) rfl rfl rfl) rfl ?_
  exact ⟨rfl, below_setRow B6.out hwr _⟩
set_option maxRecDepth 100000 in
set_option maxHeartbeats 1000000 in
theorem RDec_3_ok (A : Option Addr) (n0 cap : Nat) (L : List UInt8) (i q : Int) (k0 y0 k1 y1 k2 y2 : Nat) (w : World) (h : Hid (Src w A n0 cap L)) (ez : Hid (((headN (rdTake L 0 0 1).1 : Nat) : Int) = 3)) (ek : Hid ((rdTake L 0 0 1).2.1 = k0)) (ey : Hid ((rdTake L 0 0 1).2.2 = y0)) (ea0 : Hid ((wrap64 (numL (rdTake L k0 y0 8).1) : Int) = i)) (eb0 : Hid ((rdTake L k0 y0 8).2.1 = k1)) (ec0 : Hid ((rdTake L k0 y0 8).2.2 = y1)) (ea1 : Hid ((wrap64 (numL (rdTake L k1 y1 8).1) : Int) = q)) (eb1 : Hid ((rdTake L k1 y1 8).2.1 = k2)) (ec1 : Hid ((rdTake L k1 y1 8).2.2 = y2)) (hy : y2 ≤ 1000) (hE : Hid (rdEnd L k2 y2 = 0)) (hR : Hid ((C.mk 3 i 0 0 0 q 0 0 []).right = 0)) :
    Calls Try.prog 42 #[.slice A n0 cap] w fun e w' => e = .returned (.tuple #[.agg #[.int .i64 3, .int .i64 i, .int .i64 0, .int .i64 0, .int .i64 0, .int .i64 q, .int .i64 0, .int .i64 0, .string (str [])], .int .i64 0]) ∧ Below w.heap.size w w' := by
  obtain ⟨w0, ew⟩ : ∃ W, (w.alloc (.cells #[.int .i64 0, .int .i64 0, .int .i64 0, .int .i64 0, .int .i64 0, .int .i64 0, .int .i64 0, .int .i64 0, .string { data := #[] }] 23)).alloc (.cells #[.slice A n0 cap, .int .i64 0, .int .i64 0] 101) = W := ⟨_, rfl⟩
  obtain ⟨rb, erb⟩ : ∃ rb, w.heap.size = rb := ⟨_, rfl⟩
  obtain ⟨c, ec⟩ : ∃ c, w.heap.size + 1 = c := ⟨_, rfl⟩
  have hA : Hid (∀ b off sp, A = some ⟨b, off, sp⟩ → b < c) := Lib.hid (fun b off sp e => by have := (h.out.at' _ e).1; have h2 : b < w.heap.size := this; omega)
  have bb : Below w.heap.size w w0 := by rw [← ew]; exact ((Below.refl _ w).alloc (Nat.le_refl _) _).alloc (by simp) _
  have P0 : Hid (Rd c A n0 cap L 0 0 w0) := Lib.hid ⟨by rw [← ew, ← ec]; exact heap_alloc2_new w _ _, h.out.hb.below bb, fun b off sp e => by have := hA.out b off sp e; omega, Nat.zero_le _, h.out.ncap, h.out.cmax, h.out.nmax, h.out.none0, fun ad e => (h.out.at' ad e).2⟩
  have H0 : Hid (w0.heap[rb]? = some (.cells #[.int .i64 0, .int .i64 0, .int .i64 0, .int .i64 0, .int .i64 0, .int .i64 0, .int .i64 0, .int .i64 0, .string (str [])] 23 (0, 0))) := Lib.hid (by rw [← ew, ← erb]; exact (heap_alloc_old _ _ (by simp)).trans (heap_alloc_new w _))
  have O0 : Hid (Only (fun b => b = c) w w0) := Lib.hid ((only_below bb).mono (fun _ _ e => e.elim))
  have hsz : w0.heap.size = w.heap.size + 2 := by rw [← ew]; simp
  have hrc : rb < c := by omega
  have hcw : c < w0.heap.size := by omega
  replace ew := Lib.hid ew
  replace ec := Lib.hid ec
  replace erb := Lib.hid erb
  replace bb := Lib.hid bb
  clear h
  go_enter Try.func42, Try.ntmps42
  go_wp2_with fail
  rw [ew.out, ec.out, erb.out]
  refine (RByte_any c A n0 cap L 0 0 w0 P0).mono ?_
  rintro e w1 ⟨rfl, P1, G1⟩
  rw [ez.out]
  rw [ek.out, ey.out] at P1
  have hb1 : rb < w1.heap.size := Nat.lt_of_lt_of_le (Array.getElem?_eq_some_iff.1 H0.out).1 G1.size
  have H1 := Lib.hid ((G1.block rb (Array.getElem?_eq_some_iff.1 H0.out).1 (fun e => by injection e with e; omega)).trans H0.out)
  have O1 := Lib.hid (O0.out.trans ((only_grown G1).mono (fun j _ e => by injection e)))
  have hw1 : w0.heap.size ≤ w1.heap.size := G1.size
  clear G1
  go_upto_region 3 with (fail)
  obtain ⟨w2, ew2⟩ : ∃ W, w1.alloc (.cells #[.int .i64 3, .int .i64 0, .int .i64 0, .int .i64 0, .int .i64 0, .int .i64 0, .int .i64 0, .int .i64 0, .string { data := #[] }] 23) = W := ⟨_, rfl⟩
  obtain ⟨cb, ecb⟩ : ∃ cb, w1.heap.size = cb := ⟨_, rfl⟩
  have R0 : Hid (RS (fun k y w => Rd c A n0 cap L k y w) c rb cb k0 y0 #[.int .i64 3, .int .i64 0, .int .i64 0, .int .i64 0, .int .i64 0, .int .i64 0, .int .i64 0, .int .i64 0, .string (str [])] w w2) := Lib.hid (by
    rw [← ew2]
    refine ⟨(keeps_rd c A n0 cap L hA.out).keep k0 y0 w1 _ (fun _ => False) P1 (alloc_only w1 _) (fun _ e => e.elim), (heap_alloc_old _ _ hb1).trans H1.out, by rw [← ecb]; exact heap_alloc_new w1 _, O1.out.step (alloc_only w1 _) (fun _ _ e => e.elim), by omega, by omega, by omega, by rw [erb.out]; exact Nat.le_refl _, by omega⟩)
  rw [ew2, ecb]
  have hbc : rb < cb := by omega
  have hwr : w.heap.size ≤ rb := by have := erb.out; omega
  have hwc : w.heap.size ≤ c := by omega
  clear ew2 ecb P1 H1 O1 P0 O0 H0 hb1 bb hsz hcw hw1
  obtain ⟨j0, j1, j2, j3, j4, j5, j6, j7, j8⟩ := cmd_at R0.out.cmd
  go_wp2_with fail
  refine (RLong_any c A n0 cap L k0 y0 w2 (Lib.hid R0.out.rd)).mono ?_
  rintro e u1 ⟨rfl, P, G⟩
  rw [ea0.out]
  rw [eb0.out, ec0.out] at P
  have R1 : Hid (RS (fun k y w => Rd c A n0 cap L k y w) c rb cb k1 y1 #[.int .i64 3, .int .i64 0, .int .i64 0, .int .i64 0, .int .i64 0, .int .i64 0, .int .i64 0, .int .i64 0, .string (str [])] w u1) := Lib.hid (R0.out.read P G)
  clear P G j0 j1 j2 j3 j4 j5 j6 j7 j8
  obtain ⟨j0, j1, j2, j3, j4, j5, j6, j7, j8⟩ := cmd_at R1.out.cmd
  have fz : u1.frozen? ⟨cb, 1, none⟩ = false := Lib.frozen_of_heap R1.out.cmd 1
  have R2 : Hid (RS (fun k y w => Rd c A n0 cap L k y w) c rb cb k1 y1 #[.int .i64 3, .int .i64 i, .int .i64 0, .int .i64 0, .int .i64 0, .int .i64 0, .int .i64 0, .int .i64 0, .string (str [])] w (u1.setCell ⟨cb, 1, none⟩ (.int .i64 i))) := Lib.hid (R1.out.store (keeps_rd c A n0 cap L hA.out) 1 _)
  go_upto_region 6 with (fail)
  obtain ⟨u2, ew⟩ : ∃ W, u1.setCell ⟨cb, 1, none⟩ (.int .i64 i) = W := ⟨_, rfl⟩
  rw [ew] at R2 ⊢
  clear ew fz j0 j1 j2 j3 j4 j5 j6 j7 j8 R0 R1
  obtain ⟨j0, j1, j2, j3, j4, j5, j6, j7, j8⟩ := cmd_at R2.out.cmd
  go_upto_region 16 with (fail)
  clear j0 j1 j2 j3 j4 j5 j6 j7 j8
  go_wp2_with fail
  refine (RLong_any c A n0 cap L k1 y1 u2 (Lib.hid R2.out.rd)).mono ?_
  rintro e u3 ⟨rfl, P, G⟩
  rw [ea1.out]
  rw [eb1.out, ec1.out] at P
  have R3 : Hid (RS (fun k y w => Rd c A n0 cap L k y w) c rb cb k2 y2 #[.int .i64 3, .int .i64 i, .int .i64 0, .int .i64 0, .int .i64 0, .int .i64 0, .int .i64 0, .int .i64 0, .string (str [])] w u3) := Lib.hid (R2.out.read P G)
  clear P G
  obtain ⟨j0, j1, j2, j3, j4, j5, j6, j7, j8⟩ := cmd_at R3.out.cmd
  have fz : u3.frozen? ⟨cb, 5, none⟩ = false := Lib.frozen_of_heap R3.out.cmd 5
  have R4 : Hid (RS (fun k y w => Rd c A n0 cap L k y w) c rb cb k2 y2 #[.int .i64 3, .int .i64 i, .int .i64 0, .int .i64 0, .int .i64 0, .int .i64 q, .int .i64 0, .int .i64 0, .string (str [])] w (u3.setCell ⟨cb, 5, none⟩ (.int .i64 q))) := Lib.hid (R3.out.store (keeps_rd c A n0 cap L hA.out) 5 _)
  go_upto_region 20 with (fail)
  obtain ⟨u4, ew⟩ : ∃ W, u3.setCell ⟨cb, 5, none⟩ (.int .i64 q) = W := ⟨_, rfl⟩
  rw [ew] at R4 ⊢
  clear ew fz j0 j1 j2 j3 j4 j5 j6 j7 j8 R2 R3
  go_wp2_with fail
  refine (REnd_any c A n0 cap L k2 y2 u4 (Lib.hid R4.out.rd) hy).mono ?_
  rintro e w9 ⟨rfl, qq, rfl⟩
  rw [hE.out]
  have Rq : Hid (RS (fun k y w => Rd c A n0 cap L k y w) c rb cb k2 y2 #[.int .i64 3, .int .i64 i, .int .i64 0, .int .i64 0, .int .i64 0, .int .i64 q, .int .i64 0, .int .i64 0, .string (str [])] w (u4.drewN qq)) := Lib.hid (R4.out.draws (keeps_rd c A n0 cap L hA.out) qq)
  obtain ⟨uq, ewq⟩ : ∃ W, u4.drewN qq = W := ⟨_, rfl⟩
  rw [ewq] at Rq ⊢
  clear ewq R4
  obtain ⟨j0, j1, j2, j3, j4, j5, j6, j7, j8⟩ := cmd_at Rq.out.cmd
  go_wp2_with fail
  refine (RRight_any ⟨3, i, 0, 0, 0, q, 0, 0, []⟩ uq (fun hk => absurd (show ((3 : Nat) : Int) = 1 from hk) (by decide))).mono ?_
  rintro e w6 ⟨rfl, b6⟩
  rw [hR.out]
  have H6 := Lib.hid ((b6.block rb (Array.getElem?_eq_some_iff.1 Rq.out.res).1).trans Rq.out.res)
  have C6 := Lib.hid ((b6.block cb (Array.getElem?_eq_some_iff.1 Rq.out.cmd).1).trans Rq.out.cmd)
  have BB := Rq.out.only.below (Nat.le_refl _) (fun j hj e => by have e : j = c := e; omega)
  have B6 := Lib.hid (BB.trans (b6.mono BB.size))
  clear j0 j1 j2 j3 j4 j5 j6 j7 j8 b6 Rq BB
  obtain ⟨j0, j1, j2, j3, j4, j5, j6, j7, j8⟩ := cmd_at C6.out
  obtain ⟨fr0, fr1, fr2, fr3, fr4, fr5, fr6, fr7, fr8, m0, m1, m2, m3, m4, m5, m6, m7, m8⟩ := block9 H6.out
  go_wp2_with fail
  rw [set9 _ _ _ _ _ _ _ _ _ H6.out]
  (try simp only [Exit.inBlock, Exit.then])
  refine bodyPost_ret (results_cell_row_tmp rfl _ _ (rb) 23 _ (0, 0) _ rfl (setRow_heap _ _ _ _ _ _ H6.out) rfl rfl rfl) rfl ?_
  exact ⟨rfl, below_setRow B6.out hwr _⟩
set_option maxRecDepth 100000 in
set_option maxHeartbeats 1000000 in
theorem RDec_4_end (A : Option Addr) (n0 cap : Nat) (L : List UInt8) (i p q : Int) (k0 y0 k1 y1 k2 y2 k3 y3 : Nat) (w : World) (h : Hid (Src w A n0 cap L)) (ez : Hid (((headN (rdTake L 0 0 1).1 : Nat) : Int) = 4)) (ek : Hid ((rdTake L 0 0 1).2.1 = k0)) (ey : Hid ((rdTake L 0 0 1).2.2 = y0)) (ea0 : Hid ((wrap64 (numL (rdTake L k0 y0 8).1) : Int) = i)) (eb0 : Hid ((rdTake L k0 y0 8).2.1 = k1)) (ec0 : Hid ((rdTake L k0 y0 8).2.2 = y1)) (ea1 : Hid ((wrap64 (numL (rdTake L k1 y1 8).1) : Int) = p)) (eb1 : Hid ((rdTake L k1 y1 8).2.1 = k2)) (ec1 : Hid ((rdTake L k1 y1 8).2.2 = y2)) (ea2 : Hid ((wrap64 (numL (rdTake L k2 y2 8).1) : Int) = q)) (eb2 : Hid ((rdTake L k2 y2 8).2.1 = k3)) (ec2 : Hid ((rdTake L k2 y2 8).2.2 = y3)) (hy : y3 ≤ 1000) (E : Nat) (hE : Hid (rdEnd L k3 y3 = E)) (h0 : E ≠ 0) :
    Calls Try.prog 42 #[.slice A n0 cap] w fun e w' => e = .returned (.tuple #[zeroC.val, .int .i64 12]) ∧ Below w.heap.size w w' := by
  have i1 : ((E : Int) != 0) = true := by simp; omega
  clear h0
  obtain ⟨w0, ew⟩ : ∃ W, (w.alloc (.cells #[.int .i64 0, .int .i64 0, .int .i64 0, .int .i64 0, .int .i64 0, .int .i64 0, .int .i64 0, .int .i64 0, .string { data := #[] }] 23)).alloc (.cells #[.slice A n0 cap, .int .i64 0, .int .i64 0] 101) = W := ⟨_, rfl⟩
  obtain ⟨rb, erb⟩ : ∃ rb, w.heap.size = rb := ⟨_, rfl⟩
  obtain ⟨c, ec⟩ : ∃ c, w.heap.size + 1 = c := ⟨_, rfl⟩
  have hA : Hid (∀ b off sp, A = some ⟨b, off, sp⟩ → b < c) := Lib.hid (fun b off sp e => by have := (h.out.at' _ e).1; have h2 : b < w.heap.size := this; omega)
  have bb : Below w.heap.size w w0 := by rw [← ew]; exact ((Below.refl _ w).alloc (Nat.le_refl _) _).alloc (by simp) _
  have P0 : Hid (Rd c A n0 cap L 0 0 w0) := Lib.hid ⟨by rw [← ew, ← ec]; exact heap_alloc2_new w _ _, h.out.hb.below bb, fun b off sp e => by have := hA.out b off sp e; omega, Nat.zero_le _, h.out.ncap, h.out.cmax, h.out.nmax, h.out.none0, fun ad e => (h.out.at' ad e).2⟩
  have H0 : Hid (w0.heap[rb]? = some (.cells #[.int .i64 0, .int .i64 0, .int .i64 0, .int .i64 0, .int .i64 0, .int .i64 0, .int .i64 0, .int .i64 0, .string (str [])] 23 (0, 0))) := Lib.hid (by rw [← ew, ← erb]; exact (heap_alloc_old _ _ (by simp)).trans (heap_alloc_new w _))
  have O0 : Hid (Only (fun b => b = c) w w0) := Lib.hid ((only_below bb).mono (fun _ _ e => e.elim))
  have hsz : w0.heap.size = w.heap.size + 2 := by rw [← ew]; simp
  have hrc : rb < c := by omega
  have hcw : c < w0.heap.size := by omega
  replace ew := Lib.hid ew
  replace ec := Lib.hid ec
  replace erb := Lib.hid erb
  replace bb := Lib.hid bb
  clear h
  go_enter Try.func42, Try.ntmps42
  go_wp2_with fail
  rw [ew.out, ec.out, erb.out]
  refine (RByte_any c A n0 cap L 0 0 w0 P0).mono ?_
  rintro e w1 ⟨rfl, P1, G1⟩
  rw [ez.out]
  rw [ek.out, ey.out] at P1
  have hb1 : rb < w1.heap.size := Nat.lt_of_lt_of_le (Array.getElem?_eq_some_iff.1 H0.out).1 G1.size
  have H1 := Lib.hid ((G1.block rb (Array.getElem?_eq_some_iff.1 H0.out).1 (fun e => by injection e with e; omega)).trans H0.out)
  have O1 := Lib.hid (O0.out.trans ((only_grown G1).mono (fun j _ e => by injection e)))
  have hw1 : w0.heap.size ≤ w1.heap.size := G1.size
  clear G1
  go_upto_region 3 with (fail)
  obtain ⟨w2, ew2⟩ : ∃ W, w1.alloc (.cells #[.int .i64 4, .int .i64 0, .int .i64 0, .int .i64 0, .int .i64 0, .int .i64 0, .int .i64 0, .int .i64 0, .string { data := #[] }] 23) = W := ⟨_, rfl⟩
  obtain ⟨cb, ecb⟩ : ∃ cb, w1.heap.size = cb := ⟨_, rfl⟩
  have R0 : Hid (RS (fun k y w => Rd c A n0 cap L k y w) c rb cb k0 y0 #[.int .i64 4, .int .i64 0, .int .i64 0, .int .i64 0, .int .i64 0, .int .i64 0, .int .i64 0, .int .i64 0, .string (str [])] w w2) := Lib.hid (by
    rw [← ew2]
    refine ⟨(keeps_rd c A n0 cap L hA.out).keep k0 y0 w1 _ (fun _ => False) P1 (alloc_only w1 _) (fun _ e => e.elim), (heap_alloc_old _ _ hb1).trans H1.out, by rw [← ecb]; exact heap_alloc_new w1 _, O1.out.step (alloc_only w1 _) (fun _ _ e => e.elim), by omega, by omega, by omega, by rw [erb.out]; exact Nat.le_refl _, by omega⟩)
  rw [ew2, ecb]
  have hbc : rb < cb := by omega
  have hwr : w.heap.size ≤ rb := by have := erb.out; omega
  have hwc : w.heap.size ≤ c := by omega
  clear ew2 ecb P1 H1 O1 P0 O0 H0 hb1 bb hsz hcw hw1
  obtain ⟨j0, j1, j2, j3, j4, j5, j6, j7, j8⟩ := cmd_at R0.out.cmd
  go_wp2_with fail
  refine (RLong_any c A n0 cap L k0 y0 w2 (Lib.hid R0.out.rd)).mono ?_
  rintro e u1 ⟨rfl, P, G⟩
  rw [ea0.out]
  rw [eb0.out, ec0.out] at P
  have R1 : Hid (RS (fun k y w => Rd c A n0 cap L k y w) c rb cb k1 y1 #[.int .i64 4, .int .i64 0, .int .i64 0, .int .i64 0, .int .i64 0, .int .i64 0, .int .i64 0, .int .i64 0, .string (str [])] w u1) := Lib.hid (R0.out.read P G)
  clear P G j0 j1 j2 j3 j4 j5 j6 j7 j8
  obtain ⟨j0, j1, j2, j3, j4, j5, j6, j7, j8⟩ := cmd_at R1.out.cmd
  have fz : u1.frozen? ⟨cb, 1, none⟩ = false := Lib.frozen_of_heap R1.out.cmd 1
  have R2 : Hid (RS (fun k y w => Rd c A n0 cap L k y w) c rb cb k1 y1 #[.int .i64 4, .int .i64 i, .int .i64 0, .int .i64 0, .int .i64 0, .int .i64 0, .int .i64 0, .int .i64 0, .string (str [])] w (u1.setCell ⟨cb, 1, none⟩ (.int .i64 i))) := Lib.hid (R1.out.store (keeps_rd c A n0 cap L hA.out) 1 _)
  go_upto_region 6 with (fail)
  obtain ⟨u2, ew⟩ : ∃ W, u1.setCell ⟨cb, 1, none⟩ (.int .i64 i) = W := ⟨_, rfl⟩
  rw [ew] at R2 ⊢
  clear ew fz j0 j1 j2 j3 j4 j5 j6 j7 j8 R0 R1
  obtain ⟨j0, j1, j2, j3, j4, j5, j6, j7, j8⟩ := cmd_at R2.out.cmd
  go_upto_region 18 with (fail)
  clear j0 j1 j2 j3 j4 j5 j6 j7 j8
  go_wp2_with fail
  refine (RLong_any c A n0 cap L k1 y1 u2 (Lib.hid R2.out.rd)).mono ?_
  rintro e u3 ⟨rfl, P, G⟩
  rw [ea1.out]
  rw [eb1.out, ec1.out] at P
  have R3 : Hid (RS (fun k y w => Rd c A n0 cap L k y w) c rb cb k2 y2 #[.int .i64 4, .int .i64 i, .int .i64 0, .int .i64 0, .int .i64 0, .int .i64 0, .int .i64 0, .int .i64 0, .string (str [])] w u3) := Lib.hid (R2.out.read P G)
  clear P G
  obtain ⟨j0, j1, j2, j3, j4, j5, j6, j7, j8⟩ := cmd_at R3.out.cmd
  have fz : u3.frozen? ⟨cb, 4, none⟩ = false := Lib.frozen_of_heap R3.out.cmd 4
  have R4 : Hid (RS (fun k y w => Rd c A n0 cap L k y w) c rb cb k2 y2 #[.int .i64 4, .int .i64 i, .int .i64 0, .int .i64 0, .int .i64 p, .int .i64 0, .int .i64 0, .int .i64 0, .string (str [])] w (u3.setCell ⟨cb, 4, none⟩ (.int .i64 p))) := Lib.hid (R3.out.store (keeps_rd c A n0 cap L hA.out) 4 _)
  go_upto_region 19 with (fail)
  obtain ⟨u4, ew⟩ : ∃ W, u3.setCell ⟨cb, 4, none⟩ (.int .i64 p) = W := ⟨_, rfl⟩
  rw [ew] at R4 ⊢
  clear ew fz j0 j1 j2 j3 j4 j5 j6 j7 j8 R2 R3
  go_wp2_with fail
  refine (RLong_any c A n0 cap L k2 y2 u4 (Lib.hid R4.out.rd)).mono ?_
  rintro e u5 ⟨rfl, P, G⟩
  rw [ea2.out]
  rw [eb2.out, ec2.out] at P
  have R5 : Hid (RS (fun k y w => Rd c A n0 cap L k y w) c rb cb k3 y3 #[.int .i64 4, .int .i64 i, .int .i64 0, .int .i64 0, .int .i64 p, .int .i64 0, .int .i64 0, .int .i64 0, .string (str [])] w u5) := Lib.hid (R4.out.read P G)
  clear P G
  obtain ⟨j0, j1, j2, j3, j4, j5, j6, j7, j8⟩ := cmd_at R5.out.cmd
  have fz : u5.frozen? ⟨cb, 5, none⟩ = false := Lib.frozen_of_heap R5.out.cmd 5
  have R6 : Hid (RS (fun k y w => Rd c A n0 cap L k y w) c rb cb k3 y3 #[.int .i64 4, .int .i64 i, .int .i64 0, .int .i64 0, .int .i64 p, .int .i64 q, .int .i64 0, .int .i64 0, .string (str [])] w (u5.setCell ⟨cb, 5, none⟩ (.int .i64 q))) := Lib.hid (R5.out.store (keeps_rd c A n0 cap L hA.out) 5 _)
  go_upto_region 20 with (fail)
  obtain ⟨u6, ew⟩ : ∃ W, u5.setCell ⟨cb, 5, none⟩ (.int .i64 q) = W := ⟨_, rfl⟩
  rw [ew] at R6 ⊢
  clear ew fz j0 j1 j2 j3 j4 j5 j6 j7 j8 R4 R5
  go_wp2_with fail
  refine (REnd_any c A n0 cap L k3 y3 u6 (Lib.hid R6.out.rd) hy).mono ?_
  rintro e w9 ⟨rfl, qq, rfl⟩
  rw [hE.out]
  have Rq : Hid (RS (fun k y w => Rd c A n0 cap L k y w) c rb cb k3 y3 #[.int .i64 4, .int .i64 i, .int .i64 0, .int .i64 0, .int .i64 p, .int .i64 q, .int .i64 0, .int .i64 0, .string (str [])] w (u6.drewN qq)) := Lib.hid (R6.out.draws (keeps_rd c A n0 cap L hA.out) qq)
  obtain ⟨uq, ewq⟩ : ∃ W, u6.drewN qq = W := ⟨_, rfl⟩
  rw [ewq] at Rq ⊢
  clear ewq R6
  obtain ⟨fr0, fr1, fr2, fr3, fr4, fr5, fr6, fr7, fr8, m0, m1, m2, m3, m4, m5, m6, m7, m8⟩ := block9 Rq.out.res
  go_wp2_with fail
  rw [set9 _ _ _ _ _ _ _ _ _ Rq.out.res]
  (try simp only [Exit.inBlock, Exit.then])
  refine bodyPost_ret (results_cell_row_tmp rfl _ _ (rb) 23 _ (0, 0) _ rfl (setRow_heap _ _ _ _ _ _ Rq.out.res) rfl rfl rfl) rfl ?_
  exact ⟨rfl, below_setRow (Rq.out.only.below (Nat.le_refl _) (fun j hj e => by have e : j = c := e; omega)) hwr _⟩
set_option maxRecDepth 100000 in
set_option maxHeartbeats 1000000 in
theorem RDec_4_right (A : Option Addr) (n0 cap : Nat) (L : List UInt8) (i p q : Int) (k0 y0 k1 y1 k2 y2 k3 y3 : Nat) (w : World) (h : Hid (Src w A n0 cap L)) (ez : Hid (((headN (rdTake L 0 0 1).1 : Nat) : Int) = 4)) (ek : Hid ((rdTake L 0 0 1).2.1 = k0)) (ey : Hid ((rdTake L 0 0 1).2.2 = y0)) (ea0 : Hid ((wrap64 (numL (rdTake L k0 y0 8).1) : Int) = i)) (eb0 : Hid ((rdTake L k0 y0 8).2.1 = k1)) (ec0 : Hid ((rdTake L k0 y0 8).2.2 = y1)) (ea1 : Hid ((wrap64 (numL (rdTake L k1 y1 8).1) : Int) = p)) (eb1 : Hid ((rdTake L k1 y1 8).2.1 = k2)) (ec1 : Hid ((rdTake L k1 y1 8).2.2 = y2)) (ea2 : Hid ((wrap64 (numL (rdTake L k2 y2 8).1) : Int) = q)) (eb2 : Hid ((rdTake L k2 y2 8).2.1 = k3)) (ec2 : Hid ((rdTake L k2 y2 8).2.2 = y3)) (hy : y3 ≤ 1000) (hE : Hid (rdEnd L k3 y3 = 0)) (E : Nat) (hR : Hid ((C.mk 4 i 0 0 p q 0 0 []).right = E)) (h0 : E ≠ 0) :
    Calls Try.prog 42 #[.slice A n0 cap] w fun e w' => e = .returned (.tuple #[zeroC.val, .int .i64 E]) ∧ Below w.heap.size w w' := by
  have i1 : ((E : Int) != 0) = true := by simp; omega
  clear h0
  obtain ⟨w0, ew⟩ : ∃ W, (w.alloc (.cells #[.int .i64 0, .int .i64 0, .int .i64 0, .int .i64 0, .int .i64 0, .int .i64 0, .int .i64 0, .int .i64 0, .string { data := #[] }] 23)).alloc (.cells #[.slice A n0 cap, .int .i64 0, .int .i64 0] 101) = W := ⟨_, rfl⟩
  obtain ⟨rb, erb⟩ : ∃ rb, w.heap.size = rb := ⟨_, rfl⟩
  obtain ⟨c, ec⟩ : ∃ c, w.heap.size + 1 = c := ⟨_, rfl⟩
  have hA : Hid (∀ b off sp, A = some ⟨b, off, sp⟩ → b < c) := Lib.hid (fun b off sp e => by have := (h.out.at' _ e).1; have h2 : b < w.heap.size := this; omega)
  have bb : Below w.heap.size w w0 := by rw [← ew]; exact ((Below.refl _ w).alloc (Nat.le_refl _) _).alloc (by simp) _
  have P0 : Hid (Rd c A n0 cap L 0 0 w0) := Lib.hid ⟨by rw [← ew, ← ec]; exact heap_alloc2_new w _ _, h.out.hb.below bb, fun b off sp e => by have := hA.out b off sp e; omega, Nat.zero_le _, h.out.ncap, h.out.cmax, h.out.nmax, h.out.none0, fun ad e => (h.out.at' ad e).2⟩
  have H0 : Hid (w0.heap[rb]? = some (.cells #[.int .i64 0, .int .i64 0, .int .i64 0, .int .i64 0, .int .i64 0, .int .i64 0, .int .i64 0, .int .i64 0, .string (str [])] 23 (0, 0))) := Lib.hid (by rw [← ew, ← erb]; exact (heap_alloc_old _ _ (by simp)).trans (heap_alloc_new w _))
  have O0 : Hid (Only (fun b => b = c) w w0) := Lib.hid ((only_below bb).mono (fun _ _ e => e.elim))
  have hsz : w0.heap.size = w.heap.size + 2 := by rw [← ew]; simp
  have hrc : rb < c := by omega
  have hcw : c < w0.heap.size := by omega
  replace ew := Lib.hid ew
  replace ec := Lib.hid ec
  replace erb := Lib.hid erb
  replace bb := Lib.hid bb
  clear h
  go_enter Try.func42, Try.ntmps42
  go_wp2_with fail
  rw [ew.out, ec.out, erb.out]
  refine (RByte_any c A n0 cap L 0 0 w0 P0).mono ?_
  rintro e w1 ⟨rfl, P1, G1⟩
  rw [ez.out]
  rw [ek.out, ey.out] at P1
  have hb1 : rb < w1.heap.size := Nat.lt_of_lt_of_le (Array.getElem?_eq_some_iff.1 H0.out).1 G1.size
  have H1 := Lib.hid ((G1.block rb (Array.getElem?_eq_some_iff.1 H0.out).1 (fun e => by injection e with e; omega)).trans H0.out)
  have O1 := Lib.hid (O0.out.trans ((only_grown G1).mono (fun j _ e => by injection e)))
  have hw1 : w0.heap.size ≤ w1.heap.size := G1.size
  clear G1
  go_upto_region 3 with (fail)
  obtain ⟨w2, ew2⟩ : ∃ W, w1.alloc (.cells #[.int .i64 4, .int .i64 0, .int .i64 0, .int .i64 0, .int .i64 0, .int .i64 0, .int .i64 0, .int .i64 0, .string { data := #[] }] 23) = W := ⟨_, rfl⟩
  obtain ⟨cb, ecb⟩ : ∃ cb, w1.heap.size = cb := ⟨_, rfl⟩
  have R0 : Hid (RS (fun k y w => Rd c A n0 cap L k y w) c rb cb k0 y0 #[.int .i64 4, .int .i64 0, .int .i64 0, .int .i64 0, .int .i64 0, .int .i64 0, .int .i64 0, .int .i64 0, .string (str [])] w w2) := Lib.hid (by
    rw [← ew2]
    refine ⟨(keeps_rd c A n0 cap L hA.out).keep k0 y0 w1 _ (fun _ => False) P1 (alloc_only w1 _) (fun _ e => e.elim), (heap_alloc_old _ _ hb1).trans H1.out, by rw [← ecb]; exact heap_alloc_new w1 _, O1.out.step (alloc_only w1 _) (fun _ _ e => e.elim), by omega, by omega, by omega, by rw [erb.out]; exact Nat.le_refl _, by omega⟩)
  rw [ew2, ecb]
  have hbc : rb < cb := by omega
  have hwr : w.heap.size ≤ rb := by have := erb.out; omega
  have hwc : w.heap.size ≤ c := by omega
  clear ew2 ecb P1 H1 O1 P0 O0 H0 hb1 bb hsz hcw hw1
  obtain ⟨j0, j1, j2, j3, j4, j5, j6, j7, j8⟩ := cmd_at R0.out.cmd
  go_wp2_with fail
  refine (RLong_any c A n0 cap L k0 y0 w2 (Lib.hid R0.out.rd)).mono ?_
  rintro e u1 ⟨rfl, P, G⟩
  rw [ea0.out]
  rw [eb0.out, ec0.out] at P
  have R1 : Hid (RS (fun k y w => Rd c A n0 cap L k y w) c rb cb k1 y1 #[.int .i64 4, .int .i64 0, .int .i64 0, .int .i64 0, .int .i64 0, .int .i64 0, .int .i64 0, .int .i64 0, .string (str [])] w u1) := Lib.hid (R0.out.read P G)
  clear P G j0 j1 j2 j3 j4 j5 j6 j7 j8
  obtain ⟨j0, j1, j2, j3, j4, j5, j6, j7, j8⟩ := cmd_at R1.out.cmd
  have fz : u1.frozen? ⟨cb, 1, none⟩ = false := Lib.frozen_of_heap R1.out.cmd 1
  have R2 : Hid (RS (fun k y w => Rd c A n0 cap L k y w) c rb cb k1 y1 #[.int .i64 4, .int .i64 i, .int .i64 0, .int .i64 0, .int .i64 0, .int .i64 0, .int .i64 0, .int .i64 0, .string (str [])] w (u1.setCell ⟨cb, 1, none⟩ (.int .i64 i))) := Lib.hid (R1.out.store (keeps_rd c A n0 cap L hA.out) 1 _)
  go_upto_region 6 with (fail)
  obtain ⟨u2, ew⟩ : ∃ W, u1.setCell ⟨cb, 1, none⟩ (.int .i64 i) = W := ⟨_, rfl⟩
  rw [ew] at R2 ⊢
  clear ew fz j0 j1 j2 j3 j4 j5 j6 j7 j8 R0 R1
  obtain ⟨j0, j1, j2, j3, j4, j5, j6, j7, j8⟩ := cmd_at R2.out.cmd
  go_upto_region 18 with (fail)
  clear j0 j1 j2 j3 j4 j5 j6 j7 j8
  go_wp2_with fail
  refine (RLong_any c A n0 cap L k1 y1 u2 (Lib.hid R2.out.rd)).mono ?_
  rintro e u3 ⟨rfl, P, G⟩
  rw [ea1.out]
  rw [eb1.out, ec1.out] at P
  have R3 : Hid (RS (fun k y w => Rd c A n0 cap L k y w) c rb cb k2 y2 #[.int .i64 4, .int .i64 i, .int .i64 0, .int .i64 0, .int .i64 0, .int .i64 0, .int .i64 0, .int .i64 0, .string (str [])] w u3) := Lib.hid (R2.out.read P G)
  clear P G
  obtain ⟨j0, j1, j2, j3, j4, j5, j6, j7, j8⟩ := cmd_at R3.out.cmd
  have fz : u3.frozen? ⟨cb, 4, none⟩ = false := Lib.frozen_of_heap R3.out.cmd 4
  have R4 : Hid (RS (fun k y w => Rd c A n0 cap L k y w) c rb cb k2 y2 #[.int .i64 4, .int .i64 i, .int .i64 0, .int .i64 0, .int .i64 p, .int .i64 0, .int .i64 0, .int .i64 0, .string (str [])] w (u3.setCell ⟨cb, 4, none⟩ (.int .i64 p))) := Lib.hid (R3.out.store (keeps_rd c A n0 cap L hA.out) 4 _)
  go_upto_region 19 with (fail)
  obtain ⟨u4, ew⟩ : ∃ W, u3.setCell ⟨cb, 4, none⟩ (.int .i64 p) = W := ⟨_, rfl⟩
  rw [ew] at R4 ⊢
  clear ew fz j0 j1 j2 j3 j4 j5 j6 j7 j8 R2 R3
  go_wp2_with fail
  refine (RLong_any c A n0 cap L k2 y2 u4 (Lib.hid R4.out.rd)).mono ?_
  rintro e u5 ⟨rfl, P, G⟩
  rw [ea2.out]
  rw [eb2.out, ec2.out] at P
  have R5 : Hid (RS (fun k y w => Rd c A n0 cap L k y w) c rb cb k3 y3 #[.int .i64 4, .int .i64 i, .int .i64 0, .int .i64 0, .int .i64 p, .int .i64 0, .int .i64 0, .int .i64 0, .string (str [])] w u5) := Lib.hid (R4.out.read P G)
  clear P G
  obtain ⟨j0, j1, j2, j3, j4, j5, j6, j7, j8⟩ := cmd_at R5.out.cmd
  have fz : u5.frozen? ⟨cb, 5, none⟩ = false := Lib.frozen_of_heap R5.out.cmd 5
  have R6 : Hid (RS (fun k y w => Rd c A n0 cap L k y w) c rb cb k3 y3 #[.int .i64 4, .int .i64 i, .int .i64 0, .int .i64 0, .int .i64 p, .int .i64 q, .int .i64 0, .int .i64 0, .string (str [])] w (u5.setCell ⟨cb, 5, none⟩ (.int .i64 q))) := Lib.hid (R5.out.store (keeps_rd c A n0 cap L hA.out) 5 _)
  go_upto_region 20 with (fail)
  obtain ⟨u6, ew⟩ : ∃ W, u5.setCell ⟨cb, 5, none⟩ (.int .i64 q) = W := ⟨_, rfl⟩
  rw [ew] at R6 ⊢
  clear ew fz j0 j1 j2 j3 j4 j5 j6 j7 j8 R4 R5
  go_wp2_with fail
  refine (REnd_any c A n0 cap L k3 y3 u6 (Lib.hid R6.out.rd) hy).mono ?_
  rintro e w9 ⟨rfl, qq, rfl⟩
  rw [hE.out]
  have Rq : Hid (RS (fun k y w => Rd c A n0 cap L k y w) c rb cb k3 y3 #[.int .i64 4, .int .i64 i, .int .i64 0, .int .i64 0, .int .i64 p, .int .i64 q, .int .i64 0, .int .i64 0, .string (str [])] w (u6.drewN qq)) := Lib.hid (R6.out.draws (keeps_rd c A n0 cap L hA.out) qq)
  obtain ⟨uq, ewq⟩ : ∃ W, u6.drewN qq = W := ⟨_, rfl⟩
  rw [ewq] at Rq ⊢
  clear ewq R6
  obtain ⟨j0, j1, j2, j3, j4, j5, j6, j7, j8⟩ := cmd_at Rq.out.cmd
  go_wp2_with fail
  refine (RRight_any ⟨4, i, 0, 0, p, q, 0, 0, []⟩ uq (fun hk => absurd (show ((4 : Nat) : Int) = 1 from hk) (by decide))).mono ?_
  rintro e w6 ⟨rfl, b6⟩
  rw [hR.out]
  have H6 := Lib.hid ((b6.block rb (Array.getElem?_eq_some_iff.1 Rq.out.res).1).trans Rq.out.res)
  have C6 := Lib.hid ((b6.block cb (Array.getElem?_eq_some_iff.1 Rq.out.cmd).1).trans Rq.out.cmd)
  have BB := Rq.out.only.below (Nat.le_refl _) (fun j hj e => by have e : j = c := e; omega)
  have B6 := Lib.hid (BB.trans (b6.mono BB.size))
  clear j0 j1 j2 j3 j4 j5 j6 j7 j8 b6 Rq BB
  obtain ⟨fr0, fr1, fr2, fr3, fr4, fr5, fr6, fr7, fr8, m0, m1, m2, m3, m4, m5, m6, m7, m8⟩ := block9 H6.out
  go_wp2_with fail
  rw [set9 _ _ _ _ _ _ _ _ _ H6.out]
  (try simp only [Exit.inBlock, Exit.then])
  refine bodyPost_ret (results_cell_row_tmp rfl _ _ (rb) 23 _ (0, 0) _ rfl (setRow_heap _ _ _ _ _ _ H6.out) rfl rfl rfl) rfl ?_
  exact ⟨rfl, below_setRow B6.out hwr _⟩
set_option maxRecDepth 100000 in
set_option maxHeartbeats 1000000 in
theorem RDec_4_ok (A : Option Addr) (n0 cap : Nat) (L : List UInt8) (i p q : Int) (k0 y0 k1 y1 k2 y2 k3 y3 : Nat) (w : World) (h : Hid (Src w A n0 cap L)) (ez : Hid (((headN (rdTake L 0 0 1).1 : Nat) : Int) = 4)) (ek : Hid ((rdTake L 0 0 1).2.1 = k0)) (ey : Hid ((rdTake L 0 0 1).2.2 = y0)) (ea0 : Hid ((wrap64 (numL (rdTake L k0 y0 8).1) : Int) = i)) (eb0 : Hid ((rdTake L k0 y0 8).2.1 = k1)) (ec0 : Hid ((rdTake L k0 y0 8).2.2 = y1)) (ea1 : Hid ((wrap64 (numL (rdTake L k1 y1 8).1) : Int) = p)) (eb1 : Hid ((rdTake L k1 y1 8).2.1 = k2)) (ec1 : Hid ((rdTake L k1 y1 8).2.2 = y2)) (ea2 : Hid ((wrap64 (numL (rdTake L k2 y2 8).1) : Int) = q)) (eb2 : Hid ((rdTake L k2 y2 8).2.1 = k3)) (ec2 : Hid ((rdTake L k2 y2 8).2.2 = y3)) (hy : y3 ≤ 1000) (hE : Hid (rdEnd L k3 y3 = 0)) (hR : Hid ((C.mk 4 i 0 0 p q 0 0 []).right = 0)) :
    Calls Try.prog 42 #[.slice A n0 cap] w fun e w' => e = .returned (.tuple #[.agg #[.int .i64 4, .int .i64 i, .int .i64 0, .int .i64 0, .int .i64 p, .int .i64 q, .int .i64 0, .int .i64 0, .string (str [])], .int .i64 0]) ∧ Below w.heap.size w w' := by
  obtain ⟨w0, ew⟩ : ∃ W, (w.alloc (.cells #[.int .i64 0, .int .i64 0, .int .i64 0, .int .i64 0, .int .i64 0, .int .i64 0, .int .i64 0, .int .i64 0, .string { data := #[] }] 23)).alloc (.cells #[.slice A n0 cap, .int .i64 0, .int .i64 0] 101) = W := ⟨_, rfl⟩
  obtain ⟨rb, erb⟩ : ∃ rb, w.heap.size = rb := ⟨_, rfl⟩
  obtain ⟨c, ec⟩ : ∃ c, w.heap.size + 1 = c := ⟨_, rfl⟩
  have hA : Hid (∀ b off sp, A = some ⟨b, off, sp⟩ → b < c) := Lib.hid (fun b off sp e => by have := (h.out.at' _ e).1; have h2 : b < w.heap.size := this; omega)
  have bb : Below w.heap.size w w0 := by rw [← ew]; exact ((Below.refl _ w).alloc (Nat.le_refl _) _).alloc (by simp) _
  have P0 : Hid (Rd c A n0 cap L 0 0 w0) := Lib.hid ⟨by rw [← ew, ← ec]; exact heap_alloc2_new w _ _, h.out.hb.below bb, fun b off sp e => by have := hA.out b off sp e; omega, Nat.zero_le _, h.out.ncap, h.out.cmax, h.out.nmax, h.out.none0, fun ad e => (h.out.at' ad e).2⟩
  have H0 : Hid (w0.heap[rb]? = some (.cells #[.int .i64 0, .int .i64 0, .int .i64 0, .int .i64 0, .int .i64 0, .int .i64 0, .int .i64 0, .int .i64 0, .string (str [])] 23 (0, 0))) := Lib.hid (by rw [← ew, ← erb]; exact (heap_alloc_old _ _ (by simp)).trans (heap_alloc_new w _))
  have O0 : Hid (Only (fun b => b = c) w w0) := Lib.hid ((only_below bb).mono (fun _ _ e => e.elim))
  have hsz : w0.heap.size = w.heap.size + 2 := by rw [← ew]; simp
  have hrc : rb < c := by omega
  have hcw : c < w0.heap.size := by omega
  replace ew := Lib.hid ew
  replace ec := Lib.hid ec
  replace erb := Lib.hid erb
  replace bb := Lib.hid bb
  clear h
  go_enter Try.func42, Try.ntmps42
  go_wp2_with fail
  rw [ew.out, ec.out, erb.out]
  refine (RByte_any c A n0 cap L 0 0 w0 P0).mono ?_
  rintro e w1 ⟨rfl, P1, G1⟩
  rw [ez.out]
  rw [ek.out, ey.out] at P1
  have hb1 : rb < w1.heap.size := Nat.lt_of_lt_of_le (Array.getElem?_eq_some_iff.1 H0.out).1 G1.size
  have H1 := Lib.hid ((G1.block rb (Array.getElem?_eq_some_iff.1 H0.out).1 (fun e => by injection e with e; omega)).trans H0.out)
  have O1 := Lib.hid (O0.out.trans ((only_grown G1).mono (fun j _ e => by injection e)))
  have hw1 : w0.heap.size ≤ w1.heap.size := G1.size
  clear G1
  go_upto_region 3 with (fail)
  obtain ⟨w2, ew2⟩ : ∃ W, w1.alloc (.cells #[.int .i64 4, .int .i64 0, .int .i64 0, .int .i64 0, .int .i64 0, .int .i64 0, .int .i64 0, .int .i64 0, .string { data := #[] }] 23) = W := ⟨_, rfl⟩
  obtain ⟨cb, ecb⟩ : ∃ cb, w1.heap.size = cb := ⟨_, rfl⟩
  have R0 : Hid (RS (fun k y w => Rd c A n0 cap L k y w) c rb cb k0 y0 #[.int .i64 4, .int .i64 0, .int .i64 0, .int .i64 0, .int .i64 0, .int .i64 0, .int .i64 0, .int .i64 0, .string (str [])] w w2) := Lib.hid (by
    rw [← ew2]
    refine ⟨(keeps_rd c A n0 cap L hA.out).keep k0 y0 w1 _ (fun _ => False) P1 (alloc_only w1 _) (fun _ e => e.elim), (heap_alloc_old _ _ hb1).trans H1.out, by rw [← ecb]; exact heap_alloc_new w1 _, O1.out.step (alloc_only w1 _) (fun _ _ e => e.elim), by omega, by omega, by omega, by rw [erb.out]; exact Nat.le_refl _, by omega⟩)
  rw [ew2, ecb]
  have hbc : rb < cb := by omega
  have hwr : w.heap.size ≤ rb := by have := erb.out; omega
  have hwc : w.heap.size ≤ c := by omega
  clear ew2 ecb P1 H1 O1 P0 O0 H0 hb1 bb hsz hcw hw1
  obtain ⟨j0, j1, j2, j3, j4, j5, j6, j7, j8⟩ := cmd_at R0.out.cmd
  go_wp2_with fail
  refine (RLong_any c A n0 cap L k0 y0 w2 (Lib.hid R0.out.rd)).mono ?_
  rintro e u1 ⟨rfl, P, G⟩
  rw [ea0.out]
  rw [eb0.out, ec0.out] at P
  have R1 : Hid (RS (fun k y w => Rd c A n0 cap L k y w) c rb cb k1 y1 #[.int .i64 4, .int .i64 0, .int .i64 0, .int .i64 0, .int .i64 0, .int .i64 0, .int .i64 0, .int .i64 0, .string (str [])] w u1) := Lib.hid (R0.out.read P G)
  clear P G j0 j1 j2 j3 j4 j5 j6 j7 j8
  obtain ⟨j0, j1, j2, j3, j4, j5, j6, j7, j8⟩ := cmd_at R1.out.cmd
  have fz : u1.frozen? ⟨cb, 1, none⟩ = false := Lib.frozen_of_heap R1.out.cmd 1
  have R2 : Hid (RS (fun k y w => Rd c A n0 cap L k y w) c rb cb k1 y1 #[.int .i64 4, .int .i64 i, .int .i64 0, .int .i64 0, .int .i64 0, .int .i64 0, .int .i64 0, .int .i64 0, .string (str [])] w (u1.setCell ⟨cb, 1, none⟩ (.int .i64 i))) := Lib.hid (R1.out.store (keeps_rd c A n0 cap L hA.out) 1 _)
  go_upto_region 6 with (fail)
  obtain ⟨u2, ew⟩ : ∃ W, u1.setCell ⟨cb, 1, none⟩ (.int .i64 i) = W := ⟨_, rfl⟩
  rw [ew] at R2 ⊢
  clear ew fz j0 j1 j2 j3 j4 j5 j6 j7 j8 R0 R1
  obtain ⟨j0, j1, j2, j3, j4, j5, j6, j7, j8⟩ := cmd_at R2.out.cmd
  go_upto_region 18 with (fail)
  clear j0 j1 j2 j3 j4 j5 j6 j7 j8
  go_wp2_with fail
  refine (RLong_any c A n0 cap L k1 y1 u2 (Lib.hid R2.out.rd)).mono ?_
  rintro e u3 ⟨rfl, P, G⟩
  rw [ea1.out]
  rw [eb1.out, ec1.out] at P
  have R3 : Hid (RS (fun k y w => Rd c A n0 cap L k y w) c rb cb k2 y2 #[.int .i64 4, .int .i64 i, .int .i64 0, .int .i64 0, .int .i64 0, .int .i64 0, .int .i64 0, .int .i64 0, .string (str [])] w u3) := Lib.hid (R2.out.read P G)
  clear P G
  obtain ⟨j0, j1, j2, j3, j4, j5, j6, j7, j8⟩ := cmd_at R3.out.cmd
  have fz : u3.frozen? ⟨cb, 4, none⟩ = false := Lib.frozen_of_heap R3.out.cmd 4
  have R4 : Hid (RS (fun k y w => Rd c A n0 cap L k y w) c rb cb k2 y2 #[.int .i64 4, .int .i64 i, .int .i64 0, .int .i64 0, .int .i64 p, .int .i64 0, .int .i64 0, .int .i64 0, .string (str [])] w (u3.setCell ⟨cb, 4, none⟩ (.int .i64 p))) := Lib.hid (R3.out.store (keeps_rd c A n0 cap L hA.out) 4 _)
  go_upto_region 19 with (fail)
  obtain ⟨u4, ew⟩ : ∃ W, u3.setCell ⟨cb, 4, none⟩ (.int .i64 p) = W := ⟨_, rfl⟩
  rw [ew] at R4 ⊢
  clear ew fz j0 j1 j2 j3 j4 j5 j6 j7 j8 R2 R3
  go_wp2_with fail
  refine (RLong_any c A n0 cap L k2 y2 u4 (Lib.hid R4.out.rd)).mono ?_
  rintro e u5 ⟨rfl, P, G⟩
  rw [ea2.out]
  rw [eb2.out, ec2.out] at P
  have R5 : Hid (RS (fun k y w => Rd c A n0 cap L k y w) c rb cb k3 y3 #[.int .i64 4, .int .i64 i, .int .i64 0, .int .i64 0, .int .i64 p, .int .i64 0, .int .i64 0, .int .i64 0, .string (str [])] w u5) := Lib.hid (R4.out.read P G)
  clear P G
  obtain ⟨j0, j1, j2, j3, j4, j5, j6, j7, j8⟩ := cmd_at R5.out.cmd
  have fz : u5.frozen? ⟨cb, 5, none⟩ = false := Lib.frozen_of_heap R5.out.cmd 5
  have R6 : Hid (RS (fun k y w => Rd c A n0 cap L k y w) c rb cb k3 y3 #[.int .i64 4, .int .i64 i, .int .i64 0, .int .i64 0, .int .i64 p, .int .i64 q, .int .i64 0, .int .i64 0, .string (str [])] w (u5.setCell ⟨cb, 5, none⟩ (.int .i64 q))) := Lib.hid (R5.out.store (keeps_rd c A n0 cap L hA.out) 5 _)
  go_upto_region 20 with (fail)
  obtain ⟨u6, ew⟩ : ∃ W, u5.setCell ⟨cb, 5, none⟩ (.int .i64 q) = W := ⟨_, rfl⟩
  rw [ew] at R6 ⊢
  clear ew fz j0 j1 j2 j3 j4 j5 j6 j7 j8 R4 R5
  go_wp2_with fail
  refine (REnd_any c A n0 cap L k3 y3 u6 (Lib.hid R6.out.rd) hy).mono ?_
  rintro e w9 ⟨rfl, qq, rfl⟩
  rw [hE.out]
  have Rq : Hid (RS (fun k y w => Rd c A n0 cap L k y w) c rb cb k3 y3 #[.int .i64 4, .int .i64 i, .int .i64 0, .int .i64 0, .int .i64 p, .int .i64 q, .int .i64 0, .int .i64 0, .string (str [])] w (u6.drewN qq)) := Lib.hid (R6.out.draws (keeps_rd c A n0 cap L hA.out) qq)
  obtain ⟨uq, ewq⟩ : ∃ W, u6.drewN qq = W := ⟨_, rfl⟩
  rw [ewq] at Rq ⊢
  clear ewq R6
  obtain ⟨j0, j1, j2, j3, j4, j5, j6, j7, j8⟩ := cmd_at Rq.out.cmd
  go_wp2_with fail
  refine (RRight_any ⟨4, i, 0, 0, p, q, 0, 0, []⟩ uq (fun hk => absurd (show ((4 : Nat) : Int) = 1 from hk) (by decide))).mono ?_
  rintro e w6 ⟨rfl, b6⟩
  rw [hR.out]
  have H6 := Lib.hid ((b6.block rb (Array.getElem?_eq_some_iff.1 Rq.out.res).1).trans Rq.out.res)
  have C6 := Lib.hid ((b6.block cb (Array.getElem?_eq_some_iff.1 Rq.out.cmd).1).trans Rq.out.cmd)
  have BB := Rq.out.only.below (Nat.le_refl _) (fun j hj e => by have e : j = c := e; omega)
  have B6 := Lib.hid (BB.trans (b6.mono BB.size))
  clear j0 j1 j2 j3 j4 j5 j6 j7 j8 b6 Rq BB
  obtain ⟨j0, j1, j2, j3, j4, j5, j6, j7, j8⟩ := cmd_at C6.out
  obtain ⟨fr0, fr1, fr2, fr3, fr4, fr5, fr6, fr7, fr8, m0, m1, m2, m3, m4, m5, m6, m7, m8⟩ := block9 H6.out
  go_wp2_with fail
  rw [set9 _ _ _ _ _ _ _ _ _ H6.out]
  (try simp only [Exit.inBlock, Exit.then])
  refine bodyPost_ret (results_cell_row_tmp rfl _ _ (rb) 23 _ (0, 0) _ rfl (setRow_heap _ _ _ _ _ _ H6.out) rfl rfl rfl) rfl ?_
  exact ⟨rfl, below_setRow B6.out hwr _⟩
set_option maxRecDepth 100000 in
set_option maxHeartbeats 1000000 in
theorem RDec_at1 (A : Option Addr) (n0 cap : Nat) (l : List UInt8) (k y : Nat) (w : World) (h : Hid (Src w A n0 cap l)) (ez : Hid (((headN (rdTake l 0 0 1).1 : Nat) : Int) = 1)) (ek : Hid ((rdTake l 0 0 1).2.1 = k)) (ey : Hid ((rdTake l 0 0 1).2.2 = y)) :
    Calls Try.prog 42 #[.slice A n0 cap] w fun e w' => e = .returned (.tuple #[(decC l).1.val, .int .i64 (decC l).2]) ∧ Below w.heap.size w w' := by
  have e1 : kindZ l = 1 := ez.out
  have e2 : bodyV l = readV l k y 1 := by unfold bodyV kindP; rw [e1, ek.out, ey.out]
  have e3 : bodyP l = readP l k y 1 := by unfold bodyP kindP; rw [e1, ek.out, ey.out]
  rw [readV_1] at e2
  rw [readP_1] at e3
  obtain ⟨i, ei⟩ : ∃ x, (wrap64 (numL (dI l k y).1) : Int) = x := ⟨_, rfl⟩
  obtain ⟨k1, ek1⟩ : ∃ x, (dI l k y).2.1 = x := ⟨_, rfl⟩
  obtain ⟨y1, ey1⟩ : ∃ x, (dI l k y).2.2 = x := ⟨_, rfl⟩
  obtain ⟨n, en⟩ : ∃ x, ((headN (dN l k y).1 : Nat) : Int) = x := ⟨_, rfl⟩
  obtain ⟨k2, ek2⟩ : ∃ x, (dN l k y).2.1 = x := ⟨_, rfl⟩
  obtain ⟨y2, ey2⟩ : ∃ x, (dN l k y).2.2 = x := ⟨_, rfl⟩
  obtain ⟨s, es⟩ : ∃ x, ((headN (dS l k y).1 : Nat) : Int) = x := ⟨_, rfl⟩
  obtain ⟨k3, ek3⟩ : ∃ x, (dS l k y).2.1 = x := ⟨_, rfl⟩
  obtain ⟨y3, ey3⟩ : ∃ x, (dS l k y).2.2 = x := ⟨_, rfl⟩
  obtain ⟨t, et⟩ : ∃ x, ((headN (dT l k y).1 : Nat) : Int) = x := ⟨_, rfl⟩
  obtain ⟨k4, ek4⟩ : ∃ x, (dT l k y).2.1 = x := ⟨_, rfl⟩
  obtain ⟨y4, ey4⟩ : ∃ x, (dT l k y).2.2 = x := ⟨_, rfl⟩
  obtain ⟨p, ep⟩ : ∃ x, (wrap64 (numL (dP l k y).1) : Int) = x := ⟨_, rfl⟩
  obtain ⟨k5, ek5⟩ : ∃ x, (dP l k y).2.1 = x := ⟨_, rfl⟩
  obtain ⟨y5, ey5⟩ : ∃ x, (dP l k y).2.2 = x := ⟨_, rfl⟩
  obtain ⟨q, eq⟩ : ∃ x, (wrap64 (numL (dQ l k y).1) : Int) = x := ⟨_, rfl⟩
  obtain ⟨k6, ek6⟩ : ∃ x, (dQ l k y).2.1 = x := ⟨_, rfl⟩
  obtain ⟨y6, ey6⟩ : ∃ x, (dQ l k y).2.2 = x := ⟨_, rfl⟩
  obtain ⟨lz, elz⟩ : ∃ x, (wrap64 (numL (dL l k y).1) : Int) = x := ⟨_, rfl⟩
  obtain ⟨k7, ek7⟩ : ∃ x, (dL l k y).2.1 = x := ⟨_, rfl⟩
  obtain ⟨y7, ey7⟩ : ∃ x, (dL l k y).2.2 = x := ⟨_, rfl⟩
  obtain ⟨S, eS⟩ : ∃ x, (dX l k y).1 = x := ⟨_, rfl⟩
  obtain ⟨k8, ek8⟩ : ∃ x, (dX l k y).2.1 = x := ⟨_, rfl⟩
  obtain ⟨y8, ey8⟩ : ∃ x, (dX l k y).2.2 = x := ⟨_, rfl⟩
  rw [ei, en, es, et, ep, eq, elz, eS] at e2
  have p1 : (bodyP l).1 = k8 := by rw [e3, ek8]
  have p2 : (bodyP l).2 = y8 := by rw [e3, ey8]
  have hy0 : y ≤ 1000 := by rw [← ey.out]; exact num_le (by omega)
  have hy1 : y1 ≤ 1000 := by rw [← ey1, dI]; exact num_le hy0
  have hy2 : y2 ≤ 1000 := by rw [← ey2, dN, ek1, ey1]; exact num_le hy1
  have hy3 : y3 ≤ 1000 := by rw [← ey3, dS, ek2, ey2]; exact num_le hy2
  have hy4 : y4 ≤ 1000 := by rw [← ey4, dT, ek3, ey3]; exact num_le hy3
  have hy5 : y5 ≤ 1000 := by rw [← ey5, dP, ek4, ey4]; exact num_le hy4
  have hy6 : y6 ≤ 1000 := by rw [← ey6, dQ, ek5, ey5]; exact num_le hy5
  have hy7 : y7 ≤ 1000 := by rw [← ey7, dL, ek6, ey6]; exact num_le hy6
  have hy8 : y8 ≤ 1000 := by rw [← ey8, dX, ek7, ey7]; exact text_le hy7
  have hS : S.length ≤ 255 := by rw [← eS, dX]; exact rdText_len _ _ _
  have hz : ¬ (kindZ l < 1 ∨ 4 < kindZ l) := by rw [e1]; omega
  by_cases hE : rdEnd l k8 y8 = 0
  · have hE2 : rdEnd l (bodyP l).1 (bodyP l).2 = 0 := by rw [p1, p2]; exact hE
    by_cases hR : (C.mk 1 i n s p q lz t S).right = 0
    · have hR2 : (bodyV l).right = 0 := by rw [e2]; exact hR
      rw [show decC l = (bodyV l, 0) from (if_neg hz).trans ((if_neg (fun e => e hE2)).trans (if_neg (fun e => e hR2))), e2]
      exact RDec_1_ok A n0 cap l i n s t p q lz S k y k1 y1 k2 y2 k3 y3 k4 y4 k5 y5 k6 y6 k7 y7 k8 y8 w h ez ek ey (Lib.hid (by rw [← ei, dI])) (Lib.hid (by rw [← ek1, dI])) (Lib.hid (by rw [← ey1, dI])) (Lib.hid (by rw [← en, dN, ek1, ey1])) (Lib.hid (by rw [← ek2, dN, ek1, ey1])) (Lib.hid (by rw [← ey2, dN, ek1, ey1])) (Lib.hid (by rw [← es, dS, ek2, ey2])) (Lib.hid (by rw [← ek3, dS, ek2, ey2])) (Lib.hid (by rw [← ey3, dS, ek2, ey2])) (Lib.hid (by rw [← et, dT, ek3, ey3])) (Lib.hid (by rw [← ek4, dT, ek3, ey3])) (Lib.hid (by rw [← ey4, dT, ek3, ey3])) (Lib.hid (by rw [← ep, dP, ek4, ey4])) (Lib.hid (by rw [← ek5, dP, ek4, ey4])) (Lib.hid (by rw [← ey5, dP, ek4, ey4])) (Lib.hid (by rw [← eq, dQ, ek5, ey5])) (Lib.hid (by rw [← ek6, dQ, ek5, ey5])) (Lib.hid (by rw [← ey6, dQ, ek5, ey5])) (Lib.hid (by rw [← elz, dL, ek6, ey6])) (Lib.hid (by rw [← ek7, dL, ek6, ey6])) (Lib.hid (by rw [← ey7, dL, ek6, ey6])) (Lib.hid (by rw [← eS, dX, ek7, ey7])) (Lib.hid (by rw [← ek8, dX, ek7, ey7])) (Lib.hid (by rw [← ey8, dX, ek7, ey7])) hy8 hS (Lib.hid hE) (Lib.hid hR)
    · have hR2 : (bodyV l).right ≠ 0 := by rw [e2]; exact hR
      rw [show decC l = (zeroC, (bodyV l).right) from (if_neg hz).trans ((if_neg (fun e => e hE2)).trans (if_pos hR2)), e2]
      exact RDec_1_right A n0 cap l i n s t p q lz S k y k1 y1 k2 y2 k3 y3 k4 y4 k5 y5 k6 y6 k7 y7 k8 y8 w h ez ek ey (Lib.hid (by rw [← ei, dI])) (Lib.hid (by rw [← ek1, dI])) (Lib.hid (by rw [← ey1, dI])) (Lib.hid (by rw [← en, dN, ek1, ey1])) (Lib.hid (by rw [← ek2, dN, ek1, ey1])) (Lib.hid (by rw [← ey2, dN, ek1, ey1])) (Lib.hid (by rw [← es, dS, ek2, ey2])) (Lib.hid (by rw [← ek3, dS, ek2, ey2])) (Lib.hid (by rw [← ey3, dS, ek2, ey2])) (Lib.hid (by rw [← et, dT, ek3, ey3])) (Lib.hid (by rw [← ek4, dT, ek3, ey3])) (Lib.hid (by rw [← ey4, dT, ek3, ey3])) (Lib.hid (by rw [← ep, dP, ek4, ey4])) (Lib.hid (by rw [← ek5, dP, ek4, ey4])) (Lib.hid (by rw [← ey5, dP, ek4, ey4])) (Lib.hid (by rw [← eq, dQ, ek5, ey5])) (Lib.hid (by rw [← ek6, dQ, ek5, ey5])) (Lib.hid (by rw [← ey6, dQ, ek5, ey5])) (Lib.hid (by rw [← elz, dL, ek6, ey6])) (Lib.hid (by rw [← ek7, dL, ek6, ey6])) (Lib.hid (by rw [← ey7, dL, ek6, ey6])) (Lib.hid (by rw [← eS, dX, ek7, ey7])) (Lib.hid (by rw [← ek8, dX, ek7, ey7])) (Lib.hid (by rw [← ey8, dX, ek7, ey7])) hy8 hS (Lib.hid hE) _ (Lib.hid rfl) hR
  · have hE2 : rdEnd l (bodyP l).1 (bodyP l).2 ≠ 0 := by rw [p1, p2]; exact hE
    rw [show decC l = (zeroC, 12) from (if_neg hz).trans (if_pos hE2)]
    exact RDec_1_end A n0 cap l i n s t p q lz S k y k1 y1 k2 y2 k3 y3 k4 y4 k5 y5 k6 y6 k7 y7 k8 y8 w h ez ek ey (Lib.hid (by rw [← ei, dI])) (Lib.hid (by rw [← ek1, dI])) (Lib.hid (by rw [← ey1, dI])) (Lib.hid (by rw [← en, dN, ek1, ey1])) (Lib.hid (by rw [← ek2, dN, ek1, ey1])) (Lib.hid (by rw [← ey2, dN, ek1, ey1])) (Lib.hid (by rw [← es, dS, ek2, ey2])) (Lib.hid (by rw [← ek3, dS, ek2, ey2])) (Lib.hid (by rw [← ey3, dS, ek2, ey2])) (Lib.hid (by rw [← et, dT, ek3, ey3])) (Lib.hid (by rw [← ek4, dT, ek3, ey3])) (Lib.hid (by rw [← ey4, dT, ek3, ey3])) (Lib.hid (by rw [← ep, dP, ek4, ey4])) (Lib.hid (by rw [← ek5, dP, ek4, ey4])) (Lib.hid (by rw [← ey5, dP, ek4, ey4])) (Lib.hid (by rw [← eq, dQ, ek5, ey5])) (Lib.hid (by rw [← ek6, dQ, ek5, ey5])) (Lib.hid (by rw [← ey6, dQ, ek5, ey5])) (Lib.hid (by rw [← elz, dL, ek6, ey6])) (Lib.hid (by rw [← ek7, dL, ek6, ey6])) (Lib.hid (by rw [← ey7, dL, ek6, ey6])) (Lib.hid (by rw [← eS, dX, ek7, ey7])) (Lib.hid (by rw [← ek8, dX, ek7, ey7])) (Lib.hid (by rw [← ey8, dX, ek7, ey7])) hy8 hS _ (Lib.hid rfl) hE
set_option maxRecDepth 100000 in
set_option maxHeartbeats 1000000 in
theorem RDec_at2 (A : Option Addr) (n0 cap : Nat) (l : List UInt8) (k y : Nat) (w : World) (h : Hid (Src w A n0 cap l)) (ez : Hid (((headN (rdTake l 0 0 1).1 : Nat) : Int) = 2)) (ek : Hid ((rdTake l 0 0 1).2.1 = k)) (ey : Hid ((rdTake l 0 0 1).2.2 = y)) :
    Calls Try.prog 42 #[.slice A n0 cap] w fun e w' => e = .returned (.tuple #[(decC l).1.val, .int .i64 (decC l).2]) ∧ Below w.heap.size w w' := by
  have e1 : kindZ l = 2 := ez.out
  have e2 : bodyV l = readV l k y 2 := by unfold bodyV kindP; rw [e1, ek.out, ey.out]
  have e3 : bodyP l = readP l k y 2 := by unfold bodyP kindP; rw [e1, ek.out, ey.out]
  rw [readV_2] at e2
  rw [readP_2] at e3
  obtain ⟨i, ei⟩ : ∃ x, (wrap64 (numL (dI l k y).1) : Int) = x := ⟨_, rfl⟩
  obtain ⟨k1, ek1⟩ : ∃ x, (dI l k y).2.1 = x := ⟨_, rfl⟩
  obtain ⟨y1, ey1⟩ : ∃ x, (dI l k y).2.2 = x := ⟨_, rfl⟩
  rw [ei] at e2
  have p1 : (bodyP l).1 = k1 := by rw [e3, ek1]
  have p2 : (bodyP l).2 = y1 := by rw [e3, ey1]
  have hy0 : y ≤ 1000 := by rw [← ey.out]; exact num_le (by omega)
  have hy1 : y1 ≤ 1000 := by rw [← ey1, dI]; exact num_le hy0
  have hz : ¬ (kindZ l < 1 ∨ 4 < kindZ l) := by rw [e1]; omega
  by_cases hE : rdEnd l k1 y1 = 0
  · have hE2 : rdEnd l (bodyP l).1 (bodyP l).2 = 0 := by rw [p1, p2]; exact hE
    by_cases hR : (C.mk 2 i 0 0 0 0 0 0 []).right = 0
    · have hR2 : (bodyV l).right = 0 := by rw [e2]; exact hR
      rw [show decC l = (bodyV l, 0) from (if_neg hz).trans ((if_neg (fun e => e hE2)).trans (if_neg (fun e => e hR2))), e2]
      exact RDec_2_ok A n0 cap l i k y k1 y1 w h ez ek ey (Lib.hid (by rw [← ei, dI])) (Lib.hid (by rw [← ek1, dI])) (Lib.hid (by rw [← ey1, dI])) hy1 (Lib.hid hE) (Lib.hid hR)
    · have hR2 : (bodyV l).right ≠ 0 := by rw [e2]; exact hR
      rw [show decC l = (zeroC, (bodyV l).right) from (if_neg hz).trans ((if_neg (fun e => e hE2)).trans (if_pos hR2)), e2]
      exact RDec_2_right A n0 cap l i k y k1 y1 w h ez ek ey (Lib.hid (by rw [← ei, dI])) (Lib.hid (by rw [← ek1, dI])) (Lib.hid (by rw [← ey1, dI])) hy1 (Lib.hid hE) _ (Lib.hid rfl) hR
  · have hE2 : rdEnd l (bodyP l).1 (bodyP l).2 ≠ 0 := by rw [p1, p2]; exact hE
    rw [show decC l = (zeroC, 12) from (if_neg hz).trans (if_pos hE2)]
    exact RDec_2_end A n0 cap l i k y k1 y1 w h ez ek ey (Lib.hid (by rw [← ei, dI])) (Lib.hid (by rw [← ek1, dI])) (Lib.hid (by rw [← ey1, dI])) hy1 _ (Lib.hid rfl) hE
set_option maxRecDepth 100000 in
set_option maxHeartbeats 1000000 in
theorem RDec_at3 (A : Option Addr) (n0 cap : Nat) (l : List UInt8) (k y : Nat) (w : World) (h : Hid (Src w A n0 cap l)) (ez : Hid (((headN (rdTake l 0 0 1).1 : Nat) : Int) = 3)) (ek : Hid ((rdTake l 0 0 1).2.1 = k)) (ey : Hid ((rdTake l 0 0 1).2.2 = y)) :
    Calls Try.prog 42 #[.slice A n0 cap] w fun e w' => e = .returned (.tuple #[(decC l).1.val, .int .i64 (decC l).2]) ∧ Below w.heap.size w w' := by
  have e1 : kindZ l = 3 := ez.out
  have e2 : bodyV l = readV l k y 3 := by unfold bodyV kindP; rw [e1, ek.out, ey.out]
  have e3 : bodyP l = readP l k y 3 := by unfold bodyP kindP; rw [e1, ek.out, ey.out]
  rw [readV_3] at e2
  rw [readP_3] at e3
  obtain ⟨i, ei⟩ : ∃ x, (wrap64 (numL (dI l k y).1) : Int) = x := ⟨_, rfl⟩
  obtain ⟨k1, ek1⟩ : ∃ x, (dI l k y).2.1 = x := ⟨_, rfl⟩
  obtain ⟨y1, ey1⟩ : ∃ x, (dI l k y).2.2 = x := ⟨_, rfl⟩
  obtain ⟨q, eq⟩ : ∃ x, (wrap64 (numL (eA l k y).1) : Int) = x := ⟨_, rfl⟩
  obtain ⟨k2, ek2⟩ : ∃ x, (eA l k y).2.1 = x := ⟨_, rfl⟩
  obtain ⟨y2, ey2⟩ : ∃ x, (eA l k y).2.2 = x := ⟨_, rfl⟩
  rw [ei, eq] at e2
  have p1 : (bodyP l).1 = k2 := by rw [e3, ek2]
  have p2 : (bodyP l).2 = y2 := by rw [e3, ey2]
  have hy0 : y ≤ 1000 := by rw [← ey.out]; exact num_le (by omega)
  have hy1 : y1 ≤ 1000 := by rw [← ey1, dI]; exact num_le hy0
  have hy2 : y2 ≤ 1000 := by rw [← ey2, eA, ek1, ey1]; exact num_le hy1
  have hz : ¬ (kindZ l < 1 ∨ 4 < kindZ l) := by rw [e1]; omega
  by_cases hE : rdEnd l k2 y2 = 0
  · have hE2 : rdEnd l (bodyP l).1 (bodyP l).2 = 0 := by rw [p1, p2]; exact hE
    by_cases hR : (C.mk 3 i 0 0 0 q 0 0 []).right = 0
    · have hR2 : (bodyV l).right = 0 := by rw [e2]; exact hR
      rw [show decC l = (bodyV l, 0) from (if_neg hz).trans ((if_neg (fun e => e hE2)).trans (if_neg (fun e => e hR2))), e2]
      exact RDec_3_ok A n0 cap l i q k y k1 y1 k2 y2 w h ez ek ey (Lib.hid (by rw [← ei, dI])) (Lib.hid (by rw [← ek1, dI])) (Lib.hid (by rw [← ey1, dI])) (Lib.hid (by rw [← eq, eA, ek1, ey1])) (Lib.hid (by rw [← ek2, eA, ek1, ey1])) (Lib.hid (by rw [← ey2, eA, ek1, ey1])) hy2 (Lib.hid hE) (Lib.hid hR)
    · have hR2 : (bodyV l).right ≠ 0 := by rw [e2]; exact hR
      rw [show decC l = (zeroC, (bodyV l).right) from (if_neg hz).trans ((if_neg (fun e => e hE2)).trans (if_pos hR2)), e2]
      exact RDec_3_right A n0 cap l i q k y k1 y1 k2 y2 w h ez ek ey (Lib.hid (by rw [← ei, dI])) (Lib.hid (by rw [← ek1, dI])) (Lib.hid (by rw [← ey1, dI])) (Lib.hid (by rw [← eq, eA, ek1, ey1])) (Lib.hid (by rw [← ek2, eA, ek1, ey1])) (Lib.hid (by rw [← ey2, eA, ek1, ey1])) hy2 (Lib.hid hE) _ (Lib.hid rfl) hR
  · have hE2 : rdEnd l (bodyP l).1 (bodyP l).2 ≠ 0 := by rw [p1, p2]; exact hE
    rw [show decC l = (zeroC, 12) from (if_neg hz).trans (if_pos hE2)]
    exact RDec_3_end A n0 cap l i q k y k1 y1 k2 y2 w h ez ek ey (Lib.hid (by rw [← ei, dI])) (Lib.hid (by rw [← ek1, dI])) (Lib.hid (by rw [← ey1, dI])) (Lib.hid (by rw [← eq, eA, ek1, ey1])) (Lib.hid (by rw [← ek2, eA, ek1, ey1])) (Lib.hid (by rw [← ey2, eA, ek1, ey1])) hy2 _ (Lib.hid rfl) hE
set_option maxRecDepth 100000 in
set_option maxHeartbeats 1000000 in
theorem RDec_at4 (A : Option Addr) (n0 cap : Nat) (l : List UInt8) (k y : Nat) (w : World) (h : Hid (Src w A n0 cap l)) (ez : Hid (((headN (rdTake l 0 0 1).1 : Nat) : Int) = 4)) (ek : Hid ((rdTake l 0 0 1).2.1 = k)) (ey : Hid ((rdTake l 0 0 1).2.2 = y)) :
    Calls Try.prog 42 #[.slice A n0 cap] w fun e w' => e = .returned (.tuple #[(decC l).1.val, .int .i64 (decC l).2]) ∧ Below w.heap.size w w' := by
  have e1 : kindZ l = 4 := ez.out
  have e2 : bodyV l = readV l k y 4 := by unfold bodyV kindP; rw [e1, ek.out, ey.out]
  have e3 : bodyP l = readP l k y 4 := by unfold bodyP kindP; rw [e1, ek.out, ey.out]
  rw [readV_4] at e2
  rw [readP_4] at e3
  obtain ⟨i, ei⟩ : ∃ x, (wrap64 (numL (dI l k y).1) : Int) = x := ⟨_, rfl⟩
  obtain ⟨k1, ek1⟩ : ∃ x, (dI l k y).2.1 = x := ⟨_, rfl⟩
  obtain ⟨y1, ey1⟩ : ∃ x, (dI l k y).2.2 = x := ⟨_, rfl⟩
  obtain ⟨p, ep⟩ : ∃ x, (wrap64 (numL (eA l k y).1) : Int) = x := ⟨_, rfl⟩
  obtain ⟨k2, ek2⟩ : ∃ x, (eA l k y).2.1 = x := ⟨_, rfl⟩
  obtain ⟨y2, ey2⟩ : ∃ x, (eA l k y).2.2 = x := ⟨_, rfl⟩
  obtain ⟨q, eq⟩ : ∃ x, (wrap64 (numL (eB l k y).1) : Int) = x := ⟨_, rfl⟩
  obtain ⟨k3, ek3⟩ : ∃ x, (eB l k y).2.1 = x := ⟨_, rfl⟩
  obtain ⟨y3, ey3⟩ : ∃ x, (eB l k y).2.2 = x := ⟨_, rfl⟩
  rw [ei, ep, eq] at e2
  have p1 : (bodyP l).1 = k3 := by rw [e3, ek3]
  have p2 : (bodyP l).2 = y3 := by rw [e3, ey3]
  have hy0 : y ≤ 1000 := by rw [← ey.out]; exact num_le (by omega)
  have hy1 : y1 ≤ 1000 := by rw [← ey1, dI]; exact num_le hy0
  have hy2 : y2 ≤ 1000 := by rw [← ey2, eA, ek1, ey1]; exact num_le hy1
  have hy3 : y3 ≤ 1000 := by rw [← ey3, eB, ek2, ey2]; exact num_le hy2
  have hz : ¬ (kindZ l < 1 ∨ 4 < kindZ l) := by rw [e1]; omega
  by_cases hE : rdEnd l k3 y3 = 0
  · have hE2 : rdEnd l (bodyP l).1 (bodyP l).2 = 0 := by rw [p1, p2]; exact hE
    by_cases hR : (C.mk 4 i 0 0 p q 0 0 []).right = 0
    · have hR2 : (bodyV l).right = 0 := by rw [e2]; exact hR
      rw [show decC l = (bodyV l, 0) from (if_neg hz).trans ((if_neg (fun e => e hE2)).trans (if_neg (fun e => e hR2))), e2]
      exact RDec_4_ok A n0 cap l i p q k y k1 y1 k2 y2 k3 y3 w h ez ek ey (Lib.hid (by rw [← ei, dI])) (Lib.hid (by rw [← ek1, dI])) (Lib.hid (by rw [← ey1, dI])) (Lib.hid (by rw [← ep, eA, ek1, ey1])) (Lib.hid (by rw [← ek2, eA, ek1, ey1])) (Lib.hid (by rw [← ey2, eA, ek1, ey1])) (Lib.hid (by rw [← eq, eB, ek2, ey2])) (Lib.hid (by rw [← ek3, eB, ek2, ey2])) (Lib.hid (by rw [← ey3, eB, ek2, ey2])) hy3 (Lib.hid hE) (Lib.hid hR)
    · have hR2 : (bodyV l).right ≠ 0 := by rw [e2]; exact hR
      rw [show decC l = (zeroC, (bodyV l).right) from (if_neg hz).trans ((if_neg (fun e => e hE2)).trans (if_pos hR2)), e2]
      exact RDec_4_right A n0 cap l i p q k y k1 y1 k2 y2 k3 y3 w h ez ek ey (Lib.hid (by rw [← ei, dI])) (Lib.hid (by rw [← ek1, dI])) (Lib.hid (by rw [← ey1, dI])) (Lib.hid (by rw [← ep, eA, ek1, ey1])) (Lib.hid (by rw [← ek2, eA, ek1, ey1])) (Lib.hid (by rw [← ey2, eA, ek1, ey1])) (Lib.hid (by rw [← eq, eB, ek2, ey2])) (Lib.hid (by rw [← ek3, eB, ek2, ey2])) (Lib.hid (by rw [← ey3, eB, ek2, ey2])) hy3 (Lib.hid hE) _ (Lib.hid rfl) hR
  · have hE2 : rdEnd l (bodyP l).1 (bodyP l).2 ≠ 0 := by rw [p1, p2]; exact hE
    rw [show decC l = (zeroC, 12) from (if_neg hz).trans (if_pos hE2)]
    exact RDec_4_end A n0 cap l i p q k y k1 y1 k2 y2 k3 y3 w h ez ek ey (Lib.hid (by rw [← ei, dI])) (Lib.hid (by rw [← ek1, dI])) (Lib.hid (by rw [← ey1, dI])) (Lib.hid (by rw [← ep, eA, ek1, ey1])) (Lib.hid (by rw [← ek2, eA, ek1, ey1])) (Lib.hid (by rw [← ey2, eA, ek1, ey1])) (Lib.hid (by rw [← eq, eB, ek2, ey2])) (Lib.hid (by rw [← ek3, eB, ek2, ey2])) (Lib.hid (by rw [← ey3, eB, ek2, ey2])) hy3 _ (Lib.hid rfl) hE
theorem RDecode_any (A : Option Addr) (n0 cap : Nat) (l : List UInt8) (w : World) (h : Hid (Src w A n0 cap l)) :
    Calls Try.prog 42 #[.slice A n0 cap] w fun e w' => e = .returned (.tuple #[(decC l).1.val, .int .i64 (decC l).2]) ∧ Below w.heap.size w w' := by
  by_cases hz : kindZ l < 1 ∨ 4 < kindZ l
  · rw [show decC l = (zeroC, 31) from if_pos hz]
    by_cases h1 : kindZ l < 1
    · exact RDec_low A n0 cap l (kindZ l) _ _ w h (Lib.hid rfl) (Lib.hid rfl) (Lib.hid rfl) h1
    · exact RDec_high A n0 cap l (kindZ l) _ _ w h (Lib.hid rfl) (Lib.hid rfl) (Lib.hid rfl) (by omega) (by omega)
  · have h0 : kindZ l = 1 ∨ kindZ l = 2 ∨ kindZ l = 3 ∨ kindZ l = 4 := by omega
    rcases h0 with e | e | e | e
    · exact RDec_at1 A n0 cap l _ _ w h (Lib.hid e) (Lib.hid rfl) (Lib.hid rfl)
    · exact RDec_at2 A n0 cap l _ _ w h (Lib.hid e) (Lib.hid rfl) (Lib.hid rfl)
    · exact RDec_at3 A n0 cap l _ _ w h (Lib.hid e) (Lib.hid rfl) (Lib.hid rfl)
    · exact RDec_at4 A n0 cap l _ _ w h (Lib.hid e) (Lib.hid rfl) (Lib.hid rfl)
end Go.Proofs.Ytdbaphmhfoajgaa
