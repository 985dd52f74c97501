/-
  Contract: Decode, of the document.
-/
import Derived.Test.YtjhfgajhmenboaaDoorRepRead
import Derived.Test.YtjhfgajhmenboaaDoorRepEncR
namespace Go.Proofs.YtjhfgajhmenboaaDoor
open Go.RowKit
set_option linter.unusedVariables false
set_option linter.unusedSimpArgs false

set_option maxRecDepth 100000 in
set_option maxHeartbeats 1000000 in
theorem RDec_end (A : Option Addr) (n0 cap : Nat) (L : List UInt8) (k i n s p q l y : Int) (a1 b1 a2 b2 a3 b3 a4 b4 a5 b5 a6 b6 a7 b7 a8 b8 : Nat) (w : World) (h : Hid (Src w A n0 cap L)) (ea0 : Hid (((headN (rdTake L 0 0 1).1 : Nat) : Int) = k)) (eb0 : Hid ((rdTake L 0 0 1).2.1 = a1)) (ec0 : Hid ((rdTake L 0 0 1).2.2 = b1)) (ea1 : Hid ((wrap64 (numL (rdTake L a1 b1 8).1) : Int) = i)) (eb1 : Hid ((rdTake L a1 b1 8).2.1 = a2)) (ec1 : Hid ((rdTake L a1 b1 8).2.2 = b2)) (ea2 : Hid (((headN (rdTake L a2 b2 1).1 : Nat) : Int) = n)) (eb2 : Hid ((rdTake L a2 b2 1).2.1 = a3)) (ec2 : Hid ((rdTake L a2 b2 1).2.2 = b3)) (ea3 : Hid (((headN (rdTake L a3 b3 1).1 : Nat) : Int) = s)) (eb3 : Hid ((rdTake L a3 b3 1).2.1 = a4)) (ec3 : Hid ((rdTake L a3 b3 1).2.2 = b4)) (ea4 : Hid ((wrap64 (numL (rdTake L a4 b4 8).1) : Int) = p)) (eb4 : Hid ((rdTake L a4 b4 8).2.1 = a5)) (ec4 : Hid ((rdTake L a4 b4 8).2.2 = b5)) (ea5 : Hid ((wrap64 (numL (rdTake L a5 b5 8).1) : Int) = q)) (eb5 : Hid ((rdTake L a5 b5 8).2.1 = a6)) (ec5 : Hid ((rdTake L a5 b5 8).2.2 = b6)) (ea6 : Hid ((wrap64 (numL (rdTake L a6 b6 8).1) : Int) = l)) (eb6 : Hid ((rdTake L a6 b6 8).2.1 = a7)) (ec6 : Hid ((rdTake L a6 b6 8).2.2 = b7)) (ea7 : Hid (((headN (rdTake L a7 b7 1).1 : Nat) : Int) = y)) (eb7 : Hid ((rdTake L a7 b7 1).2.1 = a8)) (ec7 : Hid ((rdTake L a7 b7 1).2.2 = b8)) (hO : (Q.mk k i n s p q l y).Ok) (hy : b8 ≤ 1000) (hR : (Q.mk k i n s p q l y).Right) (hE : rdEnd L a8 b8 ≠ 0) :
    Calls Tryd.prog 33 #[.slice A n0 cap] w fun e w' => e = .returned (.tuple #[.agg #[.int .i64 0, .int .i64 0, .int .i64 0, .int .i64 0, .int .i64 0, .int .i64 0, .int .i64 0, .int .i64 0], .int .i64 12]) ∧ Below w.heap.size w w' := by
  obtain ⟨w0, ew⟩ : ∃ W, (w.alloc (.cells #[.int .i64 0, .int .i64 0, .int .i64 0, .int .i64 0, .int .i64 0, .int .i64 0, .int .i64 0, .int .i64 0] 25)).alloc (.cells #[.slice A n0 cap, .int .i64 0, .int .i64 0] 83) = W := ⟨_, rfl⟩
  obtain ⟨rb, erb⟩ : ∃ rb, w.heap.size = rb := ⟨_, rfl⟩
  obtain ⟨c, ec⟩ : ∃ c, w.heap.size + 1 = c := ⟨_, rfl⟩
  have hA : Hid (∀ b off sp, A = some ⟨b, off, sp⟩ → b < c) := Lib.hid (fun b off sp e => by have := (h.out.at' _ e).1; have h2 : b < w.heap.size := this; omega)
  have bb : Below w.heap.size w w0 := by rw [← ew]; exact ((Below.refl _ w).alloc (Nat.le_refl _) _).alloc (by simp) _
  have R0 : Hid (RT (fun k y w => Rd c A n0 cap L k y w) c rb 0 0 #[.int .i64 0, .int .i64 0, .int .i64 0, .int .i64 0, .int .i64 0, .int .i64 0, .int .i64 0, .int .i64 0] w w0) := Lib.hid ⟨⟨by rw [← ew, ← ec]; exact heap_alloc2_new w _ _, h.out.hb.below bb, fun b off sp e => by have := hA.out b off sp e; omega, Nat.zero_le _, h.out.ncap, h.out.cmax, h.out.nmax, h.out.none0, fun ad e => (h.out.at' ad e).2⟩, by rw [← ew, ← erb]; exact (heap_alloc_old _ _ (by simp)).trans (heap_alloc_new w _), (only_below bb).mono (fun _ _ e => e.elim), by omega, by omega⟩
  have hrc : rb < c := by omega
  replace ew := Lib.hid ew
  replace ec := Lib.hid ec
  replace erb := Lib.hid erb
  have hR := Lib.hid hR
  have hO := Lib.hid hO
  have hE := Lib.hid hE
  clear h bb
  go_enter Tryd.func33, Tryd.ntmps33
  go_wp2_with fail
  rw [ew.out, ec.out, erb.out]
  refine (RByte_any c A n0 cap L 0 0 w0 (Lib.hid R0.out.rd)).mono ?_
  rintro e w1 ⟨rfl, P, G⟩
  rw [ea0.out]
  rw [eb0.out, ec0.out] at P
  have R1 := Lib.hid (R0.out.read P G)
  clear P G R0
  go_wp2_with fail
  refine (RLong_any c A n0 cap L a1 b1 w1 (Lib.hid R1.out.rd)).mono ?_
  rintro e w2 ⟨rfl, P, G⟩
  rw [ea1.out]
  rw [eb1.out, ec1.out] at P
  have R2 := Lib.hid (R1.out.read P G)
  clear P G R1
  go_wp2_with fail
  refine (RByte_any c A n0 cap L a2 b2 w2 (Lib.hid R2.out.rd)).mono ?_
  rintro e w3 ⟨rfl, P, G⟩
  rw [ea2.out]
  rw [eb2.out, ec2.out] at P
  have R3 := Lib.hid (R2.out.read P G)
  clear P G R2
  go_wp2_with fail
  refine (RByte_any c A n0 cap L a3 b3 w3 (Lib.hid R3.out.rd)).mono ?_
  rintro e w4 ⟨rfl, P, G⟩
  rw [ea3.out]
  rw [eb3.out, ec3.out] at P
  have R4 := Lib.hid (R3.out.read P G)
  clear P G R3
  go_wp2_with fail
  refine (RLong_any c A n0 cap L a4 b4 w4 (Lib.hid R4.out.rd)).mono ?_
  rintro e w5 ⟨rfl, P, G⟩
  rw [ea4.out]
  rw [eb4.out, ec4.out] at P
  have R5 := Lib.hid (R4.out.read P G)
  clear P G R4
  go_wp2_with fail
  refine (RLong_any c A n0 cap L a5 b5 w5 (Lib.hid R5.out.rd)).mono ?_
  rintro e w6 ⟨rfl, P, G⟩
  rw [ea5.out]
  rw [eb5.out, ec5.out] at P
  have R6 := Lib.hid (R5.out.read P G)
  clear P G R5
  go_wp2_with fail
  refine (RLong_any c A n0 cap L a6 b6 w6 (Lib.hid R6.out.rd)).mono ?_
  rintro e w7 ⟨rfl, P, G⟩
  rw [ea6.out]
  rw [eb6.out, ec6.out] at P
  have R7 := Lib.hid (R6.out.read P G)
  clear P G R6
  go_wp2_with fail
  refine (RByte_any c A n0 cap L a7 b7 w7 (Lib.hid R7.out.rd)).mono ?_
  rintro e w8 ⟨rfl, P, G⟩
  rw [ea7.out]
  rw [eb7.out, ec7.out] at P
  have R8 := Lib.hid (R7.out.read P G)
  clear P G R7
  have hwr : w.heap.size ≤ rb := by have := erb.out; omega
  go_upto_region 3 with (fail)
  obtain ⟨u4, ew4⟩ : ∃ W, w8.alloc (.cells #[.int .i64 k, .int .i64 i, .int .i64 n, .int .i64 s, .int .i64 p, .int .i64 q, .int .i64 l, .int .i64 y] 25) = W := ⟨_, rfl⟩
  obtain ⟨cb, ecb⟩ : ∃ cb, w8.heap.size = cb := ⟨_, rfl⟩
  have hr8 := (Array.getElem?_eq_some_iff.1 R8.out.res).1
  have R9 : Hid (RT (fun k y w => Rd c A n0 cap L k y w) c rb a8 b8 #[.int .i64 0, .int .i64 0, .int .i64 0, .int .i64 0, .int .i64 0, .int .i64 0, .int .i64 0, .int .i64 0] w u4) := Lib.hid (by
    rw [← ew4]
    exact ⟨(keeps_rd c A n0 cap L hA.out).keep _ _ w8 _ (fun _ => False) R8.out.rd (alloc_only w8 _) (fun _ e => e.elim), (heap_alloc_old _ _ hr8).trans R8.out.res, R8.out.only.step (alloc_only w8 _) (fun _ _ e => e.elim), R8.out.ne, R8.out.rw0⟩)
  have C9 : Hid (u4.heap[cb]? = some (.cells #[.int .i64 k, .int .i64 i, .int .i64 n, .int .i64 s, .int .i64 p, .int .i64 q, .int .i64 l, .int .i64 y] 25 (0, 0))) := Lib.hid (by rw [← ew4, ← ecb]; exact heap_alloc_new w8 _)
  have hcb : c < cb := by have := (keeps_rd c A n0 cap L hA.out).lt _ _ _ R8.out.rd; omega
  have hrcb : rb < cb := by omega
  show Code.wp _ _ _ _ (w8.alloc (.cells #[.int .i64 k, .int .i64 i, .int .i64 n, .int .i64 s, .int .i64 p, .int .i64 q, .int .i64 l, .int .i64 y] 25))
  rw [ew4, ecb]
  clear ew4 ecb R8 hr8
  obtain ⟨j0, j1, j2, j3, j4, j5, j6, j7⟩ := rep_at C9.out
  go_wp2_with fail
  refine (REncode_any ⟨k, i, n, s, p, q, l, y⟩ u4 hO.out).mono ?_
  rintro e u5 ⟨ve, rfl, re, b5⟩
  clear j0 j1 j2 j3 j4 j5 j6 j7
  have RA : Hid (RT (fun k y w => Rd c A n0 cap L k y w) c rb a8 b8 #[.int .i64 0, .int .i64 0, .int .i64 0, .int .i64 0, .int .i64 0, .int .i64 0, .int .i64 0, .int .i64 0] w u5) := Lib.hid ⟨(keeps_rd c A n0 cap L hA.out).keep _ _ u4 _ (fun _ => False) R9.out.rd (only_below b5) (fun _ e => e.elim), (b5.block rb (Array.getElem?_eq_some_iff.1 R9.out.res).1).trans R9.out.res, R9.out.only.step (only_below b5) (fun _ _ e => e.elim), R9.out.ne, R9.out.rw0⟩
  have CA := Lib.hid ((b5.block cb (Array.getElem?_eq_some_iff.1 C9.out).1).trans C9.out)
  have BB := Lib.hid (RA.out.only.below (Nat.le_refl _) (fun j hj e => by have e : j = c := e; have := ec.out; omega))
  clear re b5 R9 C9
  rw [encE_yes hR.out]
  go_wp2_with fail
  refine (REnd_any c A n0 cap L a8 b8 u5 (Lib.hid RA.out.rd) hy).mono ?_
  rintro e u6 ⟨rfl, qq, rfl⟩
  obtain ⟨E, eE⟩ : ∃ E, rdEnd L a8 b8 = E := ⟨_, rfl⟩
  rw [eE] at hE ⊢
  have i1 : ((E : Int) != 0) = true := by have := hE.out; simp; omega
  clear eE hE
  have HQ : Hid ((u5.drewN qq).heap[rb]? = some (.cells #[.int .i64 0, .int .i64 0, .int .i64 0, .int .i64 0, .int .i64 0, .int .i64 0, .int .i64 0, .int .i64 0] 25 (0, 0))) := Lib.hid RA.out.res
  have CQ : Hid ((u5.drewN qq).heap[cb]? = some (.cells #[.int .i64 k, .int .i64 i, .int .i64 n, .int .i64 s, .int .i64 p, .int .i64 q, .int .i64 l, .int .i64 y] 25 (0, 0))) := Lib.hid CA.out
  have BQ : Hid (Below w.heap.size w (u5.drewN qq)) := Lib.hid (below_drewN BB.out qq)
  obtain ⟨uq, ewq⟩ : ∃ W, u5.drewN qq = W := ⟨_, rfl⟩
  rw [ewq] at HQ CQ BQ ⊢
  clear ewq RA CA BB
  obtain ⟨j0, j1, j2, j3, j4, j5, j6, j7⟩ := rep_at CQ.out
  obtain ⟨fr0, fr1, fr2, fr3, fr4, fr5, fr6, fr7, m0, m1, m2, m3, m4, m5, m6, m7⟩ := block8 HQ.out
  go_wp2_with fail
  rw [set8 _ _ _ _ _ _ _ _ HQ.out]
  (try simp only [Exit.inBlock, Exit.then])
  refine bodyPost_ret (results_cell_row_tmp rfl _ _ (rb) 25 _ (0, 0) _ rfl (setRow_heap _ _ _ _ _ _ HQ.out) rfl rfl rfl) rfl ?_
  exact ⟨rfl, below_setRow BQ.out hwr _⟩
set_option maxRecDepth 100000 in
set_option maxHeartbeats 1000000 in
theorem RDec_right (A : Option Addr) (n0 cap : Nat) (L : List UInt8) (k i n s p q l y : Int) (a1 b1 a2 b2 a3 b3 a4 b4 a5 b5 a6 b6 a7 b7 a8 b8 : Nat) (w : World) (h : Hid (Src w A n0 cap L)) (ea0 : Hid (((headN (rdTake L 0 0 1).1 : Nat) : Int) = k)) (eb0 : Hid ((rdTake L 0 0 1).2.1 = a1)) (ec0 : Hid ((rdTake L 0 0 1).2.2 = b1)) (ea1 : Hid ((wrap64 (numL (rdTake L a1 b1 8).1) : Int) = i)) (eb1 : Hid ((rdTake L a1 b1 8).2.1 = a2)) (ec1 : Hid ((rdTake L a1 b1 8).2.2 = b2)) (ea2 : Hid (((headN (rdTake L a2 b2 1).1 : Nat) : Int) = n)) (eb2 : Hid ((rdTake L a2 b2 1).2.1 = a3)) (ec2 : Hid ((rdTake L a2 b2 1).2.2 = b3)) (ea3 : Hid (((headN (rdTake L a3 b3 1).1 : Nat) : Int) = s)) (eb3 : Hid ((rdTake L a3 b3 1).2.1 = a4)) (ec3 : Hid ((rdTake L a3 b3 1).2.2 = b4)) (ea4 : Hid ((wrap64 (numL (rdTake L a4 b4 8).1) : Int) = p)) (eb4 : Hid ((rdTake L a4 b4 8).2.1 = a5)) (ec4 : Hid ((rdTake L a4 b4 8).2.2 = b5)) (ea5 : Hid ((wrap64 (numL (rdTake L a5 b5 8).1) : Int) = q)) (eb5 : Hid ((rdTake L a5 b5 8).2.1 = a6)) (ec5 : Hid ((rdTake L a5 b5 8).2.2 = b6)) (ea6 : Hid ((wrap64 (numL (rdTake L a6 b6 8).1) : Int) = l)) (eb6 : Hid ((rdTake L a6 b6 8).2.1 = a7)) (ec6 : Hid ((rdTake L a6 b6 8).2.2 = b7)) (ea7 : Hid (((headN (rdTake L a7 b7 1).1 : Nat) : Int) = y)) (eb7 : Hid ((rdTake L a7 b7 1).2.1 = a8)) (ec7 : Hid ((rdTake L a7 b7 1).2.2 = b8)) (hO : (Q.mk k i n s p q l y).Ok) (hy : b8 ≤ 1000) (hR : ¬ (Q.mk k i n s p q l y).Right) :
    Calls Tryd.prog 33 #[.slice A n0 cap] w fun e w' => e = .returned (.tuple #[.agg #[.int .i64 0, .int .i64 0, .int .i64 0, .int .i64 0, .int .i64 0, .int .i64 0, .int .i64 0, .int .i64 0], .int .i64 12]) ∧ Below w.heap.size w w' := by
  obtain ⟨w0, ew⟩ : ∃ W, (w.alloc (.cells #[.int .i64 0, .int .i64 0, .int .i64 0, .int .i64 0, .int .i64 0, .int .i64 0, .int .i64 0, .int .i64 0] 25)).alloc (.cells #[.slice A n0 cap, .int .i64 0, .int .i64 0] 83) = W := ⟨_, rfl⟩
  obtain ⟨rb, erb⟩ : ∃ rb, w.heap.size = rb := ⟨_, rfl⟩
  obtain ⟨c, ec⟩ : ∃ c, w.heap.size + 1 = c := ⟨_, rfl⟩
  have hA : Hid (∀ b off sp, A = some ⟨b, off, sp⟩ → b < c) := Lib.hid (fun b off sp e => by have := (h.out.at' _ e).1; have h2 : b < w.heap.size := this; omega)
  have bb : Below w.heap.size w w0 := by rw [← ew]; exact ((Below.refl _ w).alloc (Nat.le_refl _) _).alloc (by simp) _
  have R0 : Hid (RT (fun k y w => Rd c A n0 cap L k y w) c rb 0 0 #[.int .i64 0, .int .i64 0, .int .i64 0, .int .i64 0, .int .i64 0, .int .i64 0, .int .i64 0, .int .i64 0] w w0) := Lib.hid ⟨⟨by rw [← ew, ← ec]; exact heap_alloc2_new w _ _, h.out.hb.below bb, fun b off sp e => by have := hA.out b off sp e; omega, Nat.zero_le _, h.out.ncap, h.out.cmax, h.out.nmax, h.out.none0, fun ad e => (h.out.at' ad e).2⟩, by rw [← ew, ← erb]; exact (heap_alloc_old _ _ (by simp)).trans (heap_alloc_new w _), (only_below bb).mono (fun _ _ e => e.elim), by omega, by omega⟩
  have hrc : rb < c := by omega
  replace ew := Lib.hid ew
  replace ec := Lib.hid ec
  replace erb := Lib.hid erb
  have hR := Lib.hid hR
  have hO := Lib.hid hO
  
  clear h bb
  go_enter Tryd.func33, Tryd.ntmps33
  go_wp2_with fail
  rw [ew.out, ec.out, erb.out]
  refine (RByte_any c A n0 cap L 0 0 w0 (Lib.hid R0.out.rd)).mono ?_
  rintro e w1 ⟨rfl, P, G⟩
  rw [ea0.out]
  rw [eb0.out, ec0.out] at P
  have R1 := Lib.hid (R0.out.read P G)
  clear P G R0
  go_wp2_with fail
  refine (RLong_any c A n0 cap L a1 b1 w1 (Lib.hid R1.out.rd)).mono ?_
  rintro e w2 ⟨rfl, P, G⟩
  rw [ea1.out]
  rw [eb1.out, ec1.out] at P
  have R2 := Lib.hid (R1.out.read P G)
  clear P G R1
  go_wp2_with fail
  refine (RByte_any c A n0 cap L a2 b2 w2 (Lib.hid R2.out.rd)).mono ?_
  rintro e w3 ⟨rfl, P, G⟩
  rw [ea2.out]
  rw [eb2.out, ec2.out] at P
  have R3 := Lib.hid (R2.out.read P G)
  clear P G R2
  go_wp2_with fail
  refine (RByte_any c A n0 cap L a3 b3 w3 (Lib.hid R3.out.rd)).mono ?_
  rintro e w4 ⟨rfl, P, G⟩
  rw [ea3.out]
  rw [eb3.out, ec3.out] at P
  have R4 := Lib.hid (R3.out.read P G)
  clear P G R3
  go_wp2_with fail
  refine (RLong_any c A n0 cap L a4 b4 w4 (Lib.hid R4.out.rd)).mono ?_
  rintro e w5 ⟨rfl, P, G⟩
  rw [ea4.out]
  rw [eb4.out, ec4.out] at P
  have R5 := Lib.hid (R4.out.read P G)
  clear P G R4
  go_wp2_with fail
  refine (RLong_any c A n0 cap L a5 b5 w5 (Lib.hid R5.out.rd)).mono ?_
  rintro e w6 ⟨rfl, P, G⟩
  rw [ea5.out]
  rw [eb5.out, ec5.out] at P
  have R6 := Lib.hid (R5.out.read P G)
  clear P G R5
  go_wp2_with fail
  refine (RLong_any c A n0 cap L a6 b6 w6 (Lib.hid R6.out.rd)).mono ?_
  rintro e w7 ⟨rfl, P, G⟩
  rw [ea6.out]
  rw [eb6.out, ec6.out] at P
  have R7 := Lib.hid (R6.out.read P G)
  clear P G R6
  go_wp2_with fail
  refine (RByte_any c A n0 cap L a7 b7 w7 (Lib.hid R7.out.rd)).mono ?_
  rintro e w8 ⟨rfl, P, G⟩
  rw [ea7.out]
  rw [eb7.out, ec7.out] at P
  have R8 := Lib.hid (R7.out.read P G)
  clear P G R7
  have hwr : w.heap.size ≤ rb := by have := erb.out; omega
  go_upto_region 3 with (fail)
  obtain ⟨u4, ew4⟩ : ∃ W, w8.alloc (.cells #[.int .i64 k, .int .i64 i, .int .i64 n, .int .i64 s, .int .i64 p, .int .i64 q, .int .i64 l, .int .i64 y] 25) = W := ⟨_, rfl⟩
  obtain ⟨cb, ecb⟩ : ∃ cb, w8.heap.size = cb := ⟨_, rfl⟩
  have hr8 := (Array.getElem?_eq_some_iff.1 R8.out.res).1
  have R9 : Hid (RT (fun k y w => Rd c A n0 cap L k y w) c rb a8 b8 #[.int .i64 0, .int .i64 0, .int .i64 0, .int .i64 0, .int .i64 0, .int .i64 0, .int .i64 0, .int .i64 0] w u4) := Lib.hid (by
    rw [← ew4]
    exact ⟨(keeps_rd c A n0 cap L hA.out).keep _ _ w8 _ (fun _ => False) R8.out.rd (alloc_only w8 _) (fun _ e => e.elim), (heap_alloc_old _ _ hr8).trans R8.out.res, R8.out.only.step (alloc_only w8 _) (fun _ _ e => e.elim), R8.out.ne, R8.out.rw0⟩)
  have C9 : Hid (u4.heap[cb]? = some (.cells #[.int .i64 k, .int .i64 i, .int .i64 n, .int .i64 s, .int .i64 p, .int .i64 q, .int .i64 l, .int .i64 y] 25 (0, 0))) := Lib.hid (by rw [← ew4, ← ecb]; exact heap_alloc_new w8 _)
  have hcb : c < cb := by have := (keeps_rd c A n0 cap L hA.out).lt _ _ _ R8.out.rd; omega
  have hrcb : rb < cb := by omega
  show Code.wp _ _ _ _ (w8.alloc (.cells #[.int .i64 k, .int .i64 i, .int .i64 n, .int .i64 s, .int .i64 p, .int .i64 q, .int .i64 l, .int .i64 y] 25))
  rw [ew4, ecb]
  clear ew4 ecb R8 hr8
  obtain ⟨j0, j1, j2, j3, j4, j5, j6, j7⟩ := rep_at C9.out
  go_wp2_with fail
  refine (REncode_any ⟨k, i, n, s, p, q, l, y⟩ u4 hO.out).mono ?_
  rintro e u5 ⟨ve, rfl, re, b5⟩
  clear j0 j1 j2 j3 j4 j5 j6 j7
  have RA : Hid (RT (fun k y w => Rd c A n0 cap L k y w) c rb a8 b8 #[.int .i64 0, .int .i64 0, .int .i64 0, .int .i64 0, .int .i64 0, .int .i64 0, .int .i64 0, .int .i64 0] w u5) := Lib.hid ⟨(keeps_rd c A n0 cap L hA.out).keep _ _ u4 _ (fun _ => False) R9.out.rd (only_below b5) (fun _ e => e.elim), (b5.block rb (Array.getElem?_eq_some_iff.1 R9.out.res).1).trans R9.out.res, R9.out.only.step (only_below b5) (fun _ _ e => e.elim), R9.out.ne, R9.out.rw0⟩
  have CA := Lib.hid ((b5.block cb (Array.getElem?_eq_some_iff.1 C9.out).1).trans C9.out)
  have BB := Lib.hid (RA.out.only.below (Nat.le_refl _) (fun j hj e => by have e : j = c := e; have := ec.out; omega))
  clear re b5 R9 C9
  rw [encE_no hR.out]
  obtain ⟨fr0, fr1, fr2, fr3, fr4, fr5, fr6, fr7, m0, m1, m2, m3, m4, m5, m6, m7⟩ := block8 RA.out.res
  go_wp2_with fail
  rw [set8 _ _ _ _ _ _ _ _ RA.out.res]
  (try simp only [Exit.inBlock, Exit.then])
  refine bodyPost_ret (results_cell_row_tmp rfl _ _ (rb) 25 _ (0, 0) _ rfl (setRow_heap _ _ _ _ _ _ RA.out.res) rfl rfl rfl) rfl ?_
  exact ⟨rfl, below_setRow BB.out hwr _⟩
set_option maxRecDepth 100000 in
set_option maxHeartbeats 1000000 in
theorem RDec_ok (A : Option Addr) (n0 cap : Nat) (L : List UInt8) (k i n s p q l y : Int) (a1 b1 a2 b2 a3 b3 a4 b4 a5 b5 a6 b6 a7 b7 a8 b8 : Nat) (w : World) (h : Hid (Src w A n0 cap L)) (ea0 : Hid (((headN (rdTake L 0 0 1).1 : Nat) : Int) = k)) (eb0 : Hid ((rdTake L 0 0 1).2.1 = a1)) (ec0 : Hid ((rdTake L 0 0 1).2.2 = b1)) (ea1 : Hid ((wrap64 (numL (rdTake L a1 b1 8).1) : Int) = i)) (eb1 : Hid ((rdTake L a1 b1 8).2.1 = a2)) (ec1 : Hid ((rdTake L a1 b1 8).2.2 = b2)) (ea2 : Hid (((headN (rdTake L a2 b2 1).1 : Nat) : Int) = n)) (eb2 : Hid ((rdTake L a2 b2 1).2.1 = a3)) (ec2 : Hid ((rdTake L a2 b2 1).2.2 = b3)) (ea3 : Hid (((headN (rdTake L a3 b3 1).1 : Nat) : Int) = s)) (eb3 : Hid ((rdTake L a3 b3 1).2.1 = a4)) (ec3 : Hid ((rdTake L a3 b3 1).2.2 = b4)) (ea4 : Hid ((wrap64 (numL (rdTake L a4 b4 8).1) : Int) = p)) (eb4 : Hid ((rdTake L a4 b4 8).2.1 = a5)) (ec4 : Hid ((rdTake L a4 b4 8).2.2 = b5)) (ea5 : Hid ((wrap64 (numL (rdTake L a5 b5 8).1) : Int) = q)) (eb5 : Hid ((rdTake L a5 b5 8).2.1 = a6)) (ec5 : Hid ((rdTake L a5 b5 8).2.2 = b6)) (ea6 : Hid ((wrap64 (numL (rdTake L a6 b6 8).1) : Int) = l)) (eb6 : Hid ((rdTake L a6 b6 8).2.1 = a7)) (ec6 : Hid ((rdTake L a6 b6 8).2.2 = b7)) (ea7 : Hid (((headN (rdTake L a7 b7 1).1 : Nat) : Int) = y)) (eb7 : Hid ((rdTake L a7 b7 1).2.1 = a8)) (ec7 : Hid ((rdTake L a7 b7 1).2.2 = b8)) (hO : (Q.mk k i n s p q l y).Ok) (hy : b8 ≤ 1000) (hR : (Q.mk k i n s p q l y).Right) (hE : rdEnd L a8 b8 = 0) :
    Calls Tryd.prog 33 #[.slice A n0 cap] w fun e w' => e = .returned (.tuple #[.agg #[.int .i64 k, .int .i64 i, .int .i64 n, .int .i64 s, .int .i64 p, .int .i64 q, .int .i64 l, .int .i64 y], .int .i64 0]) ∧ Below w.heap.size w w' := by
  obtain ⟨w0, ew⟩ : ∃ W, (w.alloc (.cells #[.int .i64 0, .int .i64 0, .int .i64 0, .int .i64 0, .int .i64 0, .int .i64 0, .int .i64 0, .int .i64 0] 25)).alloc (.cells #[.slice A n0 cap, .int .i64 0, .int .i64 0] 83) = W := ⟨_, rfl⟩
  obtain ⟨rb, erb⟩ : ∃ rb, w.heap.size = rb := ⟨_, rfl⟩
  obtain ⟨c, ec⟩ : ∃ c, w.heap.size + 1 = c := ⟨_, rfl⟩
  have hA : Hid (∀ b off sp, A = some ⟨b, off, sp⟩ → b < c) := Lib.hid (fun b off sp e => by have := (h.out.at' _ e).1; have h2 : b < w.heap.size := this; omega)
  have bb : Below w.heap.size w w0 := by rw [← ew]; exact ((Below.refl _ w).alloc (Nat.le_refl _) _).alloc (by simp) _
  have R0 : Hid (RT (fun k y w => Rd c A n0 cap L k y w) c rb 0 0 #[.int .i64 0, .int .i64 0, .int .i64 0, .int .i64 0, .int .i64 0, .int .i64 0, .int .i64 0, .int .i64 0] w w0) := Lib.hid ⟨⟨by rw [← ew, ← ec]; exact heap_alloc2_new w _ _, h.out.hb.below bb, fun b off sp e => by have := hA.out b off sp e; omega, Nat.zero_le _, h.out.ncap, h.out.cmax, h.out.nmax, h.out.none0, fun ad e => (h.out.at' ad e).2⟩, by rw [← ew, ← erb]; exact (heap_alloc_old _ _ (by simp)).trans (heap_alloc_new w _), (only_below bb).mono (fun _ _ e => e.elim), by omega, by omega⟩
  have hrc : rb < c := by omega
  replace ew := Lib.hid ew
  replace ec := Lib.hid ec
  replace erb := Lib.hid erb
  have hR := Lib.hid hR
  have hO := Lib.hid hO
  have hE := Lib.hid hE
  clear h bb
  go_enter Tryd.func33, Tryd.ntmps33
  go_wp2_with fail
  rw [ew.out, ec.out, erb.out]
  refine (RByte_any c A n0 cap L 0 0 w0 (Lib.hid R0.out.rd)).mono ?_
  rintro e w1 ⟨rfl, P, G⟩
  rw [ea0.out]
  rw [eb0.out, ec0.out] at P
  have R1 := Lib.hid (R0.out.read P G)
  clear P G R0
  go_wp2_with fail
  refine (RLong_any c A n0 cap L a1 b1 w1 (Lib.hid R1.out.rd)).mono ?_
  rintro e w2 ⟨rfl, P, G⟩
  rw [ea1.out]
  rw [eb1.out, ec1.out] at P
  have R2 := Lib.hid (R1.out.read P G)
  clear P G R1
  go_wp2_with fail
  refine (RByte_any c A n0 cap L a2 b2 w2 (Lib.hid R2.out.rd)).mono ?_
  rintro e w3 ⟨rfl, P, G⟩
  rw [ea2.out]
  rw [eb2.out, ec2.out] at P
  have R3 := Lib.hid (R2.out.read P G)
  clear P G R2
  go_wp2_with fail
  refine (RByte_any c A n0 cap L a3 b3 w3 (Lib.hid R3.out.rd)).mono ?_
  rintro e w4 ⟨rfl, P, G⟩
  rw [ea3.out]
  rw [eb3.out, ec3.out] at P
  have R4 := Lib.hid (R3.out.read P G)
  clear P G R3
  go_wp2_with fail
  refine (RLong_any c A n0 cap L a4 b4 w4 (Lib.hid R4.out.rd)).mono ?_
  rintro e w5 ⟨rfl, P, G⟩
  rw [ea4.out]
  rw [eb4.out, ec4.out] at P
  have R5 := Lib.hid (R4.out.read P G)
  clear P G R4
  go_wp2_with fail
  refine (RLong_any c A n0 cap L a5 b5 w5 (Lib.hid R5.out.rd)).mono ?_
  rintro e w6 ⟨rfl, P, G⟩
  rw [ea5.out]
  rw [eb5.out, ec5.out] at P
  have R6 := Lib.hid (R5.out.read P G)
  clear P G R5
  go_wp2_with fail
  refine (RLong_any c A n0 cap L a6 b6 w6 (Lib.hid R6.out.rd)).mono ?_
  rintro e w7 ⟨rfl, P, G⟩
  rw [ea6.out]
  rw [eb6.out, ec6.out] at P
  have R7 := Lib.hid (R6.out.read P G)
  clear P G R6
  go_wp2_with fail
  refine (RByte_any c A n0 cap L a7 b7 w7 (Lib.hid R7.out.rd)).mono ?_
  rintro e w8 ⟨rfl, P, G⟩
  rw [ea7.out]
  rw [eb7.out, ec7.out] at P
  have R8 := Lib.hid (R7.out.read P G)
  clear P G R7
  have hwr : w.heap.size ≤ rb := by have := erb.out; omega
  go_upto_region 3 with (fail)
  obtain ⟨u4, ew4⟩ : ∃ W, w8.alloc (.cells #[.int .i64 k, .int .i64 i, .int .i64 n, .int .i64 s, .int .i64 p, .int .i64 q, .int .i64 l, .int .i64 y] 25) = W := ⟨_, rfl⟩
  obtain ⟨cb, ecb⟩ : ∃ cb, w8.heap.size = cb := ⟨_, rfl⟩
  have hr8 := (Array.getElem?_eq_some_iff.1 R8.out.res).1
  have R9 : Hid (RT (fun k y w => Rd c A n0 cap L k y w) c rb a8 b8 #[.int .i64 0, .int .i64 0, .int .i64 0, .int .i64 0, .int .i64 0, .int .i64 0, .int .i64 0, .int .i64 0] w u4) := Lib.hid (by
    rw [← ew4]
    exact ⟨(keeps_rd c A n0 cap L hA.out).keep _ _ w8 _ (fun _ => False) R8.out.rd (alloc_only w8 _) (fun _ e => e.elim), (heap_alloc_old _ _ hr8).trans R8.out.res, R8.out.only.step (alloc_only w8 _) (fun _ _ e => e.elim), R8.out.ne, R8.out.rw0⟩)
  have C9 : Hid (u4.heap[cb]? = some (.cells #[.int .i64 k, .int .i64 i, .int .i64 n, .int .i64 s, .int .i64 p, .int .i64 q, .int .i64 l, .int .i64 y] 25 (0, 0))) := Lib.hid (by rw [← ew4, ← ecb]; exact heap_alloc_new w8 _)
  have hcb : c < cb := by have := (keeps_rd c A n0 cap L hA.out).lt _ _ _ R8.out.rd; omega
  have hrcb : rb < cb := by omega
  show Code.wp _ _ _ _ (w8.alloc (.cells #[.int .i64 k, .int .i64 i, .int .i64 n, .int .i64 s, .int .i64 p, .int .i64 q, .int .i64 l, .int .i64 y] 25))
  rw [ew4, ecb]
  clear ew4 ecb R8 hr8
  obtain ⟨j0, j1, j2, j3, j4, j5, j6, j7⟩ := rep_at C9.out
  go_wp2_with fail
  refine (REncode_any ⟨k, i, n, s, p, q, l, y⟩ u4 hO.out).mono ?_
  rintro e u5 ⟨ve, rfl, re, b5⟩
  clear j0 j1 j2 j3 j4 j5 j6 j7
  have RA : Hid (RT (fun k y w => Rd c A n0 cap L k y w) c rb a8 b8 #[.int .i64 0, .int .i64 0, .int .i64 0, .int .i64 0, .int .i64 0, .int .i64 0, .int .i64 0, .int .i64 0] w u5) := Lib.hid ⟨(keeps_rd c A n0 cap L hA.out).keep _ _ u4 _ (fun _ => False) R9.out.rd (only_below b5) (fun _ e => e.elim), (b5.block rb (Array.getElem?_eq_some_iff.1 R9.out.res).1).trans R9.out.res, R9.out.only.step (only_below b5) (fun _ _ e => e.elim), R9.out.ne, R9.out.rw0⟩
  have CA := Lib.hid ((b5.block cb (Array.getElem?_eq_some_iff.1 C9.out).1).trans C9.out)
  have BB := Lib.hid (RA.out.only.below (Nat.le_refl _) (fun j hj e => by have e : j = c := e; have := ec.out; omega))
  clear re b5 R9 C9
  rw [encE_yes hR.out]
  go_wp2_with fail
  refine (REnd_any c A n0 cap L a8 b8 u5 (Lib.hid RA.out.rd) hy).mono ?_
  rintro e u6 ⟨rfl, qq, rfl⟩
  rw [hE.out]
  have HQ : Hid ((u5.drewN qq).heap[rb]? = some (.cells #[.int .i64 0, .int .i64 0, .int .i64 0, .int .i64 0, .int .i64 0, .int .i64 0, .int .i64 0, .int .i64 0] 25 (0, 0))) := Lib.hid RA.out.res
  have CQ : Hid ((u5.drewN qq).heap[cb]? = some (.cells #[.int .i64 k, .int .i64 i, .int .i64 n, .int .i64 s, .int .i64 p, .int .i64 q, .int .i64 l, .int .i64 y] 25 (0, 0))) := Lib.hid CA.out
  have BQ : Hid (Below w.heap.size w (u5.drewN qq)) := Lib.hid (below_drewN BB.out qq)
  obtain ⟨uq, ewq⟩ : ∃ W, u5.drewN qq = W := ⟨_, rfl⟩
  rw [ewq] at HQ CQ BQ ⊢
  clear ewq RA CA BB
  obtain ⟨j0, j1, j2, j3, j4, j5, j6, j7⟩ := rep_at CQ.out
  obtain ⟨fr0, fr1, fr2, fr3, fr4, fr5, fr6, fr7, m0, m1, m2, m3, m4, m5, m6, m7⟩ := block8 HQ.out
  go_wp2_with fail
  rw [set8 _ _ _ _ _ _ _ _ HQ.out]
  (try simp only [Exit.inBlock, Exit.then])
  refine bodyPost_ret (results_cell_row_tmp rfl _ _ (rb) 25 _ (0, 0) _ rfl (setRow_heap _ _ _ _ _ _ HQ.out) rfl rfl rfl) rfl ?_
  exact ⟨rfl, below_setRow BQ.out hwr _⟩
theorem dY_le (l : List UInt8) : (dY l).2.2 ≤ 1000 := by
  rw [dY_eq, dL_eq, dQ_eq, dP_eq, dS_eq, dN_eq, dI_eq, dK_eq]
  exact num_le (num_le (num_le (num_le (num_le (num_le (num_le (num_le (Nat.zero_le _))))))))
theorem RDecode_any (A : Option Addr) (n0 cap : Nat) (l : List UInt8) (w : World) (h : Hid (Src w A n0 cap l)) :
    Calls Tryd.prog 33 #[.slice A n0 cap] w fun e w' => e = .returned (.tuple #[(decQ l).val, .int .i64 (decE l)]) ∧ Below w.heap.size w w' := by
  by_cases hd : decOk l
  · rw [decQ_yes hd, decE_yes hd]
    exact RDec_ok A n0 cap l (readQ l).k (readQ l).i (readQ l).n (readQ l).s (readQ l).p (readQ l).q (readQ l).l (readQ l).y (dK l).2.1 (dK l).2.2 (dI l).2.1 (dI l).2.2 (dN l).2.1 (dN l).2.2 (dS l).2.1 (dS l).2.2 (dP l).2.1 (dP l).2.2 (dQ l).2.1 (dQ l).2.2 (dL l).2.1 (dL l).2.2 (dY l).2.1 (dY l).2.2 w h (Lib.hid (by rw [← dK_eq]; rfl)) (Lib.hid (by rw [← dK_eq])) (Lib.hid (by rw [← dK_eq])) (Lib.hid (by rw [← dI_eq]; rfl)) (Lib.hid (by rw [← dI_eq])) (Lib.hid (by rw [← dI_eq])) (Lib.hid (by rw [← dN_eq]; rfl)) (Lib.hid (by rw [← dN_eq])) (Lib.hid (by rw [← dN_eq])) (Lib.hid (by rw [← dS_eq]; rfl)) (Lib.hid (by rw [← dS_eq])) (Lib.hid (by rw [← dS_eq])) (Lib.hid (by rw [← dP_eq]; rfl)) (Lib.hid (by rw [← dP_eq])) (Lib.hid (by rw [← dP_eq])) (Lib.hid (by rw [← dQ_eq]; rfl)) (Lib.hid (by rw [← dQ_eq])) (Lib.hid (by rw [← dQ_eq])) (Lib.hid (by rw [← dL_eq]; rfl)) (Lib.hid (by rw [← dL_eq])) (Lib.hid (by rw [← dL_eq])) (Lib.hid (by rw [← dY_eq]; rfl)) (Lib.hid (by rw [← dY_eq])) (Lib.hid (by rw [← dY_eq])) (readQ_ok l) (dY_le l) hd.2 hd.1
  · rw [decQ_no hd, decE_no hd]
    by_cases hR : (readQ l).Right
    · exact RDec_end A n0 cap l (readQ l).k (readQ l).i (readQ l).n (readQ l).s (readQ l).p (readQ l).q (readQ l).l (readQ l).y (dK l).2.1 (dK l).2.2 (dI l).2.1 (dI l).2.2 (dN l).2.1 (dN l).2.2 (dS l).2.1 (dS l).2.2 (dP l).2.1 (dP l).2.2 (dQ l).2.1 (dQ l).2.2 (dL l).2.1 (dL l).2.2 (dY l).2.1 (dY l).2.2 w h (Lib.hid (by rw [← dK_eq]; rfl)) (Lib.hid (by rw [← dK_eq])) (Lib.hid (by rw [← dK_eq])) (Lib.hid (by rw [← dI_eq]; rfl)) (Lib.hid (by rw [← dI_eq])) (Lib.hid (by rw [← dI_eq])) (Lib.hid (by rw [← dN_eq]; rfl)) (Lib.hid (by rw [← dN_eq])) (Lib.hid (by rw [← dN_eq])) (Lib.hid (by rw [← dS_eq]; rfl)) (Lib.hid (by rw [← dS_eq])) (Lib.hid (by rw [← dS_eq])) (Lib.hid (by rw [← dP_eq]; rfl)) (Lib.hid (by rw [← dP_eq])) (Lib.hid (by rw [← dP_eq])) (Lib.hid (by rw [← dQ_eq]; rfl)) (Lib.hid (by rw [← dQ_eq])) (Lib.hid (by rw [← dQ_eq])) (Lib.hid (by rw [← dL_eq]; rfl)) (Lib.hid (by rw [← dL_eq])) (Lib.hid (by rw [← dL_eq])) (Lib.hid (by rw [← dY_eq]; rfl)) (Lib.hid (by rw [← dY_eq])) (Lib.hid (by rw [← dY_eq])) (readQ_ok l) (dY_le l) hR (fun e => hd ⟨e, hR⟩)
    · exact RDec_right A n0 cap l (readQ l).k (readQ l).i (readQ l).n (readQ l).s (readQ l).p (readQ l).q (readQ l).l (readQ l).y (dK l).2.1 (dK l).2.2 (dI l).2.1 (dI l).2.2 (dN l).2.1 (dN l).2.2 (dS l).2.1 (dS l).2.2 (dP l).2.1 (dP l).2.2 (dQ l).2.1 (dQ l).2.2 (dL l).2.1 (dL l).2.2 (dY l).2.1 (dY l).2.2 w h (Lib.hid (by rw [← dK_eq]; rfl)) (Lib.hid (by rw [← dK_eq])) (Lib.hid (by rw [← dK_eq])) (Lib.hid (by rw [← dI_eq]; rfl)) (Lib.hid (by rw [← dI_eq])) (Lib.hid (by rw [← dI_eq])) (Lib.hid (by rw [← dN_eq]; rfl)) (Lib.hid (by rw [← dN_eq])) (Lib.hid (by rw [← dN_eq])) (Lib.hid (by rw [← dS_eq]; rfl)) (Lib.hid (by rw [← dS_eq])) (Lib.hid (by rw [← dS_eq])) (Lib.hid (by rw [← dP_eq]; rfl)) (Lib.hid (by rw [← dP_eq])) (Lib.hid (by rw [← dP_eq])) (Lib.hid (by rw [← dQ_eq]; rfl)) (Lib.hid (by rw [← dQ_eq])) (Lib.hid (by rw [← dQ_eq])) (Lib.hid (by rw [← dL_eq]; rfl)) (Lib.hid (by rw [← dL_eq])) (Lib.hid (by rw [← dL_eq])) (Lib.hid (by rw [← dY_eq]; rfl)) (Lib.hid (by rw [← dY_eq])) (Lib.hid (by rw [← dY_eq])) (readQ_ok l) (dY_le l) hR
end Go.Proofs.YtjhfgajhmenboaaDoor
