/-
  Contract: Decode, of the program.
-/
import Derived.Test.YtjhfgajhmenboaaDoorRepRead
import Derived.Test.YtjhfgajhmenboaaDoorRepRight
namespace Go.Proofs.YtjhfgajhmenboaaDoor
open Go.RowKit
set_option linter.unusedVariables false
set_option linter.unusedSimpArgs false

set_option maxRecDepth 100000 in
set_option maxHeartbeats 1000000 in
theorem PDec_end (A : Option Addr) (n0 cap : Nat) (L : List UInt8) (w : World) (hn : n0 ≤ 140737488355328) (h : Hid (HB w A n0 L)) (hE : rdEnd L (readP L).1 (readP L).2 ≠ 0) :
    Calls Tryd.prog 19 #[.slice A n0 cap] w fun e w' => e = .returned (.tuple #[zeroQ.val, .int .i64 12]) ∧ Below w.heap.size w w' := by
  obtain ⟨w0, ew⟩ : ∃ W, w.alloc (.cells #[.int .i64 0, .int .i64 0, .int .i64 0, .int .i64 0, .int .i64 0, .int .i64 0, .int .i64 0, .int .i64 0] 25) = W := ⟨_, rfl⟩
  have S0 : Hid (HB w0 A n0 L) := Lib.hid (by rw [← ew]; exact h.out.alloc _)
  have B0 : Hid (Below w.heap.size w w0) := Lib.hid (by rw [← ew]; exact (Below.refl _ w).alloc (Nat.le_refl _) _)
  have H0 : Hid (w0.heap[w.heap.size]? = some (.cells #[.int .i64 0, .int .i64 0, .int .i64 0, .int .i64 0, .int .i64 0, .int .i64 0, .int .i64 0, .int .i64 0] 25 (0, 0))) := Lib.hid (by rw [← ew]; exact heap_alloc_new w _)
  replace ew := Lib.hid ew
  obtain ⟨rb, erb⟩ : ∃ rb, w.heap.size = rb := ⟨_, rfl⟩
  rw [erb] at H0
  replace erb := Lib.hid erb
  have hrw : w.heap.size ≤ rb := by have := erb.out; omega
  have hE := Lib.hid hE
  
  go_enter Tryd.func19, Tryd.ntmps19
  go_wp2_with fail
  rw [ew.out, erb.out]
  refine (NewReader_any A n0 cap L w0 hn S0).mono ?_
  rintro e w1 ⟨c, g, rfl, P1, hg0, hgc, b1⟩
  have hr0 := (Array.getElem?_eq_some_iff.1 H0.out).1
  have hrc : rb < c := by omega
  have hc1 : w.heap.size ≤ c := by omega
  have H1 := Lib.hid ((b1.block rb hr0).trans H0.out)
  have B1 := Lib.hid (B0.out.trans (b1.mono B0.out.size))
  have P1 := Lib.hid P1
  clear b1 S0 H0 B0 ew h
  go_wp2_with fail
  refine (PRead_any c g L w1 P1 hgc).mono ?_
  rintro e w3 ⟨rfl, P3, O3⟩
  have H3 := Lib.hid ((O3.block rb (Array.getElem?_eq_some_iff.1 H1.out).1 (fun e => by have e : rb = c := e; omega)).trans H1.out)
  have B3 := Lib.hid (B1.out.trans (O3.below B1.out.size (fun j hj e => by have e : j = c := e; omega)))
  have P3 := Lib.hid P3
  clear P1 H1 B1 O3
  obtain ⟨bv, ebv⟩ : ∃ v, readQ L = v := ⟨_, rfl⟩
  rw [ebv]
  
  replace ebv := Lib.hid ebv
  obtain ⟨k, i, n, s, p, q, l, y⟩ := bv
  rw [show (Q.mk k i n s p q l y).val = .agg #[.int .i64 k, .int .i64 i, .int .i64 n, .int .i64 s, .int .i64 p, .int .i64 q, .int .i64 l, .int .i64 y] from rfl]
  go_upto_region 3 with (fail)
  obtain ⟨w4, ew4⟩ : ∃ W, w3.alloc (.cells #[.int .i64 k, .int .i64 i, .int .i64 n, .int .i64 s, .int .i64 p, .int .i64 q, .int .i64 l, .int .i64 y] 25) = W := ⟨_, rfl⟩
  obtain ⟨cb, ecb⟩ : ∃ cb, w3.heap.size = cb := ⟨_, rfl⟩
  have hr3 := (Array.getElem?_eq_some_iff.1 H3.out).1
  have H4 : Hid (w4.heap[rb]? = some (.cells #[.int .i64 0, .int .i64 0, .int .i64 0, .int .i64 0, .int .i64 0, .int .i64 0, .int .i64 0, .int .i64 0] 25 (0, 0))) := Lib.hid (by rw [← ew4]; exact (heap_alloc_old _ _ hr3).trans H3.out)
  have C4 : Hid (w4.heap[cb]? = some (.cells #[.int .i64 k, .int .i64 i, .int .i64 n, .int .i64 s, .int .i64 p, .int .i64 q, .int .i64 l, .int .i64 y] 25 (0, 0))) := Lib.hid (by rw [← ew4, ← ecb]; exact heap_alloc_new w3 _)
  have B4 : Hid (Below w.heap.size w w4) := Lib.hid (by rw [← ew4]; exact B3.out.alloc B3.out.size _)
  have P4 : Hid (PR c g L (readP L).1 (readP L).2 w4) := Lib.hid (by rw [← ew4]; exact P3.out.only (alloc_only w3 _) (fun e => e) (fun e => e))
  show Code.wp _ _ _ _ (w3.alloc (.cells #[.int .i64 k, .int .i64 i, .int .i64 n, .int .i64 s, .int .i64 p, .int .i64 q, .int .i64 l, .int .i64 y] 25))
  rw [ew4, ecb]
  clear H3 B3 P3 ew4 ecb hr3
  go_wp2_with fail
  refine (PEnd_any c g L (readP L).1 (readP L).2 w4 P4).mono ?_
  rintro e w4 ⟨rfl, rfl⟩
  obtain ⟨E, eE⟩ : ∃ E, rdEnd L (readP L).1 (readP L).2 = E := ⟨_, rfl⟩
  rw [eE] at hE ⊢
  have i1 : ((E : Int) != 0) = true := by have := hE.out; simp; omega
  clear eE hE C4 P4
  obtain ⟨fr0, fr1, fr2, fr3, fr4, fr5, fr6, fr7, m0, m1, m2, m3, m4, m5, m6, m7⟩ := block8 H4.out
  go_wp2_with fail
  rw [set8 _ _ _ _ _ _ _ _ H4.out]
  (try simp only [Exit.inBlock, Exit.then])
  refine bodyPost_ret (results_cell_row_tmp rfl _ _ (rb) 25 _ (0, 0) _ rfl (setRow_heap _ _ _ _ _ _ H4.out) rfl rfl rfl) rfl ?_
  exact ⟨rfl, below_setRow B4.out hrw _⟩
set_option maxRecDepth 100000 in
set_option maxHeartbeats 1000000 in
theorem PDec_right (A : Option Addr) (n0 cap : Nat) (L : List UInt8) (w : World) (hn : n0 ≤ 140737488355328) (h : Hid (HB w A n0 L)) (hE : rdEnd L (readP L).1 (readP L).2 = 0) (hR : ¬ (readQ L).Right) :
    Calls Tryd.prog 19 #[.slice A n0 cap] w fun e w' => e = .returned (.tuple #[zeroQ.val, .int .i64 12]) ∧ Below w.heap.size w w' := by
  obtain ⟨w0, ew⟩ : ∃ W, w.alloc (.cells #[.int .i64 0, .int .i64 0, .int .i64 0, .int .i64 0, .int .i64 0, .int .i64 0, .int .i64 0, .int .i64 0] 25) = W := ⟨_, rfl⟩
  have S0 : Hid (HB w0 A n0 L) := Lib.hid (by rw [← ew]; exact h.out.alloc _)
  have B0 : Hid (Below w.heap.size w w0) := Lib.hid (by rw [← ew]; exact (Below.refl _ w).alloc (Nat.le_refl _) _)
  have H0 : Hid (w0.heap[w.heap.size]? = some (.cells #[.int .i64 0, .int .i64 0, .int .i64 0, .int .i64 0, .int .i64 0, .int .i64 0, .int .i64 0, .int .i64 0] 25 (0, 0))) := Lib.hid (by rw [← ew]; exact heap_alloc_new w _)
  replace ew := Lib.hid ew
  obtain ⟨rb, erb⟩ : ∃ rb, w.heap.size = rb := ⟨_, rfl⟩
  rw [erb] at H0
  replace erb := Lib.hid erb
  have hrw : w.heap.size ≤ rb := by have := erb.out; omega
  have hE := Lib.hid hE
  have hR := Lib.hid (decide_eq_false hR)
  go_enter Tryd.func19, Tryd.ntmps19
  go_wp2_with fail
  rw [ew.out, erb.out]
  refine (NewReader_any A n0 cap L w0 hn S0).mono ?_
  rintro e w1 ⟨c, g, rfl, P1, hg0, hgc, b1⟩
  have hr0 := (Array.getElem?_eq_some_iff.1 H0.out).1
  have hrc : rb < c := by omega
  have hc1 : w.heap.size ≤ c := by omega
  have H1 := Lib.hid ((b1.block rb hr0).trans H0.out)
  have B1 := Lib.hid (B0.out.trans (b1.mono B0.out.size))
  have P1 := Lib.hid P1
  clear b1 S0 H0 B0 ew h
  go_wp2_with fail
  refine (PRead_any c g L w1 P1 hgc).mono ?_
  rintro e w3 ⟨rfl, P3, O3⟩
  have H3 := Lib.hid ((O3.block rb (Array.getElem?_eq_some_iff.1 H1.out).1 (fun e => by have e : rb = c := e; omega)).trans H1.out)
  have B3 := Lib.hid (B1.out.trans (O3.below B1.out.size (fun j hj e => by have e : j = c := e; omega)))
  have P3 := Lib.hid P3
  clear P1 H1 B1 O3
  obtain ⟨bv, ebv⟩ : ∃ v, readQ L = v := ⟨_, rfl⟩
  rw [ebv]
  rw [ebv] at hR
  replace ebv := Lib.hid ebv
  obtain ⟨k, i, n, s, p, q, l, y⟩ := bv
  rw [show (Q.mk k i n s p q l y).val = .agg #[.int .i64 k, .int .i64 i, .int .i64 n, .int .i64 s, .int .i64 p, .int .i64 q, .int .i64 l, .int .i64 y] from rfl]
  go_upto_region 3 with (fail)
  obtain ⟨w4, ew4⟩ : ∃ W, w3.alloc (.cells #[.int .i64 k, .int .i64 i, .int .i64 n, .int .i64 s, .int .i64 p, .int .i64 q, .int .i64 l, .int .i64 y] 25) = W := ⟨_, rfl⟩
  obtain ⟨cb, ecb⟩ : ∃ cb, w3.heap.size = cb := ⟨_, rfl⟩
  have hr3 := (Array.getElem?_eq_some_iff.1 H3.out).1
  have H4 : Hid (w4.heap[rb]? = some (.cells #[.int .i64 0, .int .i64 0, .int .i64 0, .int .i64 0, .int .i64 0, .int .i64 0, .int .i64 0, .int .i64 0] 25 (0, 0))) := Lib.hid (by rw [← ew4]; exact (heap_alloc_old _ _ hr3).trans H3.out)
  have C4 : Hid (w4.heap[cb]? = some (.cells #[.int .i64 k, .int .i64 i, .int .i64 n, .int .i64 s, .int .i64 p, .int .i64 q, .int .i64 l, .int .i64 y] 25 (0, 0))) := Lib.hid (by rw [← ew4, ← ecb]; exact heap_alloc_new w3 _)
  have B4 : Hid (Below w.heap.size w w4) := Lib.hid (by rw [← ew4]; exact B3.out.alloc B3.out.size _)
  have P4 : Hid (PR c g L (readP L).1 (readP L).2 w4) := Lib.hid (by rw [← ew4]; exact P3.out.only (alloc_only w3 _) (fun e => e) (fun e => e))
  show Code.wp _ _ _ _ (w3.alloc (.cells #[.int .i64 k, .int .i64 i, .int .i64 n, .int .i64 s, .int .i64 p, .int .i64 q, .int .i64 l, .int .i64 y] 25))
  rw [ew4, ecb]
  clear H3 B3 P3 ew4 ecb hr3
  go_wp2_with fail
  refine (PEnd_any c g L (readP L).1 (readP L).2 w4 P4).mono ?_
  rintro e w4 ⟨rfl, rfl⟩
  rw [hE.out]
  obtain ⟨j0, j1, j2, j3, j4, j5, j6, j7⟩ := rep_at C4.out
  go_wp2_with fail
  refine (PRight_any ⟨k, i, n, s, p, q, l, y⟩ w4).mono ?_
  rintro e w6 ⟨rfl, b6⟩
  rw [hR.out]
  have H6 := Lib.hid ((b6.block rb (Array.getElem?_eq_some_iff.1 H4.out).1).trans H4.out)
  have C6 := Lib.hid ((b6.block cb (Array.getElem?_eq_some_iff.1 C4.out).1).trans C4.out)
  have B6 := Lib.hid (B4.out.trans (b6.mono B4.out.size))
  clear j0 j1 j2 j3 j4 j5 j6 j7 b6 H4 C4 B4 P4
  obtain ⟨j0, j1, j2, j3, j4, j5, j6, j7⟩ := rep_at C6.out
  obtain ⟨fr0, fr1, fr2, fr3, fr4, fr5, fr6, fr7, m0, m1, m2, m3, m4, m5, m6, m7⟩ := block8 H6.out
  go_wp2_with fail
  rw [set8 _ _ _ _ _ _ _ _ H6.out]
  (try simp only [Exit.inBlock, Exit.then])
  refine bodyPost_ret (results_cell_row_tmp rfl _ _ (rb) 25 _ (0, 0) _ rfl (setRow_heap _ _ _ _ _ _ H6.out) rfl rfl rfl) rfl ?_
  exact ⟨rfl, below_setRow B6.out hrw _⟩
set_option maxRecDepth 100000 in
set_option maxHeartbeats 1000000 in
theorem PDec_ok (A : Option Addr) (n0 cap : Nat) (L : List UInt8) (w : World) (hn : n0 ≤ 140737488355328) (h : Hid (HB w A n0 L)) (hE : rdEnd L (readP L).1 (readP L).2 = 0) (hR : (readQ L).Right) :
    Calls Tryd.prog 19 #[.slice A n0 cap] w fun e w' => e = .returned (.tuple #[(readQ L).val, .int .i64 0]) ∧ Below w.heap.size w w' := by
  obtain ⟨w0, ew⟩ : ∃ W, w.alloc (.cells #[.int .i64 0, .int .i64 0, .int .i64 0, .int .i64 0, .int .i64 0, .int .i64 0, .int .i64 0, .int .i64 0] 25) = W := ⟨_, rfl⟩
  have S0 : Hid (HB w0 A n0 L) := Lib.hid (by rw [← ew]; exact h.out.alloc _)
  have B0 : Hid (Below w.heap.size w w0) := Lib.hid (by rw [← ew]; exact (Below.refl _ w).alloc (Nat.le_refl _) _)
  have H0 : Hid (w0.heap[w.heap.size]? = some (.cells #[.int .i64 0, .int .i64 0, .int .i64 0, .int .i64 0, .int .i64 0, .int .i64 0, .int .i64 0, .int .i64 0] 25 (0, 0))) := Lib.hid (by rw [← ew]; exact heap_alloc_new w _)
  replace ew := Lib.hid ew
  obtain ⟨rb, erb⟩ : ∃ rb, w.heap.size = rb := ⟨_, rfl⟩
  rw [erb] at H0
  replace erb := Lib.hid erb
  have hrw : w.heap.size ≤ rb := by have := erb.out; omega
  have hE := Lib.hid hE
  have hR := Lib.hid (decide_eq_true hR)
  go_enter Tryd.func19, Tryd.ntmps19
  go_wp2_with fail
  rw [ew.out, erb.out]
  refine (NewReader_any A n0 cap L w0 hn S0).mono ?_
  rintro e w1 ⟨c, g, rfl, P1, hg0, hgc, b1⟩
  have hr0 := (Array.getElem?_eq_some_iff.1 H0.out).1
  have hrc : rb < c := by omega
  have hc1 : w.heap.size ≤ c := by omega
  have H1 := Lib.hid ((b1.block rb hr0).trans H0.out)
  have B1 := Lib.hid (B0.out.trans (b1.mono B0.out.size))
  have P1 := Lib.hid P1
  clear b1 S0 H0 B0 ew h
  go_wp2_with fail
  refine (PRead_any c g L w1 P1 hgc).mono ?_
  rintro e w3 ⟨rfl, P3, O3⟩
  have H3 := Lib.hid ((O3.block rb (Array.getElem?_eq_some_iff.1 H1.out).1 (fun e => by have e : rb = c := e; omega)).trans H1.out)
  have B3 := Lib.hid (B1.out.trans (O3.below B1.out.size (fun j hj e => by have e : j = c := e; omega)))
  have P3 := Lib.hid P3
  clear P1 H1 B1 O3
  obtain ⟨bv, ebv⟩ : ∃ v, readQ L = v := ⟨_, rfl⟩
  rw [ebv]
  rw [ebv] at hR
  replace ebv := Lib.hid ebv
  obtain ⟨k, i, n, s, p, q, l, y⟩ := bv
  rw [show (Q.mk k i n s p q l y).val = .agg #[.int .i64 k, .int .i64 i, .int .i64 n, .int .i64 s, .int .i64 p, .int .i64 q, .int .i64 l, .int .i64 y] from rfl]
  go_upto_region 3 with (fail)
  obtain ⟨w4, ew4⟩ : ∃ W, w3.alloc (.cells #[.int .i64 k, .int .i64 i, .int .i64 n, .int .i64 s, .int .i64 p, .int .i64 q, .int .i64 l, .int .i64 y] 25) = W := ⟨_, rfl⟩
  obtain ⟨cb, ecb⟩ : ∃ cb, w3.heap.size = cb := ⟨_, rfl⟩
  have hr3 := (Array.getElem?_eq_some_iff.1 H3.out).1
  have H4 : Hid (w4.heap[rb]? = some (.cells #[.int .i64 0, .int .i64 0, .int .i64 0, .int .i64 0, .int .i64 0, .int .i64 0, .int .i64 0, .int .i64 0] 25 (0, 0))) := Lib.hid (by rw [← ew4]; exact (heap_alloc_old _ _ hr3).trans H3.out)
  have C4 : Hid (w4.heap[cb]? = some (.cells #[.int .i64 k, .int .i64 i, .int .i64 n, .int .i64 s, .int .i64 p, .int .i64 q, .int .i64 l, .int .i64 y] 25 (0, 0))) := Lib.hid (by rw [← ew4, ← ecb]; exact heap_alloc_new w3 _)
  have B4 : Hid (Below w.heap.size w w4) := Lib.hid (by rw [← ew4]; exact B3.out.alloc B3.out.size _)
  have P4 : Hid (PR c g L (readP L).1 (readP L).2 w4) := Lib.hid (by rw [← ew4]; exact P3.out.only (alloc_only w3 _) (fun e => e) (fun e => e))
  show Code.wp _ _ _ _ (w3.alloc (.cells #[.int .i64 k, .int .i64 i, .int .i64 n, .int .i64 s, .int .i64 p, .int .i64 q, .int .i64 l, .int .i64 y] 25))
  rw [ew4, ecb]
  clear H3 B3 P3 ew4 ecb hr3
  go_wp2_with fail
  refine (PEnd_any c g L (readP L).1 (readP L).2 w4 P4).mono ?_
  rintro e w4 ⟨rfl, rfl⟩
  rw [hE.out]
  obtain ⟨j0, j1, j2, j3, j4, j5, j6, j7⟩ := rep_at C4.out
  go_wp2_with fail
  refine (PRight_any ⟨k, i, n, s, p, q, l, y⟩ w4).mono ?_
  rintro e w6 ⟨rfl, b6⟩
  rw [hR.out]
  have H6 := Lib.hid ((b6.block rb (Array.getElem?_eq_some_iff.1 H4.out).1).trans H4.out)
  have C6 := Lib.hid ((b6.block cb (Array.getElem?_eq_some_iff.1 C4.out).1).trans C4.out)
  have B6 := Lib.hid (B4.out.trans (b6.mono B4.out.size))
  clear j0 j1 j2 j3 j4 j5 j6 j7 b6 H4 C4 B4 P4
  obtain ⟨j0, j1, j2, j3, j4, j5, j6, j7⟩ := rep_at C6.out
  obtain ⟨fr0, fr1, fr2, fr3, fr4, fr5, fr6, fr7, m0, m1, m2, m3, m4, m5, m6, m7⟩ := block8 H6.out
  go_wp2_with fail
  rw [set8 _ _ _ _ _ _ _ _ H6.out]
  (try simp only [Exit.inBlock, Exit.then])
  refine bodyPost_ret (results_cell_row_tmp rfl _ _ (rb) 25 _ (0, 0) _ rfl (setRow_heap _ _ _ _ _ _ H6.out) rfl rfl rfl) rfl ?_
  exact ⟨by rw [ebv.out]; rfl, below_setRow B6.out hrw _⟩
theorem PDecode_any (A : Option Addr) (n0 cap : Nat) (l : List UInt8) (w : World) (hn : n0 ≤ 140737488355328) (h : Hid (HB w A n0 l)) :
    Calls Tryd.prog 19 #[.slice A n0 cap] w fun e w' => e = .returned (.tuple #[(decQ l).val, .int .i64 (decE l)]) ∧ Below w.heap.size w w' := by
  by_cases hd : decOk l
  · rw [decQ_yes hd, decE_yes hd]
    exact PDec_ok A n0 cap l w hn h hd.1 hd.2
  · rw [decQ_no hd, decE_no hd]
    by_cases hE : rdEnd l (readP l).1 (readP l).2 = 0
    · exact PDec_right A n0 cap l w hn h hE (fun e => hd ⟨hE, e⟩)
    · exact PDec_end A n0 cap l w hn h hE
end Go.Proofs.YtjhfgajhmenboaaDoor
