/-
  Contracts: Of, Must, Back, and Asked of the document.
-/
import Derived.Test.YtdbaphmhfoajgaaCmdTwo
namespace Go.Proofs.Ytdbaphmhfoajgaa
open Go.RowKit
set_option linter.unusedVariables false
set_option linter.unusedSimpArgs false

set_option maxRecDepth 100000 in
set_option maxHeartbeats 1000000 in
theorem Of_withdrawal (i : Int) (w : World) :
    Calls Try.prog 15 #[.agg #[.iface 58 (.agg #[.int .i64 i])]] w fun e w' => e = .returned (.tuple #[.agg #[.int .i64 2, .int .i64 i, .int .i64 0, .int .i64 0, .int .i64 0, .int .i64 0, .int .i64 0, .int .i64 0, .string (str [])], .bool true]) ∧ Below w.heap.size w w' := by
  have a0 := as_wo
  have a1 := as_ww
  go_enter Try.func15, Try.ntmps15
  go_wp2_with fail
  (try simp only [Exit.inBlock, Exit.then])
  refine bodyPost_ret (results_cell_row_tmp rfl _ _ (w.heap.size + 1) 23 _ (0, 0) _ rfl ((heap_alloc_old _ _ (by simp; try omega)).trans ((heap_alloc_old _ _ (by simp; try omega)).trans (heap_alloc2_new w _ _))) rfl rfl rfl) rfl ?_
  exact ⟨rfl, ((((Below.refl _ w).alloc (Nat.le_refl _) _).alloc (by simp; try omega) _).alloc (by simp; try omega) _).alloc (by simp; try omega) _⟩
set_option maxRecDepth 100000 in
set_option maxHeartbeats 1000000 in
theorem Of_cut (i q : Int) (w : World) :
    Calls Try.prog 15 #[.agg #[.iface 42 (.agg #[.int .i64 i, .int .i64 q])]] w fun e w' => e = .returned (.tuple #[.agg #[.int .i64 3, .int .i64 i, .int .i64 0, .int .i64 0, .int .i64 0, .int .i64 q, .int .i64 0, .int .i64 0, .string (str [])], .bool true]) ∧ Below w.heap.size w w' := by
  have a0 := as_co
  have a1 := as_cw
  have a2 := as_cc
  go_enter Try.func15, Try.ntmps15
  go_wp2_with fail
  (try simp only [Exit.inBlock, Exit.then])
  refine bodyPost_ret (results_cell_row_tmp rfl _ _ (w.heap.size + 1) 23 _ (0, 0) _ rfl ((heap_alloc_old _ _ (by simp; try omega)).trans ((heap_alloc_old _ _ (by simp; try omega)).trans ((heap_alloc_old _ _ (by simp; try omega)).trans (heap_alloc2_new w _ _)))) rfl rfl rfl) rfl ?_
  exact ⟨rfl, (((((Below.refl _ w).alloc (Nat.le_refl _) _).alloc (by simp; try omega) _).alloc (by simp; try omega) _).alloc (by simp; try omega) _).alloc (by simp; try omega) _⟩
set_option maxRecDepth 100000 in
set_option maxHeartbeats 1000000 in
theorem Of_change (i p q : Int) (w : World) :
    Calls Try.prog 15 #[.agg #[.iface 45 (.agg #[.int .i64 i, .int .i64 p, .int .i64 q])]] w fun e w' => e = .returned (.tuple #[.agg #[.int .i64 4, .int .i64 i, .int .i64 0, .int .i64 0, .int .i64 p, .int .i64 q, .int .i64 0, .int .i64 0, .string (str [])], .bool true]) ∧ Below w.heap.size w w' := by
  have a0 := as_ho
  have a1 := as_hw
  have a2 := as_hc
  have a3 := as_hh
  go_enter Try.func15, Try.ntmps15
  go_wp2_with fail
  (try simp only [Exit.inBlock, Exit.then])
  refine bodyPost_ret (results_cell_row_tmp rfl _ _ (w.heap.size + 1) 23 _ (0, 0) _ rfl ((heap_alloc_old _ _ (by simp; try omega)).trans ((heap_alloc_old _ _ (by simp; try omega)).trans ((heap_alloc_old _ _ (by simp; try omega)).trans ((heap_alloc_old _ _ (by simp; try omega)).trans (heap_alloc2_new w _ _))))) rfl rfl rfl) rfl ?_
  exact ⟨rfl, ((((((Below.refl _ w).alloc (Nat.le_refl _) _).alloc (by simp; try omega) _).alloc (by simp; try omega) _).alloc (by simp; try omega) _).alloc (by simp; try omega) _).alloc (by simp; try omega) _⟩
set_option maxRecDepth 100000 in
set_option maxHeartbeats 1000000 in
theorem Of_none  (w : World) :
    Calls Try.prog 15 #[.agg #[.nilIface]] w fun e w' => e = .returned (.tuple #[.agg #[.int .i64 0, .int .i64 0, .int .i64 0, .int .i64 0, .int .i64 0, .int .i64 0, .int .i64 0, .int .i64 0, .string (str [])], .bool false]) ∧ Below w.heap.size w w' := by
  have a0 := as_no
  have a1 := as_nw
  have a2 := as_nc
  have a3 := as_nh
  go_enter Try.func15, Try.ntmps15
  go_wp2_with fail
  (try simp only [Exit.inBlock, Exit.then])
  refine bodyPost_ret (results_cell_row_tmp rfl _ _ (w.heap.size + 1) 23 _ (0, 0) _ rfl ((heap_alloc_old _ _ (by simp; try omega)).trans ((heap_alloc_old _ _ (by simp; try omega)).trans ((heap_alloc_old _ _ (by simp; try omega)).trans ((heap_alloc_old _ _ (by simp; try omega)).trans (heap_alloc2_new w _ _))))) rfl rfl rfl) rfl ?_
  exact ⟨rfl, ((((((Below.refl _ w).alloc (Nat.le_refl _) _).alloc (by simp; try omega) _).alloc (by simp; try omega) _).alloc (by simp; try omega) _).alloc (by simp; try omega) _).alloc (by simp; try omega) _⟩
set_option maxRecDepth 100000 in
set_option maxHeartbeats 1000000 in
theorem Of_order (i n s p q l t : Int) (S : List UInt8) (w : World) (hS : S.length ≤ 140737488355328) :
    Calls Try.prog 15 #[.agg #[.iface 48 (.agg #[.int .i64 i, .int .i64 n, .int .i64 s, .int .i64 p, .int .i64 q, .int .i64 l, .int .i64 t, .string (str S)])]] w fun e w' => e = .returned (.tuple #[.agg #[.int .i64 1, .int .i64 i, .int .i64 n, .int .i64 s, .int .i64 p, .int .i64 q, .int .i64 l, .int .i64 t, .string (str S)], .bool true]) ∧ Below w.heap.size w w' := by
  have a0 := as_oo
  go_enter Try.func15, Try.ntmps15
  go_wp2_with fail
  refine (OfOrder_any i n s p q l t S _ hS).mono ?_
  rintro e w1 ⟨rfl, hb⟩
  obtain ⟨h1, h2, h3⟩ := three_blocks hb
  have h3 := Lib.hid h3
  obtain ⟨fr0, fr1, fr2, fr3, fr4, fr5, fr6, fr7, fr8, k0, k1, k2, k3, k4, k5, k6, k7, k8⟩ := block9 h1
  clear hb
  go_wp2_with fail
  rw [set9 _ _ _ _ _ _ _ _ _ h1]
  (try simp only [Exit.inBlock, Exit.then])
  refine bodyPost_ret (results_cell_row_tmp rfl _ _ (w.heap.size + 1) 23 _ (0, 0) _ rfl (setRow_heap _ _ _ _ _ _ h1) rfl rfl rfl) rfl ?_
  exact ⟨rfl, below_setRow h3.out (show w.heap.size ≤ w.heap.size + 1 by omega) _⟩
theorem set8 {w : World} {g : Nat} {T : TypeId} {x0 x1 x2 x3 x4 x5 x6 x7 : Value} (v0 v1 v2 v3 v4 v5 v6 v7 : Value) (h : w.heap[g]? = some (.cells #[x0, x1, x2, x3, x4, x5, x6, x7] T (0, 0))) :
    ((((((((w.setCell ⟨g, 0, none⟩ v0).setCell ⟨g, 1, none⟩ v1).setCell ⟨g, 2, none⟩ v2).setCell ⟨g, 3, none⟩ v3).setCell ⟨g, 4, none⟩ v4).setCell ⟨g, 5, none⟩ v5).setCell ⟨g, 6, none⟩ v6).setCell ⟨g, 7, none⟩ v7) = w.setRow g #[v0, v1, v2, v3, v4, v5, v6, v7] := by
  have s1 : (w.setCell ⟨g, 0, none⟩ v0) = w.setRow g #[v0, x1, x2, x3, x4, x5, x6, x7] := by
    rw [setCell_eq_setRow w g 0 _ T (0, 0) v0 h]; rfl
  have s2 : ((w.setCell ⟨g, 0, none⟩ v0).setCell ⟨g, 1, none⟩ v1) = w.setRow g #[v0, v1, x2, x3, x4, x5, x6, x7] := by
    rw [s1, setCell_eq_setRow _ g 1 _ T (0, 0) v1 (setRow_heap w g _ #[v0, x1, x2, x3, x4, x5, x6, x7] T (0, 0) h), setRow_setRow]; rfl
  have s3 : (((w.setCell ⟨g, 0, none⟩ v0).setCell ⟨g, 1, none⟩ v1).setCell ⟨g, 2, none⟩ v2) = w.setRow g #[v0, v1, v2, x3, x4, x5, x6, x7] := by
    rw [s2, setCell_eq_setRow _ g 2 _ T (0, 0) v2 (setRow_heap w g _ #[v0, v1, x2, x3, x4, x5, x6, x7] T (0, 0) h), setRow_setRow]; rfl
  have s4 : ((((w.setCell ⟨g, 0, none⟩ v0).setCell ⟨g, 1, none⟩ v1).setCell ⟨g, 2, none⟩ v2).setCell ⟨g, 3, none⟩ v3) = w.setRow g #[v0, v1, v2, v3, x4, x5, x6, x7] := by
    rw [s3, setCell_eq_setRow _ g 3 _ T (0, 0) v3 (setRow_heap w g _ #[v0, v1, v2, x3, x4, x5, x6, x7] T (0, 0) h), setRow_setRow]; rfl
  have s5 : (((((w.setCell ⟨g, 0, none⟩ v0).setCell ⟨g, 1, none⟩ v1).setCell ⟨g, 2, none⟩ v2).setCell ⟨g, 3, none⟩ v3).setCell ⟨g, 4, none⟩ v4) = w.setRow g #[v0, v1, v2, v3, v4, x5, x6, x7] := by
    rw [s4, setCell_eq_setRow _ g 4 _ T (0, 0) v4 (setRow_heap w g _ #[v0, v1, v2, v3, x4, x5, x6, x7] T (0, 0) h), setRow_setRow]; rfl
  have s6 : ((((((w.setCell ⟨g, 0, none⟩ v0).setCell ⟨g, 1, none⟩ v1).setCell ⟨g, 2, none⟩ v2).setCell ⟨g, 3, none⟩ v3).setCell ⟨g, 4, none⟩ v4).setCell ⟨g, 5, none⟩ v5) = w.setRow g #[v0, v1, v2, v3, v4, v5, x6, x7] := by
    rw [s5, setCell_eq_setRow _ g 5 _ T (0, 0) v5 (setRow_heap w g _ #[v0, v1, v2, v3, v4, x5, x6, x7] T (0, 0) h), setRow_setRow]; rfl
  have s7 : (((((((w.setCell ⟨g, 0, none⟩ v0).setCell ⟨g, 1, none⟩ v1).setCell ⟨g, 2, none⟩ v2).setCell ⟨g, 3, none⟩ v3).setCell ⟨g, 4, none⟩ v4).setCell ⟨g, 5, none⟩ v5).setCell ⟨g, 6, none⟩ v6) = w.setRow g #[v0, v1, v2, v3, v4, v5, v6, x7] := by
    rw [s6, setCell_eq_setRow _ g 6 _ T (0, 0) v6 (setRow_heap w g _ #[v0, v1, v2, v3, v4, v5, x6, x7] T (0, 0) h), setRow_setRow]; rfl
  have s8 : ((((((((w.setCell ⟨g, 0, none⟩ v0).setCell ⟨g, 1, none⟩ v1).setCell ⟨g, 2, none⟩ v2).setCell ⟨g, 3, none⟩ v3).setCell ⟨g, 4, none⟩ v4).setCell ⟨g, 5, none⟩ v5).setCell ⟨g, 6, none⟩ v6).setCell ⟨g, 7, none⟩ v7) = w.setRow g #[v0, v1, v2, v3, v4, v5, v6, v7] := by
    rw [s7, setCell_eq_setRow _ g 7 _ T (0, 0) v7 (setRow_heap w g _ #[v0, v1, v2, v3, v4, v5, v6, x7] T (0, 0) h), setRow_setRow]; rfl
  exact s8
theorem block8 {w : World} {g : Nat} {T : TypeId} {x0 x1 x2 x3 x4 x5 x6 x7 : Value} (h : w.heap[g]? = some (.cells #[x0, x1, x2, x3, x4, x5, x6, x7] T (0, 0))) :
    w.frozen? ⟨g, 0, none⟩ = false ∧ w.frozen? ⟨g, 1, none⟩ = false ∧ w.frozen? ⟨g, 2, none⟩ = false ∧ w.frozen? ⟨g, 3, none⟩ = false ∧ w.frozen? ⟨g, 4, none⟩ = false ∧ w.frozen? ⟨g, 5, none⟩ = false ∧ w.frozen? ⟨g, 6, none⟩ = false ∧ w.frozen? ⟨g, 7, none⟩ = false ∧ w.cell? ⟨g, 0, none⟩ = some x0 ∧ w.cell? ⟨g, 1, none⟩ = some x1 ∧ w.cell? ⟨g, 2, none⟩ = some x2 ∧ w.cell? ⟨g, 3, none⟩ = some x3 ∧ w.cell? ⟨g, 4, none⟩ = some x4 ∧ w.cell? ⟨g, 5, none⟩ = some x5 ∧ w.cell? ⟨g, 6, none⟩ = some x6 ∧ w.cell? ⟨g, 7, none⟩ = some x7 := by
  refine ⟨Lib.frozen_of_heap h 0, Lib.frozen_of_heap h 1, Lib.frozen_of_heap h 2, Lib.frozen_of_heap h 3, Lib.frozen_of_heap h 4, Lib.frozen_of_heap h 5, Lib.frozen_of_heap h 6, Lib.frozen_of_heap h 7, ?_, ?_, ?_, ?_, ?_, ?_, ?_, ?_⟩ <;> (rw [Lib.cell_of_heap h]; rfl)
set_option maxRecDepth 100000 in
set_option maxHeartbeats 1000000 in
theorem Must_any (i n s p q l t : Int) (S : List UInt8) (w : World) (hS : S.length ≤ 140737488355328) :
    Calls Try.prog 20 #[.agg #[.iface 48 (.agg #[.int .i64 i, .int .i64 n, .int .i64 s, .int .i64 p, .int .i64 q, .int .i64 l, .int .i64 t, .string (str S)])]] w fun e w' => e = .returned (.agg #[.int .i64 i, .int .i64 n, .int .i64 s, .int .i64 p, .int .i64 q, .int .i64 l, .int .i64 t, .string (str S)]) ∧ Below w.heap.size w w' := by
  have a0 := as_must
  go_enter Try.func20, Try.ntmps20
  go_wp2_with fail
  refine (Clone_any S _ hS).mono ?_
  rintro e w1 ⟨rfl, hb⟩
  obtain ⟨h1, h2, h3⟩ := three_blocks hb
  have h3 := Lib.hid h3
  obtain ⟨fr0, fr1, fr2, fr3, fr4, fr5, fr6, fr7, k0, k1, k2, k3, k4, k5, k6, k7⟩ := block8 h1
  obtain ⟨gr0, gr1, gr2, gr3, gr4, gr5, gr6, gr7, m0, m1, m2, m3, m4, m5, m6, m7⟩ := block8 h2
  have es := Lib.hid (set_same (j := 7) (v := .string (str S)) h2 rfl)
  clear hb
  go_upto_region 3 with (fail)
  rw [es.out]
  go_wp2_with fail
  rw [set8 _ _ _ _ _ _ _ _ h1]
  (try simp only [Exit.inBlock, Exit.then])
  refine bodyPost_ret (results_cell_row rfl _ _ (w.heap.size + 1) 48 _ (0, 0) _ rfl (setRow_heap _ _ _ _ _ _ h1) rfl rfl rfl) rfl ?_
  exact ⟨rfl, below_setRow h3.out (show w.heap.size ≤ w.heap.size + 1 by omega) _⟩
set_option maxRecDepth 100000 in
set_option maxHeartbeats 1000000 in
theorem Back_1 (i n s p q l t : Int) (S : List UInt8) (w : World) (hS : S.length ≤ 140737488355328) :
    Calls Try.prog 24 #[.agg #[.int .i64 1, .int .i64 i, .int .i64 n, .int .i64 s, .int .i64 p, .int .i64 q, .int .i64 l, .int .i64 t, .string (str S)]] w fun e w' => e = .returned (.agg #[.iface 48 (.agg #[.int .i64 i, .int .i64 n, .int .i64 s, .int .i64 p, .int .i64 q, .int .i64 l, .int .i64 t, .string (str S)])]) ∧ Below w.heap.size w w' := by
  go_enter Try.func24, Try.ntmps24
  go_wp2_with fail
  refine (ToOrder_any 1 i n s p q l t S _).mono ?_
  rintro e w0 ⟨rfl, hb0⟩
  have hb0 := Lib.hid hb0
  go_wp2_with fail
  refine (Order_any i n s p q l t S _ hS).mono ?_
  rintro e w1 ⟨rfl, hb1⟩
  have hb := hb0.out.trans (hb1.mono hb0.out.size)
  clear hb1
  obtain ⟨h1, h2, h3⟩ := two_blocks hb
  have h3 := Lib.hid h3
  have f2 : w1.frozen? ⟨w.heap.size + 1, 0, none⟩ = false := Lib.frozen_of_heap h2 0
  have c2 : w1.cell? ⟨w.heap.size + 1, 0, none⟩ = some .nilIface := by rw [Lib.cell_of_heap h2]; rfl
  clear hb
  go_wp2_with fail
  (try simp only [Exit.inBlock, Exit.then])
  refine bodyPost_ret (results_cell_row rfl _ _ (w.heap.size + 1) 39 _ (0, 0) _ rfl (heap_setCell_same w1 _ 0 _ _ _ h2) rfl rfl rfl) rfl ?_
  exact ⟨rfl, h3.out.setCell (p := ⟨w.heap.size + 1, 0, none⟩) (show w.heap.size ≤ w.heap.size + 1 by omega) _⟩
set_option maxRecDepth 100000 in
set_option maxHeartbeats 1000000 in
theorem Back_2 (i n s p q l t : Int) (S : List UInt8) (w : World) (hS : S.length ≤ 140737488355328) :
    Calls Try.prog 24 #[.agg #[.int .i64 2, .int .i64 i, .int .i64 n, .int .i64 s, .int .i64 p, .int .i64 q, .int .i64 l, .int .i64 t, .string (str S)]] w fun e w' => e = .returned (.agg #[.iface 58 (.agg #[.int .i64 i])]) ∧ Below w.heap.size w w' := by
  go_enter Try.func24, Try.ntmps24
  go_wp2_with fail
  refine (Withdrawal_any i _).mono ?_
  rintro e w1 ⟨rfl, hb⟩
  obtain ⟨h1, h2, h3⟩ := two_blocks hb
  have h3 := Lib.hid h3
  have f2 : w1.frozen? ⟨w.heap.size + 1, 0, none⟩ = false := Lib.frozen_of_heap h2 0
  have c2 : w1.cell? ⟨w.heap.size + 1, 0, none⟩ = some .nilIface := by rw [Lib.cell_of_heap h2]; rfl
  clear hb
  go_wp2_with fail
  (try simp only [Exit.inBlock, Exit.then])
  refine bodyPost_ret (results_cell_row rfl _ _ (w.heap.size + 1) 39 _ (0, 0) _ rfl (heap_setCell_same w1 _ 0 _ _ _ h2) rfl rfl rfl) rfl ?_
  exact ⟨rfl, h3.out.setCell (p := ⟨w.heap.size + 1, 0, none⟩) (show w.heap.size ≤ w.heap.size + 1 by omega) _⟩
set_option maxRecDepth 100000 in
set_option maxHeartbeats 1000000 in
theorem Back_3 (i n s p q l t : Int) (S : List UInt8) (w : World) (hS : S.length ≤ 140737488355328) :
    Calls Try.prog 24 #[.agg #[.int .i64 3, .int .i64 i, .int .i64 n, .int .i64 s, .int .i64 p, .int .i64 q, .int .i64 l, .int .i64 t, .string (str S)]] w fun e w' => e = .returned (.agg #[.iface 42 (.agg #[.int .i64 i, .int .i64 q])]) ∧ Below w.heap.size w w' := by
  go_enter Try.func24, Try.ntmps24
  go_wp2_with fail
  refine (VCut_any i q _).mono ?_
  rintro e w1 ⟨rfl, hb⟩
  obtain ⟨h1, h2, h3⟩ := two_blocks hb
  have h3 := Lib.hid h3
  have f2 : w1.frozen? ⟨w.heap.size + 1, 0, none⟩ = false := Lib.frozen_of_heap h2 0
  have c2 : w1.cell? ⟨w.heap.size + 1, 0, none⟩ = some .nilIface := by rw [Lib.cell_of_heap h2]; rfl
  clear hb
  go_wp2_with fail
  (try simp only [Exit.inBlock, Exit.then])
  refine bodyPost_ret (results_cell_row rfl _ _ (w.heap.size + 1) 39 _ (0, 0) _ rfl (heap_setCell_same w1 _ 0 _ _ _ h2) rfl rfl rfl) rfl ?_
  exact ⟨rfl, h3.out.setCell (p := ⟨w.heap.size + 1, 0, none⟩) (show w.heap.size ≤ w.heap.size + 1 by omega) _⟩
set_option maxRecDepth 100000 in
set_option maxHeartbeats 1000000 in
theorem Back_4 (i n s p q l t : Int) (S : List UInt8) (w : World) (hS : S.length ≤ 140737488355328) :
    Calls Try.prog 24 #[.agg #[.int .i64 4, .int .i64 i, .int .i64 n, .int .i64 s, .int .i64 p, .int .i64 q, .int .i64 l, .int .i64 t, .string (str S)]] w fun e w' => e = .returned (.agg #[.iface 45 (.agg #[.int .i64 i, .int .i64 p, .int .i64 q])]) ∧ Below w.heap.size w w' := by
  go_enter Try.func24, Try.ntmps24
  go_wp2_with fail
  refine (Change_any i p q _).mono ?_
  rintro e w1 ⟨rfl, hb⟩
  obtain ⟨h1, h2, h3⟩ := two_blocks hb
  have h3 := Lib.hid h3
  have f2 : w1.frozen? ⟨w.heap.size + 1, 0, none⟩ = false := Lib.frozen_of_heap h2 0
  have c2 : w1.cell? ⟨w.heap.size + 1, 0, none⟩ = some .nilIface := by rw [Lib.cell_of_heap h2]; rfl
  clear hb
  go_wp2_with fail
  (try simp only [Exit.inBlock, Exit.then])
  refine bodyPost_ret (results_cell_row rfl _ _ (w.heap.size + 1) 39 _ (0, 0) _ rfl (heap_setCell_same w1 _ 0 _ _ _ h2) rfl rfl rfl) rfl ?_
  exact ⟨rfl, h3.out.setCell (p := ⟨w.heap.size + 1, 0, none⟩) (show w.heap.size ≤ w.heap.size + 1 by omega) _⟩
set_option maxRecDepth 100000 in
set_option maxHeartbeats 1000000 in
theorem Back_none (k i n s p q l t : Int) (S : List UInt8) (w : World) (h1 : k ≠ 1) (h2 : k ≠ 2) (h3 : k ≠ 3) (h4 : k ≠ 4) :
    Calls Try.prog 24 #[.agg #[.int .i64 k, .int .i64 i, .int .i64 n, .int .i64 s, .int .i64 p, .int .i64 q, .int .i64 l, .int .i64 t, .string (str S)]] w fun e w' => e = .returned (.agg #[.nilIface]) ∧ Below w.heap.size w w' := by
  have j1 : (k == 1) = false := by simpa using h1
  have j2 : (k == 2) = false := by simpa using h2
  have j3 : (k == 3) = false := by simpa using h3
  have j4 : (k == 4) = false := by simpa using h4
  clear h1 h2 h3 h4
  go_enter Try.func24, Try.ntmps24
  go_wp2_with fail
  (try simp only [Exit.inBlock, Exit.then])
  refine bodyPost_ret (results_cell_row rfl _ _ (w.heap.size + 1) 39 _ (0, 0) _ rfl (heap_alloc2_new w _ _) rfl rfl rfl) rfl ?_
  exact ⟨rfl, ((Below.refl _ w).alloc (Nat.le_refl _) _).alloc (by simp; try omega) _⟩
/-- What a command asks. -/
def askedC (c : C) : C :=
  if c.k = 1 then c else if c.k = 2 then ⟨c.k, c.i, 0, 0, 0, 0, 0, 0, []⟩ else if c.k = 3 then ⟨c.k, c.i, 0, 0, 0, c.q, 0, 0, []⟩ else if c.k = 4 then ⟨c.k, c.i, 0, 0, c.p, c.q, 0, 0, []⟩ else ⟨0, 0, 0, 0, 0, 0, 0, 0, []⟩
set_option maxRecDepth 100000 in
set_option maxHeartbeats 1000000 in
theorem Asked_1 (i n s p q l t : Int) (S : List UInt8) (w : World) :
    Calls Try.prog 26 #[.agg #[.int .i64 1, .int .i64 i, .int .i64 n, .int .i64 s, .int .i64 p, .int .i64 q, .int .i64 l, .int .i64 t, .string (str S)]] w fun e w' => e = .returned (.agg #[.int .i64 1, .int .i64 i, .int .i64 n, .int .i64 s, .int .i64 p, .int .i64 q, .int .i64 l, .int .i64 t, .string (str S)]) ∧ Below w.heap.size w w' := by
  go_enter Try.func26, Try.ntmps26
  go_wp2_with fail
  (try simp only [Exit.inBlock, Exit.then])
  refine bodyPost_ret (results_cell_row rfl _ _ (w.heap.size + 1) 23 _ (0, 0) _ rfl (heap_alloc2_new w _ _) rfl rfl rfl) rfl ?_
  exact ⟨rfl, ((Below.refl _ w).alloc (Nat.le_refl _) _).alloc (by simp; try omega) _⟩
set_option maxRecDepth 100000 in
set_option maxHeartbeats 1000000 in
theorem Asked_2 (i n s p q l t : Int) (S : List UInt8) (w : World) :
    Calls Try.prog 26 #[.agg #[.int .i64 2, .int .i64 i, .int .i64 n, .int .i64 s, .int .i64 p, .int .i64 q, .int .i64 l, .int .i64 t, .string (str S)]] w fun e w' => e = .returned (.agg #[.int .i64 2, .int .i64 i, .int .i64 0, .int .i64 0, .int .i64 0, .int .i64 0, .int .i64 0, .int .i64 0, .string (str [])]) ∧ Below w.heap.size w w' := by
  go_enter Try.func26, Try.ntmps26
  go_wp2_with fail
  (try simp only [Exit.inBlock, Exit.then])
  refine bodyPost_ret (results_cell_row rfl _ _ (w.heap.size + 1) 23 _ (0, 0) _ rfl (heap_alloc2_new w _ _) rfl rfl rfl) rfl ?_
  exact ⟨rfl, ((Below.refl _ w).alloc (Nat.le_refl _) _).alloc (by simp; try omega) _⟩
set_option maxRecDepth 100000 in
set_option maxHeartbeats 1000000 in
theorem Asked_3 (i n s p q l t : Int) (S : List UInt8) (w : World) :
    Calls Try.prog 26 #[.agg #[.int .i64 3, .int .i64 i, .int .i64 n, .int .i64 s, .int .i64 p, .int .i64 q, .int .i64 l, .int .i64 t, .string (str S)]] w fun e w' => e = .returned (.agg #[.int .i64 3, .int .i64 i, .int .i64 0, .int .i64 0, .int .i64 0, .int .i64 q, .int .i64 0, .int .i64 0, .string (str [])]) ∧ Below w.heap.size w w' := by
  go_enter Try.func26, Try.ntmps26
  go_wp2_with fail
  (try simp only [Exit.inBlock, Exit.then])
  refine bodyPost_ret (results_cell_row rfl _ _ (w.heap.size + 1) 23 _ (0, 0) _ rfl (heap_alloc2_new w _ _) rfl rfl rfl) rfl ?_
  exact ⟨rfl, ((Below.refl _ w).alloc (Nat.le_refl _) _).alloc (by simp; try omega) _⟩
set_option maxRecDepth 100000 in
set_option maxHeartbeats 1000000 in
theorem Asked_4 (i n s p q l t : Int) (S : List UInt8) (w : World) :
    Calls Try.prog 26 #[.agg #[.int .i64 4, .int .i64 i, .int .i64 n, .int .i64 s, .int .i64 p, .int .i64 q, .int .i64 l, .int .i64 t, .string (str S)]] w fun e w' => e = .returned (.agg #[.int .i64 4, .int .i64 i, .int .i64 0, .int .i64 0, .int .i64 p, .int .i64 q, .int .i64 0, .int .i64 0, .string (str [])]) ∧ Below w.heap.size w w' := by
  go_enter Try.func26, Try.ntmps26
  go_wp2_with fail
  (try simp only [Exit.inBlock, Exit.then])
  refine bodyPost_ret (results_cell_row rfl _ _ (w.heap.size + 1) 23 _ (0, 0) _ rfl (heap_alloc2_new w _ _) rfl rfl rfl) rfl ?_
  exact ⟨rfl, ((Below.refl _ w).alloc (Nat.le_refl _) _).alloc (by simp; try omega) _⟩
set_option maxRecDepth 100000 in
set_option maxHeartbeats 1000000 in
theorem Asked_none (k i n s p q l t : Int) (S : List UInt8) (w : World) (h1 : k ≠ 1) (h2 : k ≠ 2) (h3 : k ≠ 3) (h4 : k ≠ 4) :
    Calls Try.prog 26 #[.agg #[.int .i64 k, .int .i64 i, .int .i64 n, .int .i64 s, .int .i64 p, .int .i64 q, .int .i64 l, .int .i64 t, .string (str S)]] w fun e w' => e = .returned (.agg #[.int .i64 0, .int .i64 0, .int .i64 0, .int .i64 0, .int .i64 0, .int .i64 0, .int .i64 0, .int .i64 0, .string (str [])]) ∧ Below w.heap.size w w' := by
  have j1 : (k == 1) = false := by simpa using h1
  have j2 : (k == 2) = false := by simpa using h2
  have j3 : (k == 3) = false := by simpa using h3
  have j4 : (k == 4) = false := by simpa using h4
  clear h1 h2 h3 h4
  go_enter Try.func26, Try.ntmps26
  go_wp2_with fail
  (try simp only [Exit.inBlock, Exit.then])
  refine bodyPost_ret (results_cell_row rfl _ _ (w.heap.size + 1) 23 _ (0, 0) _ rfl (heap_alloc2_new w _ _) rfl rfl rfl) rfl ?_
  exact ⟨rfl, ((Below.refl _ w).alloc (Nat.le_refl _) _).alloc (by simp; try omega) _⟩
theorem Asked_any (c : C) (w : World) :
    Calls Try.prog 26 #[c.val] w fun e w' => e = .returned (askedC c).val ∧ Below w.heap.size w w' := by
  obtain ⟨k, i, n, s, p, q, l, t, S⟩ := c
  by_cases h1 : k = 1
  · subst h1
    rw [show askedC ⟨1, i, n, s, p, q, l, t, S⟩ = ⟨1, i, n, s, p, q, l, t, S⟩ by simp [askedC]]; exact Asked_1 i n s p q l t S w
  · by_cases h2 : k = 2
    · subst h2
      rw [show askedC ⟨2, i, n, s, p, q, l, t, S⟩ = ⟨2, i, 0, 0, 0, 0, 0, 0, []⟩ by simp [askedC]]; exact Asked_2 i n s p q l t S w
    · by_cases h3 : k = 3
      · subst h3
        rw [show askedC ⟨3, i, n, s, p, q, l, t, S⟩ = ⟨3, i, 0, 0, 0, q, 0, 0, []⟩ by simp [askedC]]; exact Asked_3 i n s p q l t S w
      · by_cases h4 : k = 4
        · subst h4
          rw [show askedC ⟨4, i, n, s, p, q, l, t, S⟩ = ⟨4, i, 0, 0, p, q, 0, 0, []⟩ by simp [askedC]]; exact Asked_4 i n s p q l t S w
        · rw [show askedC ⟨k, i, n, s, p, q, l, t, S⟩ = ⟨0, 0, 0, 0, 0, 0, 0, 0, []⟩ by simp [askedC, h1, h2, h3, h4]]; exact Asked_none k i n s p q l t S w h1 h2 h3 h4
end Go.Proofs.Ytdbaphmhfoajgaa
