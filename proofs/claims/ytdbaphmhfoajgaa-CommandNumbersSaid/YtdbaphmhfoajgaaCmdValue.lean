/-
  Contracts: Withdrawal, Cut, Change, Order; what a type assertion answers.
-/
import Derived.Test.YtdbaphmhfoajgaaCmd
namespace Go.Proofs.Ytdbaphmhfoajgaa
open Go.RowKit
set_option linter.unusedVariables false
set_option linter.unusedSimpArgs false

set_option maxRecDepth 100000 in
set_option maxHeartbeats 1000000 in
theorem Withdrawal_any (i : Int) (w : World) :
    Calls Try.prog 25 #[.agg #[.int .i64 i]] w fun e w' => e = .returned (.agg #[.iface 58 (.agg #[.int .i64 i])]) ∧ Below w.heap.size w w' := by
  go_enter Try.func25, Try.ntmps25
  go_wp2_with fail
  (try simp only [Exit.inBlock, Exit.then])
  refine bodyPost_ret (results_cell_row rfl _ _ (w.heap.size + 1) 39 _ (0, 0) _ rfl (heap_alloc2_new w _ _) rfl rfl rfl) rfl ?_
  exact ⟨rfl, ((Below.refl _ w).alloc (Nat.le_refl _) _).alloc (by simp) _⟩
set_option maxRecDepth 100000 in
set_option maxHeartbeats 1000000 in
theorem VCut_any (i q : Int) (w : World) :
    Calls Try.prog 16 #[.agg #[.int .i64 i, .int .i64 q]] w fun e w' => e = .returned (.agg #[.iface 42 (.agg #[.int .i64 i, .int .i64 q])]) ∧ Below w.heap.size w w' := by
  go_enter Try.func16, Try.ntmps16
  go_wp2_with fail
  (try simp only [Exit.inBlock, Exit.then])
  refine bodyPost_ret (results_cell_row rfl _ _ (w.heap.size + 1) 39 _ (0, 0) _ rfl (heap_alloc2_new w _ _) rfl rfl rfl) rfl ?_
  exact ⟨rfl, ((Below.refl _ w).alloc (Nat.le_refl _) _).alloc (by simp) _⟩
set_option maxRecDepth 100000 in
set_option maxHeartbeats 1000000 in
theorem Change_any (i p q : Int) (w : World) :
    Calls Try.prog 17 #[.agg #[.int .i64 i, .int .i64 p, .int .i64 q]] w fun e w' => e = .returned (.agg #[.iface 45 (.agg #[.int .i64 i, .int .i64 p, .int .i64 q])]) ∧ Below w.heap.size w w' := by
  go_enter Try.func17, Try.ntmps17
  go_wp2_with fail
  (try simp only [Exit.inBlock, Exit.then])
  refine bodyPost_ret (results_cell_row rfl _ _ (w.heap.size + 1) 39 _ (0, 0) _ rfl (heap_alloc2_new w _ _) rfl rfl rfl) rfl ?_
  exact ⟨rfl, ((Below.refl _ w).alloc (Nat.le_refl _) _).alloc (by simp) _⟩

/-- Two blocks of the call's own, behind a call that turns nothing that was. -/
theorem two_blocks {w W : World} {a b : Array Value} {Ta Tb : TypeId} (h : Below ((w.alloc (.cells a Ta)).alloc (.cells b Tb)).heap.size ((w.alloc (.cells a Ta)).alloc (.cells b Tb)) W) :
    W.heap[w.heap.size]? = some (.cells a Ta (0, 0)) ∧ W.heap[w.heap.size + 1]? = some (.cells b Tb (0, 0)) ∧ Below w.heap.size w W :=
  ⟨(h.block _ (by simp; omega)).trans ((heap_alloc_old _ _ (by simp)).trans (heap_alloc_new w _)), (h.block _ (by simp)).trans (heap_alloc2_new w _ _),
    (((Below.refl _ w).alloc (Nat.le_refl _) _).alloc (by simp) _).trans (h.mono (by simp; omega))⟩
/-- The eight cells of a block that holds an order. -/
theorem ord_at {W : World} {b : Nat} {i n s p q l t : Int} {S : List UInt8} (h : W.heap[b]? = some (.cells #[.int .i64 i, .int .i64 n, .int .i64 s, .int .i64 p, .int .i64 q, .int .i64 l, .int .i64 t, .string (str S)] 48 (0, 0))) :
    W.cell? ⟨b, 0, none⟩ = some (.int .i64 i) ∧ W.cell? ⟨b, 1, none⟩ = some (.int .i64 n) ∧ W.cell? ⟨b, 2, none⟩ = some (.int .i64 s) ∧ W.cell? ⟨b, 3, none⟩ = some (.int .i64 p) ∧ W.cell? ⟨b, 4, none⟩ = some (.int .i64 q) ∧ W.cell? ⟨b, 5, none⟩ = some (.int .i64 l) ∧ W.cell? ⟨b, 6, none⟩ = some (.int .i64 t) ∧ W.cell? ⟨b, 7, none⟩ = some (.string (str S)) := by
  refine ⟨?_, ?_, ?_, ?_, ?_, ?_, ?_, ?_⟩ <;> (rw [Lib.cell_of_heap h]; rfl)
theorem set_same {w : World} {b j : Nat} {cs : Array Value} {T : TypeId} {fr : Nat × Nat} {v : Value} (h : w.heap[b]? = some (.cells cs T fr)) (hj : cs[j]? = some v) : w.setCell ⟨b, j, none⟩ v = w := by
  have e : cs.setIfInBounds j v = cs := by
    obtain ⟨hlt, rfl⟩ := Array.getElem?_eq_some_iff.1 hj
    rw [Array.setIfInBounds, dif_pos hlt]
    exact Array.set_getElem_self hlt
  rw [setCell_eq_setRow w b j cs T fr v h, e, setRow_self w b cs T fr h]
set_option maxRecDepth 100000 in
set_option maxHeartbeats 1000000 in
theorem Order_any (i n s p q l t : Int) (S : List UInt8) (w : World) (hS : S.length ≤ 140737488355328) :
    Calls Try.prog 18 #[.agg #[.int .i64 i, .int .i64 n, .int .i64 s, .int .i64 p, .int .i64 q, .int .i64 l, .int .i64 t, .string (str S)]] w fun e w' => e = .returned (.agg #[.iface 48 (.agg #[.int .i64 i, .int .i64 n, .int .i64 s, .int .i64 p, .int .i64 q, .int .i64 l, .int .i64 t, .string (str S)])]) ∧ Below w.heap.size w w' := by
  go_enter Try.func18, Try.ntmps18
  go_wp2_with fail
  refine (Clone_any S _ hS).mono ?_
  rintro e w1 ⟨rfl, hb⟩
  obtain ⟨h1, h2, h3⟩ := two_blocks hb
  have h3 := Lib.hid h3
  have es := Lib.hid (set_same (j := 7) (v := .string (str S)) h1 rfl)
  obtain ⟨k0, k1, k2, k3, k4, k5, k6, k7⟩ := ord_at h1
  have f1 : w1.frozen? ⟨w.heap.size, 7, none⟩ = false := Lib.frozen_of_heap h1 7
  have f2 : w1.frozen? ⟨w.heap.size + 1, 0, none⟩ = false := Lib.frozen_of_heap h2 0
  have c2 : w1.cell? ⟨w.heap.size + 1, 0, none⟩ = some .nilIface := by rw [Lib.cell_of_heap h2]; rfl
  clear hb
  go_upto_region 2 with (fail)
  rw [es.out]
  go_wp2_with fail
  (try simp only [Exit.inBlock, Exit.then])
  refine bodyPost_ret (results_cell_row rfl _ _ (w.heap.size + 1) 39 _ (0, 0) _ rfl (heap_setCell_same w1 _ 0 _ _ _ h2) rfl rfl rfl) rfl ?_
  exact ⟨rfl, h3.out.setCell (p := ⟨w.heap.size + 1, 0, none⟩) (show w.heap.size ≤ w.heap.size + 1 by omega) _⟩
end Go.Proofs.Ytdbaphmhfoajgaa
