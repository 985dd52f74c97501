/-
  Contract: ofOrder.
-/
import Derived.Test.YtdbaphmhfoajgaaCmdOf0
import Derived.Test.YtdbaphmhfoajgaaCmdAsks
import Derived.Test.YtdbaphmhfoajgaaCmdRow
import Derived.Deep.RegionHeld3
namespace Go.Proofs.Ytdbaphmhfoajgaa
open Go.RowKit
set_option linter.unusedVariables false
set_option linter.unusedSimpArgs false

set_option maxRecDepth 100000 in
set_option maxHeartbeats 1000000 in
theorem OfOrder_any (i n s p q l t : Int) (S : List UInt8) (w : World) (hS : S.length ≤ 140737488355328) :
    Calls Try.prog 43 #[.agg #[.int .i64 i, .int .i64 n, .int .i64 s, .int .i64 p, .int .i64 q, .int .i64 l, .int .i64 t, .string (str S)]] w fun e w' => e = .returned (.agg #[.int .i64 1, .int .i64 i, .int .i64 n, .int .i64 s, .int .i64 p, .int .i64 q, .int .i64 l, .int .i64 t, .string (str S)]) ∧ Below w.heap.size w w' := by
  go_enter Try.func43, Try.ntmps43
  go_wp2_with fail
  obtain ⟨W2, eW2⟩ : ∃ W, ((w.alloc (.cells #[.int .i64 i, .int .i64 n, .int .i64 s, .int .i64 p, .int .i64 q, .int .i64 l, .int .i64 t, .string (str S)] 48)).alloc (.cells #[.int .i64 0, .int .i64 0, .int .i64 0, .int .i64 0, .int .i64 0, .int .i64 0, .int .i64 0, .int .i64 0, .string { data := #[] }] 23)) = W := ⟨_, rfl⟩
  have HB : Hid (∀ W, Below W2.heap.size W2 W → W.heap[w.heap.size]? = some (.cells #[.int .i64 i, .int .i64 n, .int .i64 s, .int .i64 p, .int .i64 q, .int .i64 l, .int .i64 t, .string (str S)] 48 (0, 0)) ∧ W.heap[w.heap.size + 1]? = some (.cells #[.int .i64 0, .int .i64 0, .int .i64 0, .int .i64 0, .int .i64 0, .int .i64 0, .int .i64 0, .int .i64 0, .string (str [])] 23 (0, 0)) ∧ Below w.heap.size w W) := by
    rw [← eW2]; exact Lib.hid (fun W h => two_blocks h)
  rw [eW2]
  clear eW2
  have hof : Hid (∀ W : World, Below W2.heap.size W2 W → (fun W : World => W.cell? ⟨w.heap.size, 0, none⟩ = some (.int .i64 i) ∧ W.cell? ⟨w.heap.size, 1, none⟩ = some (.int .i64 n) ∧ W.cell? ⟨w.heap.size, 2, none⟩ = some (.int .i64 s) ∧ W.cell? ⟨w.heap.size, 3, none⟩ = some (.int .i64 p) ∧ W.cell? ⟨w.heap.size, 4, none⟩ = some (.int .i64 q) ∧ W.cell? ⟨w.heap.size, 5, none⟩ = some (.int .i64 l) ∧ W.cell? ⟨w.heap.size, 6, none⟩ = some (.int .i64 t) ∧ W.cell? ⟨w.heap.size, 7, none⟩ = some (.string (str S))) W ∧ W.frozen? ⟨w.heap.size + 1, 0, none⟩ = false ∧ W.frozen? ⟨w.heap.size + 1, 1, none⟩ = false ∧ W.frozen? ⟨w.heap.size + 1, 2, none⟩ = false ∧ W.frozen? ⟨w.heap.size + 1, 3, none⟩ = false ∧ W.frozen? ⟨w.heap.size + 1, 4, none⟩ = false ∧ W.frozen? ⟨w.heap.size + 1, 5, none⟩ = false ∧ W.frozen? ⟨w.heap.size + 1, 6, none⟩ = false ∧ W.frozen? ⟨w.heap.size + 1, 7, none⟩ = false ∧ W.frozen? ⟨w.heap.size + 1, 8, none⟩ = false ∧ W.cell? ⟨w.heap.size + 1, 0, none⟩ = some (.int .i64 0) ∧ W.cell? ⟨w.heap.size + 1, 1, none⟩ = some (.int .i64 0) ∧ W.cell? ⟨w.heap.size + 1, 2, none⟩ = some (.int .i64 0) ∧ W.cell? ⟨w.heap.size + 1, 3, none⟩ = some (.int .i64 0) ∧ W.cell? ⟨w.heap.size + 1, 4, none⟩ = some (.int .i64 0) ∧ W.cell? ⟨w.heap.size + 1, 5, none⟩ = some (.int .i64 0) ∧ W.cell? ⟨w.heap.size + 1, 6, none⟩ = some (.int .i64 0) ∧ W.cell? ⟨w.heap.size + 1, 7, none⟩ = some (.int .i64 0) ∧ W.cell? ⟨w.heap.size + 1, 8, none⟩ = some (.string (str []))) := Lib.hid (fun W b => by
    obtain ⟨h1, h2, h3⟩ := HB.out W b
    exact ⟨ord_at h1, block9 h2⟩)
  have hst : Hid (∀ W : World, (fun W : World => W.cell? ⟨w.heap.size, 0, none⟩ = some (.int .i64 i) ∧ W.cell? ⟨w.heap.size, 1, none⟩ = some (.int .i64 n) ∧ W.cell? ⟨w.heap.size, 2, none⟩ = some (.int .i64 s) ∧ W.cell? ⟨w.heap.size, 3, none⟩ = some (.int .i64 p) ∧ W.cell? ⟨w.heap.size, 4, none⟩ = some (.int .i64 q) ∧ W.cell? ⟨w.heap.size, 5, none⟩ = some (.int .i64 l) ∧ W.cell? ⟨w.heap.size, 6, none⟩ = some (.int .i64 t) ∧ W.cell? ⟨w.heap.size, 7, none⟩ = some (.string (str S))) W → (fun W : World => W.cell? ⟨w.heap.size, 0, none⟩ = some (.int .i64 i) ∧ W.cell? ⟨w.heap.size, 1, none⟩ = some (.int .i64 n) ∧ W.cell? ⟨w.heap.size, 2, none⟩ = some (.int .i64 s) ∧ W.cell? ⟨w.heap.size, 3, none⟩ = some (.int .i64 p) ∧ W.cell? ⟨w.heap.size, 4, none⟩ = some (.int .i64 q) ∧ W.cell? ⟨w.heap.size, 5, none⟩ = some (.int .i64 l) ∧ W.cell? ⟨w.heap.size, 6, none⟩ = some (.int .i64 t) ∧ W.cell? ⟨w.heap.size, 7, none⟩ = some (.string (str S))) ((((((((((W.setCell ⟨w.heap.size + 1, 0, none⟩ (.int .i64 1)).setCell ⟨w.heap.size + 1, 1, none⟩ (.int .i64 i)).setCell ⟨w.heap.size + 1, 2, none⟩ (.int .i64 n)).setCell ⟨w.heap.size + 1, 3, none⟩ (.int .i64 s)).setCell ⟨w.heap.size + 1, 4, none⟩ (.int .i64 p)).setCell ⟨w.heap.size + 1, 5, none⟩ (.int .i64 q)).setCell ⟨w.heap.size + 1, 6, none⟩ (.int .i64 l)).setCell ⟨w.heap.size + 1, 7, none⟩ (.int .i64 t)).setCell ⟨w.heap.size + 1, 8, none⟩ (.string (str S))))) := Lib.hid (fun W h => by
    obtain ⟨c0, c1, c2, c3, c4, c5, c6, c7⟩ := h
    have ne : w.heap.size ≠ w.heap.size + 1 := by omega
    exact ⟨cell9 _ _ _ _ _ _ _ _ _ c0 ne, cell9 _ _ _ _ _ _ _ _ _ c1 ne, cell9 _ _ _ _ _ _ _ _ _ c2 ne, cell9 _ _ _ _ _ _ _ _ _ c3 ne, cell9 _ _ _ _ _ _ _ _ _ c4 ne, cell9 _ _ _ _ _ _ _ _ _ c5 ne, cell9 _ _ _ _ _ _ _ _ _ c6 ne, cell9 _ _ _ _ _ _ _ _ _ c7 ne⟩)
  have hz0 := (hof.out _ ((Below.refl _ W2).drew)).1
  simp only at hz0
  go_region_held3 (fun W : World => W.cell? ⟨w.heap.size, 0, none⟩ = some (.int .i64 i) ∧ W.cell? ⟨w.heap.size, 1, none⟩ = some (.int .i64 n) ∧ W.cell? ⟨w.heap.size, 2, none⟩ = some (.int .i64 s) ∧ W.cell? ⟨w.heap.size, 3, none⟩ = some (.int .i64 p) ∧ W.cell? ⟨w.heap.size, 4, none⟩ = some (.int .i64 q) ∧ W.cell? ⟨w.heap.size, 5, none⟩ = some (.int .i64 l) ∧ W.cell? ⟨w.heap.size, 6, none⟩ = some (.int .i64 t) ∧ W.cell? ⟨w.heap.size, 7, none⟩ = some (.string (str S))) (first | with_reducible assumption | with_reducible exact hz0 | with_reducible exact hz2)
    ((go_at_call 44; refine (Clone_any S _ hS).mono ?_; rintro e w4 ⟨rfl, b4⟩; obtain ⟨hz1, fr0, fr1, fr2, fr3, fr4, fr5, fr6, fr7, fr8, k0, k1, k2, k3, k4, k5, k6, k7, k8⟩ := hof.out _ (((Below.refl _ W2).drew).trans b4); have hz2 := hst.out _ hz1; have B4 := HB.out _ (((Below.refl _ W2).drew).trans b4); replace B4 := Lib.hid B4))
  rw [set9 _ _ _ _ _ _ _ _ _ B4.out.2.1]
  go_wp2_with fail
  (try simp only [Exit.inBlock, Exit.then])
  refine bodyPost_ret (results_cell_row rfl _ _ (w.heap.size + 1) 23 _ (0, 0) _ rfl (setRow_heap _ _ _ _ _ _ B4.out.2.1) rfl rfl rfl) rfl ?_
  exact ⟨rfl, below_setRow B4.out.2.2 (show w.heap.size ≤ w.heap.size + 1 by omega) _⟩
end Go.Proofs.Ytdbaphmhfoajgaa
