/-
  Two results, the first of them a struct.
-/
import Derived.Test.YtdbaphmhfoajgaaCmdOf1
namespace Go.Proofs.Ytdbaphmhfoajgaa
open Go.RowKit
set_option linter.unusedVariables false
set_option linter.unusedSimpArgs false

theorem results_cell_row_tmp {P : Program} {fn : Func} {p u : Tmp} {ty : TypeId} (h : fn.results = #[.cell p ty, .tmp u]) (tmps : Array Value) (w : World) (g : Nat) (t : TypeId) (cs : Array Value) (fr : Nat × Nat) (d : TypeDesc)
    (hp : tmps.getD p undef = .pointer (some ⟨g, 0, none⟩)) (hg : w.heap[g]? = some (.cells cs t fr))
    (hu : P.underlying ty = some d) (hd : (match d with | .struct _ | .array _ _ => true | _ => false) = true) (hi : (P.info? ty).map (·.size) = some cs.size) :
    (results fn tmps).run P w = .ok (.tuple #[.agg cs, tmps.getD u undef]) w := by
  rw [results_cell_tmp h, hp]
  simp [asAddr, run_loadVar_row w g t ty cs fr d hg hu hd hi, Result.andThen]
/-- The second block of three, behind a call that turns nothing that was. -/
theorem three_blocks {w W : World} {a b c : Array Value} {Ta Tb Tc : TypeId} (h : Below (((w.alloc (.cells a Ta)).alloc (.cells b Tb)).alloc (.cells c Tc)).heap.size (((w.alloc (.cells a Ta)).alloc (.cells b Tb)).alloc (.cells c Tc)) W) :
    W.heap[w.heap.size + 1]? = some (.cells b Tb (0, 0)) ∧ W.heap[w.heap.size + 2]? = some (.cells c Tc (0, 0)) ∧ Below w.heap.size w W := by
  refine ⟨(h.block _ (by simp)).trans ((heap_alloc_old _ _ (by simp)).trans (heap_alloc2_new w _ _)), (h.block _ (by simp)).trans ?_, ((((Below.refl _ w).alloc (Nat.le_refl _) _).alloc (by simp) _).alloc (by simp; omega) _).trans (h.mono (by simp; omega))⟩
  have := heap_alloc_new ((w.alloc (.cells a Ta)).alloc (.cells b Tb)) (.cells c Tc)
  rw [show ((w.alloc (.cells a Ta)).alloc (.cells b Tb)).heap.size = w.heap.size + 2 by simp] at this
  exact this
end Go.Proofs.Ytdbaphmhfoajgaa
