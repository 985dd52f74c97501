/-
  A whole command stored, cell by cell.
-/
import Derived.Test.YtdbaphmhfoajgaaCmdValue
namespace Go.Proofs.Ytdbaphmhfoajgaa
open Go.RowKit
set_option linter.unusedVariables false
set_option linter.unusedSimpArgs false

theorem set9 {w : World} {g : Nat} {T : TypeId} {x0 x1 x2 x3 x4 x5 x6 x7 x8 : Value} (v0 v1 v2 v3 v4 v5 v6 v7 v8 : Value) (h : w.heap[g]? = some (.cells #[x0, x1, x2, x3, x4, x5, x6, x7, x8] T (0, 0))) :
    (((((((((w.setCell ⟨g, 0, none⟩ v0).setCell ⟨g, 1, none⟩ v1).setCell ⟨g, 2, none⟩ v2).setCell ⟨g, 3, none⟩ v3).setCell ⟨g, 4, none⟩ v4).setCell ⟨g, 5, none⟩ v5).setCell ⟨g, 6, none⟩ v6).setCell ⟨g, 7, none⟩ v7).setCell ⟨g, 8, none⟩ v8) = w.setRow g #[v0, v1, v2, v3, v4, v5, v6, v7, v8] := by
  have s1 : (w.setCell ⟨g, 0, none⟩ v0) = w.setRow g #[v0, x1, x2, x3, x4, x5, x6, x7, x8] := by
    rw [setCell_eq_setRow w g 0 _ T (0, 0) v0 h]; rfl
  have s2 : ((w.setCell ⟨g, 0, none⟩ v0).setCell ⟨g, 1, none⟩ v1) = w.setRow g #[v0, v1, x2, x3, x4, x5, x6, x7, x8] := by
    rw [s1, setCell_eq_setRow _ g 1 _ T (0, 0) v1 (setRow_heap w g _ #[v0, x1, x2, x3, x4, x5, x6, x7, x8] T (0, 0) h), setRow_setRow]; rfl
  have s3 : (((w.setCell ⟨g, 0, none⟩ v0).setCell ⟨g, 1, none⟩ v1).setCell ⟨g, 2, none⟩ v2) = w.setRow g #[v0, v1, v2, x3, x4, x5, x6, x7, x8] := by
    rw [s2, setCell_eq_setRow _ g 2 _ T (0, 0) v2 (setRow_heap w g _ #[v0, v1, x2, x3, x4, x5, x6, x7, x8] T (0, 0) h), setRow_setRow]; rfl
  have s4 : ((((w.setCell ⟨g, 0, none⟩ v0).setCell ⟨g, 1, none⟩ v1).setCell ⟨g, 2, none⟩ v2).setCell ⟨g, 3, none⟩ v3) = w.setRow g #[v0, v1, v2, v3, x4, x5, x6, x7, x8] := by
    rw [s3, setCell_eq_setRow _ g 3 _ T (0, 0) v3 (setRow_heap w g _ #[v0, v1, v2, x3, x4, x5, x6, x7, x8] T (0, 0) h), setRow_setRow]; rfl
  have s5 : (((((w.setCell ⟨g, 0, none⟩ v0).setCell ⟨g, 1, none⟩ v1).setCell ⟨g, 2, none⟩ v2).setCell ⟨g, 3, none⟩ v3).setCell ⟨g, 4, none⟩ v4) = w.setRow g #[v0, v1, v2, v3, v4, x5, x6, x7, x8] := by
    rw [s4, setCell_eq_setRow _ g 4 _ T (0, 0) v4 (setRow_heap w g _ #[v0, v1, v2, v3, x4, x5, x6, x7, x8] T (0, 0) h), setRow_setRow]; rfl
  have s6 : ((((((w.setCell ⟨g, 0, none⟩ v0).setCell ⟨g, 1, none⟩ v1).setCell ⟨g, 2, none⟩ v2).setCell ⟨g, 3, none⟩ v3).setCell ⟨g, 4, none⟩ v4).setCell ⟨g, 5, none⟩ v5) = w.setRow g #[v0, v1, v2, v3, v4, v5, x6, x7, x8] := by
    rw [s5, setCell_eq_setRow _ g 5 _ T (0, 0) v5 (setRow_heap w g _ #[v0, v1, v2, v3, v4, x5, x6, x7, x8] T (0, 0) h), setRow_setRow]; rfl
  have s7 : (((((((w.setCell ⟨g, 0, none⟩ v0).setCell ⟨g, 1, none⟩ v1).setCell ⟨g, 2, none⟩ v2).setCell ⟨g, 3, none⟩ v3).setCell ⟨g, 4, none⟩ v4).setCell ⟨g, 5, none⟩ v5).setCell ⟨g, 6, none⟩ v6) = w.setRow g #[v0, v1, v2, v3, v4, v5, v6, x7, x8] := by
    rw [s6, setCell_eq_setRow _ g 6 _ T (0, 0) v6 (setRow_heap w g _ #[v0, v1, v2, v3, v4, v5, x6, x7, x8] T (0, 0) h), setRow_setRow]; rfl
  have s8 : ((((((((w.setCell ⟨g, 0, none⟩ v0).setCell ⟨g, 1, none⟩ v1).setCell ⟨g, 2, none⟩ v2).setCell ⟨g, 3, none⟩ v3).setCell ⟨g, 4, none⟩ v4).setCell ⟨g, 5, none⟩ v5).setCell ⟨g, 6, none⟩ v6).setCell ⟨g, 7, none⟩ v7) = w.setRow g #[v0, v1, v2, v3, v4, v5, v6, v7, x8] := by
    rw [s7, setCell_eq_setRow _ g 7 _ T (0, 0) v7 (setRow_heap w g _ #[v0, v1, v2, v3, v4, v5, v6, x7, x8] T (0, 0) h), setRow_setRow]; rfl
  have s9 : (((((((((w.setCell ⟨g, 0, none⟩ v0).setCell ⟨g, 1, none⟩ v1).setCell ⟨g, 2, none⟩ v2).setCell ⟨g, 3, none⟩ v3).setCell ⟨g, 4, none⟩ v4).setCell ⟨g, 5, none⟩ v5).setCell ⟨g, 6, none⟩ v6).setCell ⟨g, 7, none⟩ v7).setCell ⟨g, 8, none⟩ v8) = w.setRow g #[v0, v1, v2, v3, v4, v5, v6, v7, v8] := by
    rw [s8, setCell_eq_setRow _ g 8 _ T (0, 0) v8 (setRow_heap w g _ #[v0, v1, v2, v3, v4, v5, v6, v7, x8] T (0, 0) h), setRow_setRow]; rfl
  exact s9
theorem block9 {w : World} {g : Nat} {T : TypeId} {x0 x1 x2 x3 x4 x5 x6 x7 x8 : Value} (h : w.heap[g]? = some (.cells #[x0, x1, x2, x3, x4, x5, x6, x7, x8] T (0, 0))) :
    w.frozen? ⟨g, 0, none⟩ = false ∧ w.frozen? ⟨g, 1, none⟩ = false ∧ w.frozen? ⟨g, 2, none⟩ = false ∧ w.frozen? ⟨g, 3, none⟩ = false ∧ w.frozen? ⟨g, 4, none⟩ = false ∧ w.frozen? ⟨g, 5, none⟩ = false ∧ w.frozen? ⟨g, 6, none⟩ = false ∧ w.frozen? ⟨g, 7, none⟩ = false ∧ w.frozen? ⟨g, 8, none⟩ = false ∧ w.cell? ⟨g, 0, none⟩ = some x0 ∧ w.cell? ⟨g, 1, none⟩ = some x1 ∧ w.cell? ⟨g, 2, none⟩ = some x2 ∧ w.cell? ⟨g, 3, none⟩ = some x3 ∧ w.cell? ⟨g, 4, none⟩ = some x4 ∧ w.cell? ⟨g, 5, none⟩ = some x5 ∧ w.cell? ⟨g, 6, none⟩ = some x6 ∧ w.cell? ⟨g, 7, none⟩ = some x7 ∧ w.cell? ⟨g, 8, none⟩ = some x8 := by
  refine ⟨Lib.frozen_of_heap h 0, Lib.frozen_of_heap h 1, Lib.frozen_of_heap h 2, Lib.frozen_of_heap h 3, Lib.frozen_of_heap h 4, Lib.frozen_of_heap h 5, Lib.frozen_of_heap h 6, Lib.frozen_of_heap h 7, Lib.frozen_of_heap h 8, ?_, ?_, ?_, ?_, ?_, ?_, ?_, ?_, ?_⟩ <;> (rw [Lib.cell_of_heap h]; rfl)
theorem cell9 {w : World} {g : Nat} {a : Addr} {u : Option Value} (v0 v1 v2 v3 v4 v5 v6 v7 v8 : Value) (h : w.cell? a = u) (hne : a.block ≠ g) : ((((((((((w.setCell ⟨g, 0, none⟩ v0).setCell ⟨g, 1, none⟩ v1).setCell ⟨g, 2, none⟩ v2).setCell ⟨g, 3, none⟩ v3).setCell ⟨g, 4, none⟩ v4).setCell ⟨g, 5, none⟩ v5).setCell ⟨g, 6, none⟩ v6).setCell ⟨g, 7, none⟩ v7).setCell ⟨g, 8, none⟩ v8)).cell? a = u :=
  (World.cell?_setCell_other _ ⟨g, 8, none⟩ a v8 (fun e => hne (by rw [← e]))).trans ((World.cell?_setCell_other _ ⟨g, 7, none⟩ a v7 (fun e => hne (by rw [← e]))).trans ((World.cell?_setCell_other _ ⟨g, 6, none⟩ a v6 (fun e => hne (by rw [← e]))).trans ((World.cell?_setCell_other _ ⟨g, 5, none⟩ a v5 (fun e => hne (by rw [← e]))).trans ((World.cell?_setCell_other _ ⟨g, 4, none⟩ a v4 (fun e => hne (by rw [← e]))).trans ((World.cell?_setCell_other _ ⟨g, 3, none⟩ a v3 (fun e => hne (by rw [← e]))).trans ((World.cell?_setCell_other _ ⟨g, 2, none⟩ a v2 (fun e => hne (by rw [← e]))).trans ((World.cell?_setCell_other _ ⟨g, 1, none⟩ a v1 (fun e => hne (by rw [← e]))).trans ((World.cell?_setCell_other _ ⟨g, 0, none⟩ a v0 (fun e => hne (by rw [← e]))).trans (h)))))))))
end Go.Proofs.Ytdbaphmhfoajgaa
