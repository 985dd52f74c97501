/-
  Contracts: Roomy and Intact of bytes, of the book.
-/
import Derived.Test.YtjhfgajhmenboaaDoorKeepBytes
import Derived.Laws.CopyOwn
namespace Go.Proofs.YtjhfgajhmenboaaDoor
open Go.RowKit
set_option linter.unusedVariables false
set_option linter.unusedSimpArgs false

theorem rb_block {w : World} {base g n : Nat} {l : List UInt8} (h : RB w base (.slice (some ⟨g, 0, none⟩) n n) l) (hl : l.length = n) : w.heap[g]? = some (.cells (l.map bc).toArray 5 (0, 0)) ∧ base ≤ g := by
  rcases h.2 with ⟨h', _⟩ | ⟨g', cap', cur, h', hb, hg, _, _, hcs, htake⟩
  · simp at h'
  · simp only [Value.slice.injEq, Option.some.injEq, Addr.mk.injEq, and_true, true_and] at h'
    obtain ⟨rfl, _, rfl⟩ := h'
    refine ⟨?_, hb⟩
    rw [List.take_of_length_le (by rw [Array.length_toList, hcs, hl]; omega)] at htake
    rw [← htake]
    exact hg
theorem rb_of_block {w : World} {base g n : Nat} {l : List UInt8} (h : w.heap[g]? = some (.cells (l.map bc).toArray 5 (0, 0))) (hb : base ≤ g) (hl : l.length = n) (hm : n ≤ maxLen) : RB w base (.slice (some ⟨g, 0, none⟩) n n) l := by
  refine ⟨by simp, .inr ⟨g, n, (l.map bc).toArray, by rw [hl], hb, h, by omega, hm, by simp [hl], ?_⟩⟩
  rw [List.take_of_length_le (by simp)]
theorem rb_stored {w : World} {base g n cap : Nat} {l : List UInt8} (hl : l.length = n) (h : RB w base (.slice (some ⟨g, 0, none⟩) n cap) l) (j : Nat) (u : UInt8) :
    RB (w.setCell ⟨g, j, none⟩ (bc u)) base (.slice (some ⟨g, 0, none⟩) n cap) (l.set j u) ∧ w.grownBy (w.setCell ⟨g, j, none⟩ (bc u)) (some g) := by
  unfold RB at h ⊢
  rw [hl] at h
  obtain ⟨h1, h2⟩ := World.ownsRow.stored h j (bc u)
  refine ⟨?_, h2⟩
  rw [List.length_set, hl, List.map_set]
  exact h1
theorem rb_cell {w : World} {base g n cap : Nat} {l : List UInt8} (hl : l.length = n) (h : RB w base (.slice (some ⟨g, 0, none⟩) n cap) l) (j : Nat) (hj : j < n) :
    w.cell? ⟨g, j, none⟩ = some (bc (l.getD j 0)) ∧ w.frozen? ⟨g, j, none⟩ = false := by
  unfold RB at h
  rw [hl] at h
  refine ⟨?_, World.ownsRow.frozenAt h j⟩
  rw [World.ownsRow.cellAt h j (by omega)]
  simp [List.getD, List.getElem?_eq_getElem (show j < l.length by omega)]
theorem zeros_bc (n : Nat) : (madeCells #[Value.int .u8 0] n).toList = (List.replicate n (0 : UInt8)).map bc := by
  rw [toList_madeCells_one, List.map_replicate]
  rfl
theorem splice_zero (l : List UInt8) (k : Nat) : splice (List.replicate (l.length + k) (bc 0)) 0 (l.map bc) = (l ++ List.replicate k 0).map bc := by
  unfold splice
  simp
theorem mark_next (l : List UInt8) (x : UInt8) (a b : Nat) : (l ++ List.replicate a x ++ List.replicate (b + 1) (0 : UInt8)).set (l.length + a) x = l ++ List.replicate (a + 1) x ++ List.replicate b 0 := by
  rw [List.set_append_right _ _ (by simp)]
  rw [show l.length + a - (l ++ List.replicate a x).length = 0 by simp, List.replicate_succ, List.set_cons_zero, List.replicate_succ']
  simp

end Go.Proofs.YtjhfgajhmenboaaDoor
