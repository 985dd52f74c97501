/-
  The law FifoNumbers: its walk.
-/
import Derived.Test.YtbdabcdpgbpadaaFiKnown
namespace Go.Proofs.Ytbdabcdpgbpadaa
open Go.RowKit
set_option linter.unusedVariables false
set_option linter.unusedSimpArgs false

theorem rep_get (n k : Nat) (h : k < n) : (List.replicate n (1 : Int)).getD k 0 = 1 := by simp [List.getD, h]
/-- Ten lists lie in this block. -/
def Ten (W : World) (G : Nat) : Prop := ∀ i, i < 10 → ∃ A n c l, W.cell? ⟨G, i, none⟩ = some (.slice A n c) ∧ Holds W A n l ∧ n ≤ 251
theorem Ten.below {W W' : World} {G : Nat} (h : Ten W G) (hb : Below W.heap.size W W') : Ten W' G := fun i hi => by
  obtain ⟨A, n, c, l, h1, h2, h3⟩ := h i hi
  exact ⟨A, n, c, l, (hb.cell (p := ⟨G, i, none⟩) (World.block_lt_of_cell? W _ h1)).trans h1, h2.below hb, h3⟩
theorem lit_at (w : World) (xs : List Int) (n g : Nat) (T : TypeId) (hn : xs.length = n) (hg : w.heap.size = g) (hx : ∀ x ∈ xs, I64 x) : Holds (w.alloc (.cells (xs.map (Value.int .i64)).toArray T)) (some ⟨g, 0, none⟩) n xs := by
  subst hn; subst hg; exact holds_lit w xs T hx
theorem ten_of (wr w : World) (g : Nat) (F : List Int) (hg : w.heap.size = g) (hH : Holds wr (some ⟨g, 0, none⟩) 251 F) (hH2 : Holds wr (some ⟨g, 0, none⟩) 250 (F.take 250)) (hb : Below g w wr) :
    ∃ W, ((((((((wr.alloc (.cells #[.int .i64 0] 2)).alloc (.cells #[.int .i64 1] 2)).alloc (.cells #[.int .i64 5, .int .i64 5, .int .i64 5] 2)).alloc (.cells #[.int .i64 (-1), .int .i64 9] 2)).alloc (.cells #[.int .i64 1000000, .int .i64 1000001] 2)).alloc (.cells #[.int .i64 1000000] 2)).alloc (.cells #[.int .i64 9223372036854775807, .int .i64 9223372036854775807] 2)).alloc (.cells #[.slice none 0 0, .slice (some ⟨wr.heap.size, 0, none⟩) 1 1, .slice (some ⟨wr.heap.size + 1, 0, none⟩) 1 1, .slice (some ⟨wr.heap.size + 1 + 1, 0, none⟩) 3 3, .slice (some ⟨wr.heap.size + 1 + 1 + 1, 0, none⟩) 2 2, .slice (some ⟨wr.heap.size + 1 + 1 + 1 + 1, 0, none⟩) 2 2, .slice (some ⟨wr.heap.size + 1 + 1 + 1 + 1 + 1, 0, none⟩) 1 1, .slice (some ⟨g, 0, none⟩) 251 251, .slice (some ⟨g, 0, none⟩) 250 251, .slice (some ⟨wr.heap.size + 1 + 1 + 1 + 1 + 1 + 1, 0, none⟩) 2 2] 22)) = W ∧ Ten W (wr.heap.size + 1 + 1 + 1 + 1 + 1 + 1 + 1) ∧ Below w.heap.size w W := by
  subst hg
  refine ⟨_, rfl, ?_, ?_⟩
  · have H0 := ((((((((hH.alloc (.cells #[.int .i64 0] 2)).alloc (.cells #[.int .i64 1] 2)).alloc (.cells #[.int .i64 5, .int .i64 5, .int .i64 5] 2)).alloc (.cells #[.int .i64 (-1), .int .i64 9] 2)).alloc (.cells #[.int .i64 1000000, .int .i64 1000001] 2)).alloc (.cells #[.int .i64 1000000] 2)).alloc (.cells #[.int .i64 9223372036854775807, .int .i64 9223372036854775807] 2)).alloc (.cells #[.slice none 0 0, .slice (some ⟨wr.heap.size, 0, none⟩) 1 1, .slice (some ⟨wr.heap.size + 1, 0, none⟩) 1 1, .slice (some ⟨wr.heap.size + 1 + 1, 0, none⟩) 3 3, .slice (some ⟨wr.heap.size + 1 + 1 + 1, 0, none⟩) 2 2, .slice (some ⟨wr.heap.size + 1 + 1 + 1 + 1, 0, none⟩) 2 2, .slice (some ⟨wr.heap.size + 1 + 1 + 1 + 1 + 1, 0, none⟩) 1 1, .slice (some ⟨w.heap.size, 0, none⟩) 251 251, .slice (some ⟨w.heap.size, 0, none⟩) 250 251, .slice (some ⟨wr.heap.size + 1 + 1 + 1 + 1 + 1 + 1, 0, none⟩) 2 2] 22))
    have H1 := ((((((((hH2.alloc (.cells #[.int .i64 0] 2)).alloc (.cells #[.int .i64 1] 2)).alloc (.cells #[.int .i64 5, .int .i64 5, .int .i64 5] 2)).alloc (.cells #[.int .i64 (-1), .int .i64 9] 2)).alloc (.cells #[.int .i64 1000000, .int .i64 1000001] 2)).alloc (.cells #[.int .i64 1000000] 2)).alloc (.cells #[.int .i64 9223372036854775807, .int .i64 9223372036854775807] 2)).alloc (.cells #[.slice none 0 0, .slice (some ⟨wr.heap.size, 0, none⟩) 1 1, .slice (some ⟨wr.heap.size + 1, 0, none⟩) 1 1, .slice (some ⟨wr.heap.size + 1 + 1, 0, none⟩) 3 3, .slice (some ⟨wr.heap.size + 1 + 1 + 1, 0, none⟩) 2 2, .slice (some ⟨wr.heap.size + 1 + 1 + 1 + 1, 0, none⟩) 2 2, .slice (some ⟨wr.heap.size + 1 + 1 + 1 + 1 + 1, 0, none⟩) 1 1, .slice (some ⟨w.heap.size, 0, none⟩) 251 251, .slice (some ⟨w.heap.size, 0, none⟩) 250 251, .slice (some ⟨wr.heap.size + 1 + 1 + 1 + 1 + 1 + 1, 0, none⟩) 2 2] 22))
    have L0 := ((((((((lit_at wr [0] 1 (wr.heap.size) 2 rfl (by simp) (small_I64 (by decide))).alloc (.cells #[.int .i64 1] 2)).alloc (.cells #[.int .i64 5, .int .i64 5, .int .i64 5] 2)).alloc (.cells #[.int .i64 (-1), .int .i64 9] 2)).alloc (.cells #[.int .i64 1000000, .int .i64 1000001] 2)).alloc (.cells #[.int .i64 1000000] 2)).alloc (.cells #[.int .i64 9223372036854775807, .int .i64 9223372036854775807] 2)).alloc (.cells #[.slice none 0 0, .slice (some ⟨wr.heap.size, 0, none⟩) 1 1, .slice (some ⟨wr.heap.size + 1, 0, none⟩) 1 1, .slice (some ⟨wr.heap.size + 1 + 1, 0, none⟩) 3 3, .slice (some ⟨wr.heap.size + 1 + 1 + 1, 0, none⟩) 2 2, .slice (some ⟨wr.heap.size + 1 + 1 + 1 + 1, 0, none⟩) 2 2, .slice (some ⟨wr.heap.size + 1 + 1 + 1 + 1 + 1, 0, none⟩) 1 1, .slice (some ⟨w.heap.size, 0, none⟩) 251 251, .slice (some ⟨w.heap.size, 0, none⟩) 250 251, .slice (some ⟨wr.heap.size + 1 + 1 + 1 + 1 + 1 + 1, 0, none⟩) 2 2] 22))
    have L1 := (((((((lit_at (wr.alloc (.cells #[.int .i64 0] 2)) [1] 1 (wr.heap.size + 1) 2 rfl (by simp) (small_I64 (by decide))).alloc (.cells #[.int .i64 5, .int .i64 5, .int .i64 5] 2)).alloc (.cells #[.int .i64 (-1), .int .i64 9] 2)).alloc (.cells #[.int .i64 1000000, .int .i64 1000001] 2)).alloc (.cells #[.int .i64 1000000] 2)).alloc (.cells #[.int .i64 9223372036854775807, .int .i64 9223372036854775807] 2)).alloc (.cells #[.slice none 0 0, .slice (some ⟨wr.heap.size, 0, none⟩) 1 1, .slice (some ⟨wr.heap.size + 1, 0, none⟩) 1 1, .slice (some ⟨wr.heap.size + 1 + 1, 0, none⟩) 3 3, .slice (some ⟨wr.heap.size + 1 + 1 + 1, 0, none⟩) 2 2, .slice (some ⟨wr.heap.size + 1 + 1 + 1 + 1, 0, none⟩) 2 2, .slice (some ⟨wr.heap.size + 1 + 1 + 1 + 1 + 1, 0, none⟩) 1 1, .slice (some ⟨w.heap.size, 0, none⟩) 251 251, .slice (some ⟨w.heap.size, 0, none⟩) 250 251, .slice (some ⟨wr.heap.size + 1 + 1 + 1 + 1 + 1 + 1, 0, none⟩) 2 2] 22))
    have L2 := ((((((lit_at ((wr.alloc (.cells #[.int .i64 0] 2)).alloc (.cells #[.int .i64 1] 2)) [5, 5, 5] 3 (wr.heap.size + 1 + 1) 2 rfl (by simp) (small_I64 (by decide))).alloc (.cells #[.int .i64 (-1), .int .i64 9] 2)).alloc (.cells #[.int .i64 1000000, .int .i64 1000001] 2)).alloc (.cells #[.int .i64 1000000] 2)).alloc (.cells #[.int .i64 9223372036854775807, .int .i64 9223372036854775807] 2)).alloc (.cells #[.slice none 0 0, .slice (some ⟨wr.heap.size, 0, none⟩) 1 1, .slice (some ⟨wr.heap.size + 1, 0, none⟩) 1 1, .slice (some ⟨wr.heap.size + 1 + 1, 0, none⟩) 3 3, .slice (some ⟨wr.heap.size + 1 + 1 + 1, 0, none⟩) 2 2, .slice (some ⟨wr.heap.size + 1 + 1 + 1 + 1, 0, none⟩) 2 2, .slice (some ⟨wr.heap.size + 1 + 1 + 1 + 1 + 1, 0, none⟩) 1 1, .slice (some ⟨w.heap.size, 0, none⟩) 251 251, .slice (some ⟨w.heap.size, 0, none⟩) 250 251, .slice (some ⟨wr.heap.size + 1 + 1 + 1 + 1 + 1 + 1, 0, none⟩) 2 2] 22))
    have L3 := (((((lit_at (((wr.alloc (.cells #[.int .i64 0] 2)).alloc (.cells #[.int .i64 1] 2)).alloc (.cells #[.int .i64 5, .int .i64 5, .int .i64 5] 2)) [-1, 9] 2 (wr.heap.size + 1 + 1 + 1) 2 rfl (by simp) (small_I64 (by decide))).alloc (.cells #[.int .i64 1000000, .int .i64 1000001] 2)).alloc (.cells #[.int .i64 1000000] 2)).alloc (.cells #[.int .i64 9223372036854775807, .int .i64 9223372036854775807] 2)).alloc (.cells #[.slice none 0 0, .slice (some ⟨wr.heap.size, 0, none⟩) 1 1, .slice (some ⟨wr.heap.size + 1, 0, none⟩) 1 1, .slice (some ⟨wr.heap.size + 1 + 1, 0, none⟩) 3 3, .slice (some ⟨wr.heap.size + 1 + 1 + 1, 0, none⟩) 2 2, .slice (some ⟨wr.heap.size + 1 + 1 + 1 + 1, 0, none⟩) 2 2, .slice (some ⟨wr.heap.size + 1 + 1 + 1 + 1 + 1, 0, none⟩) 1 1, .slice (some ⟨w.heap.size, 0, none⟩) 251 251, .slice (some ⟨w.heap.size, 0, none⟩) 250 251, .slice (some ⟨wr.heap.size + 1 + 1 + 1 + 1 + 1 + 1, 0, none⟩) 2 2] 22))
    have L4 := ((((lit_at ((((wr.alloc (.cells #[.int .i64 0] 2)).alloc (.cells #[.int .i64 1] 2)).alloc (.cells #[.int .i64 5, .int .i64 5, .int .i64 5] 2)).alloc (.cells #[.int .i64 (-1), .int .i64 9] 2)) [1000000, 1000001] 2 (wr.heap.size + 1 + 1 + 1 + 1) 2 rfl (by simp) (by intro x hx; simp only [List.mem_cons, List.not_mem_nil, or_false] at hx; rcases hx with rfl | rfl <;> exact ⟨by omega, by omega⟩)).alloc (.cells #[.int .i64 1000000] 2)).alloc (.cells #[.int .i64 9223372036854775807, .int .i64 9223372036854775807] 2)).alloc (.cells #[.slice none 0 0, .slice (some ⟨wr.heap.size, 0, none⟩) 1 1, .slice (some ⟨wr.heap.size + 1, 0, none⟩) 1 1, .slice (some ⟨wr.heap.size + 1 + 1, 0, none⟩) 3 3, .slice (some ⟨wr.heap.size + 1 + 1 + 1, 0, none⟩) 2 2, .slice (some ⟨wr.heap.size + 1 + 1 + 1 + 1, 0, none⟩) 2 2, .slice (some ⟨wr.heap.size + 1 + 1 + 1 + 1 + 1, 0, none⟩) 1 1, .slice (some ⟨w.heap.size, 0, none⟩) 251 251, .slice (some ⟨w.heap.size, 0, none⟩) 250 251, .slice (some ⟨wr.heap.size + 1 + 1 + 1 + 1 + 1 + 1, 0, none⟩) 2 2] 22))
    have L5 := (((lit_at (((((wr.alloc (.cells #[.int .i64 0] 2)).alloc (.cells #[.int .i64 1] 2)).alloc (.cells #[.int .i64 5, .int .i64 5, .int .i64 5] 2)).alloc (.cells #[.int .i64 (-1), .int .i64 9] 2)).alloc (.cells #[.int .i64 1000000, .int .i64 1000001] 2)) [1000000] 1 (wr.heap.size + 1 + 1 + 1 + 1 + 1) 2 rfl (by simp) (small_I64 (by decide))).alloc (.cells #[.int .i64 9223372036854775807, .int .i64 9223372036854775807] 2)).alloc (.cells #[.slice none 0 0, .slice (some ⟨wr.heap.size, 0, none⟩) 1 1, .slice (some ⟨wr.heap.size + 1, 0, none⟩) 1 1, .slice (some ⟨wr.heap.size + 1 + 1, 0, none⟩) 3 3, .slice (some ⟨wr.heap.size + 1 + 1 + 1, 0, none⟩) 2 2, .slice (some ⟨wr.heap.size + 1 + 1 + 1 + 1, 0, none⟩) 2 2, .slice (some ⟨wr.heap.size + 1 + 1 + 1 + 1 + 1, 0, none⟩) 1 1, .slice (some ⟨w.heap.size, 0, none⟩) 251 251, .slice (some ⟨w.heap.size, 0, none⟩) 250 251, .slice (some ⟨wr.heap.size + 1 + 1 + 1 + 1 + 1 + 1, 0, none⟩) 2 2] 22))
    have L6 := ((lit_at ((((((wr.alloc (.cells #[.int .i64 0] 2)).alloc (.cells #[.int .i64 1] 2)).alloc (.cells #[.int .i64 5, .int .i64 5, .int .i64 5] 2)).alloc (.cells #[.int .i64 (-1), .int .i64 9] 2)).alloc (.cells #[.int .i64 1000000, .int .i64 1000001] 2)).alloc (.cells #[.int .i64 1000000] 2)) [9223372036854775807, 9223372036854775807] 2 (wr.heap.size + 1 + 1 + 1 + 1 + 1 + 1) 2 rfl (by simp) (by intro x hx; simp only [List.mem_cons, List.not_mem_nil, or_false] at hx; rcases hx with rfl | rfl <;> exact ⟨by omega, by omega⟩)).alloc (.cells #[.slice none 0 0, .slice (some ⟨wr.heap.size, 0, none⟩) 1 1, .slice (some ⟨wr.heap.size + 1, 0, none⟩) 1 1, .slice (some ⟨wr.heap.size + 1 + 1, 0, none⟩) 3 3, .slice (some ⟨wr.heap.size + 1 + 1 + 1, 0, none⟩) 2 2, .slice (some ⟨wr.heap.size + 1 + 1 + 1 + 1, 0, none⟩) 2 2, .slice (some ⟨wr.heap.size + 1 + 1 + 1 + 1 + 1, 0, none⟩) 1 1, .slice (some ⟨w.heap.size, 0, none⟩) 251 251, .slice (some ⟨w.heap.size, 0, none⟩) 250 251, .slice (some ⟨wr.heap.size + 1 + 1 + 1 + 1 + 1 + 1, 0, none⟩) 2 2] 22))
    have hcell : ∀ i, ((((((((wr.alloc (.cells #[.int .i64 0] 2)).alloc (.cells #[.int .i64 1] 2)).alloc (.cells #[.int .i64 5, .int .i64 5, .int .i64 5] 2)).alloc (.cells #[.int .i64 (-1), .int .i64 9] 2)).alloc (.cells #[.int .i64 1000000, .int .i64 1000001] 2)).alloc (.cells #[.int .i64 1000000] 2)).alloc (.cells #[.int .i64 9223372036854775807, .int .i64 9223372036854775807] 2)).alloc (.cells #[.slice none 0 0, .slice (some ⟨wr.heap.size, 0, none⟩) 1 1, .slice (some ⟨wr.heap.size + 1, 0, none⟩) 1 1, .slice (some ⟨wr.heap.size + 1 + 1, 0, none⟩) 3 3, .slice (some ⟨wr.heap.size + 1 + 1 + 1, 0, none⟩) 2 2, .slice (some ⟨wr.heap.size + 1 + 1 + 1 + 1, 0, none⟩) 2 2, .slice (some ⟨wr.heap.size + 1 + 1 + 1 + 1 + 1, 0, none⟩) 1 1, .slice (some ⟨w.heap.size, 0, none⟩) 251 251, .slice (some ⟨w.heap.size, 0, none⟩) 250 251, .slice (some ⟨wr.heap.size + 1 + 1 + 1 + 1 + 1 + 1, 0, none⟩) 2 2] 22)).cell? ⟨wr.heap.size + 1 + 1 + 1 + 1 + 1 + 1 + 1, i, none⟩ = (#[.slice none 0 0, .slice (some ⟨wr.heap.size, 0, none⟩) 1 1, .slice (some ⟨wr.heap.size + 1, 0, none⟩) 1 1, .slice (some ⟨wr.heap.size + 1 + 1, 0, none⟩) 3 3, .slice (some ⟨wr.heap.size + 1 + 1 + 1, 0, none⟩) 2 2, .slice (some ⟨wr.heap.size + 1 + 1 + 1 + 1, 0, none⟩) 2 2, .slice (some ⟨wr.heap.size + 1 + 1 + 1 + 1 + 1, 0, none⟩) 1 1, .slice (some ⟨w.heap.size, 0, none⟩) 251 251, .slice (some ⟨w.heap.size, 0, none⟩) 250 251, .slice (some ⟨wr.heap.size + 1 + 1 + 1 + 1 + 1 + 1, 0, none⟩) 2 2] : Array Value)[i]? := fun i => by
      have e := heap_alloc_new (((((((wr.alloc (.cells #[.int .i64 0] 2)).alloc (.cells #[.int .i64 1] 2)).alloc (.cells #[.int .i64 5, .int .i64 5, .int .i64 5] 2)).alloc (.cells #[.int .i64 (-1), .int .i64 9] 2)).alloc (.cells #[.int .i64 1000000, .int .i64 1000001] 2)).alloc (.cells #[.int .i64 1000000] 2)).alloc (.cells #[.int .i64 9223372036854775807, .int .i64 9223372036854775807] 2)) (.cells #[.slice none 0 0, .slice (some ⟨wr.heap.size, 0, none⟩) 1 1, .slice (some ⟨wr.heap.size + 1, 0, none⟩) 1 1, .slice (some ⟨wr.heap.size + 1 + 1, 0, none⟩) 3 3, .slice (some ⟨wr.heap.size + 1 + 1 + 1, 0, none⟩) 2 2, .slice (some ⟨wr.heap.size + 1 + 1 + 1 + 1, 0, none⟩) 2 2, .slice (some ⟨wr.heap.size + 1 + 1 + 1 + 1 + 1, 0, none⟩) 1 1, .slice (some ⟨w.heap.size, 0, none⟩) 251 251, .slice (some ⟨w.heap.size, 0, none⟩) 250 251, .slice (some ⟨wr.heap.size + 1 + 1 + 1 + 1 + 1 + 1, 0, none⟩) 2 2] 22)
      simp only [World.size_alloc] at e
      rw [Lib.cell_of_heap e]
    intro i hi
    rcases (show i = 0 ∨ i = 1 ∨ i = 2 ∨ i = 3 ∨ i = 4 ∨ i = 5 ∨ i = 6 ∨ i = 7 ∨ i = 8 ∨ i = 9 by omega) with rfl | rfl | rfl | rfl | rfl | rfl | rfl | rfl | rfl | rfl
    · exact ⟨_, _, _, _, hcell 0, holds_none _ _, by omega⟩
    · exact ⟨_, _, _, _, hcell 1, L0, by omega⟩
    · exact ⟨_, _, _, _, hcell 2, L1, by omega⟩
    · exact ⟨_, _, _, _, hcell 3, L2, by omega⟩
    · exact ⟨_, _, _, _, hcell 4, L3, by omega⟩
    · exact ⟨_, _, _, _, hcell 5, L4, by omega⟩
    · exact ⟨_, _, _, _, hcell 6, L5, by omega⟩
    · exact ⟨_, _, _, _, hcell 7, H0, by omega⟩
    · exact ⟨_, _, _, _, hcell 8, H1, by omega⟩
    · exact ⟨_, _, _, _, hcell 9, L6, by omega⟩
  · have b0 := hb
    have b1 := b0.alloc b0.size (.cells #[.int .i64 0] 2)
    have b2 := b1.alloc b1.size (.cells #[.int .i64 1] 2)
    have b3 := b2.alloc b2.size (.cells #[.int .i64 5, .int .i64 5, .int .i64 5] 2)
    have b4 := b3.alloc b3.size (.cells #[.int .i64 (-1), .int .i64 9] 2)
    have b5 := b4.alloc b4.size (.cells #[.int .i64 1000000, .int .i64 1000001] 2)
    have b6 := b5.alloc b5.size (.cells #[.int .i64 1000000] 2)
    have b7 := b6.alloc b6.size (.cells #[.int .i64 9223372036854775807, .int .i64 9223372036854775807] 2)
    exact b7.alloc b7.size _

def elevenL : List Int := [-9223372036854775808, -1, 0, 1, 5, 6, 15, 16, 250, 1000000, 9223372036854775807]
theorem eleven_I64 : ∀ x ∈ elevenL, I64 x := by
  intro x hx
  simp only [elevenL, List.mem_cons, List.not_mem_nil, or_false] at hx
  rcases hx with rfl | rfl | rfl | rfl | rfl | rfl | rfl | rfl | rfl | rfl | rfl <;> exact ⟨by omega, by omega⟩
theorem eleven_holds (w : World) : Holds (w.alloc (.cells #[.int .i64 (-9223372036854775808), .int .i64 (-1), .int .i64 0, .int .i64 1, .int .i64 5, .int .i64 6, .int .i64 15, .int .i64 16, .int .i64 250, .int .i64 1000000, .int .i64 9223372036854775807] 2)) (some ⟨w.heap.size, 0, none⟩) 11 elevenL := holds_lit w elevenL _ eleven_I64
attribute [irreducible] elevenL

set_option maxRecDepth 100000 in
set_option maxHeartbeats 1600000 in
theorem Numbers_walk (w : World) :
    Calls Try.prog 3 #[] w fun e w' => e = .returned (.bool true) ∧ Below w.heap.size w w' := by
  obtain ⟨i0, hi0, hy0, hy1, hy2⟩ := info_parts info_num
  go_enter Try.func3, Try.ntmps3
  go_wp2_with (at_make; refine wpList_make_full _ (by rfl) (.const (.int .i64 251)) (.const (.int .i64 251)) 22 (by rfl) w.heap.size 2 i0 (.int .i64 0) 1 Try.underlying22 hi0 hy0 hy1 .i64 .i64 _ _ 251 (by rfl) (by rfl) rfl rfl (by rw [hy2]; omega) (by unfold maxLen; omega) (Nat.le_refl _) ?_)
  intro w2 r2 g2
  have R2 := Lib.hid (row_made r2)
  have B2 : Hid (Below w.heap.size w w2) := Lib.hid ((Below.refl _ w).grown g2 (Nat.le_refl _) (fun k e => by cases e))
  obtain ⟨g, hg⟩ : ∃ g, w.heap.size = g := ⟨_, rfl⟩
  rw [hg] at R2 B2
  replace hg := Lib.hid hg
  obtain ⟨F, hF⟩ : ∃ F : List Int, List.replicate 251 1 = F := ⟨_, rfl⟩
  have hF2 : F.length = 251 := by rw [← hF, List.length_replicate]
  have hF3 : Hid (∀ k, k < 251 → F.getD k 0 = 1) := Lib.hid (fun k hk => by rw [← hF]; exact rep_get 251 k hk)
  have hF4 : Hid (∀ x ∈ F, I64 x) := Lib.hid (fun x hx => by rw [← hF] at hx; have := List.eq_of_mem_replicate hx; subst this; exact ⟨by omega, by omega⟩)
  replace hF := Lib.hid hF
  clear r2 g2
  go_wp2_with fail
  rw [hg.out]
  go_loopw [2] (fun i wr => ∃ (k : Nat), i = .int .i64 k ∧ k ≤ 251 ∧ Hid (Row wr g (.slice (some ⟨g, 0, none⟩) 251 251) (curL F 251 k)) ∧ Hid (Below g w wr)) (fun i _ => 251 - (intOf i).toNat)
  case atStart => exact ⟨0, rfl, by omega, by rw [cur_zero]; exact R2, B2⟩
  case round =>
    obtain ⟨k, rfl, hk, hR, hB⟩ := hrel
    by_cases hlt : k < 251
    · have hcl := cur_len hF2 hk
      have hnx := cur_set hF2 hlt
      rw [hF3.out k hlt] at hnx
      obtain ⟨g', cap', e', -, hgw, hcc, hcm, hfz, hcl2⟩ := hR.out.open' (by omega)
      rw [hcl] at e' hcl2
      injection e' with e1 e2 e3
      injection e1 with e1
      injection e1 with e1
      subst e1; subst e3
      have hfk := hfz k
      have hck := hcl2 k hlt
      have hRs := hR.out.set (k := k) (by omega) 1
      rw [hnx] at hRs
      replace hRs := Lib.hid hRs
      have hBs : Below g w (wr.setCell ⟨g, k, none⟩ (.int .i64 1)) := hB.out.trans ((set_only wr g k (.int .i64 1)).below (by omega) (fun j hj e => by omega))
      replace hBs := Lib.hid hBs
      replace hnx := Lib.hid hnx
      clear hcl2 hfz
      generalize (curL F 251 k).getD k 0 = x at *
      have d1 : decide ((k : Int) < 251) = true := decide_eq_true (by omega)
      have d1' : (k : Int) < 251 := by omega
      go_wp2_with fail
      go_roundw
      case rel => exact ⟨k + 1, by go_num, by omega, hRs, hBs⟩
      case measure => simp [intOf]; omega
    · have ek : k = 251 := by omega
      rw [ek, cur_full hF2] at hR
      have d1 : decide ((k : Int) < 251) = false := decide_eq_false (by omega)
      clear ek
      have hH : Holds wr (some ⟨g, 0, none⟩) 251 F := by
        obtain ⟨A, c, e, h, -⟩ := hR.out.slice hF4.out
        rw [hF2] at e h
        injection e with e
        rw [← e] at h
        exact h
      have hH2 := hH.take (k := 250) (by omega)
      replace hH := Lib.hid hH
      replace hH2 := Lib.hid hH2
      clear R2 B2 hR
      go_wp2_with fail
      obtain ⟨W, hW, hT, hBW⟩ := ten_of wr w g F hg.out hH.out hH2.out hB.out
      rw [hW]
      clear hW hH hH2 hB hF hF3 hF4 hF2 hk hlt
      generalize wr.heap.size + 1 + 1 + 1 + 1 + 1 + 1 + 1 = G at *
      replace hT := Lib.hid hT
      replace hBW := Lib.hid hBW
      clear hg
      have dt : ∀ b : Bool, (b != b) = false := fun b => by cases b <;> rfl
      go_loopw [29] (fun i wx => ∃ (k : Nat), i = .int .i64 k ∧ k ≤ 10 ∧ Hid (Below W.heap.size W wx)) (fun i _ => 10 - (intOf i).toNat)
      case atStart => exact ⟨0, rfl, by omega, Lib.hid (Below.refl _ _)⟩
      case round =>
        rename World => wo
        obtain ⟨k, rfl, hk, hO⟩ := hrel
        by_cases hlt : k < 10
        · have d1 : decide ((k : Int) < 10) = true := decide_eq_true (by omega)
          have d1' : (k : Int) < 10 := by omega
          have hTo := Lib.hid (hT.out.below hO.out)
          obtain ⟨A, n, c, l, hcell, hl, hn⟩ := hTo.out k hlt
          replace hl := Lib.hid hl
          have hE := Lib.hid (eleven_holds wo)
          have hl2 := Lib.hid (hl.out.alloc (.cells #[.int .i64 (-9223372036854775808), .int .i64 (-1), .int .i64 0, .int .i64 1, .int .i64 5, .int .i64 6, .int .i64 15, .int .i64 16, .int .i64 250, .int .i64 1000000, .int .i64 9223372036854775807] 2))
          have hB2 := Lib.hid (hO.out.alloc hO.out.size (.cells #[.int .i64 (-9223372036854775808), .int .i64 (-1), .int .i64 0, .int .i64 1, .int .i64 5, .int .i64 6, .int .i64 15, .int .i64 16, .int .i64 250, .int .i64 1000000, .int .i64 9223372036854775807] 2))
          go_wp2_with fail
          obtain ⟨Wn, hWn⟩ : ∃ Wn, wo.alloc (.cells #[.int .i64 (-9223372036854775808), .int .i64 (-1), .int .i64 0, .int .i64 1, .int .i64 5, .int .i64 6, .int .i64 15, .int .i64 16, .int .i64 250, .int .i64 1000000, .int .i64 9223372036854775807] 2) = Wn := ⟨_, rfl⟩
          rw [hWn] at hE hl2 hB2 ⊢
          generalize wo.heap.size = ge at *
          clear hWn hl hTo hO hcell
          go_loopw [35] (fun i wx => ∃ (t : Nat), i = .int .i64 t ∧ t ≤ 11 ∧ Hid (Below Wn.heap.size Wn wx)) (fun i _ => 11 - (intOf i).toNat)
          case atStart => exact ⟨0, rfl, by omega, Lib.hid (Below.refl _ _)⟩
          case round =>
            rename World => wi
            obtain ⟨t, rfl, ht, hI⟩ := hrel
            by_cases hlt2 : t < 11
            · have e1 : decide ((t : Int) < 11) = true := decide_eq_true (by omega)
              have e1' : (t : Int) < 11 := by omega
              have hEi := hE.out.below hI.out
              obtain ⟨b, off, eb, hc⟩ := hEi.2.2 (by omega)
              injection eb with eb
              injection eb with eb eo
              subst eb; subst eo
              have hq := hc t hlt2
              rw [Nat.zero_add] at hq
              obtain ⟨q1, q2⟩ := hEi.i64 hlt2
              clear hc hEi
              generalize elevenL.getD t 0 = q at *
              have hl3 := Lib.hid (hl2.out.below hI.out)
              have HA := Lib.hid (FRight_any A n c l q wi (by omega) q1 q2 hl3)
              have HB := Lib.hid (RRight_any A n c l q wi (by omega) q1 q2 hl3)
              have HC := Lib.hid (FShare_any A n c l q wi (by omega) q1 q2 hl3)
              go_wp2_with fail
              refine HA.out.mono ?_
              rintro e w7 ⟨rfl, rfl⟩
              go_wp2_with fail
              refine HB.out.mono ?_
              rintro e w8 ⟨rfl, rfl⟩
              clear HA HB
              obtain ⟨b, hb⟩ : ∃ b, rightL l q = b := ⟨_, rfl⟩
              rw [hb]
              have db := dt b
              go_wp2_with fail
              refine HC.out.mono ?_
              rintro e w9 ⟨v, rfl, r9, b9⟩
              clear HC
              obtain ⟨G9, hG⟩ : ∃ G, shareL l q = G := ⟨_, rfl⟩
              have iG := share_I64 l q
              rw [hG] at r9 iG
              obtain ⟨A9, c9, rfl, h9, -, l9, m9, -⟩ := r9.slice iG
              obtain ⟨ng9, hng⟩ : ∃ ng, G9.length = ng := ⟨_, rfl⟩
              have lg9 := share_len l q
              rw [hG, hng] at lg9
              rw [hng] at h9 l9 ⊢
              replace h9 := Lib.hid h9
              have hx9 := Lib.hid (hl3.out.below b9)
              have B9 := Lib.hid (below_up hI.out b9)
              clear r9 b9
              have HS := Lib.hid (RShare_any A n c l q w9 (by omega) q1 q2 hx9)
              go_wp2_with fail
              refine HS.out.mono ?_
              rintro e w10 ⟨v, rfl, r10, b10⟩
              rw [hG] at r10
              obtain ⟨A10, c10, rfl, h10, -, l10, m10, -⟩ := r10.slice iG
              rw [hng] at h10 l10 ⊢
              have h910 := Lib.hid (h9.out.below b10)
              have B10 := Lib.hid (below_up B9.out b10)
              replace h10 := Lib.hid h10
              clear HS r10 b10 h9
              go_wp2_with fail
              refine (Same_yes A9 A10 ng9 c9 c10 G9 w10 (by omega) h910 h10).mono ?_
              rintro e w11 ⟨rfl, d11, rfl⟩
              have B11 := Lib.hid (below_drewN B10.out d11)
              go_wp2_with fail
              go_roundw
              case rel => exact ⟨t + 1, by go_num, by omega, B11⟩
              case measure => simp [intOf]; omega
            · obtain rfl : t = 11 := by omega
              have e1 : decide ((11 : Int) < 11) = false := by simp
              have B9 := Lib.hid (hB2.out.trans (hI.out.mono hB2.out.size))
              go_wp2_with fail
              go_roundw
              case rel => exact ⟨k + 1, by go_num, by omega, B9⟩
              case measure => simp [intOf]; omega
        · obtain rfl : k = 10 := by omega
          have d1 : decide ((10 : Int) < 10) = false := by simp
          have B9 := Lib.hid (below_up hBW.out hO.out)
          go_wp2_with fail
          refine (Known_any _).mono ?_
          rintro e w14 ⟨rfl, b14⟩
          have B14 := Lib.hid (below_up B9.out b14)
          clear b14
          go_wp2_with fail
          go_ret
          exact ⟨rfl, B14.out⟩
end Go.Proofs.Ytbdabcdpgbpadaa
