/-
  Contract: Three, a product of three months.
-/
import Derived.Test.YtpfgmebajefjaaaProd
namespace Go.Proofs.Ytpfgmebajefjaaa
open Go.RowKit
set_option linter.unusedVariables false
set_option linter.unusedSimpArgs false

def Q3 (i : Nat) : Int := if i = 0 then 320 else if i = 1 then 321 else 323
def R3 (i : Nat) : Int := if i = 0 then 500 else if i = 1 then 505 else 490
set_option maxRecDepth 100000 in
set_option maxHeartbeats 1600000 in
theorem Three_any (r : Nat) (hr : r ≤ 1000) (w : World) :
    Calls Try.prog 7 #[.int .i64 r] w fun e w' => ∃ a1 a2 : Nat, e = .returned (PD.val ⟨[67, 76], some ⟨a1, 0, none⟩, 3, 3, 5, 0, 1000, 200, r, 4, 2, 40, some ⟨a2, 0, none⟩, 3, 3, Q3, R3⟩) ∧
      Nums w' (some ⟨a1, 0, none⟩) 3 Q3 ∧ Nums w' (some ⟨a2, 0, none⟩) 3 R3 ∧ Below w.heap.size w w' := by
  go_enter Try.func7, Try.ntmps7
  go_wp2_with fail
  (try simp only [Exit.inBlock, Exit.then])
  refine bodyPost_ret (results_cell_row rfl _ _ w.heap.size 25 _ (0, 0) _ rfl ((heap_alloc_old _ _ (by simp; omega)).trans ((heap_alloc_old _ _ (by simp)).trans (heap_alloc_new w _))) rfl rfl rfl) rfl ?_
  have n0 : ∀ i : Nat, i < 3 → i = 0 ∨ i = 1 ∨ i = 2 := fun i h => by omega
  refine ⟨w.heap.size + 1, w.heap.size + 1 + 1, rfl, ?_, ?_, ?_⟩
  · obtain ⟨W1, e1⟩ : ∃ W, w.alloc (.cells #[.string { data := #[67, 76] }, .slice (some { block := w.heap.size + 1, off := 0 }) 3 3, .int .i64 5, .int .i64 0, .int .i64 1000, .int .i64 200, .int .i64 r, .int .i64 4, .int .i64 2, .int .i64 40, .slice (some { block := w.heap.size + 1 + 1, off := 0 }) 3 3] 25) = W := ⟨_, rfl⟩
    rw [e1]
    have s1 : W1.heap.size = w.heap.size + 1 := by rw [← e1]; simp
    rw [← s1]
    have hb := heap_alloc_new W1 (.cells #[.int .i64 320, .int .i64 321, .int .i64 323] 3)
    obtain ⟨W2, e2⟩ : ∃ W, W1.alloc (.cells #[.int .i64 320, .int .i64 321, .int .i64 323] 3) = W := ⟨_, rfl⟩
    have s2 : W1.heap.size < W2.heap.size := by rw [← e2]; simp
    rw [e2] at hb ⊢
    have hb := (heap_alloc_old W2 (.cells #[.int .i64 500, .int .i64 505, .int .i64 490] 2) s2).trans hb
    intro i hi
    refine ⟨_, _, rfl, ?_, ?_⟩
    · rcases n0 i hi with rfl | rfl | rfl <;> (rw [Lib.cell_of_heap hb]; rfl)
    · rcases n0 i hi with rfl | rfl | rfl <;> decide
  · obtain ⟨W1, e1⟩ : ∃ W, w.alloc (.cells #[.string { data := #[67, 76] }, .slice (some { block := w.heap.size + 1, off := 0 }) 3 3, .int .i64 5, .int .i64 0, .int .i64 1000, .int .i64 200, .int .i64 r, .int .i64 4, .int .i64 2, .int .i64 40, .slice (some { block := w.heap.size + 1 + 1, off := 0 }) 3 3] 25) = W := ⟨_, rfl⟩
    rw [e1]
    have s1 : W1.heap.size = w.heap.size + 1 := by rw [← e1]; simp
    obtain ⟨W2, e2⟩ : ∃ W, W1.alloc (.cells #[.int .i64 320, .int .i64 321, .int .i64 323] 3) = W := ⟨_, rfl⟩
    have s2 : W2.heap.size = w.heap.size + 1 + 1 := by rw [← e2, ← s1]; simp
    rw [e2, ← s2]
    have hb := heap_alloc_new W2 (.cells #[.int .i64 500, .int .i64 505, .int .i64 490] 2)
    intro i hi
    refine ⟨_, _, rfl, ?_, ?_⟩
    · rcases n0 i hi with rfl | rfl | rfl <;> (rw [Lib.cell_of_heap hb]; rfl)
    · rcases n0 i hi with rfl | rfl | rfl <;> decide
  · exact (((Below.refl _ w).alloc (Nat.le_refl _) _).alloc (by simp) _).alloc (by simp; omega) _
end Go.Proofs.Ytpfgmebajefjaaa
