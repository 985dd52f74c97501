/-
  A command as a value; what Right answers of it; a block that holds one.
-/
import Derived.Test.YtdbaphmhfoajgaaCut
import Derived.Test.YtdbaphmhfoajgaaPut
import Derived.Test.YtdbaphmhfoajgaaReader2
import Derived.Test.YtdbaphmhfoajgaaNewReader
import Derived.Laws.StructEq
import Derived.Deep.QuietTactic
import Derived.Deep.Cut
import Derived.BigQuiet
namespace Go.Proofs.Ytdbaphmhfoajgaa
open Go.RowKit
set_option linter.unusedVariables false
set_option linter.unusedSimpArgs false

def I64 (x : Int) : Prop := -9223372036854775808 ≤ x ∧ x ≤ 9223372036854775807
/-- A command: kind, ID, instrument, side, price, quantity, least, time, label. -/
structure C where
  k : Int
  i : Int
  n : Int
  s : Int
  p : Int
  q : Int
  l : Int
  t : Int
  S : List UInt8
def C.cells (c : C) : Array Value := #[.int .i64 c.k, .int .i64 c.i, .int .i64 c.n, .int .i64 c.s, .int .i64 c.p, .int .i64 c.q, .int .i64 c.l, .int .i64 c.t, .string (str c.S)]
def C.val (c : C) : Value := .agg c.cells
structure C.Ok (c : C) : Prop where
  k : I64 c.k
  i : I64 c.i
  n : I64 c.n
  s : I64 c.s
  p : I64 c.p
  q : I64 c.q
  l : I64 c.l
  t : I64 c.t
  S : c.k = 1 → c.S.length ≤ 140737488355328
/-- What Right answers. -/
def rightL (k i n s p q l t : Int) (S : List UInt8) : Nat :=
  if k < 1 ∨ 4 < k then 31 else
  if i < 1 ∨ 1099511627776 < i then 1 else
  if k = 1 ∧ s ≠ 1 ∧ s ≠ 2 then 21 else
  if k = 1 ∧ (t < 1 ∨ 3 < t) then 27 else
  if k ≠ 2 ∧ (q < 1 ∨ 1000000 < q) then 24 else
  if k = 1 ∧ (l < 0 ∨ q < l) then 28 else
  if k = 1 ∧ S ≠ [] ∧ rightB S = false then 29 else
  if (k = 1 ∨ k = 4) ∧ (p < -2000000 ∨ 2000000 < p) then 23 else
  if k = 1 ∧ (n < 0 ∨ 255 < n) then 20 else 0
def C.right (c : C) : Nat := rightL c.k c.i c.n c.s c.p c.q c.l c.t c.S
theorem ret_n {a b : Nat} (h : a = b) : Ending.returned (.int .i64 (a : Int)) = .returned (.int .i64 (b : Int)) := by rw [h]

/-- The nine cells of a block that holds a command. -/
theorem cmd_at {W : World} {b : Nat} {k i n s p q l t : Int} {S : List UInt8} (h : W.heap[b]? = some (.cells #[.int .i64 k, .int .i64 i, .int .i64 n, .int .i64 s, .int .i64 p, .int .i64 q, .int .i64 l, .int .i64 t, .string (str S)] 23 (0, 0))) :
    W.cell? ⟨b, 0, none⟩ = some (.int .i64 k) ∧ W.cell? ⟨b, 1, none⟩ = some (.int .i64 i) ∧ W.cell? ⟨b, 2, none⟩ = some (.int .i64 n) ∧ W.cell? ⟨b, 3, none⟩ = some (.int .i64 s) ∧ W.cell? ⟨b, 4, none⟩ = some (.int .i64 p) ∧ W.cell? ⟨b, 5, none⟩ = some (.int .i64 q) ∧ W.cell? ⟨b, 6, none⟩ = some (.int .i64 l) ∧ W.cell? ⟨b, 7, none⟩ = some (.int .i64 t) ∧ W.cell? ⟨b, 8, none⟩ = some (.string (str S)) := by
  refine ⟨?_, ?_, ?_, ?_, ?_, ?_, ?_, ?_, ?_⟩ <;> (rw [Lib.cell_of_heap h]; rfl)
/-- The block of a box, behind a call that turns nothing that was. -/
theorem boxed {w W : World} {cs : Array Value} {T : TypeId} (h : Below (w.alloc (.cells cs T)).heap.size (w.alloc (.cells cs T)) W) : W.heap[w.heap.size]? = some (.cells cs T (0, 0)) :=
  (h.block w.heap.size (by simp)).trans (heap_alloc_new w _)
theorem boxed_below {w W : World} {o : Obj} (h : Below (w.alloc o).heap.size (w.alloc o) W) : Below w.heap.size w W :=
  ((Below.refl _ w).alloc (Nat.le_refl _) o).trans (h.mono (by simp))
theorem str_ne {S : List UInt8} (h : S ≠ []) : ¬ (str S).toList = [] := by
  rw [ByteArray.toList_eq]
  intro e
  exact h (by simpa [str] using e)
theorem str_none : (str []).toList = [] := by rw [ByteArray.toList_eq]; rfl
end Go.Proofs.Ytdbaphmhfoajgaa
