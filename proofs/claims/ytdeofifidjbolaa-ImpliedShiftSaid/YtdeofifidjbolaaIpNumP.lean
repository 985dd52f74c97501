/-
  A top's two prices stored; a product that is none.
-/
import Derived.Test.YtdeofifidjbolaaImTopsP
import Derived.Test.YtdeofifidjbolaaGcRd
namespace Go.Proofs.Ytdeofifidjbolaa
open Go.RowKit
set_option linter.unusedVariables false
set_option linter.unusedSimpArgs false

theorem Own.pair {T : TypeId} {w : World} {base g n cap : Nat} {l : List Tp} (h : Own fTp T w base (.slice (some ⟨g, 0, none⟩) n cap) l) {j : Nat} {x : Tp} (hj : l[j]? = some x) (u v : Int) : Own fTp T ((w.setCell ⟨g, j * 6 + 2, none⟩ (.int .i64 u)).setCell ⟨g, j * 6 + 3, none⟩ (.int .i64 v)) base (.slice (some ⟨g, 0, none⟩) n cap) (l.set j ⟨x.h0, x.h1, u, v, x.q0, x.q1⟩) := by
  have hlt : j < l.length := (List.getElem?_eq_some_iff.1 hj).1
  have nx : ∀ y : Tp, (l.set j y)[j]? = some y := fun y => by rw [List.getElem?_set, if_pos rfl, if_pos hlt]
  have h1 := h.putT (m := 2) (x' := ⟨x.h0, x.h1, u, x.p1, x.q0, x.q1⟩) (v := .int .i64 u) hj (by decide) rfl
  have h2 := h1.putT (m := 3) (x' := ⟨x.h0, x.h1, u, v, x.q0, x.q1⟩) (v := .int .i64 v) (nx _) (by decide) rfl
  rw [List.set_set] at h2
  exact h2
theorem set2k {w : World} {g : Nat} {t : TypeId} {cs : Array Value} (j : Nat) (v0 : Value) (h : w.heap[g]? = some (.cells cs t (0, 0))) (hj : j + 2 ≤ cs.size) :
    w.frozen? ⟨g, j, none⟩ = false ∧ w.frozen? ⟨g, j + 1, none⟩ = false ∧ (∃ u, w.cell? ⟨g, j, none⟩ = some u) ∧ (∃ u, (w.setCell ⟨g, j, none⟩ v0).cell? ⟨g, j + 1, none⟩ = some u) := by
  have s1 := heap_setCell_same w g j cs t v0 h
  exact ⟨Lib.frozen_of_heap h _, Lib.frozen_of_heap h _, by rw [Lib.cell_of_heap h]; exact ⟨_, Array.getElem?_eq_getElem (by omega)⟩, by rw [Lib.cell_of_heap s1]; exact ⟨_, Array.getElem?_eq_getElem (by simp; omega)⟩⟩
theorem okT_set {L : List Tp} (h : OkT L) (i : Nat) {x : Tp} (hx : x.Ok) : OkT (L.set i x) := fun y hy => by
  rcases List.mem_or_eq_of_mem_set hy with e | e
  · exact h y e
  · subst e; exact hx
theorem okT_zero (n : Nat) : OkT (List.replicate n zeroT) := fun y hy => by
  obtain ⟨-, rfl⟩ := List.mem_replicate.1 hy
  exact ⟨⟨by decide, by decide⟩, ⟨by decide, by decide⟩, ⟨by decide, by decide⟩, ⟨by decide, by decide⟩⟩
/-- The product that is none. -/
def P0 : PD := ⟨[], none, 0, 0, 0, 0, 0, 0, 0, 0, 0, 0, none, 0, 0, fun _ => 0, fun _ => 0⟩
theorem P0_ok (w : World) : P0.Ok w := ⟨fun i hi => absurd hi (Nat.not_lt_zero i), fun i hi => absurd hi (Nat.not_lt_zero i), by show ([] : List UInt8).length ≤ _; simp, Nat.le_refl _, by show 0 ≤ _; omega, Nat.le_refl _, by show 0 ≤ _; omega, ⟨by decide, by decide⟩, ⟨by decide, by decide⟩, ⟨by decide, by decide⟩, ⟨by decide, by decide⟩, ⟨by decide, by decide⟩, ⟨by decide, by decide⟩, ⟨by decide, by decide⟩, ⟨by decide, by decide⟩⟩
theorem build_none : ∀ W : World, (Instr.build 25 #[]).run Try.prog W = .ok (.agg #[.string (str []), .slice none 0 0, .int .i64 0, .int .i64 0, .int .i64 0, .int .i64 0, .int .i64 0, .int .i64 0, .int .i64 0, .int .i64 0, .slice none 0 0]) W := fun W => by kernel_rfl
theorem build_two (a b : Bool) : ∀ W : World, (Instr.build 28 #[(0, .bool a), (1, .bool b)]).run Try.prog W = .ok (.agg #[.bool a, .bool b]) W := fun W => by kernel_rfl
theorem build_longs (a b : Int) : ∀ W : World, (Instr.build 29 #[(0, .int .i64 a), (1, .int .i64 b)]).run Try.prog W = .ok (.agg #[.int .i64 a, .int .i64 b]) W := fun W => by kernel_rfl
theorem build_whole (x y : Bool) (a b c d : Int) : ∀ W : World, (Instr.build 31 #[(0, .agg #[.bool x, .bool y]), (1, .agg #[.int .i64 a, .int .i64 b]), (2, .agg #[.int .i64 c, .int .i64 d])]).run Try.prog W = .ok (.agg #[.bool x, .bool y, .int .i64 a, .int .i64 b, .int .i64 c, .int .i64 d]) W := fun W => by kernel_rfl
end Go.Proofs.Ytdeofifidjbolaa
