/-
  What came in, opened: a list of parts; a list of numbers.
-/
import Derived.Test.YtnjedfnaohdnfaaParts
import Derived.ProofKit
import Derived.OpenShut
import Derived.Deep.Slices
import Derived.Deep.Strs
namespace Go.Proofs.Ytnjedfnaohdnfaa
open Go.ChangeShapes Go.WideShapes Go.ChangeAt Go.RowKit Go.Deep
set_option linter.unusedVariables false
set_option linter.unusedSimpArgs false
theorem part_cells : Try.prog.cellsOf 42 = 3 := by kernel_rfl
theorem int_cells : Try.prog.cellsOf 3 = 1 := by kernel_rfl
theorem long_cells : Try.prog.cellsOf 2 = 1 := by kernel_rfl
theorem text_cells : Try.prog.cellsOf 9 = 1 := by kernel_rfl
section
variable {H : Type} {enc : TypeId × Value → H}
theorem open_parts {W : World} {a : Option Addr} {len cap : Nat} {d : DataW H} {p : List MemPlace} (h : DataW.Trod enc Try.prog W 0 (fun _ => true) true 36 (.slice a len cap) d p) :
    ∃ K N S, Parts W a len K N S ∧ len ≤ cap ∧ cap ≤ 9223372036854775807 := by
  obtain ⟨fuel, hf⟩ := h
  rcases open_slice Try.underlying36 hf with ⟨hcs, _⟩ | ⟨x, l, c, m, n, D, Pl, hcs, _, hl, hm, hmm, _, hx⟩
  · simp [Value.cells] at hcs
    obtain ⟨rfl, rfl, rfl⟩ := hcs
    exact ⟨fun _ => 0, fun _ => 0, fun _ => [], fun i hi => absurd hi (by omega), Nat.le_refl _, by omega⟩
  · simp [Value.cells] at hcs
    obtain ⟨rfl, rfl, rfl⟩ := hcs
    simp only [if_true] at hmm
    unfold maxLen at hm
    have each : ∀ i, i < len → ∃ q : Int × Int × List UInt8, W.cell? (x.add (i * 3)) = some (.int .i64 q.1) ∧ W.cell? (x.add (i * 3 + 1)) = some (.int .i64 q.2.1) ∧ W.cell? (x.add (i * 3 + 2)) = some (.string (str q.2.2)) ∧ -9223372036854775808 ≤ q.2.1 ∧ q.2.1 ≤ 9223372036854775807 := by
      intro i hi
      obtain ⟨cs', h1, h2⟩ := hx i (by omega)
      rw [part_cells] at h1
      obtain ⟨_, hlen, hcell⟩ := World.cells?_some h1
      obtain ⟨y0, y1, y2, k, hxy, _, u0, u1, u2⟩ := trod_struct3 Try.underlying42 h2
      match cs', hlen with
      | [v0, v1, v2], _ =>
        simp only [int_cells, long_cells, text_cells, List.drop, List.take] at u0 u1 u2
        obtain ⟨q0, e0, d0, _⟩ := DataW.trod_int Try.underlying3 u0
        obtain ⟨q1, e1, d1, w1⟩ := DataW.trod_int Try.underlying2 u1
        obtain ⟨s, e2, d2, _⟩ := DataW.trod_string Try.underlying9 u2
        simp only [List.cons.injEq, and_true] at e0 e1 e2
        subst e0; subst e1; subst e2
        have c0 := hcell 0 (by omega)
        have c1 := hcell 1 (by omega)
        have c2 := hcell 2 (by omega)
        rw [add_add] at c0 c1 c2
        obtain ⟨b1, b2⟩ := bounds_i64 w1
        exact ⟨(q0, q1, s.data.toList), by simpa using c0, by simpa using c1, by simpa [str_self] using c2, b1, b2⟩
    obtain ⟨q, hq⟩ := choose_lt each
    refine ⟨fun i => (q i).1, fun i => (q i).2.1, fun i => (q i).2.2, fun i hi => ?_, hl, hm⟩
    obtain ⟨h1, h2, h3, h4, h5⟩ := hq i hi
    obtain ⟨b, off, spot⟩ := x
    have hs : spot = none := by simpa [Addr.add] using World.cell?_spot (hq 0 (by omega)).1
    subst hs
    rw [WideShapes.add_plain] at h1 h2 h3
    exact ⟨b, off, rfl, h1, by rw [Nat.add_assoc]; exact h2, by rw [Nat.add_assoc]; exact h3, h4, h5⟩
end
theorem row_nums {w : World} {a : Option Addr} {len cap : Nat} {zs : List Int} (h : (a = none ∧ len = 0 ∧ cap = 0 ∧ zs = []) ∨
    ∃ x, a = some x ∧ len ≤ cap ∧ cap ≤ maxLen ∧ zs.length = cap ∧ (∀ i, i < zs.length → w.cell? (x.add i) = some (.int .i64 (zs.getD i 0))) ∧ ∀ n ∈ zs, (Lit.int .i64 n).wf = true) :
    ∃ Q, Nums w a len Q ∧ len ≤ cap ∧ cap ≤ 9223372036854775807 := by
  rcases h with ⟨rfl, rfl, rfl, rfl⟩ | ⟨x, rfl, hl, hm, hz, hc, hw⟩
  · exact ⟨fun _ => 0, fun i hi => absurd hi (by omega), Nat.le_refl _, by omega⟩
  · unfold maxLen at hm
    refine ⟨fun i => zs.getD i 0, fun i hi => ?_, hl, hm⟩
    obtain ⟨b, off, spot⟩ := x
    have hs : spot = none := by simpa [Addr.add] using World.cell?_spot (hc 0 (by omega))
    subst hs
    have e := hc i (by omega)
    rw [WideShapes.add_plain] at e
    have hk2 : i < zs.length := by omega
    have e1 : zs.getD i 0 = zs[i] := by simp [List.getD, List.getElem?_eq_getElem hk2]
    obtain ⟨b1, b2⟩ := bounds_i64 (hw _ (List.getElem_mem hk2))
    exact ⟨b, off, rfl, e, by show _ ≤ zs.getD i 0; rw [e1]; exact b1, by show zs.getD i 0 ≤ _; rw [e1]; exact b2⟩
end Go.Proofs.Ytnjedfnaohdnfaa
