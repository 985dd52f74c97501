/-
  What came in, opened: a list of slices of bytes.
-/
import Derived.Test.YtnjedfnaohdnfaaManyFacts
import Derived.Test.YtnjedfnaohdnfaaRowBytes
import Derived.ProofKit
import Derived.OpenShut
import Derived.Deep.Matrix
namespace Go.Proofs.Ytnjedfnaohdnfaa
open Go.ChangeShapes Go.WideShapes Go.ChangeAt Go.RowKit Go.Deep
set_option linter.unusedVariables false
set_option linter.unusedSimpArgs false
section
variable {H : Type} {enc : TypeId × Value → H}
theorem open_grid {W : World} {a : Option Addr} {len cap : Nat} {d : DataW H} {p : List MemPlace} (h : DataW.Trod enc Try.prog W 0 (fun _ => true) true 28 (.slice a len cap) d p) :
    ∃ L, Grid W a len L ∧ len ≤ cap ∧ cap ≤ 9223372036854775807 := by
  obtain ⟨fuel, hf⟩ := h
  rcases open_int_rows Try.underlying28 Try.underlying22 Try.underlying5 (by kernel_rfl) (by kernel_rfl) hf with ⟨hcs, _⟩ | ⟨x, l, c, A, N, C, Z, hcs, _, hl, hm, _, hx⟩
  · simp [Value.cells] at hcs
    obtain ⟨rfl, rfl, rfl⟩ := hcs
    exact ⟨fun _ => [], fun i hi => absurd hi (by omega), Nat.le_refl _, by omega⟩
  · simp [Value.cells] at hcs
    obtain ⟨rfl, rfl, rfl⟩ := hcs
    unfold maxLen at hm
    have each : ∀ i, i < len → ∃ l : List UInt8, HB W (A i) (N i) l ∧ N i ≤ C i ∧ C i ≤ 9223372036854775807 ∧ (A i = none → C i = 0) := by
      intro i hi
      obtain ⟨h1, h2, h3, h4, h5, h6, h7⟩ := hx i (by omega)
      have hd : (A i = none ∧ N i = 0 ∧ C i = 0 ∧ Z i = []) ∨ ∃ x, A i = some x ∧ N i ≤ C i ∧ C i ≤ maxLen ∧ (Z i).length = C i ∧ (∀ j, j < (Z i).length → W.cell? (x.add j) = some (.int .u8 ((Z i).getD j 0))) ∧ ∀ n ∈ Z i, (Lit.int .u8 n).wf = true := by
        cases e : A i with
        | none =>
          have := h6 e
          exact .inl ⟨rfl, by omega, this, List.eq_nil_of_length_eq_zero (by omega)⟩
        | some y => exact .inr ⟨y, rfl, h2, h3, h4, fun j hj => (h7 y e).2 j (by omega), h5⟩
      obtain ⟨l, g1, g2, g3, g4⟩ := row_bytes hd
      exact ⟨l, g1, g2, g3, fun e => (g4 e).2⟩
    obtain ⟨L, hL⟩ := choose_lt each
    refine ⟨L, fun i hi => ?_, hl, hm⟩
    obtain ⟨g1, g2, g3, g4⟩ := hL i hi
    obtain ⟨h1, _⟩ := hx i (by omega)
    obtain ⟨h0, _⟩ := hx 0 (by omega)
    obtain ⟨b, off, spot⟩ := x
    have hs : spot = none := by simpa [Addr.add] using World.cell?_spot h0
    subst hs
    rw [WideShapes.add_plain] at h1
    exact ⟨b, off, _, _, _, rfl, h1, g1, g2, g3, g4⟩
end
end Go.Proofs.Ytnjedfnaohdnfaa
