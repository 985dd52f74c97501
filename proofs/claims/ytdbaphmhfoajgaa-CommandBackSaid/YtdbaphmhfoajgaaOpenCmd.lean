/-
  A command that came in, opened; where the array of a slice lies.
-/
import Derived.Test.YtdbaphmhfoajgaaCmdLaws
import Derived.Test.YtdbaphmhfoajgaaRowBytes
import Derived.ProofKit
import Derived.OpenShut
import Derived.Deep.Slices
import Derived.Deep.Fields
import Derived.Deep.Strs
import Derived.ChangeSame
import Derived.Lib.SmallJoins
namespace Go.Proofs.Ytdbaphmhfoajgaa
open Go.Joins Go.ChangeShapes Go.WideShapes Go.ChangeAt Go.RowKit Go.Deep
set_option linter.unusedVariables false
set_option linter.unusedSimpArgs false
section
variable {H : Type} {enc : TypeId × Value → H} {P : Program} {w : World} {base : Nat} {spare : Nat → Bool} {held : Bool}
theorem open_agg9 {r : Reach} {b0 : Nat} {t : TypeId} {f0 f1 f2 f3 f4 f5 f6 f7 f8 : Field} {v : Value} {d : DataW H} {p : List MemPlace} (hs : P.underlying t = some (.struct #[f0, f1, f2, f3, f4, f5, f6, f7, f8])) (hone : oneCellFields P #[f0, f1, f2, f3, f4, f5, f6, f7, f8] = true) (hC : P.cellsOf t = 9)
    (hv : Value.okWide P w r b0 t v) (h : DataW.Trod enc P w base spare held t v d p) :
    ∃ (v0 v1 v2 v3 v4 v5 v6 v7 v8 : Value) (y0 y1 y2 y3 y4 y5 y6 y7 y8 : DataW H × List MemPlace) (n : Nat), v = .agg #[v0, v1, v2, v3, v4, v5, v6, v7, v8] ∧ DataW.trod enc P w base spare held n f0.type [v0] = some y0 ∧ DataW.trod enc P w base spare held n f1.type [v1] = some y1 ∧ DataW.trod enc P w base spare held n f2.type [v2] = some y2 ∧ DataW.trod enc P w base spare held n f3.type [v3] = some y3 ∧ DataW.trod enc P w base spare held n f4.type [v4] = some y4 ∧ DataW.trod enc P w base spare held n f5.type [v5] = some y5 ∧ DataW.trod enc P w base spare held n f6.type [v6] = some y6 ∧ DataW.trod enc P w base spare held n f7.type [v7] = some y7 ∧ DataW.trod enc P w base spare held n f8.type [v8] = some y8 := by
  obtain ⟨cs, rfl, hsz⟩ := okWide_struct hs hv
  obtain ⟨l⟩ := cs
  match l, hsz.trans hC with
  | [c0, c1, c2, c3, c4, c5, c6, c7, c8], _ =>
    obtain ⟨fuel, hf⟩ := h
    obtain ⟨xs, n, _, hx, _, hlen, hg⟩ := DataW.trod_struct hs hf
    obtain ⟨o0, k0⟩ := hone_of hone 0 f0 rfl
    obtain ⟨o1, k1⟩ := hone_of hone 1 f1 rfl
    obtain ⟨o2, k2⟩ := hone_of hone 2 f2 rfl
    obtain ⟨o3, k3⟩ := hone_of hone 3 f3 rfl
    obtain ⟨o4, k4⟩ := hone_of hone 4 f4 rfl
    obtain ⟨o5, k5⟩ := hone_of hone 5 f5 rfl
    obtain ⟨o6, k6⟩ := hone_of hone 6 f6 rfl
    obtain ⟨o7, k7⟩ := hone_of hone 7 f7 rfl
    obtain ⟨o8, k8⟩ := hone_of hone 8 f8 rfl
    match xs, hlen with
    | [y0, y1, y2, y3, y4, y5, y6, y7, y8], _ =>
      exact ⟨c0, c1, c2, c3, c4, c5, c6, c7, c8, y0, y1, y2, y3, y4, y5, y6, y7, y8, n, rfl, by simpa [Value.cells, o0, k0] using hg 0 f0 rfl, by simpa [Value.cells, o1, k1] using hg 1 f1 rfl, by simpa [Value.cells, o2, k2] using hg 2 f2 rfl, by simpa [Value.cells, o3, k3] using hg 3 f3 rfl, by simpa [Value.cells, o4, k4] using hg 4 f4 rfl, by simpa [Value.cells, o5, k5] using hg 5 f5 rfl, by simpa [Value.cells, o6, k6] using hg 6 f6 rfl, by simpa [Value.cells, o7, k7] using hg 7 f7 rfl, by simpa [Value.cells, o8, k8] using hg 8 f8 rfl⟩
end
section
variable {H : Type} {enc : TypeId × Value → H}
theorem open_num {W : World} {t : TypeId} {fuel : Nat} {v : Value} {y : DataW H × List MemPlace} (ht : Try.prog.underlying t = some (.int .i64)) (hf : DataW.trod enc Try.prog W 0 (fun _ => true) true fuel t [v] = some y) : ∃ x, v = .int .i64 x ∧ I64 x := by
  obtain ⟨q, e, _, w1⟩ := DataW.trod_int ht hf
  simp only [List.cons.injEq, and_true] at e
  exact ⟨q, e, bounds_i64 w1⟩
/-- A command's numbers are int64. -/
structure C.Num (c : C) : Prop where
  k : I64 c.k
  i : I64 c.i
  n : I64 c.n
  s : I64 c.s
  p : I64 c.p
  q : I64 c.q
  l : I64 c.l
  t : I64 c.t
set_option maxRecDepth 100000 in
theorem open_cmd {W : World} {b : Nat} {v : Value} {d : DataW H} {p : List MemPlace} (hv : Value.okWide Try.prog W .any b 23 v) (h : DataW.Trod enc Try.prog W 0 (fun _ => true) true 23 v d p) :
    ∃ c : C, v = c.val ∧ c.Num := by
  obtain ⟨v0, v1, v2, v3, v4, v5, v6, v7, v8, y0, y1, y2, y3, y4, y5, y6, y7, y8, n, rfl, h0, h1, h2, h3, h4, h5, h6, h7, h8⟩ := open_agg9 Try.underlying23 (by kernel_rfl) (by kernel_rfl) hv h
  obtain ⟨k, rfl, b0⟩ := open_num Try.underlying3 h0
  obtain ⟨i, rfl, b1⟩ := open_num Try.underlying2 h1
  obtain ⟨n, rfl, b2⟩ := open_num Try.underlying3 h2
  obtain ⟨s, rfl, b3⟩ := open_num Try.underlying3 h3
  obtain ⟨p, rfl, b4⟩ := open_num Try.underlying2 h4
  obtain ⟨q, rfl, b5⟩ := open_num Try.underlying2 h5
  obtain ⟨l, rfl, b6⟩ := open_num Try.underlying2 h6
  obtain ⟨t, rfl, b7⟩ := open_num Try.underlying3 h7
  obtain ⟨s8, e8, _, _⟩ := DataW.trod_string Try.underlying9 h8
  simp only [List.cons.injEq, and_true] at e8
  subst e8
  exact ⟨⟨k, i, n, s, p, q, l, t, s8.data.toList⟩, by simp [C.val, C.cells, str_self], ⟨b0, b1, b2, b3, b4, b5, b6, b7⟩⟩
set_option maxRecDepth 100000 in
theorem slice_at {W : World} {b : Nat} {t e : TypeId} {A : Option Addr} {n c : Nat} (ht : Try.prog.underlying t = some (.slice e)) (h : Value.okWide Try.prog W .any b t (.slice A n c)) : ∀ ad, A = some ad → ad.block < W.heap.size ∧ ad.spot = none := by
  rintro ad rfl
  simp only [Value.okWide, ht, Cell.okWide, Cell.ok] at h
  obtain ⟨_, _, _, hs, row, cells, hrow, _⟩ := h
  refine ⟨?_, hs⟩
  unfold World.shape? at hrow
  rcases Nat.lt_or_ge ad.block W.heap.size with hlt | hge
  · exact hlt
  · rw [Array.getElem?_eq_none hge] at hrow
    simp at hrow
end
end Go.Proofs.Ytdbaphmhfoajgaa
