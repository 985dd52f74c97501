/-
  What came in, opened: a list of orders.
-/
import Derived.Test.YtabogoonbapjiaaAl
import Derived.Test.YtabogoonbapjiaaOpenProd
namespace Go.Proofs.Ytabogoonbapjiaa
open Go.ChangeShapes Go.WideShapes Go.ChangeAt Go.RowKit Go.Deep
set_option linter.unusedVariables false
set_option linter.constructorNameAsVariable false
set_option linter.unusedSimpArgs false

instance : Inhabited Or := ⟨⟨0, 0, 0, 0, false⟩⟩
theorem order_cells : Try.prog.cellsOf 23 = 5 := by kernel_rfl
theorem cells_int1 : Try.prog.cellsOf 3 = 1 := by kernel_rfl
theorem cells_long1 : Try.prog.cellsOf 2 = 1 := by kernel_rfl
theorem cells_bool1 : Try.prog.cellsOf 4 = 1 := by kernel_rfl
section
variable {H : Type} {enc : TypeId × Value → H}
set_option maxRecDepth 100000 in
theorem open_order5 {W : World} {fuel : Nat} {cs : List Value} {x : DataW H × List MemPlace} (h : DataW.trod enc Try.prog W 0 (fun _ => true) true fuel 23 cs = some x) : ∃ r : Or, cs = fO.f r ∧ r.Ok := by
  obtain ⟨xs, n, _, _, hlen, hxs, hg⟩ := DataW.trod_struct Try.underlying23 h
  rw [order_cells] at hlen
  match cs, hlen, xs, hxs with
  | [c0, c1, c2, c3, c4], _, [y0, y1, y2, y3, y4], _ =>
    have g0 := hg 0 _ rfl
    simp only [cells_int1, cells_long1, List.drop, List.take, List.getElem?_cons_zero, List.getElem?_cons_succ] at g0
    obtain ⟨i, rfl, b0⟩ := open_num Try.underlying2 g0
    have g1 := hg 1 _ rfl
    simp only [cells_int1, cells_long1, List.drop, List.take, List.getElem?_cons_zero, List.getElem?_cons_succ] at g1
    obtain ⟨s, rfl, b1⟩ := open_num Try.underlying3 g1
    have g2 := hg 2 _ rfl
    simp only [cells_int1, cells_long1, List.drop, List.take, List.getElem?_cons_zero, List.getElem?_cons_succ] at g2
    obtain ⟨p, rfl, b2⟩ := open_num Try.underlying2 g2
    have g3 := hg 3 _ rfl
    simp only [cells_int1, cells_long1, List.drop, List.take, List.getElem?_cons_zero, List.getElem?_cons_succ] at g3
    obtain ⟨n, rfl, b3⟩ := open_num Try.underlying2 g3
    have g4 := hg 4 _ rfl
    simp only [cells_bool1, List.drop, List.take, List.getElem?_cons_zero, List.getElem?_cons_succ] at g4
    obtain ⟨t, e5, -⟩ := DataW.trod_bool Try.underlying4 g4
    have e7 : List.take (Try.prog.cellsOf 4) [c4] = [Value.bool t] := e5
    rw [cells_bool1] at e7
    have e6 : c4 = .bool t := by simpa using e7
    subst e6
    exact ⟨⟨i, s, p, n, t⟩, rfl, ⟨b0, b1, b2, b3⟩⟩
theorem open_orders {W : World} {a : Option Addr} {len cap : Nat} {d : DataW H} {p : List MemPlace} (h : DataW.Trod enc Try.prog W 0 (fun _ => true) true 24 (.slice a len cap) d p) :
    ∃ L, HV fO W a len L ∧ OkO L ∧ len ≤ cap ∧ cap ≤ 9223372036854775807 := by
  obtain ⟨fuel, hf⟩ := h
  rcases open_slice Try.underlying24 hf with ⟨hcs, _⟩ | ⟨x, l, c, m, n, D, Pl, hcs, _, hl, hm, hmm, _, hx⟩
  · simp [Value.cells] at hcs
    obtain ⟨rfl, rfl, rfl⟩ := hcs
    exact ⟨[], hv_nil _ _, (fun r hr => by cases hr), Nat.le_refl _, by omega⟩
  · simp [Value.cells] at hcs
    obtain ⟨rfl, rfl, rfl⟩ := hcs
    simp only [if_true] at hmm
    unfold maxLen at hm
    have each : ∀ i, i < len → ∃ r : Or, r.Ok ∧ ∀ j, j < 5 → W.cell? (x.add (i * 5 + j)) = (fO.f r)[j]? := by
      intro i hi
      obtain ⟨cs', h1, h2⟩ := hx i (by omega)
      rw [order_cells] at h1
      obtain ⟨_, hlen, hcell⟩ := World.cells?_some h1
      obtain ⟨r, rfl, hO⟩ := open_order5 h2
      refine ⟨r, hO, fun j hj => ?_⟩
      have := hcell j hj
      rw [add_add] at this
      exact this
    obtain ⟨q, hq⟩ := choose_lt each
    refine ⟨(List.range len).map q, ⟨by simp, fun i y hy => ?_⟩, ?_, hl, hm⟩
    · have hi : i < len := by have := (List.getElem?_eq_some_iff.1 hy).1; simpa using this
      have hy2 : y = q i := by
        rw [List.getElem?_map, List.getElem?_range hi] at hy
        simpa using hy.symm
      subst hy2
      obtain ⟨hO, hc⟩ := hq i hi
      obtain ⟨b, off, spot⟩ := x
      have hs : spot = none := by simpa [Addr.add] using World.cell?_spot ((hq 0 (by omega)).2 0 (by omega))
      subst hs
      refine ⟨b, off, rfl, fun m u hu => ?_⟩
      have hm5 : m < 5 := (List.getElem?_eq_some_iff.1 hu).1
      have e := hc m hm5
      rw [WideShapes.add_plain, hu] at e
      rw [Nat.add_assoc]
      exact e
    · intro r hr
      obtain ⟨i, hi, rfl⟩ := List.mem_map.1 hr
      exact (hq i (List.mem_range.1 hi)).1
theorem slice_at {W : World} {b : Nat} {t e : TypeId} {A : Option Addr} {n c : Nat} (ht : Try.prog.underlying t = some (.slice e)) (h : Value.okWide Try.prog W .any b t (.slice A n c)) : ∀ ad, A = some ad → ad.block < W.heap.size ∧ ad.spot = none := by
  rintro ad rfl
  simp only [Value.okWide, ht, Cell.okWide, Cell.ok] at h
  obtain ⟨_, _, _, hs, row, cells, hrow, _⟩ := h
  refine ⟨?_, hs⟩
  unfold World.shape? at hrow
  rcases Nat.lt_or_ge ad.block W.heap.size with hlt | hge
  · exact hlt
  · rw [Array.getElem?_eq_none hge] at hrow
    simp at hrow
end
end Go.Proofs.Ytabogoonbapjiaa
