/-
  What came in, opened: a list of tops.
-/
import Derived.Test.YtdeofifidjbolaaIm
import Derived.Test.YtdeofifidjbolaaOpenProd
namespace Go.Proofs.Ytdeofifidjbolaa
open Go.ChangeShapes Go.WideShapes Go.ChangeAt Go.RowKit Go.Deep
set_option linter.unusedVariables false
set_option linter.constructorNameAsVariable false
set_option linter.unusedSimpArgs false

instance : Inhabited Tp := ⟨⟨false, false, 0, 0, 0, 0⟩⟩
theorem top_cells6 : Try.prog.cellsOf 31 = 6 := by kernel_rfl
theorem cells_bools2 : Try.prog.cellsOf 28 = 2 := by kernel_rfl
theorem cells_longs2 : Try.prog.cellsOf 29 = 2 := by kernel_rfl
theorem cells_long1 : Try.prog.cellsOf 2 = 1 := by kernel_rfl
theorem cells_bool1 : Try.prog.cellsOf 4 = 1 := by kernel_rfl
section
variable {H : Type} {enc : TypeId × Value → H}
theorem open_flag {W : World} {fuel : Nat} {v : Value} {y : DataW H × List MemPlace} (h : DataW.trod enc Try.prog W 0 (fun _ => true) true fuel 4 [v] = some y) : ∃ t, v = .bool t := by
  obtain ⟨t, e5, -⟩ := DataW.trod_bool Try.underlying4 h
  exact ⟨t, by simpa using e5⟩
set_option maxRecDepth 100000 in
theorem open_bools2 {W : World} {fuel : Nat} {cs : List Value} {x : DataW H × List MemPlace} (h : DataW.trod enc Try.prog W 0 (fun _ => true) true fuel 28 cs = some x) : ∃ a b, cs = [.bool a, .bool b] := by
  obtain ⟨xs, m, _, _, hlen, hl, hf⟩ := DataW.trod_array Try.underlying28 h
  rw [cells_bools2] at hlen
  match cs, hlen, xs, hl with
  | [c0, c1], _, [y0, y1], _ =>
    have g0 := hf 0 (by omega)
    have g1 := hf 1 (by omega)
    rw [cells_bool1] at g0 g1
    obtain ⟨a, rfl⟩ := open_flag g0
    obtain ⟨b, rfl⟩ := open_flag g1
    exact ⟨a, b, rfl⟩
set_option maxRecDepth 100000 in
theorem open_longs2 {W : World} {fuel : Nat} {cs : List Value} {x : DataW H × List MemPlace} (h : DataW.trod enc Try.prog W 0 (fun _ => true) true fuel 29 cs = some x) : ∃ a b, cs = [.int .i64 a, .int .i64 b] ∧ I64 a ∧ I64 b := by
  obtain ⟨xs, m, _, _, hlen, hl, hf⟩ := DataW.trod_array Try.underlying29 h
  rw [cells_longs2] at hlen
  match cs, hlen, xs, hl with
  | [c0, c1], _, [y0, y1], _ =>
    have g0 := hf 0 (by omega)
    have g1 := hf 1 (by omega)
    rw [cells_long1] at g0 g1
    obtain ⟨a, rfl, ha⟩ := open_num Try.underlying2 g0
    obtain ⟨b, rfl, hb⟩ := open_num Try.underlying2 g1
    exact ⟨a, b, rfl, ha, hb⟩
set_option maxRecDepth 100000 in
theorem open_top6 {W : World} {fuel : Nat} {cs : List Value} {x : DataW H × List MemPlace} (h : DataW.trod enc Try.prog W 0 (fun _ => true) true fuel 31 cs = some x) : ∃ r : Tp, cs = fTp.f r ∧ r.Ok := by
  obtain ⟨xs, n, _, _, hlen, hxs, hg⟩ := DataW.trod_struct Try.underlying31 h
  rw [top_cells6] at hlen
  match cs, hlen, xs, hxs with
  | [c0, c1, c2, c3, c4, c5], _, [y0, y1, y2], _ =>
    have g0 : DataW.trod enc Try.prog W 0 (fun _ => true) true n 28 (([c0, c1, c2, c3, c4, c5].drop 0).take (Try.prog.cellsOf 28)) = [y0, y1, y2][0]? := hg 0 _ rfl
    rw [cells_bools2] at g0
    have g1 : DataW.trod enc Try.prog W 0 (fun _ => true) true n 29 (([c0, c1, c2, c3, c4, c5].drop 2).take (Try.prog.cellsOf 29)) = [y0, y1, y2][1]? := hg 1 _ rfl
    rw [cells_longs2] at g1
    have g2 : DataW.trod enc Try.prog W 0 (fun _ => true) true n 29 (([c0, c1, c2, c3, c4, c5].drop 4).take (Try.prog.cellsOf 29)) = [y0, y1, y2][2]? := hg 2 _ rfl
    rw [cells_longs2] at g2
    obtain ⟨a, b, e0⟩ := open_bools2 g0
    obtain ⟨c, d, e1, hc, hd⟩ := open_longs2 g1
    obtain ⟨e, f, e2, he, hf⟩ := open_longs2 g2
    have e0 : [c0, c1] = [.bool a, .bool b] := e0
    have e1 : [c2, c3] = [.int .i64 c, .int .i64 d] := e1
    have e2 : [c4, c5] = [.int .i64 e, .int .i64 f] := e2
    simp only [List.cons.injEq, and_true] at e0 e1 e2
    obtain ⟨rfl, rfl⟩ := e0
    obtain ⟨rfl, rfl⟩ := e1
    obtain ⟨rfl, rfl⟩ := e2
    exact ⟨⟨a, b, c, d, e, f⟩, rfl, ⟨hc, hd, he, hf⟩⟩
theorem open_tops {W : World} {a : Option Addr} {len cap : Nat} {d : DataW H} {p : List MemPlace} (h : DataW.Trod enc Try.prog W 0 (fun _ => true) true 27 (.slice a len cap) d p) :
    ∃ L, HV fTp W a len L ∧ OkT L ∧ len ≤ cap ∧ cap ≤ 9223372036854775807 := by
  obtain ⟨fuel, hf⟩ := h
  rcases open_slice Try.underlying27 hf with ⟨hcs, _⟩ | ⟨x, l, c, m, n, D, Pl, hcs, _, hl, hm, hmm, _, hx⟩
  · simp [Value.cells] at hcs
    obtain ⟨rfl, rfl, rfl⟩ := hcs
    exact ⟨[], hv_nil _ _, (fun r hr => by cases hr), Nat.le_refl _, by omega⟩
  · simp [Value.cells] at hcs
    obtain ⟨rfl, rfl, rfl⟩ := hcs
    simp only [if_true] at hmm
    unfold maxLen at hm
    have each : ∀ i, i < len → ∃ r : Tp, r.Ok ∧ ∀ j, j < 6 → W.cell? (x.add (i * 6 + j)) = (fTp.f r)[j]? := by
      intro i hi
      obtain ⟨cs', h1, h2⟩ := hx i (by omega)
      rw [top_cells6] at h1
      obtain ⟨_, hlen, hcell⟩ := World.cells?_some h1
      obtain ⟨r, rfl, hO⟩ := open_top6 h2
      refine ⟨r, hO, fun j hj => ?_⟩
      have := hcell j hj
      rw [add_add] at this
      exact this
    obtain ⟨q, hq⟩ := choose_lt each
    refine ⟨(List.range len).map q, ⟨by simp, fun i y hy => ?_⟩, ?_, hl, hm⟩
    · have hi : i < len := by have := (List.getElem?_eq_some_iff.1 hy).1; simpa using this
      have hy2 : y = q i := by
        rw [List.getElem?_map, List.getElem?_range hi] at hy
        simpa using hy.symm
      subst hy2
      obtain ⟨hO, hc⟩ := hq i hi
      obtain ⟨b, off, spot⟩ := x
      have hs : spot = none := by simpa [Addr.add] using World.cell?_spot ((hq 0 (by omega)).2 0 (by omega))
      subst hs
      refine ⟨b, off, rfl, fun m u hu => ?_⟩
      have hm5 : m < 6 := (List.getElem?_eq_some_iff.1 hu).1
      have e := hc m hm5
      rw [WideShapes.add_plain, hu] at e
      rw [Nat.add_assoc]
      exact e
    · intro r hr
      obtain ⟨i, hi, rfl⟩ := List.mem_map.1 hr
      exact (hq i (List.mem_range.1 hi)).1
theorem slice_at {W : World} {b : Nat} {t e : TypeId} {A : Option Addr} {n c : Nat} (ht : Try.prog.underlying t = some (.slice e)) (h : Value.okWide Try.prog W .any b t (.slice A n c)) : ∀ ad, A = some ad → ad.block < W.heap.size ∧ ad.spot = none := by
  rintro ad rfl
  simp only [Value.okWide, ht, Cell.okWide, Cell.ok] at h
  obtain ⟨_, _, _, hs, row, cells, hrow, _⟩ := h
  refine ⟨?_, hs⟩
  unfold World.shape? at hrow
  rcases Nat.lt_or_ge ad.block W.heap.size with hlt | hge
  · exact hlt
  · rw [Array.getElem?_eq_none hge] at hrow
    simp at hrow
end
end Go.Proofs.Ytdeofifidjbolaa
