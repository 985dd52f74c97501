/-
  What came in, opened: a report, a list of reports; the table of powers of ten, as the row lists it.
-/
import Derived.Test.YtjhfgajhmenboaaDoorRepRow
import Derived.Test.YtjhfgajhmenboaaDoorRowBytes
import Derived.Test.YtjhfgajhmenboaaDoorRepTextP
import Derived.Test.YtjhfgajhmenboaaDoorTie
import Derived.ProofKit
import Derived.OpenShut
import Derived.Deep.Slices
import Derived.Deep.Fields
import Derived.Deep.Strs
import Derived.ChangeSame
import Derived.LaidMore
import Derived.Lib.LaidTab
import Derived.Stop.Joined
import Derived.SevenTiedAt
namespace Go.Proofs.YtjhfgajhmenboaaDoor
open Go.ChangeShapes Go.WideShapes Go.ChangeAt Go.RowKit Go.Deep
set_option linter.unusedVariables false
set_option linter.unusedSimpArgs false

instance : Inhabited Q := ⟨zeroQ⟩
theorem rep_cells : Tryd.prog.cellsOf 25 = 8 := by kernel_rfl
theorem one_int : Tryd.prog.cellsOf 3 = 1 := by kernel_rfl
theorem one_long : Tryd.prog.cellsOf 2 = 1 := by kernel_rfl
theorem one_errno : Tryd.prog.cellsOf 23 = 1 := by kernel_rfl
section
variable {H : Type} {enc : TypeId × Value → H}
theorem open_num {W : World} {t : TypeId} {fuel : Nat} {v : Value} {y : DataW H × List MemPlace} (ht : Tryd.prog.underlying t = some (.int .i64)) (hf : DataW.trod enc Tryd.prog W 0 (fun _ => true) true fuel t [v] = some y) : ∃ x, v = .int .i64 x ∧ I64 x := by
  obtain ⟨q, e, _, w1⟩ := DataW.trod_int ht hf
  simp only [List.cons.injEq, and_true] at e
  exact ⟨q, e, bounds_i64 w1⟩
set_option maxRecDepth 100000 in
/-- The eight cells of a report, trodden. -/
theorem open_cells8 {W : World} {fuel : Nat} {cs : List Value} {x : DataW H × List MemPlace} (h : DataW.trod enc Tryd.prog W 0 (fun _ => true) true fuel 25 cs = some x) : ∃ r : Q, cs = r.row ∧ r.Ok := by
  obtain ⟨xs, n, _, _, hlen, hxs, hg⟩ := DataW.trod_struct Tryd.underlying25 h
  rw [rep_cells] at hlen
  match cs, hlen, xs, hxs with
  | [c0, c1, c2, c3, c4, c5, c6, c7], _, [y0, y1, y2, y3, y4, y5, y6, y7], _ =>
    have g0 := hg 0 _ rfl
    simp only [one_int, List.drop, List.take, List.getElem?_cons_zero, List.getElem?_cons_succ] at g0
    obtain ⟨k, rfl, b0⟩ := open_num Tryd.underlying3 g0
    have g1 := hg 1 _ rfl
    simp only [one_long, List.drop, List.take, List.getElem?_cons_zero, List.getElem?_cons_succ] at g1
    obtain ⟨i, rfl, b1⟩ := open_num Tryd.underlying2 g1
    have g2 := hg 2 _ rfl
    simp only [one_int, List.drop, List.take, List.getElem?_cons_zero, List.getElem?_cons_succ] at g2
    obtain ⟨n, rfl, b2⟩ := open_num Tryd.underlying3 g2
    have g3 := hg 3 _ rfl
    simp only [one_int, List.drop, List.take, List.getElem?_cons_zero, List.getElem?_cons_succ] at g3
    obtain ⟨s, rfl, b3⟩ := open_num Tryd.underlying3 g3
    have g4 := hg 4 _ rfl
    simp only [one_long, List.drop, List.take, List.getElem?_cons_zero, List.getElem?_cons_succ] at g4
    obtain ⟨p, rfl, b4⟩ := open_num Tryd.underlying2 g4
    have g5 := hg 5 _ rfl
    simp only [one_long, List.drop, List.take, List.getElem?_cons_zero, List.getElem?_cons_succ] at g5
    obtain ⟨q, rfl, b5⟩ := open_num Tryd.underlying2 g5
    have g6 := hg 6 _ rfl
    simp only [one_long, List.drop, List.take, List.getElem?_cons_zero, List.getElem?_cons_succ] at g6
    obtain ⟨l, rfl, b6⟩ := open_num Tryd.underlying2 g6
    have g7 := hg 7 _ rfl
    simp only [one_errno, List.drop, List.take, List.getElem?_cons_zero, List.getElem?_cons_succ] at g7
    obtain ⟨y, rfl, b7⟩ := open_num Tryd.underlying23 g7
    exact ⟨⟨k, i, n, s, p, q, l, y⟩, rfl, ⟨b0, b1, b2, b3, b4, b5, b6, b7⟩⟩
set_option maxRecDepth 100000 in
theorem open_rep {W : World} {b : Nat} {v : Value} {d : DataW H} {p : List MemPlace} (hv : Value.okWide Tryd.prog W .any b 25 v) (h : DataW.Trod enc Tryd.prog W 0 (fun _ => true) true 25 v d p) :
    ∃ r : Q, v = r.val ∧ r.Ok := by
  obtain ⟨cs, rfl, hsz⟩ := okWide_struct Tryd.underlying25 hv
  obtain ⟨fuel, hf⟩ := h
  obtain ⟨r, hr, hO⟩ := open_cells8 hf
  refine ⟨r, ?_, hO⟩
  obtain ⟨l⟩ := cs
  have e : l = r.row := by simpa [Value.cells] using hr
  rw [e]
  rfl
theorem open_reps {W : World} {a : Option Addr} {len cap : Nat} {d : DataW H} {p : List MemPlace} (h : DataW.Trod enc Tryd.prog W 0 (fun _ => true) true 33 (.slice a len cap) d p) :
    ∃ L, HR W a len L ∧ OkL L ∧ len ≤ cap ∧ cap ≤ 9223372036854775807 := by
  obtain ⟨fuel, hf⟩ := h
  rcases open_slice Tryd.underlying33 hf with ⟨hcs, _⟩ | ⟨x, l, c, m, n, D, Pl, hcs, _, hl, hm, hmm, _, hx⟩
  · simp [Value.cells] at hcs
    obtain ⟨rfl, rfl, rfl⟩ := hcs
    exact ⟨[], hr_nil _ _, (fun r hr => by cases hr), Nat.le_refl _, by omega⟩
  · simp [Value.cells] at hcs
    obtain ⟨rfl, rfl, rfl⟩ := hcs
    simp only [if_true] at hmm
    unfold maxLen at hm
    have each : ∀ i, i < len → ∃ r : Q, r.Ok ∧ ∀ j, j < 8 → W.cell? (x.add (i * 8 + j)) = r.row[j]? := by
      intro i hi
      obtain ⟨cs', h1, h2⟩ := hx i (by omega)
      rw [rep_cells] at h1
      obtain ⟨_, hlen, hcell⟩ := World.cells?_some h1
      obtain ⟨r, rfl, hO⟩ := open_cells8 h2
      refine ⟨r, hO, fun j hj => ?_⟩
      have := hcell j hj
      rw [add_add] at this
      exact this
    obtain ⟨q, hq⟩ := choose_lt each
    refine ⟨(List.range len).map q, ⟨by simp, fun i hi => ?_⟩, ?_, hl, hm⟩
    · obtain ⟨hO, hc⟩ := hq i hi
      obtain ⟨b, off, spot⟩ := x
      have hs : spot = none := by simpa [Addr.add] using World.cell?_spot ((hq 0 (by omega)).2 0 (by omega))
      subst hs
      have e : ((List.range len).map q).getD i zeroQ = q i := by simp [List.getD, hi]
      rw [e]
      have each : ∀ j, j < 8 → W.cell? ⟨b, off + i * 8 + j, none⟩ = (q i).row[j]? := fun j hj => by
        have := hc j hj
        rw [WideShapes.add_plain] at this
        rw [Nat.add_assoc]
        exact this
      exact ⟨b, off, rfl, each 0 (by omega), each 1 (by omega), each 2 (by omega), each 3 (by omega), each 4 (by omega), each 5 (by omega), each 6 (by omega), each 7 (by omega)⟩
    · intro r hr
      obtain ⟨i, hi, rfl⟩ := List.mem_map.1 hr
      exact (hq i (List.mem_range.1 hi)).1
set_option maxRecDepth 100000 in
theorem slice_at {W : World} {b : Nat} {t e : TypeId} {A : Option Addr} {n c : Nat} (ht : Tryd.prog.underlying t = some (.slice e)) (h : Value.okWide Tryd.prog W .any b t (.slice A n c)) : ∀ ad, A = some ad → ad.block < W.heap.size ∧ ad.spot = none := by
  rintro ad rfl
  simp only [Value.okWide, ht, Cell.okWide, Cell.ok] at h
  obtain ⟨_, _, _, hs, row, cells, hrow, _⟩ := h
  refine ⟨?_, hs⟩
  unfold World.shape? at hrow
  rcases Nat.lt_or_ge ad.block W.heap.size with hlt | hge
  · exact hlt
  · rw [Array.getElem?_eq_none hge] at hrow
    simp at hrow
end
theorem gTab : Tryd.prog.globalNamed "internal/strconv.uint64pow10" = some 0 := by kernel_rfl
theorem gTabType : (Tryd.prog.globals[0]?).map (·.type) = some 98 := by kernel_rfl
theorem tabCells : Tryd.prog.cellsOf 98 = 20 := by kernel_rfl
theorem wordCells : Tryd.prog.cellsOf 51 = 1 := by kernel_rfl
/-- What the row lists gives the table. -/
theorem of_laid {W : World} {l0 l1 : String × DataW Unit} (hp : ([l0, l1, ("internal/strconv.uint64pow10", Rows.laid_internal_strconv_uint64pow10)].all fun x => x.2.handleName?.isNone) = true) (h : laidMetH Tryd.prog [l0, l1, ("internal/strconv.uint64pow10", Rows.laid_internal_strconv_uint64pow10)] W) : Tab W := by
  rw [MakeChecks.laidMetH_plain _ _ _ hp] at h
  obtain ⟨ps, ⟨g0, t0, cs0, f0, p0, q0, hg0, ht0, hv0, hd0, ⟨g1, t1, cs1, f1, p1, q1, hg1, ht1, hv1, hd1, ⟨g2, t2, cs2, f2, p2, q2, hg2, ht2, hv2, hd2, _, _⟩, _⟩, _⟩, _, _⟩ := h
  obtain rfl := Option.some.inj (gTab.symm.trans hg2)
  obtain rfl := Option.some.inj (gTabType.symm.trans ht2)
  unfold Tab Lib.TabIs
  rw [hv2, ← Lib.cells_of_tab (k := .u64) (zs := Lib.pow10Tab) Tryd.underlying98 Tryd.underlying51 wordCells tabCells hd2]
end Go.Proofs.YtjhfgajhmenboaaDoor
