/-
  The law's own tops, near a product's prices: plain lists; a row of tops made, one stored.
-/
import Derived.Test.YtdeofifidjbolaaImIn
import Derived.Test.YtdeofifidjbolaaGaBase
import Derived.Laws.MakeOwn
namespace Go.Proofs.Ytdeofifidjbolaa
open Go.RowKit
set_option linter.unusedVariables false
set_option linter.unusedSimpArgs false

def zeroT : Tp := ⟨false, false, 0, 0, 0, 0⟩
/-- A top brought near the prices. -/
def turnT (tick : Int) (x : Tp) : Tp := ⟨x.h0, x.h1, tick * x.p0.tmod 30, tick * x.p1.tmod 30, 1 + (withinN x.q0 20 : Int), 1 + (withinN x.q1 20 : Int)⟩
/-- The same with the first side alone turned. -/
def halfT (tick : Int) (x : Tp) : Tp := ⟨x.h0, x.h1, tick * x.p0.tmod 30, x.p1, 1 + (withinN x.q0 20 : Int), x.q1⟩
def topsL (tick : Int) (n : Nat) (L : List Tp) : List Tp := (List.range n).map (fun i => match L[i]? with
  | some x => turnT tick x
  | none => zeroT)
theorem topsL_len (tick : Int) (n : Nat) (L : List Tp) : (topsL tick n L).length = n := by simp [topsL]
theorem topsL_get {tick : Int} {n : Nat} {L : List Tp} {i : Nat} (h : i < n) {x : Tp} (hx : L[i]? = some x) : (topsL tick n L)[i]? = some (turnT tick x) := by
  unfold topsL
  rw [List.getElem?_map, List.getElem?_range h]
  simp only [Option.map_some, hx]
theorem topsL_none {tick : Int} {n : Nat} {L : List Tp} {i : Nat} (h : i < n) (hx : L[i]? = none) : (topsL tick n L)[i]? = some zeroT := by
  unfold topsL
  rw [List.getElem?_map, List.getElem?_range h]
  simp only [Option.map_some, hx]
/-- A row under way: its first k, and noughts. -/
def curT (F : List Tp) (n k : Nat) : List Tp := F.take k ++ List.replicate (n - k) zeroT
theorem curT_len {F : List Tp} {n k : Nat} (h : F.length = n) (hk : k ≤ n) : (curT F n k).length = n := by simp [curT]; omega
theorem curT_zero (F : List Tp) (n : Nat) : curT F n 0 = List.replicate n zeroT := by simp [curT]
theorem curT_get {F : List Tp} {n k : Nat} (h : F.length = n) (hk : k < n) : (curT F n k)[k]? = some zeroT := by
  unfold curT
  rw [List.getElem?_append_right (by rw [List.length_take]; omega), List.length_take, Nat.min_eq_left (by omega), Nat.sub_self, List.getElem?_replicate, if_pos (by omega)]
theorem curT_set {F : List Tp} {n k : Nat} {y : Tp} (h : F.length = n) (hk : k < n) (hy : F[k]? = some y) : (curT F n k).set k y = curT F n (k + 1) := by
  have hl : (F.take k).length = k := by rw [List.length_take]; omega
  unfold curT
  rw [List.set_append_right _ _ (by omega), hl, Nat.sub_self, show n - k = (n - (k + 1)) + 1 by omega, List.replicate_succ, List.set_cons_zero, List.take_add_one, hy, Option.toList_some, List.append_assoc]
  rfl
/-- Where no top was handed in, it stays nought. -/
theorem curT_end {tick : Int} {n k : Nat} {L : List Tp} (hk : k ≤ n) (h : k = n ∨ L.length ≤ k) : curT (topsL tick n L) n k = topsL tick n L := by
  apply List.ext_getElem?
  intro j
  have hl := topsL_len tick n L
  by_cases hj : j < k
  · unfold curT
    rw [List.getElem?_append_left (by rw [List.length_take]; omega), List.getElem?_take, if_pos hj]
  · by_cases hn : j < n
    · rw [topsL_none hn (List.getElem?_eq_none (by omega))]
      unfold curT
      rw [List.getElem?_append_right (by rw [List.length_take]; omega), List.length_take, List.getElem?_replicate, if_pos (by omega)]
    · rw [List.getElem?_eq_none (by rw [curT_len hl hk]; omega), List.getElem?_eq_none (by omega)]
theorem made_tops (n : Nat) : (madeCells #[.bool false, .bool false, .int .i64 0, .int .i64 0, .int .i64 0, .int .i64 0] (n * 6)).toList = rowsG fTp.f (List.replicate n zeroT) := by
  have hk : fTp.k = 6 := rfl
  apply List.ext_getElem?
  intro j
  rcases Nat.lt_or_ge j (n * 6) with hj | hj
  · have e1 : (rowsG fTp.f (List.replicate n zeroT))[j]? = (fTp.f zeroT)[j % 6]? := by
      have h := rowsG_get (fm := fTp) (List.replicate n zeroT) (j / 6) (j % 6) zeroT (by rw [List.getElem?_replicate, if_pos (by omega)]) (by rw [hk]; omega)
      rwa [hk, show j / 6 * 6 + j % 6 = j by omega] at h
    rw [e1]
    simp only [madeCells, Array.toList_map, List.getElem?_map, Array.toList_range, List.getElem?_range hj, Option.map_some]
    have : j % 6 < 6 := by omega
    show some (#[Value.bool false, .bool false, .int .i64 0, .int .i64 0, .int .i64 0, .int .i64 0][j % 6]!) = (fTp.f zeroT)[j % 6]?
    generalize j % 6 = m at this
    match m, this with
    | 0, _ => rfl
    | 1, _ => rfl
    | 2, _ => rfl
    | 3, _ => rfl
    | 4, _ => rfl
    | 5, _ => rfl
    | m + 6, h => omega
  · rw [List.getElem?_eq_none (l := rowsG fTp.f (List.replicate n zeroT)) (by rw [rowsG_len, List.length_replicate, hk]; omega), List.getElem?_eq_none (by rw [Array.length_toList, size_madeCells]; omega)]
theorem Own.putT {T : TypeId} {w : World} {base g n cap : Nat} {l : List Tp} (h : Own fTp T w base (.slice (some ⟨g, 0, none⟩) n cap) l) {j m : Nat} {x x' : Tp} {v : Value} (hj : l[j]? = some x) (hm : m < 6) (hr : fTp.f x' = (fTp.f x).set m v) : Own fTp T (w.setCell ⟨g, j * 6 + m, none⟩ v) base (.slice (some ⟨g, 0, none⟩) n cap) (l.set j x') := by
  have hl : (l.set j x').length = l.length := List.length_set
  refine ⟨rowsG_len _, ?_⟩
  rcases h.2 with ⟨e0, _⟩ | ⟨g', cap', cur, e0, b1, b2, b3, b4, b5, b6⟩
  · cases e0
  · injection e0 with e1 e2 e3
    injection e1 with e1
    injection e1 with e1
    subst e1; subst e3; subst e2
    refine .inr ⟨g, cap, cur.setIfInBounds (j * 6 + m) v, by rw [hl], b1, heap_setCell_same w g (j * 6 + m) cur _ v b2, by rw [hl]; exact b3, b4, by simp [b5], ?_⟩
    rw [hl, Array.toList_setIfInBounds, List.take_set, b6]
    exact rowsG_set (fm := fTp) l j m x x' v hj hm hr
/-- A whole top is stored, in six stores. -/
theorem Own.top6 {T : TypeId} {w : World} {base g n cap : Nat} {l : List Tp} (h : Own fTp T w base (.slice (some ⟨g, 0, none⟩) n cap) l) {j : Nat} {x : Tp} (hj : l[j]? = some x) (a b : Bool) (c d e f : Int) :
    Own fTp T ((((((w.setCell ⟨g, j * 6, none⟩ (.bool a)).setCell ⟨g, j * 6 + 1, none⟩ (.bool b)).setCell ⟨g, j * 6 + 2, none⟩ (.int .i64 c)).setCell ⟨g, j * 6 + 3, none⟩ (.int .i64 d)).setCell ⟨g, j * 6 + 4, none⟩ (.int .i64 e)).setCell ⟨g, j * 6 + 5, none⟩ (.int .i64 f)) base (.slice (some ⟨g, 0, none⟩) n cap) (l.set j ⟨a, b, c, d, e, f⟩) := by
  have hlt : j < l.length := (List.getElem?_eq_some_iff.1 hj).1
  have nx : ∀ y : Tp, (l.set j y)[j]? = some y := fun y => by rw [List.getElem?_set, if_pos rfl, if_pos hlt]
  have h1 := h.putT (m := 0) (x' := { x with h0 := a }) (v := .bool a) hj (by decide) rfl
  have h2 := h1.putT (m := 1) (x' := { x with h0 := a, h1 := b }) (v := .bool b) (nx _) (by decide) rfl
  rw [List.set_set] at h2
  have h3 := h2.putT (m := 2) (x' := { x with h0 := a, h1 := b, p0 := c }) (v := .int .i64 c) (nx _) (by decide) rfl
  rw [List.set_set] at h3
  have h4 := h3.putT (m := 3) (x' := { x with h0 := a, h1 := b, p0 := c, p1 := d }) (v := .int .i64 d) (nx _) (by decide) rfl
  rw [List.set_set] at h4
  have h5 := h4.putT (m := 4) (x' := { x with h0 := a, h1 := b, p0 := c, p1 := d, q0 := e }) (v := .int .i64 e) (nx _) (by decide) rfl
  rw [List.set_set] at h5
  have h6 := h5.putT (m := 5) (x' := ⟨a, b, c, d, e, f⟩) (v := .int .i64 f) (nx _) (by decide) rfl
  rw [List.set_set] at h6
  exact h6
theorem tmod30 (x : Int) : -29 ≤ x.tmod 30 ∧ x.tmod 30 ≤ 29 := by
  have a := Int.tmod_lt_of_pos x (show (0 : Int) < 30 by decide)
  have b := Int.neg_lt_of_neg_lt (show -(30 : Int) < x.tmod 30 from Int.lt_tmod_of_pos x (by decide)) 
  omega
theorem tick_mul {t r : Int} (h1 : 0 ≤ t) (h2 : t ≤ 1000) (h3 : -29 ≤ r) (h4 : r ≤ 29) : -29000 ≤ t * r ∧ t * r ≤ 29000 := by
  have a := Int.mul_le_mul_of_nonneg_left h4 h1
  have b := Int.mul_le_mul_of_nonneg_left h3 h1
  omega
theorem pd_blk {w W : World} {g : Nat} {p : PD} (h : w.heap[g]? = some (.cells p.cells 25 (0, 0))) (b : Below w.heap.size w W) : W.heap[g]? = some (.cells p.cells 25 (0, 0)) := (b.block g (Array.getElem?_eq_some_iff.1 h).1).trans h
/-- Six cells of a longer row stored one behind another: each is there, and none is frozen. -/
theorem set6k {w : World} {g : Nat} {t : TypeId} {cs : Array Value} (j : Nat) (v0 v1 v2 v3 v4 v5 : Value) (h : w.heap[g]? = some (.cells cs t (0, 0))) (hj : j + 6 ≤ cs.size) :
    w.frozen? ⟨g, j, none⟩ = false ∧ w.frozen? ⟨g, j + 1, none⟩ = false ∧ w.frozen? ⟨g, j + 2, none⟩ = false ∧ w.frozen? ⟨g, j + 3, none⟩ = false ∧ w.frozen? ⟨g, j + 4, none⟩ = false ∧ w.frozen? ⟨g, j + 5, none⟩ = false ∧ (∃ u, w.cell? ⟨g, j, none⟩ = some u) ∧ (∃ u, (w.setCell ⟨g, j, none⟩ v0).cell? ⟨g, j + 1, none⟩ = some u) ∧ (∃ u, ((w.setCell ⟨g, j, none⟩ v0).setCell ⟨g, j + 1, none⟩ v1).cell? ⟨g, j + 2, none⟩ = some u) ∧ (∃ u, (((w.setCell ⟨g, j, none⟩ v0).setCell ⟨g, j + 1, none⟩ v1).setCell ⟨g, j + 2, none⟩ v2).cell? ⟨g, j + 3, none⟩ = some u) ∧ (∃ u, ((((w.setCell ⟨g, j, none⟩ v0).setCell ⟨g, j + 1, none⟩ v1).setCell ⟨g, j + 2, none⟩ v2).setCell ⟨g, j + 3, none⟩ v3).cell? ⟨g, j + 4, none⟩ = some u) ∧ (∃ u, (((((w.setCell ⟨g, j, none⟩ v0).setCell ⟨g, j + 1, none⟩ v1).setCell ⟨g, j + 2, none⟩ v2).setCell ⟨g, j + 3, none⟩ v3).setCell ⟨g, j + 4, none⟩ v4).cell? ⟨g, j + 5, none⟩ = some u) := by
  have cc : ∀ {W : World} {c : Array Value} {m : Nat}, W.heap[g]? = some (.cells c t (0, 0)) → m < c.size → ∃ u, W.cell? ⟨g, m, none⟩ = some u := fun hW hm => by
    rw [Lib.cell_of_heap hW]
    exact ⟨_, Array.getElem?_eq_getElem hm⟩
  have s1 := heap_setCell_same w g j cs t v0 h
  have s2 := heap_setCell_same _ g (j + 1) _ t v1 s1
  have s3 := heap_setCell_same _ g (j + 2) _ t v2 s2
  have s4 := heap_setCell_same _ g (j + 3) _ t v3 s3
  have s5 := heap_setCell_same _ g (j + 4) _ t v4 s4
  exact ⟨Lib.frozen_of_heap h _, Lib.frozen_of_heap h _, Lib.frozen_of_heap h _, Lib.frozen_of_heap h _, Lib.frozen_of_heap h _, Lib.frozen_of_heap h _, cc h (by omega), cc s1 (by simp; omega), cc s2 (by simp; omega), cc s3 (by simp; omega), cc s4 (by simp; omega), cc s5 (by simp; omega)⟩
end Go.Proofs.Ytdeofifidjbolaa
