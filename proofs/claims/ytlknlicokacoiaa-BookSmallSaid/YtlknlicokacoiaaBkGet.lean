/-
  Contracts: rows, order, of book.
-/
import Derived.Test.YtlknlicokacoiaaBkLeaf
namespace Go.Proofs.Ytlknlicokacoiaa
open Go.RowKit
set_option linter.unusedVariables false
set_option linter.unusedSimpArgs false

theorem sideB_nat {s : Nat} (hs : s = 1 ∨ s = 2) : sideB (s : Int) = true := decide_eq_true (by omega)
set_option maxRecDepth 100000 in
theorem Rows_yes (b a : Nat) (V : Nat → Value) (vs : Value) (R : Nat → List (Int × Nat)) (T : List (Int × Int)) (S : List Nat) (s : Nat) (w : World) (hB : Hid (Bm b a V vs R T S w)) (hs : s = 1 ∨ s = 2) :
    Calls Try.prog 45 #[.pointer (some ⟨b, 0, none⟩), .int .i64 (s : Int)] w fun e w' => e = .returned (V s) ∧ w = w' := by
  have H := Lib.hid (IsSide_any (s : Int) w)
  rw [sideB_nat hs] at H
  obtain ⟨c1, f1⟩ := hB.out.side hs
  obtain ⟨v, ev⟩ : ∃ v, V s = v := ⟨_, rfl⟩
  rw [ev] at c1 ⊢
  have h3 : s < 3 := by omega
  clear ev hs
  go_enter Try.func45, Try.ntmps45
  go_wp2_with fail
  refine H.out.mono ?_
  rintro e w' ⟨rfl, rfl⟩
  go_wp2_with fail
  go_ret
  exact ⟨rfl, rfl⟩
set_option maxRecDepth 100000 in
theorem Rows_no (b : Nat) (s : Int) (w : World) (hs : sideB s = false) :
    Calls Try.prog 45 #[.pointer (some ⟨b, 0, none⟩), .int .i64 s] w fun e w' => e = .returned (.slice none 0 0) ∧ w = w' := by
  have H := Lib.hid (IsSide_any s w)
  rw [hs] at H
  go_enter Try.func45, Try.ntmps45
  go_wp2_with fail
  refine H.out.mono ?_
  rintro e w' ⟨rfl, rfl⟩
  go_wp2_with fail
  go_ret
  exact ⟨rfl, rfl⟩
def Or.cells (x : Or) : Array Value := #[.int .i64 x.i, .int .i64 x.s, .int .i64 x.p, .int .i64 x.n, .bool x.t]
def Or.val (x : Or) : Value := .agg x.cells
def Lv.cells (x : Lv) : Array Value := #[.int .i64 x.p, .int .i64 x.n, .int .i64 x.c]
def Lv.val (x : Lv) : Value := .agg x.cells
theorem build_order (i s p n : Int) (t : Bool) : ∀ W : World, (Instr.build 40 #[(0, .int .i64 i), (1, .int .i64 s), (2, .int .i64 p), (3, .int .i64 n), (4, .bool t)]).run Try.prog W = .ok (.agg #[.int .i64 i, .int .i64 s, .int .i64 p, .int .i64 n, .bool t]) W := fun W => by kernel_rfl
theorem row2 {w : World} {g : Nat} {T : TypeId} {x0 x1 : Value} (h : w.heap[g]? = some (.cells #[x0, x1] T (0, 0))) :
    (w.cell? ⟨g, 0, none⟩ = some x0 ∧ w.cell? ⟨g, 1, none⟩ = some x1) ∧ (w.frozen? ⟨g, 0, none⟩ = false ∧ w.frozen? ⟨g, 1, none⟩ = false) := by
  refine ⟨⟨?_, ?_⟩, Lib.frozen_of_heap h 0, Lib.frozen_of_heap h 1⟩ <;> (rw [Lib.cell_of_heap h]; rfl)
theorem row3 {w : World} {g : Nat} {T : TypeId} {x0 x1 x2 : Value} (h : w.heap[g]? = some (.cells #[x0, x1, x2] T (0, 0))) :
    (w.cell? ⟨g, 0, none⟩ = some x0 ∧ w.cell? ⟨g, 1, none⟩ = some x1 ∧ w.cell? ⟨g, 2, none⟩ = some x2) ∧ (w.frozen? ⟨g, 0, none⟩ = false ∧ w.frozen? ⟨g, 1, none⟩ = false ∧ w.frozen? ⟨g, 2, none⟩ = false) := by
  refine ⟨⟨?_, ?_, ?_⟩, Lib.frozen_of_heap h 0, Lib.frozen_of_heap h 1, Lib.frozen_of_heap h 2⟩ <;> (rw [Lib.cell_of_heap h]; rfl)
theorem set2 {w : World} {g : Nat} {T : TypeId} {x0 x1 : Value} (v0 v1 : Value) (h : w.heap[g]? = some (.cells #[x0, x1] T (0, 0))) :
    ((w.setCell ⟨g, 0, none⟩ v0).setCell ⟨g, 1, none⟩ v1).heap[g]? = some (.cells #[v0, v1] T (0, 0)) := by
  have h0 := heap_setCell_same w g 0 _ T v0 h
  exact heap_setCell_same _ g 1 _ T v1 h0
theorem set3 {w : World} {g : Nat} {T : TypeId} {x0 x1 x2 : Value} (v0 v1 v2 : Value) (h : w.heap[g]? = some (.cells #[x0, x1, x2] T (0, 0))) :
    (((w.setCell ⟨g, 0, none⟩ v0).setCell ⟨g, 1, none⟩ v1).setCell ⟨g, 2, none⟩ v2).heap[g]? = some (.cells #[v0, v1, v2] T (0, 0)) := by
  have h0 := heap_setCell_same w g 0 _ T v0 h
  have h1 := heap_setCell_same _ g 1 _ T v1 h0
  exact heap_setCell_same _ g 2 _ T v2 h1
theorem set5 {w : World} {g : Nat} {T : TypeId} {x0 x1 x2 x3 x4 : Value} (v0 v1 v2 v3 v4 : Value) (h : w.heap[g]? = some (.cells #[x0, x1, x2, x3, x4] T (0, 0))) :
    (((((w.setCell ⟨g, 0, none⟩ v0).setCell ⟨g, 1, none⟩ v1).setCell ⟨g, 2, none⟩ v2).setCell ⟨g, 3, none⟩ v3).setCell ⟨g, 4, none⟩ v4).heap[g]? = some (.cells #[v0, v1, v2, v3, v4] T (0, 0)) := by
  have h0 := heap_setCell_same w g 0 _ T v0 h
  have h1 := heap_setCell_same _ g 1 _ T v1 h0
  have h2 := heap_setCell_same _ g 2 _ T v2 h1
  have h3 := heap_setCell_same _ g 3 _ T v3 h2
  exact heap_setCell_same _ g 4 _ T v4 h3
theorem row5 {w : World} {g : Nat} {T : TypeId} {x0 x1 x2 x3 x4 : Value} (h : w.heap[g]? = some (.cells #[x0, x1, x2, x3, x4] T (0, 0))) :
    (w.cell? ⟨g, 0, none⟩ = some x0 ∧ w.cell? ⟨g, 1, none⟩ = some x1 ∧ w.cell? ⟨g, 2, none⟩ = some x2 ∧ w.cell? ⟨g, 3, none⟩ = some x3 ∧ w.cell? ⟨g, 4, none⟩ = some x4) ∧ (w.frozen? ⟨g, 0, none⟩ = false ∧ w.frozen? ⟨g, 1, none⟩ = false ∧ w.frozen? ⟨g, 2, none⟩ = false ∧ w.frozen? ⟨g, 3, none⟩ = false ∧ w.frozen? ⟨g, 4, none⟩ = false) := by
  refine ⟨⟨?_, ?_, ?_, ?_, ?_⟩, Lib.frozen_of_heap h 0, Lib.frozen_of_heap h 1, Lib.frozen_of_heap h 2, Lib.frozen_of_heap h 3, Lib.frozen_of_heap h 4⟩ <;> (rw [Lib.cell_of_heap h]; rfl)
set_option maxRecDepth 100000 in
set_option maxHeartbeats 1000000 in
theorem Order_any (b a : Nat) (V : Nat → Value) (vs : Value) (R : Nat → List (Int × Nat)) (T : List (Int × Int)) (S : List Nat) (e : En) (x : Int × Int) (w : World) (hB : Hid (Bm b a V vs R T S w)) (hx : T[e.s]? = some x) :
    Calls Try.prog 42 #[.pointer (some ⟨b, 0, none⟩), e.val] w fun e' w' => e' = .returned (Or.val ⟨e.i, x.1, x.2, e.n, e.t⟩) ∧ Below w.heap.size w w' := by
  obtain ⟨k, i, n, t⟩ := e
  obtain ⟨s, p⟩ := x
  have hk : k < 250 := by rw [← hB.out.tl]; exact (List.getElem?_eq_some_iff.1 hx).1
  simp only at hx
  obtain ⟨W0, eW0⟩ : ∃ W, w.alloc (.cells #[.int .i64 (k : Int), .int .i64 i, .int .i64 n, .bool t] 90) = W := ⟨_, rfl⟩
  have b0 : Below w.heap.size w W0 := by rw [← eW0]; exact (Below.refl _ w).alloc (Nat.le_refl _) _
  have hB0 := hB.out.below b0
  obtain ⟨c0, c1, -, -⟩ := hB0.seat hx
  obtain ⟨g, eg⟩ : ∃ g, w.heap.size = g := ⟨_, rfl⟩
  have hg : W0.heap[g]? = some (.cells #[.int .i64 (k : Int), .int .i64 i, .int .i64 n, .bool t] 90 (0, 0)) := by rw [← eW0, ← eg]; exact heap_alloc_new w _
  obtain ⟨⟨d0, d1, d2, d3⟩, -⟩ := row4 hg
  have hbo := build_order i s p n t
  show Calls Try.prog _ #[_, .agg #[.int .i64 (k : Int), .int .i64 i, .int .i64 n, .bool t]] _ _
  have hgh := Lib.hid hg
  have hxh := Lib.hid hx
  have hb0 := Lib.hid b0
  replace eg := Lib.hid eg
  clear hB0 hg hx c0 c1 d0 d1 d2 d3 b0
  obtain ⟨g1, eg1⟩ : ∃ g, W0.heap.size = g := ⟨_, rfl⟩
  go_enter Try.func42, Try.ntmps42
  go_upto_region 1 with (fail)
  obtain ⟨W1, eW1⟩ : ∃ W, W0.alloc (.cells #[.int .i64 0, .int .i64 0, .int .i64 0, .int .i64 0, .bool false] 40) = W := ⟨_, rfl⟩
  rw [eW1, eg.out]
  have b1 : Below w.heap.size w W1 := by rw [← eW1]; exact hb0.out.alloc hb0.out.size _
  have hg1 : W1.heap[g1]? = some (.cells #[.int .i64 0, .int .i64 0, .int .i64 0, .int .i64 0, .bool false] 40 (0, 0)) := by rw [← eW1, ← eg1]; exact heap_alloc_new W0 _
  have hg0 : W1.heap[g]? = some (.cells #[.int .i64 (k : Int), .int .i64 i, .int .i64 n, .bool t] 90 (0, 0)) := by rw [← eW1]; exact (heap_alloc_old W0 _ g (Array.getElem?_eq_some_iff.1 hgh.out).1).trans hgh.out
  have hB1 := hB.out.below b1
  obtain ⟨c0, c1, -, -⟩ := hB1.seat hxh.out
  obtain ⟨⟨d0, d1, d2, d3⟩, -⟩ := row4 hg0
  obtain ⟨⟨y0, y1, y2, y3, y4⟩, u0, u1, u2, u3, u4⟩ := row5 hg1
  obtain ⟨W2, eW2⟩ : ∃ W, W1.alloc (.cells #[.int .i64 0, .int .i64 0] 59) = W := ⟨_, rfl⟩
  have b2 : Below W1.heap.size W1 W2 := by rw [← eW2]; exact (Below.refl _ _).alloc (Nat.le_refl _) _
  have hh2 : W2.heap[W1.heap.size]? = some (.cells #[.int .i64 0, .int .i64 0] 59 (0, 0)) := by rw [← eW2]; exact heap_alloc_new W1 _
  have hk2 : (k : Int) < 250 := by omega
  have keep2 : ∀ {p : Addr} {v : Value}, W1.cell? p = some v → W2.cell? p = some v := fun {p v} hc => (b2.cell (p := p) (World.block_lt_of_cell? W1 _ hc)).trans hc
  have c0' := keep2 c0
  have c1' := keep2 c1
  have d0' := keep2 d0
  obtain ⟨⟨x0, x1⟩, v0, v1⟩ := row2 hh2
  clear keep2
  have hk3 : ¬ (k : Int) < 0 := by omega
  replace b1 := Lib.hid b1
  replace hg1 := Lib.hid hg1
  have hB1h := Lib.hid hB1
  have hg0h := Lib.hid hg0
  have hle1 : Hid (w.heap.size ≤ g1) := Lib.hid (by rw [← eg1]; exact hb0.out.size)
  clear eW1 hB1 hg0 hgh hb0 hxh eg1
  obtain ⟨g2, eg2⟩ : ∃ g, W1.heap.size = g := ⟨_, rfl⟩
  rw [eg2] at hh2 x0 x1 v0 v1 b2
  have fin2 : Below w.heap.size w ((W2.setCell ⟨g2, 0, none⟩ (.int .i64 s)).setCell ⟨g2, 1, none⟩ (.int .i64 p)) := by
    have hle : w.heap.size ≤ g2 := by rw [← eg2]; exact b1.out.size
    exact ((b1.out.trans (b2.mono hle)).setCell (p := ⟨g2, 0, none⟩) hle _).setCell (p := ⟨g2, 1, none⟩) hle _
  have hgg : g < g2 ∧ g1 < g2 := by
    rw [← eg2]
    exact ⟨(World.block_lt_of_cell? W1 _ d0), (Array.getElem?_eq_some_iff.1 hg1.out).1⟩
  have q2 := set2 (.int .i64 s) (.int .i64 p) hh2
  have qo : ∀ k, k < g2 → ((W2.setCell ⟨g2, 0, none⟩ (.int .i64 s)).setCell ⟨g2, 1, none⟩ (.int .i64 p)).heap[k]? = W1.heap[k]? := fun k hk => by
    rw [heap_setCell_other _ ⟨g2, 1, none⟩ k _ (by show k ≠ g2; omega), heap_setCell_other _ ⟨g2, 0, none⟩ k _ (by show k ≠ g2; omega)]
    exact b2.block k hk
  have qg := (qo g hgg.1).trans hg0h.out
  have qg1 := (qo g1 hgg.2).trans hg1.out
  replace q2 := Lib.hid q2
  replace qg := Lib.hid qg
  replace qg1 := Lib.hid qg1
  replace fin2 := Lib.hid fin2
  replace hgg := Lib.hid hgg
  replace b2 := Lib.hid b2
  replace hh2 := Lib.hid hh2
  clear qo
  go_region
  obtain ⟨W3, eW3⟩ : ∃ W, ((W2.setCell ⟨g2, 0, none⟩ (.int .i64 s)).setCell ⟨g2, 1, none⟩ (.int .i64 p)).drew = W := ⟨_, rfl⟩
  have q2' : W3.heap[g2]? = some (.cells #[.int .i64 s, .int .i64 p] 59 (0, 0)) := by rw [← eW3]; exact q2.out
  have qg' : W3.heap[g]? = some (.cells #[.int .i64 (k : Int), .int .i64 i, .int .i64 n, .bool t] 90 (0, 0)) := by rw [← eW3]; exact qg.out
  have qg1' : W3.heap[g1]? = some (.cells #[.int .i64 0, .int .i64 0, .int .i64 0, .int .i64 0, .bool false] 40 (0, 0)) := by rw [← eW3]; exact qg1.out
  have fin3 : Hid (Below w.heap.size w W3) := Lib.hid (by rw [← eW3]; exact fin2.out.drew)
  rw [eW3]
  clear eW3 c0 c1 c0' c1' d0 d1 d2 d3 d0' x0 x1 v0 v1 u0 u1 u2 u3 u4 y0 y1 y2 y3 y4 q2 qg qg1 fin2 b2 hh2 eg2 eW2
  obtain ⟨⟨d0, d1, d2, d3⟩, -⟩ := row4 qg'
  obtain ⟨⟨y0, y1, y2, y3, y4⟩, u0, u1, u2, u3, u4⟩ := row5 qg1'
  obtain ⟨⟨x0, x1⟩, -⟩ := row2 q2'
  have hl1 : w.heap.size ≤ g1 := hle1.out
  have q5 := Lib.hid (set5 (.int .i64 i) (.int .i64 s) (.int .i64 p) (.int .i64 n) (.bool t) qg1')
  have fin5 : Hid (Below w.heap.size w (((((W3.setCell ⟨g1, 0, none⟩ (.int .i64 i)).setCell ⟨g1, 1, none⟩ (.int .i64 s)).setCell ⟨g1, 2, none⟩ (.int .i64 p)).setCell ⟨g1, 3, none⟩ (.int .i64 n)).setCell ⟨g1, 4, none⟩ (.bool t))) :=
    Lib.hid (((((fin3.out.setCell (p := ⟨g1, 0, none⟩) hl1 _).setCell (p := ⟨g1, 1, none⟩) hl1 _).setCell (p := ⟨g1, 2, none⟩) hl1 _).setCell (p := ⟨g1, 3, none⟩) hl1 _).setCell (p := ⟨g1, 4, none⟩) hl1 _)
  clear q2' qg' qg1'
  go_wp2_with fail
  refine bodyPost_ret (results_cell_row rfl _ _ g1 40 _ (0, 0) _ rfl q5.out rfl rfl rfl) rfl ?_
  exact ⟨rfl, fin5.out⟩
end Go.Proofs.Ytlknlicokacoiaa
