/-
  Tops raised one by one; quotes lowered one by one.
-/
import Derived.Test.YtdeofifidjbolaaImFacts4
import Derived.Test.YtdeofifidjbolaaImTopsP
namespace Go.Proofs.Ytdeofifidjbolaa
open Go.RowKit
set_option linter.unusedVariables false
set_option linter.unusedSimpArgs false

theorem shiftT_zero (k : Int) (T : List Tp) : shiftT k 0 T = T := rfl
theorem take_map_drop_at {α : Type} (f g : α → α) {T : List α} {i : Nat} {x : α} (h : T[i]? = some x) : ((T.take i).map f ++ (T.drop i).map g)[i]? = some (g x) := by
  have hi := (List.getElem?_eq_some_iff.1 h).1
  rw [List.getElem?_append_right (by rw [List.length_map, List.length_take]; omega), List.length_map, List.length_take, show i - min i T.length = 0 by omega, List.getElem?_map, List.getElem?_drop, Nat.add_zero, h]; rfl
theorem take_map_drop_set {α : Type} (f g : α → α) {T : List α} {i : Nat} {x : α} (h : T[i]? = some x) : ((T.take i).map f ++ (T.drop i).map g).set i (f x) = (T.take (i + 1)).map f ++ (T.drop (i + 1)).map g := by
  have hi := (List.getElem?_eq_some_iff.1 h).1
  have hx : T[i] = x := (List.getElem?_eq_some_iff.1 h).2
  have e1 : T.drop i = x :: T.drop (i + 1) := by rw [← hx]; exact List.drop_eq_getElem_cons hi
  have e2 : T.take (i + 1) = T.take i ++ [x] := by rw [List.take_add_one, h]; rfl
  rw [e1, e2, List.map_append, List.map_cons, List.append_assoc, List.set_append_right i _ (by rw [List.length_map, List.length_take]; omega), List.length_map, List.length_take, show i - min i T.length = 0 by omega]
  rfl
theorem shiftT_is (k : Int) (n : Nat) (T : List Tp) : shiftT k n T = (T.take n).map (shiftX k) ++ (T.drop n).map (fun x => x) := by rw [List.map_id']; rfl
theorem shiftT_next (k : Int) {T : List Tp} {i : Nat} {x : Tp} (h : T[i]? = some x) : (shiftT k i T)[i]? = some x := by rw [shiftT_is]; exact take_map_drop_at _ _ h
theorem shiftT_succ (k : Int) {T : List Tp} {i : Nat} {x : Tp} (h : T[i]? = some x) : (shiftT k i T).set i (shiftX k x) = shiftT k (i + 1) T := by rw [shiftT_is, shiftT_is]; exact take_map_drop_set _ _ h
theorem set_set {α : Type} (T : List α) (i : Nat) (x y : α) : (T.set i x).set i y = T.set i y := List.set_set _
theorem set_at {α : Type} {T : List α} {i : Nat} {x : α} (y : α) (h : T[i]? = some x) : (T.set i y)[i]? = some y := by
  have hi := (List.getElem?_eq_some_iff.1 h).1
  rw [List.getElem?_set_self hi]
/-- Quotes of which the first i are lowered again. -/
def lowQ (k : Int) (i : Nat) (L : List Qt) : List Qt := (L.take i).map (fun x => x) ++ (L.drop i).map (shiftQ k)
theorem lowQ_zero (k : Int) (L : List Qt) : lowQ k 0 L = L.map (shiftQ k) := rfl
theorem lowQ_len (k : Int) (i : Nat) (L : List Qt) : (lowQ k i L).length = L.length := by
  unfold lowQ
  rw [List.length_append, List.length_map, List.length_map, List.length_take, List.length_drop]; omega
theorem lowQ_at (k : Int) {L : List Qt} {i : Nat} {x : Qt} (h : L[i]? = some x) : (lowQ k i L)[i]? = some (shiftQ k x) := take_map_drop_at _ _ h
theorem lowQ_succ (k : Int) {L : List Qt} {i : Nat} {x : Qt} (h : L[i]? = some x) : (lowQ k i L).set i x = lowQ k (i + 1) L := take_map_drop_set _ _ h
theorem lowQ_end (k : Int) (L : List Qt) : lowQ k L.length L = L := by
  unfold lowQ
  rw [List.take_length, List.drop_length, List.map_id', List.map_nil, List.append_nil]
theorem shiftT_okT {k : Int} (hk : -1000000 ≤ k ∧ k ≤ 1000000) {n : Nat} {T : List Tp} (hT : ∀ x ∈ T, x.Near) (hO : OkT T) : OkT (shiftT k n T) := by
  intro x hx
  unfold shiftT at hx
  rcases List.mem_append.1 hx with h | h
  · obtain ⟨y, hy, rfl⟩ := List.mem_map.1 h
    have hm := List.mem_of_mem_take hy
    have a := hO y hm
    have b := hT y hm
    have b0 := b.a
    have b1 := b.b
    exact ⟨⟨by show _ ≤ y.p0 + k; omega, by show y.p0 + k ≤ _; omega⟩, ⟨by show _ ≤ y.p1 + k; omega, by show y.p1 + k ≤ _; omega⟩, a.q0, a.q1⟩
  · exact hO x (List.mem_of_mem_drop h)
theorem Own.putQ {T : TypeId} {w : World} {base g n cap : Nat} {l : List Qt} (h : Own fQt T w base (.slice (some ⟨g, 0, none⟩) n cap) l) {j m : Nat} {x x' : Qt} {v : Value} (hj : l[j]? = some x) (hm : m < 6) (hr : fQt.f x' = (fQt.f x).set m v) : Own fQt T (w.setCell ⟨g, j * 6 + m, none⟩ v) base (.slice (some ⟨g, 0, none⟩) n cap) (l.set j x') := by
  have hl : (l.set j x').length = l.length := List.length_set
  refine ⟨rowsG_len _, ?_⟩
  rcases h.2 with ⟨e0, _⟩ | ⟨g', cap', cur, e0, b1, b2, b3, b4, b5, b6⟩
  · cases e0
  · injection e0 with e1 e2 e3
    injection e1 with e1
    injection e1 with e1
    subst e1; subst e3; subst e2
    refine .inr ⟨g, cap, cur.setIfInBounds (j * 6 + m) v, by rw [hl], b1, heap_setCell_same w g (j * 6 + m) cur _ v b2, by rw [hl]; exact b3, b4, by simp [b5], ?_⟩
    rw [hl, Array.toList_setIfInBounds, List.take_set, b6]
    exact rowsG_set (fm := fQt) l j m x x' v hj hm hr
theorem Own.atT' {T : TypeId} {w : World} {base g n cap : Nat} {l : List Tp} (h : Own fTp T w base (.slice (some ⟨g, 0, none⟩) n cap) l) {j : Nat} {x : Tp} (hj : l[j]? = some x) : g < w.heap.size ∧ base ≤ g ∧ w.cell? ⟨g, j * 6 + 2, none⟩ = some (.int .i64 x.p0) ∧ w.cell? ⟨g, j * 6 + 3, none⟩ = some (.int .i64 x.p1) ∧ ∀ m, w.frozen? ⟨g, m, none⟩ = false := by
  have hl := (List.getElem?_eq_some_iff.1 hj).1
  obtain ⟨g', cap', cur, ev, hb, hgl, hgh, -⟩ := h.open' (by omega)
  injection ev with e1 e2 e3
  injection e1 with e1
  injection e1 with e1
  subst e1
  obtain ⟨A, c, e, hv, -⟩ := h.slice
  injection e with e4 e5 e6
  subst e4
  obtain ⟨b, off, e', x0, x1, x2, x3, x4, x5⟩ := hv.atT hj
  injection e' with e'
  injection e' with e7 e8
  subst e7; subst e8
  rw [Nat.zero_add] at x2 x3
  exact ⟨hgl, hb, x2, x3, fun m => Lib.frozen_of_heap hgh m⟩
theorem Own.atQ' {T : TypeId} {w : World} {base n cap : Nat} {A : Option Addr} {l : List Qt} (h : Own fQt T w base (.slice A n cap) l) {j : Nat} {x : Qt} (hj : l[j]? = some x) : ∃ g, A = some ⟨g, 0, none⟩ ∧ g < w.heap.size ∧ base ≤ g ∧ w.cell? ⟨g, j * 6, none⟩ = some (.int .i64 x.p) ∧ ∀ m, w.frozen? ⟨g, m, none⟩ = false := by
  have hl := (List.getElem?_eq_some_iff.1 hj).1
  obtain ⟨g', cap', cur, ev, hb, hgl, hgh, -⟩ := h.open' (by omega)
  injection ev with e1 e2 e3
  obtain ⟨A', c, e, hv, -⟩ := h.slice
  injection e with e4 e5 e6
  subst e4
  obtain ⟨b, off, e', x0, x1, x2, x3, x4, x5⟩ := hv.atQ hj
  rw [e1] at e'
  injection e' with e'
  injection e' with e7 e8
  subst e7; subst e8
  rw [Nat.zero_add] at x0
  exact ⟨g', e1, hgl, hb, x0, fun m => Lib.frozen_of_heap hgh m⟩
end Go.Proofs.Ytdeofifidjbolaa
