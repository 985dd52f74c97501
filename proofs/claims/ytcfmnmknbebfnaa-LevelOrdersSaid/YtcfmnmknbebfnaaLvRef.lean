/-
  The document's own arena in memory.
-/
import Derived.Test.YtcfmnmknbebfnaaLvReads
namespace Go.Proofs.Ytcfmnmknbebfnaa
open Go.RowKit
set_option linter.unusedVariables false
set_option linter.unusedSimpArgs false

theorem RE.only {p : Nat → Prop} {T : TypeId} {w w' : World} {base : Nat} {v : Value} {l : List En} (h : RE T w base v l) (ho : Only p w w') (hn : ∀ k, v.ownBlock = some k → ¬ p k) : RE T w' base v l := row_only h ho hn
theorem rowsN_set (l : List En) : ∀ (j m : Nat) (e e' : En) (v : Value), l[j]? = some e → m < 4 → e'.row = e.row.set m v → (rowsN l).set (j * 4 + m) v = rowsN (l.set j e') := by
  induction l with
  | nil => intro j m r r' v hj; simp at hj
  | cons x l ih =>
    intro j m r r' v hj hm hr
    have h4 : x.row.length = 4 := rfl
    cases j with
    | zero =>
      simp at hj; subst hj
      rw [rowsN, List.set_append_left _ _ (by rw [h4]; omega), List.set_cons_zero, rowsN, hr]
      simp
    | succ j =>
      rw [rowsN, List.set_append_right _ _ (by rw [h4]; omega), h4, show (j + 1) * 4 + m - 4 = j * 4 + m by omega, List.set_cons_succ, rowsN]
      rw [ih j m r r' v (by simpa using hj) hm hr]
theorem RE.set {T : TypeId} {w : World} {base b n cap : Nat} {l : List En} (h : RE T w base (.slice (some ⟨b, 0, none⟩) n cap) l) {j m : Nat} {e e' : En} {v : Value} (hj : l[j]? = some e) (hm : m < 4) (hr : e'.row = e.row.set m v) : RE T (w.setCell ⟨b, j * 4 + m, none⟩ v) base (.slice (some ⟨b, 0, none⟩) n cap) (l.set j e') := by
  unfold RE at h ⊢
  have hl : (l.set j e').length = l.length := List.length_set
  have hjl : j < l.length := (List.getElem?_eq_some_iff.1 hj).1
  refine ⟨by rw [rowsN_len], ?_⟩
  rcases h.2 with ⟨e0, _⟩ | ⟨g', cap', cur, e0, b1, b2, b3, b4, b5, b6⟩
  · cases e0
  · injection e0 with e1 e2 e3
    injection e1 with e1
    injection e1 with e1
    subst e1; subst e3; subst e2
    refine .inr ⟨b, cap, cur.setIfInBounds (j * 4 + m) v, by rw [hl], b1, heap_setCell_same w b (j * 4 + m) cur _ v b2, by rw [hl]; exact b3, b4, by simp [b5], ?_⟩
    rw [hl, Array.toList_setIfInBounds, List.take_set, b6]
    exact rowsN_set l j m e e' v hj hm hr
/-- The document's arena in block c: what is used in block u, its queues' slices V in its own row q. -/
structure Rr (c u : Nat) (q : Value) (V : List Value) (U : List Bool) (Q : List (List En)) (w : World) : Prop where
  at' : w.heap[c]? = some (.cells #[.slice (some ⟨u, 0, none⟩) U.length U.length, q] 59 (0, 0))
  us : ∃ cur : Array Value, w.heap[u]? = some (.cells cur 4 (0, 0)) ∧ cur.toList = U.map Value.bool
  qs : w.ownsRow 0 64 1 q V.length V
  len : V.length = Q.length
  rows : ∀ (k : Nat) (v : Value) (l : List En), V[k]? = some v → Q[k]? = some l → RE 66 w 0 v l
  cu : c ≠ u
  qc : ∀ k, q.ownBlock = some k → k ≠ c ∧ k ≠ u
  vc : ∀ (j : Nat) (v : Value), V[j]? = some v → ∀ k, v.ownBlock = some k → k ≠ c ∧ k ≠ u ∧ q.ownBlock ≠ some k
  vv : ∀ (i j : Nat) (v v' : Value), V[i]? = some v → V[j]? = some v' → i ≠ j → ∀ k, v.ownBlock = some k → v'.ownBlock ≠ some k
  room : U.length ≤ 4096
def footR (c u : Nat) (q : Value) (V : List Value) (k : Nat) : Prop := k = c ∨ k = u ∨ q.ownBlock = some k ∨ ∃ (j : Nat) (v : Value), V[j]? = some v ∧ v.ownBlock = some k
theorem Rr.at_row {c u : Nat} {q : Value} {V : List Value} {U : List Bool} {Q : List (List En)} {w : World} (h : Rr c u q V U Q w) {j : Nat} {v : Value} (hv : V[j]? = some v) : ∃ l, Q[j]? = some l ∧ RE 66 w 0 v l := by
  obtain ⟨l, hl⟩ : ∃ l, Q[j]? = some l := ⟨_, List.getElem?_eq_getElem (by rw [← h.len]; exact (List.getElem?_eq_some_iff.1 hv).1)⟩
  exact ⟨l, hl, h.rows j v l hv hl⟩
theorem Rr.lt {c u : Nat} {q : Value} {V : List Value} {U : List Bool} {Q : List (List En)} {w : World} (h : Rr c u q V U Q w) {k : Nat} (hk : footR c u q V k) : k < w.heap.size := by
  rcases hk with rfl | rfl | hk | ⟨j, v, hv, hk⟩
  · exact (Array.getElem?_eq_some_iff.1 h.at').1
  · obtain ⟨cur, h1, _⟩ := h.us; exact (Array.getElem?_eq_some_iff.1 h1).1
  · exact (World.ownsRow.lt h.qs k hk).2
  · obtain ⟨l, hl, hr⟩ := h.at_row hv
    exact (World.ownsRow.lt hr k hk).2
theorem Rr.only {p : Nat → Prop} {c u : Nat} {q : Value} {V : List Value} {U : List Bool} {Q : List (List En)} {w w' : World} (h : Rr c u q V U Q w) (ho : Only p w w') (hp : ∀ k, footR c u q V k → ¬ p k) : Rr c u q V U Q w' := by
  obtain ⟨cur, h1, h2⟩ := h.us
  exact ⟨(ho.block c (h.lt (.inl rfl)) (hp c (.inl rfl))).trans h.at', ⟨cur, (ho.block u (h.lt (.inr (.inl rfl))) (hp u (.inr (.inl rfl)))).trans h1, h2⟩,
    row_only h.qs ho (fun k hk => hp k (.inr (.inr (.inl hk)))), h.len, fun k v l hv hl => (h.rows k v l hv hl).only ho (fun b hb => hp b (.inr (.inr (.inr ⟨k, v, hv, hb⟩)))), h.cu, h.qc, h.vc, h.vv, h.room⟩
theorem Rr.below {c u : Nat} {q : Value} {V : List Value} {U : List Bool} {Q : List (List En)} {w w' : World} (h : Rr c u q V U Q w) (hb : Below w.heap.size w w') : Rr c u q V U Q w' := h.only (only_below hb) (fun _ _ e => e)
theorem Rr.cells {c u : Nat} {q : Value} {V : List Value} {U : List Bool} {Q : List (List En)} {w : World} (h : Rr c u q V U Q w) :
    w.cell? ⟨c, 0, none⟩ = some (.slice (some ⟨u, 0, none⟩) U.length U.length) ∧ w.cell? ⟨c, 1, none⟩ = some q ∧ w.frozen? ⟨c, 0, none⟩ = false ∧ w.frozen? ⟨c, 1, none⟩ = false := by
  refine ⟨?_, ?_, Lib.frozen_of_heap h.at' 0, Lib.frozen_of_heap h.at' 1⟩ <;> (rw [Lib.cell_of_heap h.at']; rfl)
theorem Rr.used {c u : Nat} {q : Value} {V : List Value} {U : List Bool} {Q : List (List En)} {w : World} (h : Rr c u q V U Q w) {j : Nat} {b : Bool} (hb : U[j]? = some b) : w.cell? ⟨u, j, none⟩ = some (.bool b) ∧ w.frozen? ⟨u, j, none⟩ = false := by
  obtain ⟨cur, h1, h2⟩ := h.us
  refine ⟨?_, Lib.frozen_of_heap h1 _⟩
  rw [Lib.cell_of_heap h1, ← Array.getElem?_toList, h2, List.getElem?_map, hb]; rfl
theorem Rr.slice {c u : Nat} {q : Value} {V : List Value} {U : List Bool} {Q : List (List En)} {w : World} (h : Rr c u q V U Q w) : ∃ A cap, q = .slice A V.length cap ∧ V.length ≤ cap ∧ cap ≤ 9223372036854775807 := by
  rcases h.qs.2 with ⟨rfl, e0⟩ | ⟨g, cap, cur, rfl, b1, b2, b3, b4, b5, b6⟩
  · exact ⟨none, 0, by rw [e0], by omega, by omega⟩
  · simp only [maxLen] at b4
    exact ⟨_, cap, rfl, b3, by omega⟩
theorem Rr.queue {c u : Nat} {q : Value} {V : List Value} {U : List Bool} {Q : List (List En)} {w : World} (h : Rr c u q V U Q w) {j : Nat} {v : Value} (hv : V[j]? = some v) :
    ∃ g cap, q = .slice (some ⟨g, 0, none⟩) V.length cap ∧ V.length ≤ cap ∧ g ≠ c ∧ g ≠ u ∧ w.cell? ⟨g, j, none⟩ = some v ∧ w.frozen? ⟨g, j, none⟩ = false := by
  have hj : j < V.length := (List.getElem?_eq_some_iff.1 hv).1
  rcases h.qs.2 with ⟨_, e0⟩ | ⟨g, cap, cur, rfl, b1, b2, b3, b4, b5, b6⟩
  · omega
  · obtain ⟨x1, x2⟩ := h.qc g rfl
    refine ⟨g, cap, rfl, b3, x1, x2, ?_, Lib.frozen_of_heap b2 _⟩
    rw [Lib.cell_of_heap b2, ← Array.getElem?_toList]
    have : (cur.toList.take (V.length * 1))[j]? = some v := by rw [b6]; exact hv
    rw [List.getElem?_take, if_pos (by omega)] at this
    exact this
/-- An order of a queue: where it stands. -/
theorem RE.at {T : TypeId} {w : World} {base : Nat} {v : Value} {l : List En} (h : RE T w base v l) {j : Nat} {e : En} (hj : l[j]? = some e) :
    ∃ b cap, v = .slice (some ⟨b, 0, none⟩) l.length cap ∧ l.length ≤ cap ∧ cap ≤ 9223372036854775807 ∧ (w.cell? ⟨b, j * 4, none⟩ = some (.int .i64 (e.s : Int)) ∧ w.cell? ⟨b, j * 4 + 1, none⟩ = some (.int .i64 e.i) ∧ w.cell? ⟨b, j * 4 + 2, none⟩ = some (.int .i64 e.n) ∧ w.cell? ⟨b, j * 4 + 3, none⟩ = some (.bool e.t)) ∧ (∀ m, w.frozen? ⟨b, m, none⟩ = false) := by
  have hjl : j < l.length := (List.getElem?_eq_some_iff.1 hj).1
  rcases h.2 with ⟨_, e0⟩ | ⟨g, cap, cur, rfl, b1, b2, b3, b4, b5, b6⟩
  · omega
  · simp only [maxLen] at b4
    have each : ∀ m (hm : m < 4), w.cell? ⟨g, j * 4 + m, none⟩ = e.row[m]? := fun m hm => by
      rw [Lib.cell_of_heap b2, ← rowsN_get l j m e hj hm, ← b6, List.getElem?_take, if_pos (by omega), Array.getElem?_toList]
    exact ⟨g, cap, rfl, b3, by omega, ⟨each 0 (by omega), each 1 (by omega), each 2 (by omega), each 3 (by omega)⟩, fun m => Lib.frozen_of_heap b2 m⟩
theorem set_same_get {α : Type} {l : List α} {i : Nat} {x y : α} (h : l[i]? = some y) : (l.set i x)[i]? = some x := by
  rw [List.getElem?_set, if_pos rfl, if_pos (List.getElem?_eq_some_iff.1 h).1]
theorem set_get_or {α : Type} {l : List α} {i j : Nat} {x y : α} (h : (l.set i x)[j]? = some y) : (j = i ∧ y = x) ∨ (j ≠ i ∧ l[j]? = some y) := by
  rw [List.getElem?_set] at h
  split at h
  · rename_i e; subst e
    split at h
    · injection h with h; exact .inl ⟨rfl, h.symm⟩
    · cases h
  · rename_i e; exact .inr ⟨fun e2 => e e2.symm, h⟩
theorem set_heap_other {w : World} {b j k : Nat} {v : Value} (h : k ≠ b) : (w.setCell ⟨b, j, none⟩ v).heap[k]? = w.heap[k]? := heap_setCell_other w ⟨b, j, none⟩ k v h
/-- A mark of what is used is stored. -/
theorem Rr.setU {c u : Nat} {q : Value} {V : List Value} {U : List Bool} {Q : List (List En)} {w : World} (h : Rr c u q V U Q w) {j : Nat} {x b : Bool} (hj : U[j]? = some x) : Rr c u q V (U.set j b) Q (w.setCell ⟨u, j, none⟩ (.bool b)) := by
  have hl : (U.set j b).length = U.length := List.length_set
  obtain ⟨cur, h1, h2⟩ := h.us
  refine ⟨by rw [hl, set_heap_other h.cu]; exact h.at', ⟨_, heap_setCell_same w u j cur _ (.bool b) h1, ?_⟩, row_only h.qs (set_only w u j _) (fun k hk e => (h.qc k hk).2 e), h.len, fun k v l hv hl => (h.rows k v l hv hl).only (set_only w u j _) (fun k' hk' e => (h.vc k v hv k' hk').2.1 e), h.cu, h.qc, h.vc, h.vv, by rw [hl]; exact h.room⟩
  rw [Array.toList_setIfInBounds, h2, List.map_set]
/-- A number of an order is stored. -/
theorem Rr.setN {c u : Nat} {q : Value} {V : List Value} {U : List Bool} {Q : List (List En)} {w : World} (h : Rr c u q V U Q w) {k j m b n cap : Nat} {l : List En} {e e' : En} {x : Value} (hv : V[k]? = some (.slice (some ⟨b, 0, none⟩) n cap)) (hl : Q[k]? = some l) (hj : l[j]? = some e) (hm : m < 4) (hr : e'.row = e.row.set m x) :
    Rr c u q V U (Q.set k (l.set j e')) (w.setCell ⟨b, j * 4 + m, none⟩ x) := by
  obtain ⟨y1, y2, y3⟩ := h.vc k _ hv b rfl
  obtain ⟨cur, h1, h2⟩ := h.us
  refine ⟨by rw [set_heap_other (fun e => y1 e.symm)]; exact h.at', ⟨cur, by rw [set_heap_other (fun e => y2 e.symm)]; exact h1, h2⟩, row_only h.qs (set_only w b _ _) (fun k' hk' e => y3 (by rw [hk', e])), by rw [h.len]; simp, fun k' v' l' hv' hl' => ?_, h.cu, h.qc, h.vc, h.vv, h.room⟩
  rcases set_get_or hl' with ⟨rfl, rfl⟩ | ⟨hne, hl''⟩
  · rw [hv] at hv'
    injection hv' with hv'
    subst hv'
    exact RE.set (h.rows _ _ _ hv hl) hj hm hr
  · exact (h.rows k' v' l' hv' hl'').only (set_only w b _ _) (fun b' hb' e => h.vv k k' _ v' hv hv' (fun e => hne e.symm) b rfl (by rw [hb', e]))
/-- A queue's slice is stored anew: its block is the elder one's, or a new one. -/
theorem Rr.setV {c u g cap : Nat} {V : List Value} {U : List Bool} {Q : List (List En)} {w0 w : World} (h : Rr c u (.slice (some ⟨g, 0, none⟩) V.length cap) V U Q w0) {k : Nat} {v v' : Value} {l l' : List En} (hv : V[k]? = some v) (hl : Q[k]? = some l)
    (ho : Only (fun b => v.ownBlock = some b) w0 w) (hr : RE 66 w 0 v' l') (hn : ∀ b, v'.ownBlock = some b → v.ownBlock = some b ∨ w0.heap.size ≤ b) :
    Rr c u (.slice (some ⟨g, 0, none⟩) V.length cap) (V.set k v') U (Q.set k l') (w.setCell ⟨g, k, none⟩ v') := by
  have hk : k < V.length := (List.getElem?_eq_some_iff.1 hv).1
  obtain ⟨g1, g2⟩ := h.qc g rfl
  have gl : g < w0.heap.size := h.lt (.inr (.inr (.inl rfl)))
  have cl : c < w0.heap.size := h.lt (.inl rfl)
  have ul : u < w0.heap.size := h.lt (.inr (.inl rfl))
  obtain ⟨cur, h1, h2⟩ := h.us
  have vfar := h.vc k v hv
  have gfar : ∀ b, v.ownBlock = some b → b ≠ g := fun b hb e => (vfar b hb).2.2 (by rw [e]; rfl)
  have nfar : ∀ b, v'.ownBlock = some b → b ≠ c ∧ b ≠ u ∧ b ≠ g := fun b hb => by
    rcases hn b hb with e | e
    · exact ⟨(vfar b e).1, (vfar b e).2.1, gfar b e⟩
    · exact ⟨by omega, by omega, by omega⟩
  have qsw : w.ownsRow 0 64 1 (.slice (some ⟨g, 0, none⟩) V.length cap) V.length V := row_only h.qs ho (fun b hb e => gfar b e (by injection hb with hb; exact hb.symm))
  refine ⟨?_, ⟨cur, ?_, h2⟩, ?_, by simp [h.len], fun k' v2 l2 hv2 hl2 => ?_, h.cu, h.qc, fun j v2 hv2 b hb => ?_, fun i j x y hx hy hij b hb => ?_, h.room⟩
  · rw [set_heap_other (fun e => g1 e.symm), ho.block c cl (fun e => (vfar c e).1 rfl)]; exact h.at'
  · rw [set_heap_other (fun e => g2 e.symm), ho.block u ul (fun e => (vfar u e).2.1 rfl)]; exact h1
  · rcases qsw.2 with ⟨e0, _⟩ | ⟨g', cap', cur', e0, b1, b2, b3, b4, b5, b6⟩
    · cases e0
    · injection e0 with e1 e2 e3
      injection e1 with e1
      injection e1 with e1
      subst e1; subst e3
      refine ⟨by simp, .inr ⟨g, cap, cur'.setIfInBounds k v', by simp, b1, heap_setCell_same w g k cur' _ v' b2, by simpa using b3, b4, by simp [b5], ?_⟩⟩
      rw [List.length_set, Array.toList_setIfInBounds, List.take_set, b6]
  · rcases set_get_or hv2 with ⟨rfl, rfl⟩ | ⟨n1, hv2'⟩
    · rcases set_get_or hl2 with ⟨_, rfl⟩ | ⟨n2, _⟩
      · exact hr.only (set_only w g _ _) (fun b hb e => (nfar b hb).2.2 e)
      · exact absurd rfl n2
    · rcases set_get_or hl2 with ⟨n2, _⟩ | ⟨_, hl2'⟩
      · exact absurd n2 n1
      · exact ((h.rows k' v2 l2 hv2' hl2').only ho (fun b hb e => h.vv k k' v v2 hv hv2' (fun e => n1 e.symm) b e hb)).only (set_only w g _ _) (fun b hb e => (h.vc k' v2 hv2' b hb).2.2 (by rw [e]; rfl))
  · rcases set_get_or hv2 with ⟨rfl, rfl⟩ | ⟨n1, hv2'⟩
    · obtain ⟨a1, a2, a3⟩ := nfar b hb
      exact ⟨a1, a2, fun e => a3 (by injection e with e; exact e.symm)⟩
    · exact h.vc j v2 hv2' b hb
  · have old : ∀ (j : Nat) (y : Value), V[j]? = some y → ∀ b, y.ownBlock = some b → b < w0.heap.size := fun j y hy b hb => h.lt (.inr (.inr (.inr ⟨j, y, hy, hb⟩)))
    rcases set_get_or hx with ⟨rfl, rfl⟩ | ⟨n1, hx'⟩
    · rcases set_get_or hy with ⟨n2, _⟩ | ⟨n2, hy'⟩
      · exact absurd n2.symm hij
      · intro hyb
        rcases hn b hb with e | e
        · exact h.vv _ _ _ _ hv hy' (fun e => n2 e.symm) b e hyb
        · have := old j y hy' b hyb; omega
    · rcases set_get_or hy with ⟨rfl, rfl⟩ | ⟨n2, hy'⟩
      · intro hyb
        rcases hn b hyb with e | e
        · exact h.vv _ _ _ _ hv hx' (fun e => n1 e.symm) b e hb
        · have := old i x hx' b hb; omega
      · exact h.vv _ _ _ _ hx' hy' hij b hb
/-- The document's arena of this state, its blocks all of number B or later. -/
def RA (B c : Nat) (F : Nat → Prop) (st : St) (w : World) : Prop :=
  ∃ u q V, F = footR c u q V ∧ Rr c u q V st.U st.Q w ∧ st.Ok ∧ (∀ k, F k → B ≤ k)
theorem RA.lt {B c : Nat} {F : Nat → Prop} {st : St} {w : World} (h : RA B c F st w) {k : Nat} (hk : F k) : B ≤ k ∧ k < w.heap.size := by
  obtain ⟨u, q, V, rfl, hR, hO, hB⟩ := h
  exact ⟨hB k hk, hR.lt hk⟩
theorem RA.only {B c : Nat} {F p : Nat → Prop} {st : St} {w w' : World} (h : RA B c F st w) (ho : Only p w w') (hp : ∀ k, F k → ¬ p k) : RA B c F st w' := by
  obtain ⟨u, q, V, rfl, hR, hO, hB⟩ := h
  exact ⟨u, q, V, rfl, hR.only ho hp, hO, hB⟩
theorem RA.below {B c : Nat} {F : Nat → Prop} {st : St} {w w' : World} (h : RA B c F st w) (hb : Below w.heap.size w w') : RA B c F st w' := h.only (only_below hb) (fun _ _ e => e)
end Go.Proofs.Ytcfmnmknbebfnaa
