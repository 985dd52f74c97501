/-
  The arena in memory: its block, the places, the ends. Which blocks a call may have turned.
-/
import Derived.Test.YtlknlicokacoiaaLvOps
import Derived.Deep.RegionHeld3
import Derived.Deep.Cut
import Derived.Deep.CutRange
import Derived.Deep.QuietTactic
import Derived.Deep.AppendLies
import Derived.BigQuiet
import Derived.OwnWalk
import Derived.Lib.Builder
import Derived.IntWalk
import Derived.Laws.Unary
namespace Go.Proofs.Ytlknlicokacoiaa
open Go.RowKit
set_option linter.unusedVariables false
set_option linter.unusedSimpArgs false

/-- All blocks stand as they stood but those that p names; the streams are as they were; no block has gone. -/
structure Only (p : Nat → Prop) (w w' : World) : Prop where
  os : w'.os = w.os
  tape : w'.tape = w.tape
  output : w'.output = w.output
  size : w.heap.size ≤ w'.heap.size
  block : ∀ k, k < w.heap.size → ¬ p k → w'.heap[k]? = w.heap[k]?
theorem Only.refl (p : Nat → Prop) (w : World) : Only p w w := ⟨rfl, rfl, rfl, Nat.le_refl _, fun _ _ _ => rfl⟩
theorem Only.trans {p : Nat → Prop} {a b c : World} (h : Only p a b) (k : Only p b c) : Only p a c :=
  ⟨k.os.trans h.os, k.tape.trans h.tape, k.output.trans h.output, Nat.le_trans h.size k.size, fun i hi hp => (k.block i (Nat.lt_of_lt_of_le hi h.size) hp).trans (h.block i hi hp)⟩
theorem Only.step {p q : Nat → Prop} {a b c : World} (h : Only p a b) (k : Only q b c) (hq : ∀ i, i < a.heap.size → q i → p i) : Only p a c :=
  ⟨k.os.trans h.os, k.tape.trans h.tape, k.output.trans h.output, Nat.le_trans h.size k.size, fun i hi hp => (k.block i (Nat.lt_of_lt_of_le hi h.size) (fun e => hp (hq i hi e))).trans (h.block i hi hp)⟩
theorem only_grown {w w' : World} {row : Option Nat} (h : w.grownBy w' row) : Only (fun k => some k = row) w w' := ⟨h.os, h.tape, h.output, h.size, fun k hk hp => h.block k hk hp⟩
theorem only_below {w w' : World} (h : Below w.heap.size w w') : Only (fun _ => False) w w' := ⟨h.os, h.tape, h.output, h.size, fun k hk _ => h.block k hk⟩
theorem Only.below {p : Nat → Prop} {B : Nat} {w w' : World} (h : Only p w w') (hB : B ≤ w.heap.size) (hp : ∀ k, k < B → ¬ p k) : Below B w w' := ⟨h.os, h.tape, h.output, h.size, fun k hk => h.block k (by omega) (hp k hk)⟩
theorem Only.drewN {p : Nat → Prop} {a w : World} (h : Only p a w) (q : Nat) : Only p a (w.drewN q) := ⟨h.os, h.tape, h.output, h.size, h.block⟩
theorem Only.mono {p q : Nat → Prop} {w w' : World} (h : Only p w w') (hpq : ∀ k, k < w.heap.size → p k → q k) : Only q w w' := ⟨h.os, h.tape, h.output, h.size, fun k hk hn => h.block k hk (fun e => hn (hpq k hk e))⟩
theorem set_only (w : World) (b j : Nat) (v : Value) : Only (fun k => k = b) w (w.setCell ⟨b, j, none⟩ v) :=
  ⟨rfl, rfl, rfl, by simp, fun k _ hn => heap_setCell_other w ⟨b, j, none⟩ k v (fun e => hn (by first | exact e | exact e.symm))⟩
theorem alloc_only (w : World) (o : Obj) : Only (fun _ => False) w (w.alloc o) := only_below ((Below.refl _ w).alloc (Nat.le_refl _) o)
theorem row_only {p : Nat → Prop} {w w' : World} {base : Nat} {T : TypeId} {z : Nat} {v : Value} {n : Nat} {xs : List Value} (h : w.ownsRow base T z v n xs) (ho : Only p w w') (hn : ∀ k, v.ownBlock = some k → ¬ p k) : w'.ownsRow base T z v n xs := by
  refine ⟨h.1, ?_⟩
  rcases h.2 with h | ⟨g, cap, cur, rfl, h2, h3, h4⟩
  · exact .inl h
  · have hg : g < w.heap.size := (Array.getElem?_eq_some_iff.1 h3).1
    exact .inr ⟨g, cap, cur, rfl, h2, (ho.block g hg (hn g rfl)).trans h3, h4⟩

def Pl.row (r : Pl) : List Value := [.int .i64 r.s, .int .i64 r.i, .int .i64 r.n, .bool r.t, .int .i64 r.k, .int .i64 r.p, .int .i64 r.x]
def rowsP : List Pl → List Value
  | [] => []
  | r :: L => r.row ++ rowsP L
theorem rowsP_len (L : List Pl) : (rowsP L).length = L.length * 7 := by
  induction L with
  | nil => rfl
  | cons r L ih => rw [rowsP, List.length_append, ih, List.length_cons]; show 7 + _ = _; omega
theorem rowsP_get (L : List Pl) : ∀ (j m : Nat) (r : Pl), L[j]? = some r → m < 7 → (rowsP L)[j * 7 + m]? = r.row[m]? := by
  induction L with
  | nil => intro j m r hj; simp at hj
  | cons x L ih =>
    intro j m r hj hm
    have h7 : x.row.length = 7 := rfl
    cases j with
    | zero =>
      rw [rowsP, List.getElem?_append_left (by rw [h7]; omega)]
      simp at hj; subst hj; simp
    | succ j =>
      rw [rowsP, List.getElem?_append_right (by rw [h7]; omega), h7, show (j + 1) * 7 + m - 7 = j * 7 + m by omega]
      exact ih j m r (by simpa using hj) hm
theorem rowsP_set (L : List Pl) : ∀ (j m : Nat) (r r' : Pl) (v : Value), L[j]? = some r → m < 7 → r'.row = r.row.set m v → (rowsP L).set (j * 7 + m) v = rowsP (L.set j r') := by
  induction L with
  | nil => intro j m r r' v hj; simp at hj
  | cons x L ih =>
    intro j m r r' v hj hm hr
    have h7 : x.row.length = 7 := rfl
    cases j with
    | zero =>
      simp at hj; subst hj
      rw [rowsP, List.set_append_left _ _ (by rw [h7]; omega), List.set_cons_zero, rowsP, hr]
      simp
    | succ j =>
      rw [rowsP, List.set_append_right _ _ (by rw [h7]; omega), h7, show (j + 1) * 7 + m - 7 = j * 7 + m by omega, List.set_cons_succ, rowsP]
      rw [ih j m r r' v (by simpa using hj) hm hr]
def rowsE : List (Int × Int) → List Value
  | [] => []
  | e :: L => [.int .i64 e.1, .int .i64 e.2] ++ rowsE L
theorem rowsE_len (L : List (Int × Int)) : (rowsE L).length = L.length * 2 := by
  induction L with
  | nil => rfl
  | cons r L ih => simp only [rowsE, List.length_append, ih, List.length_cons, List.length_nil]; omega
theorem rowsE_snoc (L : List (Int × Int)) (e : Int × Int) : rowsE (L ++ [e]) = rowsE L ++ [.int .i64 e.1, .int .i64 e.2] := by
  induction L with
  | nil => simp [rowsE]
  | cons x L ih => rw [List.cons_append, rowsE, rowsE, ih, List.append_assoc]
theorem rowsE_get (L : List (Int × Int)) : ∀ (j m : Nat) (e : Int × Int), L[j]? = some e → m < 2 → (rowsE L)[j * 2 + m]? = [Value.int .i64 e.1, .int .i64 e.2][m]? := by
  induction L with
  | nil => intro j m r hj; simp at hj
  | cons x L ih =>
    intro j m r hj hm
    cases j with
    | zero =>
      rw [rowsE, List.getElem?_append_left (by simp; omega)]
      simp at hj; subst hj; simp
    | succ j =>
      rw [rowsE, List.getElem?_append_right (by simp; omega), show (j + 1) * 2 + m - [Value.int .i64 x.1, .int .i64 x.2].length = j * 2 + m by simp; omega]
      exact ih j m r (by simpa using hj) hm
theorem rowsE_set (L : List (Int × Int)) : ∀ (j m : Nat) (e e' : Int × Int) (v : Value), L[j]? = some e → m < 2 → [Value.int .i64 e'.1, .int .i64 e'.2] = [Value.int .i64 e.1, .int .i64 e.2].set m v → (rowsE L).set (j * 2 + m) v = rowsE (L.set j e') := by
  induction L with
  | nil => intro j m r r' v hj; simp at hj
  | cons x L ih =>
    intro j m r r' v hj hm hr
    cases j with
    | zero =>
      simp at hj; subst hj
      rw [rowsE, List.set_append_left _ _ (by simp; omega), List.set_cons_zero, rowsE, hr]
      simp
    | succ j =>
      rw [rowsE, List.set_append_right _ _ (by simp; omega), show (j + 1) * 2 + m - [Value.int .i64 x.1, .int .i64 x.2].length = j * 2 + m by simp; omega, List.set_cons_succ, rowsE]
      rw [ih j m r r' v (by simpa using hj) hm hr]

/-- The arena in block c: its places in block s, its ends in the call's own row q. -/
structure Ar (c s : Nat) (q : Value) (L : List Pl) (E : List (Int × Int)) (w : World) : Prop where
  at' : w.heap[c]? = some (.cells #[.slice (some ⟨s, 0, none⟩) L.length L.length, q] 102 (0, 0))
  pl : ∃ cur : Array Value, w.heap[s]? = some (.cells cur 112 (0, 0)) ∧ cur.toList = rowsP L
  en : w.ownsRow 0 115 2 q E.length (rowsE E)
  cs : c ≠ s
  qc : ∀ k, q.ownBlock = some k → k ≠ c ∧ k ≠ s
  room : L.length ≤ 4096
/-- The blocks of an arena. -/
def foot (c s : Nat) (q : Value) (k : Nat) : Prop := k = c ∨ k = s ∨ q.ownBlock = some k
theorem Ar.lt {c s : Nat} {q : Value} {L : List Pl} {E : List (Int × Int)} {w : World} (h : Ar c s q L E w) {k : Nat} (hk : foot c s q k) : k < w.heap.size := by
  rcases hk with rfl | rfl | hk
  · exact (Array.getElem?_eq_some_iff.1 h.at').1
  · obtain ⟨cur, h1, _⟩ := h.pl; exact (Array.getElem?_eq_some_iff.1 h1).1
  · exact (World.ownsRow.lt h.en k hk).2
theorem Ar.only {p : Nat → Prop} {c s : Nat} {q : Value} {L : List Pl} {E : List (Int × Int)} {w w' : World} (h : Ar c s q L E w) (ho : Only p w w') (hp : ∀ k, foot c s q k → ¬ p k) : Ar c s q L E w' := by
  refine ⟨(ho.block c (h.lt (.inl rfl)) (hp c (.inl rfl))).trans h.at', ?_, row_only h.en ho (fun k hk => hp k (.inr (.inr hk))), h.cs, h.qc, h.room⟩
  obtain ⟨cur, h1, h2⟩ := h.pl
  exact ⟨cur, (ho.block s (h.lt (.inr (.inl rfl))) (hp s (.inr (.inl rfl)))).trans h1, h2⟩
theorem Ar.cells {c s : Nat} {q : Value} {L : List Pl} {E : List (Int × Int)} {w : World} (h : Ar c s q L E w) :
    w.cell? ⟨c, 0, none⟩ = some (.slice (some ⟨s, 0, none⟩) L.length L.length) ∧ w.cell? ⟨c, 1, none⟩ = some q ∧ w.frozen? ⟨c, 0, none⟩ = false ∧ w.frozen? ⟨c, 1, none⟩ = false := by
  refine ⟨?_, ?_, Lib.frozen_of_heap h.at' 0, Lib.frozen_of_heap h.at' 1⟩ <;> (rw [Lib.cell_of_heap h.at']; rfl)
theorem Ar.place {c s : Nat} {q : Value} {L : List Pl} {E : List (Int × Int)} {w : World} (h : Ar c s q L E w) {i : Nat} {r : Pl} (hr : L[i]? = some r) (m : Nat) (hm : m < 7) :
    w.cell? ⟨s, i * 7 + m, none⟩ = r.row[m]? ∧ w.frozen? ⟨s, i * 7 + m, none⟩ = false := by
  obtain ⟨cur, h1, h2⟩ := h.pl
  refine ⟨?_, Lib.frozen_of_heap h1 _⟩
  rw [Lib.cell_of_heap h1, ← rowsP_get L i m r hr hm, ← h2, Array.getElem?_toList]
theorem Ar.size {c s : Nat} {q : Value} {L : List Pl} {E : List (Int × Int)} {w : World} (h : Ar c s q L E w) : ∃ cur : Array Value, w.heap[s]? = some (.cells cur 112 (0, 0)) ∧ cur.size = L.length * 7 ∧ cur.toList = rowsP L := by
  obtain ⟨cur, h1, h2⟩ := h.pl
  exact ⟨cur, h1, by rw [← Array.length_toList, h2, rowsP_len], h2⟩
/-- One cell of a place is stored. -/
theorem Ar.setP {c s : Nat} {q : Value} {L : List Pl} {E : List (Int × Int)} {w : World} (h : Ar c s q L E w) {i : Nat} {r r' : Pl} {m : Nat} {v : Value} (hr : L[i]? = some r) (hm : m < 7) (hv : r'.row = r.row.set m v) :
    Ar c s q (L.set i r') E (w.setCell ⟨s, i * 7 + m, none⟩ v) := by
  have hl : (L.set i r').length = L.length := List.length_set
  obtain ⟨cur, h1, h2, h3⟩ := h.size
  refine ⟨?_, ⟨cur.setIfInBounds (i * 7 + m) v, heap_setCell_same w s (i * 7 + m) cur _ v h1, ?_⟩, row_only h.en (set_only w s (i * 7 + m) v) (fun k hk e => (h.qc k hk).2 e), h.cs, h.qc, ?_⟩
  · rw [hl, heap_setCell_other w ⟨s, i * 7 + m, none⟩ c v h.cs]; exact h.at'
  · rw [Array.toList_setIfInBounds, h3]
    exact rowsP_set L i m r r' v hr hm hv
  · rw [hl]; exact h.room
/-- One end of a queue is stored. -/
theorem Ar.setE {c s g cap : Nat} {L : List Pl} {E : List (Int × Int)} {w : World} (h : Ar c s (.slice (some ⟨g, 0, none⟩) E.length cap) L E w) {i : Nat} {e e' : Int × Int} {m : Nat} {v : Value} (he : E[i]? = some e) (hm : m < 2) (hv : [Value.int .i64 e'.1, .int .i64 e'.2] = [Value.int .i64 e.1, .int .i64 e.2].set m v) :
    Ar c s (.slice (some ⟨g, 0, none⟩) E.length cap) L (E.set i e') (w.setCell ⟨g, i * 2 + m, none⟩ v) := by
  have hl : (E.set i e').length = E.length := List.length_set
  have hi : i < E.length := (List.getElem?_eq_some_iff.1 he).1
  obtain ⟨hgc, hgs⟩ := h.qc g rfl
  obtain ⟨cur0, a1, a2⟩ := h.pl
  refine ⟨?_, ⟨cur0, ?_, a2⟩, ?_, h.cs, h.qc, h.room⟩
  · rw [heap_setCell_other w ⟨g, i * 2 + m, none⟩ c v (fun e => hgc e.symm)]; exact h.at'
  · rw [heap_setCell_other w ⟨g, i * 2 + m, none⟩ s v (fun e => hgs e.symm)]; exact a1
  · refine ⟨by rw [rowsE_len], ?_⟩
    rcases h.en.2 with ⟨e0, _⟩ | ⟨g', cap', cur, e0, b1, b2, b3, b4, b5, b6⟩
    · cases e0
    · injection e0 with e1 e2 e3
      injection e1 with e1
      injection e1 with e1
      subst e1; subst e3
      refine .inr ⟨g, cap, cur.setIfInBounds (i * 2 + m) v, by rw [hl], b1, heap_setCell_same w g (i * 2 + m) cur _ v b2, by rw [hl]; exact b3, b4, by simp [b5], ?_⟩
      rw [hl, Array.toList_setIfInBounds, List.take_set, b6]
      exact rowsE_set E i m e e' v he hm hv
theorem Ar.setE' {c s g cap : Nat} {q : Value} {L : List Pl} {E : List (Int × Int)} {w : World} (h : Ar c s q L E w) (hq : q = .slice (some ⟨g, 0, none⟩) E.length cap) {i : Nat} {e e' : Int × Int} {m : Nat} {v : Value} (he : E[i]? = some e) (hm : m < 2) (hv : [Value.int .i64 e'.1, .int .i64 e'.2] = [Value.int .i64 e.1, .int .i64 e.2].set m v) :
    Ar c s q L (E.set i e') (w.setCell ⟨g, i * 2 + m, none⟩ v) := by
  subst hq; exact h.setE he hm hv
/-- What reading and writing an end needs. -/
theorem Ar.ends {c s : Nat} {q : Value} {L : List Pl} {E : List (Int × Int)} {w : World} (h : Ar c s q L E w) {i : Nat} {e : Int × Int} (he : E[i]? = some e) :
    ∃ g cap, q = .slice (some ⟨g, 0, none⟩) E.length cap ∧ E.length ≤ cap ∧ g ≠ c ∧ g ≠ s ∧ w.cell? ⟨g, i * 2, none⟩ = some (.int .i64 e.1) ∧ w.cell? ⟨g, i * 2 + 1, none⟩ = some (.int .i64 e.2) ∧ w.frozen? ⟨g, i * 2, none⟩ = false ∧ w.frozen? ⟨g, i * 2 + 1, none⟩ = false := by
  have hi : i < E.length := (List.getElem?_eq_some_iff.1 he).1
  rcases h.en.2 with ⟨_, e0⟩ | ⟨g, cap, cur, rfl, b1, b2, b3, b4, b5, b6⟩
  · omega
  · obtain ⟨x1, x2⟩ := h.qc g rfl
    have each : ∀ m, m < 2 → w.cell? ⟨g, i * 2 + m, none⟩ = [Value.int .i64 e.1, .int .i64 e.2][m]? := fun m hm => by
      rw [Lib.cell_of_heap b2, ← rowsE_get E i m e he hm, ← b6, List.getElem?_take, if_pos (by omega), Array.getElem?_toList]
    exact ⟨g, cap, rfl, b3, x1, x2, each 0 (by omega), each 1 (by omega), Lib.frozen_of_heap b2 _, Lib.frozen_of_heap b2 _⟩
/-- The row of the ends as a slice. -/
theorem Ar.slice {c s : Nat} {q : Value} {L : List Pl} {E : List (Int × Int)} {w : World} (h : Ar c s q L E w) : ∃ A cap, q = .slice A E.length cap ∧ E.length ≤ cap ∧ cap ≤ 9223372036854775807 := by
  rcases h.en.2 with ⟨rfl, e0⟩ | ⟨g, cap, cur, rfl, b1, b2, b3, b4, b5, b6⟩
  · exact ⟨none, 0, by rw [e0], by omega, by omega⟩
  · simp only [maxLen] at b4
    exact ⟨_, cap, rfl, b3, by omega⟩
end Go.Proofs.Ytlknlicokacoiaa
