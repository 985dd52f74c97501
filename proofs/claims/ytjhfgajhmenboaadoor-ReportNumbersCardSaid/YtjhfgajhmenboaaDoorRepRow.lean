/-
  Rows of reports: as they came in, and of the call itself.
-/
import Derived.Test.YtjhfgajhmenboaaDoorRep
import Derived.Test.YtjhfgajhmenboaaDoorFrame
import Derived.Test.YtjhfgajhmenboaaDoorRefFrame
namespace Go.Proofs.YtjhfgajhmenboaaDoor
open Go.RowKit
set_option linter.unusedVariables false
set_option linter.unusedSimpArgs false

theorem below_up {a w w' : World} (h : Below a.heap.size a w) (hk : Below w.heap.size w w') : Below a.heap.size a w' := h.trans (hk.mono h.size)
theorem HB.str {w : World} {A : Option Addr} {n : Nat} {l : List UInt8} (h : HB w A n l) (c : Nat) :
    (convert 26 9 (.slice A n c)).run Tryd.prog w = .ok (.string (str l)) w := by
  have e := h.1
  subst e
  exact h.string c
/-- A row of the call's own, as a slice that reads as its list. -/
theorem RB.slice {w : World} {base : Nat} {v : Value} {l : List UInt8} (h : RB w base v l) : ∃ A n cap, v = .slice A n cap ∧ HB w A n l ∧ (A = none → cap = 0) ∧ n ≤ cap ∧ cap ≤ 9223372036854775807 ∧ l.length = n := by
  obtain ⟨A, cap, e, H, h1, h2, h3⟩ := h.holds
  simp only [maxLen] at h2
  exact ⟨A, _, cap, e, H, h1, h3, by omega, rfl⟩
/-- One byte turned. -/
def turnL (l : List UInt8) (j : Nat) (t : UInt8) : List UInt8 := l.set j (l.getD j 0 ^^^ t)
theorem turnL_len (l : List UInt8) (j : Nat) (t : UInt8) : (turnL l j t).length = l.length := by unfold turnL; simp
/-- The slice of this address and length holds these reports. -/
def HR (w : World) (A : Option Addr) (n : Nat) (L : List Q) : Prop :=
  L.length = n ∧ ∀ j, j < n → ∃ b off, A = some ⟨b, off, none⟩ ∧ w.cell? ⟨b, off + j * 8, none⟩ = some (.int .i64 (L.getD j zeroQ).k) ∧ w.cell? ⟨b, off + j * 8 + 1, none⟩ = some (.int .i64 (L.getD j zeroQ).i) ∧ w.cell? ⟨b, off + j * 8 + 2, none⟩ = some (.int .i64 (L.getD j zeroQ).n) ∧ w.cell? ⟨b, off + j * 8 + 3, none⟩ = some (.int .i64 (L.getD j zeroQ).s) ∧ w.cell? ⟨b, off + j * 8 + 4, none⟩ = some (.int .i64 (L.getD j zeroQ).p) ∧ w.cell? ⟨b, off + j * 8 + 5, none⟩ = some (.int .i64 (L.getD j zeroQ).q) ∧ w.cell? ⟨b, off + j * 8 + 6, none⟩ = some (.int .i64 (L.getD j zeroQ).l) ∧ w.cell? ⟨b, off + j * 8 + 7, none⟩ = some (.int .i64 (L.getD j zeroQ).y)
theorem HR.below {w w' : World} {A : Option Addr} {n : Nat} {L : List Q} (h : HR w A n L) (hb : Below w.heap.size w w') : HR w' A n L := by
  refine ⟨h.1, fun j hj => ?_⟩
  obtain ⟨b, off, e, c0, c1, c2, c3, c4, c5, c6, c7⟩ := h.2 j hj
  have keep : ∀ {p : Addr} {v : Value}, w.cell? p = some v → w'.cell? p = some v := fun {p v} hc => (hb.cell (p := p) (World.block_lt_of_cell? w _ hc)).trans hc
  exact ⟨b, off, e, keep c0, keep c1, keep c2, keep c3, keep c4, keep c5, keep c6, keep c7⟩
theorem HR.drewN {w : World} {A : Option Addr} {n : Nat} {L : List Q} (h : HR w A n L) (q : Nat) : HR (w.drewN q) A n L := h
theorem HR.take {w : World} {A : Option Addr} {n k : Nat} {L : List Q} (h : HR w A n L) (hk : k ≤ n) : HR w A k (L.take k) := by
  refine ⟨by rw [List.length_take, h.1]; omega, fun j hj => ?_⟩
  obtain ⟨b, off, e, hc⟩ := h.2 j (by omega)
  refine ⟨b, off, e, ?_⟩
  rw [show (L.take k).getD j zeroQ = L.getD j zeroQ by simp [List.getD, hj]]
  exact hc
theorem hr_nil (w : World) (A : Option Addr) : HR w A 0 [] := ⟨rfl, fun j hj => absurd hj (by omega)⟩
/-- The reports' numbers are int64. -/
def OkL (L : List Q) : Prop := ∀ r ∈ L, r.Ok
theorem zeroQ_ok : zeroQ.Ok := by
  constructor <;> (constructor <;> (simp [zeroQ]))
theorem OkL.get {L : List Q} (h : OkL L) (j : Nat) : (L.getD j zeroQ).Ok := by
  rcases Nat.lt_or_ge j L.length with hj | hj
  · rw [show L.getD j zeroQ = L[j] by simp [List.getD, List.getElem?_eq_getElem hj]]
    exact h _ (List.getElem_mem hj)
  · rw [show L.getD j zeroQ = zeroQ by simp [List.getD, List.getElem?_eq_none hj]]
    exact zeroQ_ok
theorem OkL.take {L : List Q} (h : OkL L) (k : Nat) : OkL (L.take k) := fun r hr => h r (List.mem_of_mem_take hr)
theorem OkL.snoc {L : List Q} {r : Q} (h : OkL L) (hr : r.Ok) : OkL (L ++ [r]) := by
  intro x hx
  rcases List.mem_append.1 hx with hx | hx
  · exact h x hx
  · rw [List.mem_singleton.1 hx]; exact hr
/-- A report as the row of its cells. -/
def Q.row (r : Q) : List Value := [.int .i64 r.k, .int .i64 r.i, .int .i64 r.n, .int .i64 r.s, .int .i64 r.p, .int .i64 r.q, .int .i64 r.l, .int .i64 r.y]
def rowsQ : List Q → List Value
  | [] => []
  | r :: L => r.row ++ rowsQ L
theorem rowsQ_len (L : List Q) : (rowsQ L).length = L.length * 8 := by
  induction L with
  | nil => rfl
  | cons r L ih => rw [rowsQ, List.length_append, ih, List.length_cons]; show 8 + _ = _; omega
theorem rowsQ_snoc (L : List Q) (r : Q) : rowsQ (L ++ [r]) = rowsQ L ++ r.row := by
  induction L with
  | nil => simp [rowsQ]
  | cons x L ih => rw [List.cons_append, rowsQ, rowsQ, ih, List.append_assoc]
theorem rowsQ_get (L : List Q) : ∀ (j m : Nat), j < L.length → m < 8 → (rowsQ L)[j * 8 + m]? = (L.getD j zeroQ).row[m]? := by
  induction L with
  | nil => intro j m hj; simp at hj
  | cons r L ih =>
    intro j m hj hm
    have h8 : r.row.length = 8 := rfl
    cases j with
    | zero =>
      rw [rowsQ, List.getElem?_append_left (by rw [h8]; omega)]
      simp [List.getD]
    | succ j =>
      rw [rowsQ, List.getElem?_append_right (by rw [h8]; omega), h8, show (j + 1) * 8 + m - 8 = j * 8 + m by omega, ih j m (by simpa using hj) hm]
      simp [List.getD]
/-- The call's own slice v, from block number base on, holds these reports. -/
def RR (w : World) (base : Nat) (v : Value) (L : List Q) : Prop := w.ownsRow base 25 8 v L.length (rowsQ L)
theorem info_rep : (Tryd.prog.info? 25).map (fun i => (i.zero, i.size, i.bytes)) = some (some (.agg #[.int .i64 0, .int .i64 0, .int .i64 0, .int .i64 0, .int .i64 0, .int .i64 0, .int .i64 0, .int .i64 0]), 8, 64) := by kernel_rfl
theorem rr_nil (w : World) (base : Nat) : RR w base (.slice none 0 0) [] := World.ownsRow_nil w base _ _
theorem RR.only {p : Nat → Prop} {w w' : World} {base : Nat} {v : Value} {L : List Q} (h : RR w base v L) (ho : Only p w w') (hn : ∀ k, v.ownBlock = some k → ¬ p k) : RR w' base v L := by
  refine ⟨h.1, ?_⟩
  rcases h.2 with h | ⟨g, cap, cur, rfl, h2, h3, h4⟩
  · exact .inl h
  · have hg : g < w.heap.size := (Array.getElem?_eq_some_iff.1 h3).1
    exact .inr ⟨g, cap, cur, rfl, h2, (ho.block g hg (hn g rfl)).trans h3, h4⟩
theorem RR.blk {w : World} {base : Nat} {v : Value} {L : List Q} (h : RR w base v L) {k : Nat} (hk : v.ownBlock = some k) : base ≤ k ∧ k < w.heap.size := World.ownsRow.lt h k hk
theorem RR.keep {w w' : World} {base : Nat} {v : Value} {L : List Q} (h : RR w base v L) (hb : Below w.heap.size w w') : RR w' base v L := h.only (only_below hb) (fun _ _ e => e)
theorem RR.base {w : World} {base base' : Nat} {v : Value} {L : List Q} (h : RR w base v L) (hb : base' ≤ base) : RR w base' v L := by
  refine ⟨h.1, ?_⟩
  rcases h.2 with h | ⟨g, cap, cur, rfl, h2, h3⟩
  · exact .inl h
  · exact .inr ⟨g, cap, cur, rfl, by omega, h3⟩
/-- A row of reports of the call's own, as a slice that holds its list. -/
theorem RR.slice {w : World} {base : Nat} {v : Value} {L : List Q} (h : RR w base v L) : ∃ A n cap, v = .slice A n cap ∧ HR w A n L ∧ n ≤ cap ∧ cap ≤ 9223372036854775807 ∧ (A = none → cap = 0) ∧ L.length = n := by
  rcases h.2 with ⟨rfl, e⟩ | ⟨g, cap, cur, rfl, _, _, hc, hm, _⟩
  · have e2 : L = [] := List.eq_nil_of_length_eq_zero e
    subst e2
    exact ⟨none, 0, 0, rfl, hr_nil _ _, Nat.le_refl _, by omega, fun _ => rfl, rfl⟩
  · simp only [maxLen] at hm
    refine ⟨_, L.length, cap, rfl, ⟨rfl, fun j hj => ⟨g, 0, rfl, ?_⟩⟩, hc, by omega, (fun e => by cases e), rfl⟩
    rw [Nat.zero_add]
    have each : ∀ m (hm : m < 8), w.cell? ⟨g, j * 8 + m, none⟩ = (L.getD j zeroQ).row[m]? := fun m hm => (World.ownsRow.cellAt h (j * 8 + m) (by omega)).trans (rowsQ_get L j m hj hm)
    exact ⟨each 0 (by omega), each 1 (by omega), each 2 (by omega), each 3 (by omega), each 4 (by omega), each 5 (by omega), each 6 (by omega), each 7 (by omega)⟩
section
variable {P : Program}
theorem wpList_onto_r {w : World} {ops : Array Oper} {rest : List Oper} {o : Oper} {a : Act} {Q0 : Exit → Act → World → Prop} (hgd : o.guard = none) (s x : Operand) (t : TypeId)
    (ho : o.op = .call { callee := .builtin .append, args := #[s, x], argTypes := #[t, t] })
    (base : Nat) (i : TypeInfo) (ht : P.underlying t = some (.slice 25)) (hi : P.info? 25 = some i) (hz : i.zero = some (.agg #[.int .i64 0, .int .i64 0, .int .i64 0, .int .i64 0, .int .i64 0, .int .i64 0, .int .i64 0, .int .i64 0])) (hsize : i.size = 8) (hby : i.bytes = 64)
    (v : Value) (xs : List Q) (hs : a.eval s = v) (hown : RR w base v xs) (g : Nat) (c : Nat) (r : Q) (T : TypeId) (hx : a.eval x = .slice (some ⟨g, 0, none⟩) 1 c) (hc : w.heap[g]? = some (.cells r.cells T (0, 0))) (hn : xs.length ≤ 1000000) (hbase : base ≤ w.heap.size)
    (h : ∀ v' w', RR w' base v' (xs ++ [r]) → w.grownBy w' v.ownBlock → (v'.ownBlock = v.ownBlock ∨ v'.ownBlock = some w.heap.size) → wpList P ops Q0 rest (a.put o.dst v') w') : wpList P ops Q0 (o :: rest) a w := by
  refine wpList_plain hgd fun K hK => ?_
  obtain ⟨v', w', hr, h2, h3, _, h5⟩ := run_append_own_at (P := P) w base t o.type _ i _ 8 64 ht hi hz hsize hby rfl (by omega) v _ _ hown ⟨g, 0, none⟩ 1 c r.row rfl (fun j u hj => by
    rw [WideShapes.add_plain, Lib.cell_of_heap hc, Nat.zero_add]
    match j, hj with
    | 0, hj => exact hj
    | 1, hj => exact hj
    | 2, hj => exact hj
    | 3, hj => exact hj
    | 4, hj => exact hj
    | 5, hj => exact hj
    | 6, hj => exact hj
    | 7, hj => exact hj
    | j + 8, hj => simp [Q.row] at hj) (fun u hu => by
    simp only [Q.row, List.mem_cons, List.not_mem_nil, or_false] at hu
    rcases hu with rfl | rfl | rfl | rfl | rfl | rfl | rfl | rfl <;> rfl) (by simp only [maxLen]; omega) (by omega) hbase
  unfold Oper.wp execOp
  simp only [ho, resolve, invoke, builtin, Sem.run_bind, Sem.run_pure, Result.andThen_ok, List.map_toArray, List.map_cons, List.map_nil, hs, hx, hr]
  refine hK _ _ (h v' w' ?_ h3 h5)
  unfold RR
  rw [List.length_append, rowsQ_snoc]
  exact h2
end
end Go.Proofs.YtjhfgajhmenboaaDoor
