/-
  Rows of whatever elements in memory (read, owned, appended to); orders, five cells each.
-/
import Derived.Test.YtpfgmebajefjaaaNum
import Derived.Maps.AppendAt
import Derived.Laws.AppendOwnNone
import Derived.Laws.Slices
namespace Go.Proofs.Ytpfgmebajefjaaa
open Go.RowKit
set_option linter.unusedVariables false
set_option linter.unusedSimpArgs false

theorem row_only {p : Nat → Prop} {w w' : World} {base : Nat} {T : TypeId} {z : Nat} {v : Value} {n : Nat} {xs : List Value} (h : w.ownsRow base T z v n xs) (ho : Only p w w') (hn : ∀ k, v.ownBlock = some k → ¬ p k) : w'.ownsRow base T z v n xs := by
  refine ⟨h.1, ?_⟩
  rcases h.2 with h | ⟨g, cap, cur, rfl, h2, h3, h4⟩
  · exact .inl h
  · have hg : g < w.heap.size := (Array.getElem?_eq_some_iff.1 h3).1
    exact .inr ⟨g, cap, cur, rfl, h2, (ho.block g hg (hn g rfl)).trans h3, h4⟩
/-- How an element lies in cells. -/
structure Fmt (α : Type) where
  f : α → List Value
  k : Nat
  len : ∀ x, (f x).length = k
  pos : 0 < k
  one : ∀ x u, u ∈ f x → u.oneCell' = true
def rowsG {α : Type} (f : α → List Value) : List α → List Value
  | [] => []
  | x :: l => f x ++ rowsG f l
section
variable {α : Type} {fm : Fmt α}
theorem rowsG_len (l : List α) : (rowsG fm.f l).length = l.length * fm.k := by
  induction l with
  | nil => simp [rowsG]
  | cons r l ih => rw [rowsG, List.length_append, ih, fm.len, List.length_cons, Nat.add_mul, Nat.one_mul, Nat.add_comm]
theorem rowsG_app (a b : List α) : rowsG fm.f (a ++ b) = rowsG fm.f a ++ rowsG fm.f b := by
  induction a with
  | nil => rfl
  | cons x a ih => rw [List.cons_append, rowsG, rowsG, ih, List.append_assoc]
theorem rowsG_one (x : α) : rowsG fm.f [x] = fm.f x := by simp [rowsG]
theorem rowsG_get (l : List α) : ∀ (j m : Nat) (x : α), l[j]? = some x → m < fm.k → (rowsG fm.f l)[j * fm.k + m]? = (fm.f x)[m]? := by
  induction l with
  | nil => intro j m r hj; simp at hj
  | cons x l ih =>
    intro j m r hj hm
    cases j with
    | zero =>
      rw [rowsG, List.getElem?_append_left (by rw [fm.len]; omega)]
      simp at hj; subst hj; simp
    | succ j =>
      have e : (j + 1) * fm.k + m = fm.k + (j * fm.k + m) := by rw [Nat.add_mul, Nat.one_mul]; omega
      rw [rowsG, List.getElem?_append_right (by rw [fm.len, e]; omega), fm.len, e, Nat.add_sub_cancel_left]
      exact ih j m r (by simpa using hj) hm
theorem rowsG_set (l : List α) : ∀ (j m : Nat) (x x' : α) (v : Value), l[j]? = some x → m < fm.k → fm.f x' = (fm.f x).set m v → (rowsG fm.f l).set (j * fm.k + m) v = rowsG fm.f (l.set j x') := by
  induction l with
  | nil => intro j m r r' v hj; simp at hj
  | cons x l ih =>
    intro j m r r' v hj hm hr
    cases j with
    | zero =>
      simp at hj; subst hj
      rw [rowsG, List.set_append_left _ _ (by rw [fm.len]; omega), List.set_cons_zero, rowsG, hr]
      simp
    | succ j =>
      have e : (j + 1) * fm.k + m = fm.k + (j * fm.k + m) := by rw [Nat.add_mul, Nat.one_mul]; omega
      rw [rowsG, List.set_append_right _ _ (by rw [fm.len, e]; omega), fm.len, e, Nat.add_sub_cancel_left, List.set_cons_succ, rowsG]
      rw [ih j m r r' v (by simpa using hj) hm hr]
theorem rowsG_one_cell (l : List α) : ∀ u ∈ rowsG fm.f l, u.oneCell' = true := by
  induction l with
  | nil => intro u hu; cases hu
  | cons e l ih =>
    intro u hu
    rcases List.mem_append.1 hu with h | h
    · exact fm.one e u h
    · exact ih u h
theorem rowsG_take (l : List α) (k : Nat) : (rowsG fm.f l).take (k * fm.k) = rowsG fm.f (l.take k) := by
  induction l generalizing k with
  | nil => simp [rowsG]
  | cons x l ih =>
    cases k with
    | zero => simp [rowsG]
    | succ k =>
      have e : (k + 1) * fm.k = fm.k + k * fm.k := by rw [Nat.add_mul, Nat.one_mul]; omega
      rw [rowsG, e, List.take_append, fm.len, Nat.add_sub_cancel_left, List.take_of_length_le (by rw [fm.len]; omega), ih, List.take_succ_cons, rowsG]
theorem rowsG_drop (l : List α) (k : Nat) : (rowsG fm.f l).drop (k * fm.k) = rowsG fm.f (l.drop k) := by
  induction l generalizing k with
  | nil => simp [rowsG]
  | cons x l ih =>
    cases k with
    | zero => simp
    | succ k =>
      have e : (k + 1) * fm.k = fm.k + k * fm.k := by rw [Nat.add_mul, Nat.one_mul]; omega
      rw [rowsG, e, List.drop_append, fm.len, Nat.add_sub_cancel_left, List.drop_of_length_le (by rw [fm.len]; omega), ih, List.drop_succ_cons, List.nil_append]
/-- A slice reads as these. -/
def HV (fm : Fmt α) (w : World) (A : Option Addr) (n : Nat) (l : List α) : Prop :=
  l.length = n ∧ ∀ j x, l[j]? = some x → ∃ b off, A = some ⟨b, off, none⟩ ∧ ∀ m u, (fm.f x)[m]? = some u → w.cell? ⟨b, off + j * fm.k + m, none⟩ = some u
theorem hv_nil (w : World) (A : Option Addr) : HV fm w A 0 [] := ⟨rfl, fun j e he => by simp at he⟩
theorem HV.keep {w w' : World} {A : Option Addr} {n : Nat} {l : List α} (h : HV fm w A n l) (k : ∀ b, (∃ off, A = some ⟨b, off, none⟩) → b < w.heap.size → w'.heap[b]? = w.heap[b]?) : HV fm w' A n l := by
  refine ⟨h.1, fun j x hx => ?_⟩
  obtain ⟨b, off, e, hc⟩ := h.2 j x hx
  refine ⟨b, off, e, fun m u hu => ?_⟩
  have := hc m u hu
  exact (World.cell?_of_block (a := ⟨b, off + j * fm.k + m, none⟩) (k b ⟨off, e⟩ (World.block_lt_of_cell? w _ this))).trans this
theorem HV.below {w w' : World} {A : Option Addr} {n : Nat} {l : List α} (h : HV fm w A n l) (hb : Below w.heap.size w w') : HV fm w' A n l := h.keep (fun b _ hk => hb.block b hk)
theorem HV.only {p : Nat → Prop} {w w' : World} {A : Option Addr} {n : Nat} {l : List α} (h : HV fm w A n l) (ho : Only p w w') (hp : ∀ b off, A = some ⟨b, off, none⟩ → ¬ p b) : HV fm w' A n l := h.keep (fun b ⟨off, e⟩ hk => ho.block b hk (hp b off e))
theorem HV.take {w : World} {A : Option Addr} {n k : Nat} {l : List α} (h : HV fm w A n l) (hk : k ≤ n) : HV fm w A k (l.take k) := by
  refine ⟨by rw [List.length_take, h.1]; omega, fun j e he => ?_⟩
  rw [List.getElem?_take] at he
  split at he
  · exact h.2 j e he
  · cases he
theorem HV.drop {w : World} {b off n k : Nat} {l : List α} (h : HV fm w (some ⟨b, off, none⟩) n l) (hk : k ≤ n) : HV fm w (some ⟨b, off + k * fm.k, none⟩) (n - k) (l.drop k) := by
  refine ⟨by rw [List.length_drop, h.1], fun j e he => ?_⟩
  rw [List.getElem?_drop] at he
  obtain ⟨b', off', e1, hc⟩ := h.2 (k + j) e he
  injection e1 with e1
  injection e1 with e1 e2
  subst e1; subst e2
  refine ⟨b, off + k * fm.k, rfl, fun m u hu => ?_⟩
  have := hc m u hu
  rwa [show off + (k + j) * fm.k + m = off + k * fm.k + j * fm.k + m by rw [Nat.add_mul]; omega] at this
theorem HV.news {w : World} {ad : Addr} {n : Nat} {l : List α} (h : HV fm w (some ad) n l) : ∀ j u, (rowsG fm.f l)[j]? = some u → w.cell? (ad.add j) = some u := by
  intro j u hu
  have hj : j < (rowsG fm.f l).length := (List.getElem?_eq_some_iff.1 hu).1
  rw [rowsG_len] at hj
  have hq : j / fm.k < l.length := Nat.div_lt_of_lt_mul (by rw [Nat.mul_comm]; exact hj)
  have hr : j % fm.k < fm.k := Nat.mod_lt _ fm.pos
  have hd : j / fm.k * fm.k + j % fm.k = j := by rw [Nat.mul_comm]; exact Nat.div_add_mod j fm.k
  obtain ⟨e, he⟩ : ∃ e, l[j / fm.k]? = some e := ⟨_, List.getElem?_eq_getElem hq⟩
  obtain ⟨b, off, e1, hc⟩ := h.2 (j / fm.k) e he
  injection e1 with e1
  subst e1
  rw [WideShapes.add_plain]
  have hg := rowsG_get l (j / fm.k) (j % fm.k) e he hr
  rw [hd, hu] at hg
  have := hc _ u hg.symm
  rwa [Nat.add_assoc, hd] at this
/-- A row of the call's own. -/
def Own (fm : Fmt α) (T : TypeId) (w : World) (base : Nat) (v : Value) (l : List α) : Prop := w.ownsRow base T fm.k v l.length (rowsG fm.f l)
theorem own_nil (T : TypeId) (w : World) (base : Nat) : Own fm T w base (.slice none 0 0) [] := World.ownsRow_nil w base _ _
theorem Own.only {p : Nat → Prop} {T : TypeId} {w w' : World} {base : Nat} {v : Value} {l : List α} (h : Own fm T w base v l) (ho : Only p w w') (hn : ∀ k, v.ownBlock = some k → ¬ p k) : Own fm T w' base v l := row_only h ho hn
theorem Own.below {T : TypeId} {w w' : World} {base : Nat} {v : Value} {l : List α} (h : Own fm T w base v l) (hb : Below w.heap.size w w') : Own fm T w' base v l := row_only h (only_below hb) (fun _ _ e => e)
theorem Own.base {T : TypeId} {w : World} {base base' : Nat} {v : Value} {l : List α} (h : Own fm T w base v l) (hb : base' ≤ base) : Own fm T w base' v l := by
  refine ⟨h.1, ?_⟩
  rcases h.2 with h | ⟨g, cap, cur, rfl, h2, h3⟩
  · exact .inl h
  · exact .inr ⟨g, cap, cur, rfl, by omega, h3⟩
theorem Own.lt {T : TypeId} {w : World} {base : Nat} {v : Value} {l : List α} (h : Own fm T w base v l) : ∀ k, v.ownBlock = some k → base ≤ k ∧ k < w.heap.size := World.ownsRow.lt h
theorem Own.slice {T : TypeId} {w : World} {base : Nat} {v : Value} {l : List α} (h : Own fm T w base v l) : ∃ A cap, v = .slice A l.length cap ∧ HV fm w A l.length l ∧ l.length ≤ cap ∧ cap ≤ 9223372036854775807 ∧ (A = none → cap = 0) ∧ (∀ ad, A = some ad → ad.off = 0 ∧ ad.spot = none ∧ base ≤ ad.block ∧ ad.block < w.heap.size) := by
  rcases h.2 with ⟨rfl, e⟩ | ⟨g, cap, cur, rfl, h1, h2, hc, hm, hs, ht⟩
  · have e2 : l = [] := List.eq_nil_of_length_eq_zero e
    subst e2
    exact ⟨none, 0, rfl, ⟨rfl, fun j e he => by simp at he⟩, Nat.le_refl _, by omega, fun _ => rfl, fun ad e => by cases e⟩
  · simp only [maxLen] at hm
    refine ⟨_, cap, rfl, ⟨rfl, fun j e he => ⟨g, 0, rfl, fun m u hu => ?_⟩⟩, hc, by omega, (fun e => by cases e), fun ad e => by cases e; exact ⟨rfl, rfl, h1, (Array.getElem?_eq_some_iff.1 h2).1⟩⟩
    have hj : j < l.length := (List.getElem?_eq_some_iff.1 he).1
    have hm2 : m < fm.k := by rw [← fm.len e]; exact (List.getElem?_eq_some_iff.1 hu).1
    have hb : j * fm.k + m < l.length * fm.k := by
      have : (j + 1) * fm.k ≤ l.length * fm.k := Nat.mul_le_mul_right _ hj
      rw [Nat.add_mul, Nat.one_mul] at this; omega
    rw [Nat.zero_add, Lib.cell_of_heap h2, ← hu, ← rowsG_get l j m e he hm2, ← ht, List.getElem?_take, if_pos hb, Array.getElem?_toList]
/-- The block of a row that holds something. -/
theorem Own.open' {T : TypeId} {w : World} {base : Nat} {v : Value} {l : List α} (h : Own fm T w base v l) (hl : 0 < l.length) : ∃ g cap cur, v = .slice (some ⟨g, 0, none⟩) l.length cap ∧ base ≤ g ∧ g < w.heap.size ∧ w.heap[g]? = some (.cells cur T (0, 0)) ∧ l.length ≤ cap ∧ cap ≤ maxLen ∧ cur.size = cap * fm.k ∧ cur.toList.take (l.length * fm.k) = rowsG fm.f l := by
  rcases h.2 with ⟨rfl, e⟩ | ⟨g, cap, cur, rfl, h1, h2, hc, hm, hs, ht⟩
  · omega
  · exact ⟨g, cap, cur, rfl, h1, (Array.getElem?_eq_some_iff.1 h2).1, h2, hc, hm, hs, ht⟩
/-- The first k of a row. -/
theorem Own.cut {T : TypeId} {w : World} {base g n cap k : Nat} {l : List α} (h : Own fm T w base (.slice (some ⟨g, 0, none⟩) n cap) l) (hk : k ≤ l.length) : Own fm T w base (.slice (some ⟨g, 0, none⟩) k cap) (l.take k) := by
  have hl : (l.take k).length = k := by rw [List.length_take]; omega
  refine ⟨rowsG_len _, ?_⟩
  rcases h.2 with ⟨e0, _⟩ | ⟨g', cap', cur, e0, b1, b2, b3, b4, b5, b6⟩
  · cases e0
  · injection e0 with e1 e2 e3
    injection e1 with e1
    injection e1 with e1
    subst e1; subst e3
    refine .inr ⟨g, cap, cur, by rw [hl], b1, b2, by omega, b4, b5, ?_⟩
    rw [hl, ← rowsG_take, ← b6, List.take_take]
    congr 1
    have : k * fm.k ≤ l.length * fm.k := Nat.mul_le_mul_right _ hk
    omega
theorem own_empty (T : TypeId) (w : World) (base : Nat) (h : base ≤ w.heap.size) : Own fm T (w.alloc (.cells #[] T)) base (.slice (some ⟨w.heap.size, 0, none⟩) 0 0) ([] : List α) :=
  World.ownsRow_made w #[] 0 h (by unfold maxLen; omega) (by simp)
variable {P : Program} {T : TypeId}
theorem run_onto_g (w : World) (base t ty : Nat) (i : TypeInfo) (z : Value) (by' : Nat) (ht : P.underlying t = some (.slice T)) (hi : P.info? T = some i) (hz : i.zero = some z) (hsize : i.size = fm.k) (hby : i.bytes = by') (hzs : z.cells.size = fm.k) (hb40 : by' ≤ 64)
    (v : Value) (xs : List α) (hown : Own fm T w base v xs) (A : Option Addr) (m c : Nat) (ys : List α) (hr : HV fm w A m ys) (hc : A = none → c = 0) (hn : xs.length + m ≤ 1000000) (hbase : base ≤ w.heap.size) :
    ∃ v' w', (Builtin.append_ #[t, t] ty #[v, .slice A m c]).run P w = .ok v' w' ∧ Own fm T w' base v' (xs ++ ys) ∧ w.grownBy w' v.ownBlock ∧ (v'.ownBlock = v.ownBlock ∨ v'.ownBlock = some w.heap.size) := by
  have hl : (rowsG fm.f ys).length = m * fm.k := by rw [rowsG_len, hr.1]
  cases A with
  | none =>
    have hm : m = 0 := by
      rcases Nat.eq_zero_or_pos m with h0 | h0
      · exact h0
      · obtain ⟨e, he⟩ : ∃ e, ys[0]? = some e := ⟨_, List.getElem?_eq_getElem (by rw [hr.1]; exact h0)⟩
        obtain ⟨b, off, e, _⟩ := hr.2 0 e he; cases e
    subst hm
    obtain rfl := hc rfl
    have e : ys = [] := List.eq_nil_of_length_eq_zero hr.1
    subst e
    refine ⟨v, w, run_append_owned_none w base t ty _ i fm.k ht hi v _ _ hown, by rw [List.append_nil]; exact hown, World.grownBy.refl w _, .inl rfl⟩
  | some ad =>
    have hbytes : (xs.length + m) * by' ≤ 140737488355328 := by
      have : (xs.length + m) * by' ≤ 1000000 * 64 := Nat.mul_le_mul hn hb40
      omega
    obtain ⟨v', w', h1, h2, h3, _, h5⟩ := run_append_own_at (P := P) w base t ty _ i z fm.k by' ht hi hz hsize hby hzs fm.pos v _ _ hown ad m c (rowsG fm.f ys) hl hr.news (rowsG_one_cell ys) (by simp only [maxLen]; omega) hbytes hbase
    refine ⟨v', w', h1, ?_, h3, h5⟩
    unfold Own
    rw [List.length_append, hr.1, rowsG_app]
    exact h2
theorem wp_onto_g {w : World} {o : Oper} {a : Act} {K : Act → World → Prop} {Q : Exit → Act → World → Prop} (s x : Operand) (t : TypeId)
    (ho : o.op = .call { callee := .builtin .append, args := #[s, x], argTypes := #[t, t] })
    (base : Nat) (i : TypeInfo) (z : Value) (by' : Nat) (ht : P.underlying t = some (.slice T)) (hi : P.info? T = some i) (hz : i.zero = some z) (hsize : i.size = fm.k) (hby : i.bytes = by') (hzs : z.cells.size = fm.k) (hb40 : by' ≤ 64)
    (v : Value) (xs : List α) (hs : a.eval s = v) (hown : Own fm T w base v xs) (A : Option Addr) (m c : Nat) (ys : List α) (hx : a.eval x = .slice A m c) (hr : HV fm w A m ys) (hc : A = none → c = 0) (hn : xs.length + m ≤ 1000000) (hbase : base ≤ w.heap.size)
    (h : ∀ v' w', Own fm T w' base v' (xs ++ ys) → w.grownBy w' v.ownBlock → (v'.ownBlock = v.ownBlock ∨ v'.ownBlock = some w.heap.size) → K (a.put o.dst v') w') : o.wp P a w K Q := by
  obtain ⟨v', w', hrun, h2, h3, h4⟩ := run_onto_g (P := P) w base t o.type i z by' ht hi hz hsize hby hzs hb40 v xs hown A m c ys hr hc hn hbase
  unfold Oper.wp execOp
  simp only [ho, resolve, invoke, builtin, Sem.run_bind, Sem.run_pure, Result.andThen_ok, List.map_toArray, List.map_cons, List.map_nil, hs, hx, hrun]
  exact h v' w' h2 h3 h4
theorem wpList_onto_g {w : World} {ops : Array Oper} {rest : List Oper} {o : Oper} {a : Act} {Q : Exit → Act → World → Prop} (hgd : o.guard = none) (s x : Operand) (t : TypeId)
    (ho : o.op = .call { callee := .builtin .append, args := #[s, x], argTypes := #[t, t] })
    (base : Nat) (i : TypeInfo) (z : Value) (by' : Nat) (ht : P.underlying t = some (.slice T)) (hi : P.info? T = some i) (hz : i.zero = some z) (hsize : i.size = fm.k) (hby : i.bytes = by') (hzs : z.cells.size = fm.k) (hb40 : by' ≤ 64)
    (v : Value) (xs : List α) (hs : a.eval s = v) (hown : Own fm T w base v xs) (A : Option Addr) (m c : Nat) (ys : List α) (hx : a.eval x = .slice A m c) (hr : HV fm w A m ys) (hc : A = none → c = 0) (hn : xs.length + m ≤ 1000000) (hbase : base ≤ w.heap.size)
    (h : ∀ v' w', Own fm T w' base v' (xs ++ ys) → w.grownBy w' v.ownBlock → (v'.ownBlock = v.ownBlock ∨ v'.ownBlock = some w.heap.size) → wpList P ops Q rest (a.put o.dst v') w') : wpList P ops Q (o :: rest) a w :=
  wpList_plain hgd fun _ hK => wp_onto_g s x t ho base i z by' ht hi hz hsize hby hzs hb40 v xs hs hown A m c ys hx hr hc hn hbase fun v' w' h2 h3 h4 => hK _ _ (h v' w' h2 h3 h4)
theorem step_onto_g {w : World} {ops : Array Oper} {o : Oper} {a : Act} {K : Act → World → Prop} {Q : Exit → Act → World → Prop} {E : Prop} (hgd : o.guard = none) (s x : Operand) (t : TypeId)
    (ho : o.op = .call { callee := .builtin .append, args := #[s, x], argTypes := #[t, t] })
    (base : Nat) (i : TypeInfo) (z : Value) (by' : Nat) (ht : P.underlying t = some (.slice T)) (hi : P.info? T = some i) (hz : i.zero = some z) (hsize : i.size = fm.k) (hby : i.bytes = by') (hzs : z.cells.size = fm.k) (hb40 : by' ≤ 64)
    (v : Value) (xs : List α) (hs : a.eval s = v) (hown : Own fm T w base v xs) (A : Option Addr) (m c : Nat) (ys : List α) (hx : a.eval x = .slice A m c) (hr : HV fm w A m ys) (hc : A = none → c = 0) (hn : xs.length + m ≤ 1000000) (hbase : base ≤ w.heap.size)
    (h : ∀ v' w', Own fm T w' base v' (xs ++ ys) → w.grownBy w' v.ownBlock → (v'.ownBlock = v.ownBlock ∨ v'.ownBlock = some w.heap.size) → K (a.put o.dst v') w') :
    if Region.wanted o (yielded ops a.tmps) = true then Oper.wp P o a w K Q else E := by
  have hw : Region.wanted o (yielded ops a.tmps) = true := by simp [Region.wanted, hgd]
  rw [if_pos hw]
  exact wp_onto_g s x t ho base i z by' ht hi hz hsize hby hzs hb40 v xs hs hown A m c ys hx hr hc hn hbase h
end
/-- An order of a book. -/
structure Or where
  i : Int
  s : Int
  p : Int
  n : Int
  t : Bool
def fO : Fmt Or := ⟨fun x => [.int .i64 x.i, .int .i64 x.s, .int .i64 x.p, .int .i64 x.n, .bool x.t], 5, fun _ => rfl, by decide, fun x u hu => by
  simp only [List.mem_cons, List.not_mem_nil, or_false] at hu
  rcases hu with rfl | rfl | rfl | rfl | rfl <;> rfl⟩
theorem HV.atO {w : World} {A : Option Addr} {n : Nat} {l : List Or} (h : HV fO w A n l) {j : Nat} {x : Or} (hx : l[j]? = some x) : ∃ b off, A = some ⟨b, off, none⟩ ∧ w.cell? ⟨b, off + j * 5, none⟩ = some (.int .i64 x.i) ∧ w.cell? ⟨b, off + j * 5 + 1, none⟩ = some (.int .i64 x.s) ∧ w.cell? ⟨b, off + j * 5 + 2, none⟩ = some (.int .i64 x.p) ∧ w.cell? ⟨b, off + j * 5 + 3, none⟩ = some (.int .i64 x.n) ∧ w.cell? ⟨b, off + j * 5 + 4, none⟩ = some (.bool x.t) := by
  obtain ⟨b, off, e, hc⟩ := h.2 j x hx
  exact ⟨b, off, e, hc 0 _ rfl, hc 1 _ rfl, hc 2 _ rfl, hc 3 _ rfl, hc 4 _ rfl⟩
end Go.Proofs.Ytpfgmebajefjaaa
