/-
  append of whatever slice of orders onto a row of the call's own; parts of a slice of orders.
-/
import Derived.Test.YtcfmnmknbebfnaaLvReads
import Derived.Maps.AppendAt
import Derived.Laws.AppendOwnNone
import Derived.Laws.Slices
namespace Go.Proofs.Ytcfmnmknbebfnaa
open Go.RowKit
set_option linter.unusedVariables false
set_option linter.unusedSimpArgs false

theorem HE.take {w : World} {A : Option Addr} {n k : Nat} {l : List En} (h : HE w A n l) (hk : k ≤ n) : HE w A k (l.take k) := by
  refine ⟨by rw [List.length_take, h.1]; omega, fun j e he => ?_⟩
  rw [List.getElem?_take] at he
  split at he
  · exact h.2 j e he
  · cases he
theorem HE.drop {w : World} {b off n k : Nat} {l : List En} (h : HE w (some ⟨b, off, none⟩) n l) (hk : k ≤ n) : HE w (some ⟨b, off + k * 4, none⟩) (n - k) (l.drop k) := by
  refine ⟨by rw [List.length_drop, h.1], fun j e he => ?_⟩
  rw [List.getElem?_drop] at he
  obtain ⟨b', off', e1, c0, c1, c2, c3⟩ := h.2 (k + j) e he
  injection e1 with e1
  injection e1 with e1 e2
  subst e1; subst e2
  refine ⟨b, off + k * 4, rfl, ?_, ?_, ?_, ?_⟩
  · rw [show off + k * 4 + j * 4 = off + (k + j) * 4 by omega]; exact c0
  · rw [show off + k * 4 + j * 4 + 1 = off + (k + j) * 4 + 1 by omega]; exact c1
  · rw [show off + k * 4 + j * 4 + 2 = off + (k + j) * 4 + 2 by omega]; exact c2
  · rw [show off + k * 4 + j * 4 + 3 = off + (k + j) * 4 + 3 by omega]; exact c3
theorem he_nil (w : World) (A : Option Addr) : HE w A 0 [] := ⟨rfl, fun j e he => by simp at he⟩
theorem HE.news {w : World} {ad : Addr} {n : Nat} {l : List En} (h : HE w (some ad) n l) : ∀ j u, (rowsN l)[j]? = some u → w.cell? (ad.add j) = some u := by
  intro j u hu
  have hj : j < (rowsN l).length := (List.getElem?_eq_some_iff.1 hu).1
  rw [rowsN_len] at hj
  obtain ⟨e, he⟩ : ∃ e, l[j / 4]? = some e := ⟨_, List.getElem?_eq_getElem (by omega)⟩
  obtain ⟨b, off, e1, c0, c1, c2, c3⟩ := h.2 (j / 4) e he
  injection e1 with e1
  subst e1
  rw [WideShapes.add_plain]
  have hg := rowsN_get l (j / 4) (j % 4) e he (by omega)
  rw [show j / 4 * 4 + j % 4 = j by omega, hu] at hg
  have hm : j % 4 < 4 := by omega
  rw [show off + j = off + j / 4 * 4 + j % 4 by omega, hg]
  generalize j % 4 = m at hm ⊢
  match m, hm with
  | 0, _ => exact c0
  | 1, _ => exact c1
  | 2, _ => exact c2
  | 3, _ => exact c3
  | m + 4, h => omega
section
variable {P : Program} {T : TypeId}
theorem run_onto_e (w : World) (base t ty : Nat) (i : TypeInfo) (ht : P.underlying t = some (.slice T)) (hi : P.info? T = some i) (hz : i.zero = some (.agg #[.int .i64 0, .int .i64 0, .int .i64 0, .bool false])) (hsize : i.size = 4) (hby : i.bytes = 32)
    (v : Value) (xs : List En) (hown : RE T w base v xs) (A : Option Addr) (m c : Nat) (ys : List En) (hr : HE w A m ys) (hc : A = none → c = 0) (hn : xs.length + m ≤ 1000000) (hbase : base ≤ w.heap.size) :
    ∃ v' w', (Builtin.append_ #[t, t] ty #[v, .slice A m c]).run P w = .ok v' w' ∧ RE T w' base v' (xs ++ ys) ∧ w.grownBy w' v.ownBlock ∧ (v'.ownBlock = v.ownBlock ∨ v'.ownBlock = some w.heap.size) := by
  have hl : (rowsN ys).length = m * 4 := by rw [rowsN_len, hr.1]
  cases A with
  | none =>
    have hm : m = 0 := by
      rcases Nat.eq_zero_or_pos m with h0 | h0
      · exact h0
      · obtain ⟨e, he⟩ : ∃ e, ys[0]? = some e := ⟨_, List.getElem?_eq_getElem (by rw [hr.1]; exact h0)⟩
        obtain ⟨b, off, e, _⟩ := hr.2 0 e he; cases e
    subst hm
    obtain rfl := hc rfl
    have e : ys = [] := List.eq_nil_of_length_eq_zero hr.1
    subst e
    refine ⟨v, w, run_append_owned_none w base t ty _ i 4 ht hi v _ _ hown, by rw [List.append_nil]; exact hown, World.grownBy.refl w _, .inl rfl⟩
  | some ad =>
    obtain ⟨v', w', h1, h2, h3, _, h5⟩ := run_append_own_at (P := P) w base t ty _ i _ 4 32 ht hi hz hsize hby rfl (by omega) v _ _ hown ad m c (rowsN ys) hl hr.news (rows_one_cell ys) (by simp only [maxLen]; omega) (by omega) hbase
    refine ⟨v', w', h1, ?_, h3, h5⟩
    unfold RE
    rw [List.length_append, hr.1, rowsN_app]
    exact h2
theorem wp_onto_e {w : World} {o : Oper} {a : Act} {K : Act → World → Prop} {Q : Exit → Act → World → Prop} (s x : Operand) (t : TypeId)
    (ho : o.op = .call { callee := .builtin .append, args := #[s, x], argTypes := #[t, t] })
    (base : Nat) (i : TypeInfo) (ht : P.underlying t = some (.slice T)) (hi : P.info? T = some i) (hz : i.zero = some (.agg #[.int .i64 0, .int .i64 0, .int .i64 0, .bool false])) (hsize : i.size = 4) (hby : i.bytes = 32)
    (v : Value) (xs : List En) (hs : a.eval s = v) (hown : RE T w base v xs) (A : Option Addr) (m c : Nat) (ys : List En) (hx : a.eval x = .slice A m c) (hr : HE w A m ys) (hc : A = none → c = 0) (hn : xs.length + m ≤ 1000000) (hbase : base ≤ w.heap.size)
    (h : ∀ v' w', RE T w' base v' (xs ++ ys) → w.grownBy w' v.ownBlock → (v'.ownBlock = v.ownBlock ∨ v'.ownBlock = some w.heap.size) → K (a.put o.dst v') w') : o.wp P a w K Q := by
  obtain ⟨v', w', hrun, h2, h3, h4⟩ := run_onto_e (P := P) w base t o.type i ht hi hz hsize hby v xs hown A m c ys hr hc hn hbase
  unfold Oper.wp execOp
  simp only [ho, resolve, invoke, builtin, Sem.run_bind, Sem.run_pure, Result.andThen_ok, List.map_toArray, List.map_cons, List.map_nil, hs, hx, hrun]
  exact h v' w' h2 h3 h4
theorem wpList_onto_e {w : World} {ops : Array Oper} {rest : List Oper} {o : Oper} {a : Act} {Q : Exit → Act → World → Prop} (hgd : o.guard = none) (s x : Operand) (t : TypeId)
    (ho : o.op = .call { callee := .builtin .append, args := #[s, x], argTypes := #[t, t] })
    (base : Nat) (i : TypeInfo) (ht : P.underlying t = some (.slice T)) (hi : P.info? T = some i) (hz : i.zero = some (.agg #[.int .i64 0, .int .i64 0, .int .i64 0, .bool false])) (hsize : i.size = 4) (hby : i.bytes = 32)
    (v : Value) (xs : List En) (hs : a.eval s = v) (hown : RE T w base v xs) (A : Option Addr) (m c : Nat) (ys : List En) (hx : a.eval x = .slice A m c) (hr : HE w A m ys) (hc : A = none → c = 0) (hn : xs.length + m ≤ 1000000) (hbase : base ≤ w.heap.size)
    (h : ∀ v' w', RE T w' base v' (xs ++ ys) → w.grownBy w' v.ownBlock → (v'.ownBlock = v.ownBlock ∨ v'.ownBlock = some w.heap.size) → wpList P ops Q rest (a.put o.dst v') w') : wpList P ops Q (o :: rest) a w :=
  wpList_plain hgd fun _ hK => wp_onto_e s x t ho base i ht hi hz hsize hby v xs hs hown A m c ys hx hr hc hn hbase fun v' w' h2 h3 h4 => hK _ _ (h v' w' h2 h3 h4)
theorem step_onto_e {w : World} {ops : Array Oper} {o : Oper} {a : Act} {K : Act → World → Prop} {Q : Exit → Act → World → Prop} {E : Prop} (hgd : o.guard = none) (s x : Operand) (t : TypeId)
    (ho : o.op = .call { callee := .builtin .append, args := #[s, x], argTypes := #[t, t] })
    (base : Nat) (i : TypeInfo) (ht : P.underlying t = some (.slice T)) (hi : P.info? T = some i) (hz : i.zero = some (.agg #[.int .i64 0, .int .i64 0, .int .i64 0, .bool false])) (hsize : i.size = 4) (hby : i.bytes = 32)
    (v : Value) (xs : List En) (hs : a.eval s = v) (hown : RE T w base v xs) (A : Option Addr) (m c : Nat) (ys : List En) (hx : a.eval x = .slice A m c) (hr : HE w A m ys) (hc : A = none → c = 0) (hn : xs.length + m ≤ 1000000) (hbase : base ≤ w.heap.size)
    (h : ∀ v' w', RE T w' base v' (xs ++ ys) → w.grownBy w' v.ownBlock → (v'.ownBlock = v.ownBlock ∨ v'.ownBlock = some w.heap.size) → K (a.put o.dst v') w') :
    if Region.wanted o (yielded ops a.tmps) = true then Oper.wp P o a w K Q else E := by
  have hw : Region.wanted o (yielded ops a.tmps) = true := by simp [Region.wanted, hgd]
  rw [if_pos hw]
  exact wp_onto_e s x t ho base i ht hi hz hsize hby v xs hs hown A m c ys hx hr hc hn hbase h
end
theorem re_empty (T : TypeId) (w : World) (base : Nat) (h : base ≤ w.heap.size) : RE T (w.alloc (.cells #[] T)) base (.slice (some ⟨w.heap.size, 0, none⟩) 0 0) [] :=
  World.ownsRow_made w #[] 0 h (by unfold maxLen; omega) rfl
theorem slice_from {t T : TypeId} (hu : Try.prog.underlying t = some (.slice (Try.prog.elem t))) (h : ∀ W, (sizeOf (Try.prog.elem t)).run Try.prog W = .ok 4 W) (b off n c k : Nat) (hk : k ≤ n) (hc : n ≤ c) (W : World) : (Instr.sliceAt t (.slice (some ⟨b, off, none⟩) n c) (some (.int .i64 (k : Int))) none none).run Try.prog W = .ok (.slice (some (if c = k then ⟨b, off, none⟩ else ⟨b, off + k * 4, none⟩)) (n - k) (c - k)) W := by
  rw [run_sliceAt_slice W _ _ _ _ _ hu, run_slice_l W _ _ n c hu .i64 (k : Int) (by omega) (by omega), h W]
  simp [sliced, Result.andThen, Addr.add]
  split
  · rfl
  · split
    · rename_i h0; rw [h0]; rfl
    · rfl
theorem slice_to {t : TypeId} (hu : Try.prog.underlying t = some (.slice (Try.prog.elem t))) (h : ∀ W, (sizeOf (Try.prog.elem t)).run Try.prog W = .ok 4 W) (A : Option Addr) (n c k : Nat) (hk : k ≤ c) (W : World) : (Instr.sliceAt t (.slice A n c) none (some (.int .i64 (k : Int))) none).run Try.prog W = .ok (.slice A k c) W := by
  rw [run_sliceAt_slice W _ _ _ _ _ hu, run_slice_h W _ A n c hu .i64 (k : Int) (by omega) (by omega), h W]
  cases A <;> simp [sliced, Result.andThen, Addr.add]
/-- What stands behind the first k of a slice of orders. -/
theorem tail_src {t : TypeId} (hu : Try.prog.underlying t = some (.slice (Try.prog.elem t))) (h : ∀ W, (sizeOf (Try.prog.elem t)).run Try.prog W = .ok 4 W) (b n c k : Nat) (hk : k ≤ n) (hc : n ≤ c) : ∃ ad n2 c2, n2 = n - k ∧ (∀ W, (Instr.sliceAt t (.slice (some ⟨b, 0, none⟩) n c) (some (.int .i64 (k : Int))) none none).run Try.prog W = .ok (.slice (some ad) n2 c2) W) ∧ (∀ W l, HE W (some ⟨b, 0, none⟩) n l → HE W (some ad) n2 (l.drop k)) := by
  refine ⟨_, n - k, c - k, rfl, fun W => slice_from (T := t) hu h b 0 n c k hk hc W, fun W l hl => ?_⟩
  by_cases hck : c = k
  · have : n = k := by omega
    rw [if_pos hck]
    have e : l.drop k = [] := List.drop_of_length_le (by rw [hl.1]; omega)
    rw [e, show n - k = 0 by omega]
    exact he_nil _ _
  · rw [if_neg hck]
    have := hl.drop hk
    rwa [Nat.zero_add] at this ⊢
end Go.Proofs.Ytcfmnmknbebfnaa
