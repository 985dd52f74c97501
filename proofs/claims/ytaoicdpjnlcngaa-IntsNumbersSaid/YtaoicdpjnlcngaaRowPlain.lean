/-
  Rows of int64 numbers that a call has made for itself: read as lists, appended to.
-/
import Derived.Test.YtaoicdpjnlcngaaRefSum
import Derived.Maps.AppendAt
import Derived.Deep.AppendLies
import Derived.RegionTactic
import Derived.OwnWalk
namespace Go.Proofs.Ytaoicdpjnlcngaa
open Go.RowKit
set_option linter.unusedVariables false

/-- The call's own slice v, from block number base on, holds these numbers. -/
def Row (w : World) (base : Nat) (v : Value) (xs : List Int) : Prop := w.ownsRow base 2 1 v xs.length (xs.map (Value.int .i64))
theorem row_nil (w : World) (base : Nat) : Row w base (.slice none 0 0) [] := World.ownsRow_nil w base _ _
theorem row_one (w : World) (base : Nat) (x : Int) (h : base ≤ w.heap.size) : Row (w.alloc (.cells #[.int .i64 x] 2)) base (.slice (some ⟨w.heap.size, 0, none⟩) 1 1) [x] :=
  World.ownsRow_lit w #[.int .i64 x] 1 h (by simp only [maxLen]; omega) rfl
theorem row_holds {w : World} {base : Nat} {v : Value} {xs : List Int} (h : Row w base v xs) (hx : ∀ x ∈ xs, I64 x) : ∃ A cap, v = .slice A xs.length cap ∧ Holds w A xs.length xs ∧ (A = none → cap = 0) ∧ cap ≤ maxLen := by
  by_cases h0 : 0 < xs.length
  · obtain ⟨g, cap, hv, _, _⟩ := World.ownsRow.form h h0
    refine ⟨_, cap, hv, ⟨rfl, hx, fun _ => ⟨g, 0, rfl, fun k hk => ?_⟩⟩, (fun e => by cases e), ?_⟩
    · unfold Row at h
      rw [hv] at h
      rw [Nat.zero_add, World.ownsRow.cellAt h k (by omega)]
      simp [List.getD, List.getElem?_eq_getElem hk]
    · rcases h.2 with ⟨e, e2⟩ | ⟨g', cap', cur, e, _, _, _, hm, _⟩
      · omega
      · rw [hv] at e
        injection e with _ _ e
        rw [e]; exact hm
  · have e : xs = [] := List.eq_nil_of_length_eq_zero (by omega)
    subst e
    rcases h.2 with ⟨rfl, _⟩ | ⟨g, cap, cur, rfl, _, _, _, hm, _⟩
    · exact ⟨none, 0, rfl, ⟨rfl, hx, fun h => absurd h (by simp)⟩, fun _ => rfl, by simp only [maxLen]; omega⟩
    · exact ⟨_, cap, rfl, ⟨rfl, hx, fun h => absurd h (by simp)⟩, (fun e => by cases e), hm⟩
theorem Holds.below {w w' : World} {A : Option Addr} {n : Nat} {xs : List Int} (h : Holds w A n xs) (hb : Below w.heap.size w w') : Holds w' A n xs := by
  refine ⟨h.1, h.2.1, fun hn => ?_⟩
  obtain ⟨b, off, e, hc⟩ := h.2.2 hn
  exact ⟨b, off, e, fun k hk => (hb.cell (p := ⟨b, off + k, none⟩) (World.block_lt_of_cell? w _ (hc k hk))).trans (hc k hk)⟩

theorem one_holds (w : World) (y : Int) (hy : I64 y) : Holds (w.alloc (.cells #[.int .i64 y] 2)) (some ⟨w.heap.size, 0, none⟩) 1 [y] :=
  ⟨rfl, by simpa using hy, fun _ => ⟨_, 0, rfl, fun k hk => by
    obtain rfl : k = 0 := by omega
    simp⟩⟩
theorem row_one_at (w : World) (base : Nat) (x : Int) (h : base ≤ w.heap.size) (H : Nat) (hH : w.heap.size = H) : Row (w.alloc (.cells #[.int .i64 x] 2)) base (.slice (some ⟨H, 0, none⟩) 1 1) [x] := by
  rw [← hH]; exact row_one w base x h
theorem one_holds_at (w : World) (y : Int) (hy : I64 y) (H : Nat) (hH : w.heap.size = H) : Holds (w.alloc (.cells #[.int .i64 y] 2)) (some ⟨H, 0, none⟩) 1 [y] := by
  rw [← hH]; exact one_holds w y hy
theorem holds_alloc {w : World} {A : Option Addr} {n : Nat} {xs : List Int} (h : Holds w A n xs) (o : Obj) : Holds (w.alloc o) A n xs := h.below ((Below.refl _ _).alloc (Nat.le_refl _) o)
theorem holds_drew {w : World} {A : Option Addr} {n : Nat} {xs : List Int} (h : Holds w A n xs) : Holds w.drew A n xs := h
theorem holds_grown {w w' : World} {H : Nat} {ys : List Int} {row : Option Nat} {n : Nat} (h : Holds w (some ⟨H, 0, none⟩) n ys) (hg : w.grownBy w' row) (hne : some H ≠ row) : Holds w' (some ⟨H, 0, none⟩) n ys := by
  refine ⟨h.1, h.2.1, fun hn => ?_⟩
  obtain ⟨b, off, e, hc⟩ := h.2.2 hn
  injection e with e
  injection e with e1 e2 e3
  subst e1; subst e2
  exact ⟨H, 0, rfl, fun k hk => hg.cell (hc k hk) hne⟩
theorem holds_take {w : World} {A : Option Addr} {n k : Nat} {xs : List Int} (h : Holds w A n xs) (hk : k ≤ n) : Holds w A k (xs.take k) := by
  refine ⟨by rw [List.length_take, h.1]; omega, fun x hx => h.2.1 x (List.mem_of_mem_take hx), fun hn => ?_⟩
  obtain ⟨b, off, e, hc⟩ := h.2.2 (by omega)
  refine ⟨b, off, e, fun j hj => ?_⟩
  rw [hc j (by omega)]
  simp [List.getD, hj]
theorem holds_drop {w : World} {ad : Addr} {n k : Nat} {xs : List Int} (h : Holds w (some ad) n xs) (hk : k ≤ n) : Holds w (some (ad.add k)) (n - k) (xs.drop k) := by
  refine ⟨by rw [List.length_drop, h.1], fun x hx => h.2.1 x (List.mem_of_mem_drop hx), fun hn => ?_⟩
  obtain ⟨b, off, e, hc⟩ := h.2.2 (by omega)
  injection e with e
  subst e
  refine ⟨b, off + k, by rw [WideShapes.add_plain], fun j hj => ?_⟩
  rw [Nat.add_assoc, hc (k + j) (by omega)]
  simp [List.getD]
theorem holds_none (w : World) (A : Option Addr) : Holds w A 0 [] := ⟨rfl, by simp, fun h => absurd h (by omega)⟩
theorem row_alloc {w : World} {base : Nat} {v : Value} {xs : List Int} (h : Row w base v xs) (o : Obj) : Row (w.alloc o) base v xs := World.ownsRow.alloc h o
theorem row_drew {w : World} {base : Nat} {v : Value} {xs : List Int} (h : Row w base v xs) : Row w.drew base v xs := h
theorem row_kept {w w' : World} {base : Nat} {v : Value} {xs : List Int} {row : Option Nat} (h : Row w base v xs) (hg : w.grownBy w' row) (hne : v.ownBlock = none ∨ v.ownBlock ≠ row) : Row w' base v xs := World.ownsRow.kept h hg hne
theorem below_onto {w0 w w' : World} {v : Value} {xs : List Int} (hb : Below w0.heap.size w0 w) (h : Row w w0.heap.size v xs) (hg : w.grownBy w' v.ownBlock) : Below w0.heap.size w0 w' :=
  hb.grown hg hb.size (fun k hk => (World.ownsRow.lt h k hk).1)

section
variable {P : Program}
/-- append of whatever slice of numbers onto a row of the call's own. -/
theorem run_onto (w : World) (base t ty : Nat) (i : TypeInfo) (ht : P.underlying t = some (.slice 2)) (hi : P.info? 2 = some i) (hz : i.zero = some (.int .i64 0)) (hsize : i.size = 1) (hby : i.bytes = 8)
    (v : Value) (xs : List Int) (hown : Row w base v xs) (A : Option Addr) (m c : Nat) (ys : List Int) (hr : Holds w A m ys) (hc : A = none → c = 0) (hn : xs.length + m ≤ 1000000) (hbase : base ≤ w.heap.size) :
    ∃ v' w', (Builtin.append_ #[t, t] ty #[v, .slice A m c]).run P w = .ok v' w' ∧ Row w' base v' (xs ++ ys) ∧ w.grownBy w' v.ownBlock ∧ (v'.ownBlock = v.ownBlock ∨ v'.ownBlock = some w.heap.size) := by
  have hl : (ys.map (Value.int .i64)).length = m * 1 := by rw [List.length_map, hr.1, Nat.mul_one]
  cases A with
  | none =>
    have hm : m = 0 := by
      by_cases h0 : 0 < m
      · obtain ⟨b, off, e, _⟩ := hr.2.2 h0; cases e
      · omega
    subst hm
    obtain rfl := hc rfl
    have e : ys = [] := List.eq_nil_of_length_eq_zero hr.1
    subst e
    refine ⟨v, w, run_append_owned_none w base t ty _ i 1 ht hi v _ _ hown, by rw [List.append_nil]; exact hown, World.grownBy.refl w _, .inl rfl⟩
  | some ad =>
    obtain ⟨v', w', h1, h2, h3, _, h5⟩ := run_append_own_at (P := P) w base t ty _ i _ 1 8 ht hi hz hsize hby rfl (by omega) v _ _ hown ad m c (ys.map (Value.int .i64)) hl (fun j u hj => by
      have hjl : j < ys.length := by
        rcases Nat.lt_or_ge j ys.length with h | h
        · exact h
        · rw [List.getElem?_eq_none (by simpa using h)] at hj; cases hj
      obtain ⟨b, off, e, hcell⟩ := hr.2.2 (by rw [← hr.1]; omega)
      injection e with e
      subst e
      rw [WideShapes.add_plain, hcell j (by rw [← hr.1]; exact hjl)]
      rw [List.getElem?_map, List.getElem?_eq_getElem hjl] at hj
      simp only [Option.map_some, Option.some.injEq] at hj
      rw [← hj]
      simp [List.getD, List.getElem?_eq_getElem hjl]) (fun u hu => by
      obtain ⟨x, _, rfl⟩ := List.mem_map.1 hu
      rfl) (by simp only [maxLen]; omega) (by omega) hbase
    refine ⟨v', w', h1, ?_, h3, h5⟩
    unfold Row
    rw [List.length_append, hr.1, List.map_append]
    exact h2

theorem wp_onto {w : World} {o : Oper} {a : Act} {K : Act → World → Prop} {Q : Exit → Act → World → Prop} (s x : Operand) (t : TypeId)
    (ho : o.op = .call { callee := .builtin .append, args := #[s, x], argTypes := #[t, t] })
    (base : Nat) (i : TypeInfo) (ht : P.underlying t = some (.slice 2)) (hi : P.info? 2 = some i) (hz : i.zero = some (.int .i64 0)) (hsize : i.size = 1) (hby : i.bytes = 8)
    (v : Value) (xs : List Int) (hs : a.eval s = v) (hown : Row w base v xs) (A : Option Addr) (m c : Nat) (ys : List Int) (hx : a.eval x = .slice A m c) (hr : Holds w A m ys) (hc : A = none → c = 0) (hn : xs.length + m ≤ 1000000) (hbase : base ≤ w.heap.size)
    (h : ∀ v' w', Row w' base v' (xs ++ ys) → w.grownBy w' v.ownBlock → (v'.ownBlock = v.ownBlock ∨ v'.ownBlock = some w.heap.size) → K (a.put o.dst v') w') : o.wp P a w K Q := by
  obtain ⟨v', w', hrun, h2, h3, h4⟩ := run_onto (P := P) w base t o.type i ht hi hz hsize hby v xs hown A m c ys hr hc hn hbase
  unfold Oper.wp execOp
  simp only [ho, resolve, invoke, builtin, Sem.run_bind, Sem.run_pure, Result.andThen_ok, List.map_toArray, List.map_cons, List.map_nil, hs, hx, hrun]
  exact h v' w' h2 h3 h4
theorem wpList_onto {w : World} {ops : Array Oper} {rest : List Oper} {o : Oper} {a : Act} {Q : Exit → Act → World → Prop} (hgd : o.guard = none) (s x : Operand) (t : TypeId)
    (ho : o.op = .call { callee := .builtin .append, args := #[s, x], argTypes := #[t, t] })
    (base : Nat) (i : TypeInfo) (ht : P.underlying t = some (.slice 2)) (hi : P.info? 2 = some i) (hz : i.zero = some (.int .i64 0)) (hsize : i.size = 1) (hby : i.bytes = 8)
    (v : Value) (xs : List Int) (hs : a.eval s = v) (hown : Row w base v xs) (A : Option Addr) (m c : Nat) (ys : List Int) (hx : a.eval x = .slice A m c) (hr : Holds w A m ys) (hc : A = none → c = 0) (hn : xs.length + m ≤ 1000000) (hbase : base ≤ w.heap.size)
    (h : ∀ v' w', Row w' base v' (xs ++ ys) → w.grownBy w' v.ownBlock → (v'.ownBlock = v.ownBlock ∨ v'.ownBlock = some w.heap.size) → wpList P ops Q rest (a.put o.dst v') w') : wpList P ops Q (o :: rest) a w :=
  wpList_plain hgd fun _ hK => wp_onto s x t ho base i ht hi hz hsize hby v xs hs hown A m c ys hx hr hc hn hbase fun v' w' h2 h3 h4 => hK _ _ (h v' w' h2 h3 h4)
theorem step_onto {w : World} {ops : Array Oper} {o : Oper} {a : Act} {K : Act → World → Prop} {Q : Exit → Act → World → Prop} {E : Prop} (hgd : o.guard = none) (s x : Operand) (t : TypeId)
    (ho : o.op = .call { callee := .builtin .append, args := #[s, x], argTypes := #[t, t] })
    (base : Nat) (i : TypeInfo) (ht : P.underlying t = some (.slice 2)) (hi : P.info? 2 = some i) (hz : i.zero = some (.int .i64 0)) (hsize : i.size = 1) (hby : i.bytes = 8)
    (v : Value) (xs : List Int) (hs : a.eval s = v) (hown : Row w base v xs) (A : Option Addr) (m c : Nat) (ys : List Int) (hx : a.eval x = .slice A m c) (hr : Holds w A m ys) (hc : A = none → c = 0) (hn : xs.length + m ≤ 1000000) (hbase : base ≤ w.heap.size)
    (h : ∀ v' w', Row w' base v' (xs ++ ys) → w.grownBy w' v.ownBlock → (v'.ownBlock = v.ownBlock ∨ v'.ownBlock = some w.heap.size) → K (a.put o.dst v') w') :
    if Region.wanted o (yielded ops a.tmps) = true then Oper.wp P o a w K Q else E := by
  have hw : Region.wanted o (yielded ops a.tmps) = true := by simp [Region.wanted, hgd]
  rw [if_pos hw]
  exact wp_onto s x t ho base i ht hi hz hsize hby v xs hs hown A m c ys hx hr hc hn hbase h
end
end Go.Proofs.Ytaoicdpjnlcngaa
