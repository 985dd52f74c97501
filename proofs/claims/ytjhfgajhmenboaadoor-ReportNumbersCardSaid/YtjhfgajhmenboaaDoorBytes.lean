/-
  Slices of bytes: read as lists, made by the call itself, appended to.
-/
import Derived.Test.YtjhfgajhmenboaaDoorProg
import Derived.Test.YtjhfgajhmenboaaDoorRunes
import Derived.Maps.AppendAt
import Derived.Deep.AppendLies
import Derived.RegionTactic
import Derived.OwnWalk
import Derived.Lib.OthersKept
import Derived.Lib.Hide
import Derived.Deep.Draws
import Derived.Laws.IdiomStrings
namespace Go.Proofs.YtjhfgajhmenboaaDoor
open Go.RowKit
set_option linter.unusedVariables false
set_option linter.unusedSimpArgs false

/-- A byte as a cell. -/
def bc (b : UInt8) : Value := .int .u8 (b.toNat : Int)
/-- The slice of this address and length reads as these bytes. -/
def HB (w : World) (A : Option Addr) (n : Nat) (l : List UInt8) : Prop :=
  l.length = n ∧ (0 < n → ∃ b off, A = some ⟨b, off, none⟩ ∧ ∀ k, k < n → w.cell? ⟨b, off + k, none⟩ = some (bc (l.getD k 0)))
/-- The call's own slice v, from block number base on, holds these bytes. -/
def RB (w : World) (base : Nat) (v : Value) (l : List UInt8) : Prop := w.ownsRow base 5 1 v l.length (l.map bc)

theorem info_u8 : (Tryd.prog.info? 5).map (fun i => (i.zero, i.size, i.bytes)) = some (some (.int .u8 0), 1, 1) := by kernel_rfl

theorem HB.below {w w' : World} {A : Option Addr} {n : Nat} {l : List UInt8} (h : HB w A n l) (hb : Below w.heap.size w w') : HB w' A n l := by
  refine ⟨h.1, fun hn => ?_⟩
  obtain ⟨b, off, e, hc⟩ := h.2 hn
  exact ⟨b, off, e, fun k hk => (hb.cell (p := ⟨b, off + k, none⟩) (World.block_lt_of_cell? w _ (hc k hk))).trans (hc k hk)⟩
theorem HB.alloc {w : World} {A : Option Addr} {n : Nat} {l : List UInt8} (h : HB w A n l) (o : Obj) : HB (w.alloc o) A n l := h.below ((Below.refl _ _).alloc (Nat.le_refl _) o)
theorem HB.drew {w : World} {A : Option Addr} {n : Nat} {l : List UInt8} (h : HB w A n l) : HB w.drew A n l := h
theorem hb_nil (w : World) (A : Option Addr) : HB w A 0 [] := ⟨rfl, fun h => absurd h (by omega)⟩
theorem HB.take {w : World} {A : Option Addr} {n k : Nat} {l : List UInt8} (h : HB w A n l) (hk : k ≤ n) : HB w A k (l.take k) := by
  refine ⟨by rw [List.length_take, h.1]; omega, fun hn => ?_⟩
  obtain ⟨b, off, e, hc⟩ := h.2 (by omega)
  refine ⟨b, off, e, fun j hj => ?_⟩
  rw [hc j (by omega)]
  simp [List.getD, hj]
theorem HB.drop {w : World} {ad : Addr} {n k : Nat} {l : List UInt8} (h : HB w (some ad) n l) (hk : k ≤ n) : HB w (some (ad.add k)) (n - k) (l.drop k) := by
  refine ⟨by rw [List.length_drop, h.1], fun hn => ?_⟩
  obtain ⟨b, off, e, hc⟩ := h.2 (by omega)
  injection e with e
  subst e
  refine ⟨b, off + k, by rw [WideShapes.add_plain], fun j hj => ?_⟩
  rw [Nat.add_assoc, hc (k + j) (by omega)]
  simp [List.getD]

theorem rb_nil (w : World) (base : Nat) : RB w base (.slice none 0 0) [] := World.ownsRow_nil w base _ _
theorem rb_lit (w : World) (base : Nat) (l : List UInt8) (h : base ≤ w.heap.size) (hl : l.length ≤ 1000000) : RB (w.alloc (.cells (l.map bc).toArray 5)) base (.slice (some ⟨w.heap.size, 0, none⟩) l.length l.length) l := by
  have := World.ownsRow_lit (e := 5) (base := base) (size := 1) w (l.map bc).toArray l.length h (by simp only [maxLen]; omega) (by simp)
  unfold RB
  simpa using this
theorem hb_lit (w : World) (l : List UInt8) : HB (w.alloc (.cells (l.map bc).toArray 5)) (some ⟨w.heap.size, 0, none⟩) l.length l := by
  refine ⟨rfl, fun _ => ⟨w.heap.size, 0, rfl, fun k hk => ?_⟩⟩
  rw [Nat.zero_add, Lib.cell_of_heap (heap_alloc_new w _)]
  simp [List.getD, List.getElem?_eq_getElem hk]
theorem RB.alloc {w : World} {base : Nat} {v : Value} {l : List UInt8} (h : RB w base v l) (o : Obj) : RB (w.alloc o) base v l := World.ownsRow.alloc h o
theorem RB.drew {w : World} {base : Nat} {v : Value} {l : List UInt8} (h : RB w base v l) : RB w.drew base v l := h
theorem RB.kept {w w' : World} {base : Nat} {v : Value} {l : List UInt8} {row : Option Nat} (h : RB w base v l) (hg : w.grownBy w' row) (hne : v.ownBlock = none ∨ v.ownBlock ≠ row) : RB w' base v l := World.ownsRow.kept h hg hne
/-- A row of the call's own reads as its list. -/
theorem RB.holds {w : World} {base : Nat} {v : Value} {l : List UInt8} (h : RB w base v l) : ∃ A cap, v = .slice A l.length cap ∧ HB w A l.length l ∧ (A = none → cap = 0) ∧ cap ≤ maxLen ∧ l.length ≤ cap := by
  by_cases h0 : 0 < l.length
  · obtain ⟨g, cap, hv, _, _⟩ := World.ownsRow.form h h0
    have hm : cap ≤ maxLen ∧ l.length ≤ cap := by
      rcases h.2 with ⟨e, e2⟩ | ⟨g', cap', cur, e, _, _, hc, hm, _⟩
      · omega
      · rw [hv] at e
        injection e with _ _ e
        rw [e]; exact ⟨hm, hc⟩
    refine ⟨_, cap, hv, ⟨rfl, fun _ => ⟨g, 0, rfl, fun k hk => ?_⟩⟩, (fun e => by cases e), hm⟩
    unfold RB at h
    rw [hv] at h
    rw [Nat.zero_add, World.ownsRow.cellAt h k (by omega)]
    simp [List.getD, List.getElem?_eq_getElem hk]
  · have e : l = [] := List.eq_nil_of_length_eq_zero (by omega)
    subst e
    rcases h.2 with ⟨rfl, _⟩ | ⟨g, cap, cur, rfl, _, _, hc, hm, _⟩
    · exact ⟨none, 0, rfl, hb_nil w none, fun _ => rfl, by simp only [maxLen]; omega, Nat.le_refl _⟩
    · exact ⟨_, cap, rfl, hb_nil w _, (fun e => by cases e), hm, Nat.zero_le _⟩
theorem HB.drewN {w : World} {A : Option Addr} {n : Nat} {l : List UInt8} (h : HB w A n l) (q : Nat) : HB (w.drewN q) A n l := h
theorem below_drewN {B : Nat} {w w' : World} (h : Below B w w') (q : Nat) : Below B w (w'.drewN q) := by
  induction q with
  | zero => exact h
  | succ q ih => exact ih.drew
theorem RB.drewN {w : World} {base : Nat} {v : Value} {l : List UInt8} (h : RB w base v l) (q : Nat) : RB (w.drewN q) base v l := h
theorem HB.win {w : World} {b off n : Nat} {l : List UInt8} (h : HB w (some ⟨b, off, none⟩) n l) {i m : Nat} (hi : i + m ≤ n) : HB w (some ⟨b, off + i, none⟩) m ((l.drop i).take m) := by
  refine ⟨by rw [List.length_take, List.length_drop, h.1]; omega, fun hm => ?_⟩
  obtain ⟨b', off', e, hc⟩ := h.2 (by omega)
  injection e with e
  injection e with e1 e2
  subst e1; subst e2
  refine ⟨b, off + i, rfl, fun k hk => ?_⟩
  rw [Nat.add_assoc, hc (i + k) (by omega)]
  congr 2
  simp [List.getD, hk]
theorem RB.below {w0 w w' : World} {v : Value} {l : List UInt8} (hb : Below w0.heap.size w0 w) (h : RB w w0.heap.size v l) (hg : w.grownBy w' v.ownBlock) : Below w0.heap.size w0 w' :=
  hb.grown hg hb.size (fun k hk => (World.ownsRow.lt h k hk).1)
section
variable {P : Program}
/-- append of whatever slice of bytes onto a row of the call's own. -/
theorem run_onto_b (w : World) (base t ty : Nat) (i : TypeInfo) (ht : P.underlying t = some (.slice 5)) (hi : P.info? 5 = some i) (hz : i.zero = some (.int .u8 0)) (hsize : i.size = 1) (hby : i.bytes = 1)
    (v : Value) (xs : List UInt8) (hown : RB w base v xs) (A : Option Addr) (m c : Nat) (ys : List UInt8) (hr : HB w A m ys) (hc : A = none → c = 0) (hn : xs.length + m ≤ 140737488355328) (hbase : base ≤ w.heap.size) :
    ∃ v' w', (Builtin.append_ #[t, t] ty #[v, .slice A m c]).run P w = .ok v' w' ∧ RB w' base v' (xs ++ ys) ∧ w.grownBy w' v.ownBlock ∧ (v'.ownBlock = v.ownBlock ∨ v'.ownBlock = some w.heap.size) := by
  have hl : (ys.map (bc)).length = m * 1 := by rw [List.length_map, hr.1, Nat.mul_one]
  cases A with
  | none =>
    have hm : m = 0 := by
      by_cases h0 : 0 < m
      · obtain ⟨b, off, e, _⟩ := hr.2 h0; cases e
      · omega
    subst hm
    obtain rfl := hc rfl
    have e : ys = [] := List.eq_nil_of_length_eq_zero hr.1
    subst e
    refine ⟨v, w, run_append_owned_none w base t ty _ i 1 ht hi v _ _ hown, by rw [List.append_nil]; exact hown, World.grownBy.refl w _, .inl rfl⟩
  | some ad =>
    obtain ⟨v', w', h1, h2, h3, _, h5⟩ := run_append_own_at (P := P) w base t ty _ i _ 1 1 ht hi hz hsize hby rfl (by omega) v _ _ hown ad m c (ys.map (bc)) hl (fun j u hj => by
      have hjl : j < ys.length := by
        rcases Nat.lt_or_ge j ys.length with h | h
        · exact h
        · rw [List.getElem?_eq_none (by simpa using h)] at hj; cases hj
      obtain ⟨b, off, e, hcell⟩ := hr.2 (by rw [← hr.1]; omega)
      injection e with e
      subst e
      rw [WideShapes.add_plain, hcell j (by rw [← hr.1]; exact hjl)]
      rw [List.getElem?_map, List.getElem?_eq_getElem hjl] at hj
      simp only [Option.map_some, Option.some.injEq] at hj
      rw [← hj]
      simp [List.getD, List.getElem?_eq_getElem hjl]) (fun u hu => by
      obtain ⟨x, _, rfl⟩ := List.mem_map.1 hu
      rfl) (by simp only [maxLen]; omega) (by omega) hbase
    refine ⟨v', w', h1, ?_, h3, h5⟩
    unfold RB
    rw [List.length_append, hr.1, List.map_append]
    exact h2

theorem wp_onto_b {w : World} {o : Oper} {a : Act} {K : Act → World → Prop} {Q : Exit → Act → World → Prop} (s x : Operand) (t : TypeId)
    (ho : o.op = .call { callee := .builtin .append, args := #[s, x], argTypes := #[t, t] })
    (base : Nat) (i : TypeInfo) (ht : P.underlying t = some (.slice 5)) (hi : P.info? 5 = some i) (hz : i.zero = some (.int .u8 0)) (hsize : i.size = 1) (hby : i.bytes = 1)
    (v : Value) (xs : List UInt8) (hs : a.eval s = v) (hown : RB w base v xs) (A : Option Addr) (m c : Nat) (ys : List UInt8) (hx : a.eval x = .slice A m c) (hr : HB w A m ys) (hc : A = none → c = 0) (hn : xs.length + m ≤ 140737488355328) (hbase : base ≤ w.heap.size)
    (h : ∀ v' w', RB w' base v' (xs ++ ys) → w.grownBy w' v.ownBlock → (v'.ownBlock = v.ownBlock ∨ v'.ownBlock = some w.heap.size) → K (a.put o.dst v') w') : o.wp P a w K Q := by
  obtain ⟨v', w', hrun, h2, h3, h4⟩ := run_onto_b (P := P) w base t o.type i ht hi hz hsize hby v xs hown A m c ys hr hc hn hbase
  unfold Oper.wp execOp
  simp only [ho, resolve, invoke, builtin, Sem.run_bind, Sem.run_pure, Result.andThen_ok, List.map_toArray, List.map_cons, List.map_nil, hs, hx, hrun]
  exact h v' w' h2 h3 h4
theorem wpList_onto_b {w : World} {ops : Array Oper} {rest : List Oper} {o : Oper} {a : Act} {Q : Exit → Act → World → Prop} (hgd : o.guard = none) (s x : Operand) (t : TypeId)
    (ho : o.op = .call { callee := .builtin .append, args := #[s, x], argTypes := #[t, t] })
    (base : Nat) (i : TypeInfo) (ht : P.underlying t = some (.slice 5)) (hi : P.info? 5 = some i) (hz : i.zero = some (.int .u8 0)) (hsize : i.size = 1) (hby : i.bytes = 1)
    (v : Value) (xs : List UInt8) (hs : a.eval s = v) (hown : RB w base v xs) (A : Option Addr) (m c : Nat) (ys : List UInt8) (hx : a.eval x = .slice A m c) (hr : HB w A m ys) (hc : A = none → c = 0) (hn : xs.length + m ≤ 140737488355328) (hbase : base ≤ w.heap.size)
    (h : ∀ v' w', RB w' base v' (xs ++ ys) → w.grownBy w' v.ownBlock → (v'.ownBlock = v.ownBlock ∨ v'.ownBlock = some w.heap.size) → wpList P ops Q rest (a.put o.dst v') w') : wpList P ops Q (o :: rest) a w :=
  wpList_plain hgd fun _ hK => wp_onto_b s x t ho base i ht hi hz hsize hby v xs hs hown A m c ys hx hr hc hn hbase fun v' w' h2 h3 h4 => hK _ _ (h v' w' h2 h3 h4)
theorem step_onto_b {w : World} {ops : Array Oper} {o : Oper} {a : Act} {K : Act → World → Prop} {Q : Exit → Act → World → Prop} {E : Prop} (hgd : o.guard = none) (s x : Operand) (t : TypeId)
    (ho : o.op = .call { callee := .builtin .append, args := #[s, x], argTypes := #[t, t] })
    (base : Nat) (i : TypeInfo) (ht : P.underlying t = some (.slice 5)) (hi : P.info? 5 = some i) (hz : i.zero = some (.int .u8 0)) (hsize : i.size = 1) (hby : i.bytes = 1)
    (v : Value) (xs : List UInt8) (hs : a.eval s = v) (hown : RB w base v xs) (A : Option Addr) (m c : Nat) (ys : List UInt8) (hx : a.eval x = .slice A m c) (hr : HB w A m ys) (hc : A = none → c = 0) (hn : xs.length + m ≤ 140737488355328) (hbase : base ≤ w.heap.size)
    (h : ∀ v' w', RB w' base v' (xs ++ ys) → w.grownBy w' v.ownBlock → (v'.ownBlock = v.ownBlock ∨ v'.ownBlock = some w.heap.size) → K (a.put o.dst v') w') :
    if Region.wanted o (yielded ops a.tmps) = true then Oper.wp P o a w K Q else E := by
  have hw : Region.wanted o (yielded ops a.tmps) = true := by simp [Region.wanted, hgd]
  rw [if_pos hw]
  exact wp_onto_b s x t ho base i ht hi hz hsize hby v xs hs hown A m c ys hx hr hc hn hbase h
end
end Go.Proofs.YtjhfgajhmenboaaDoor
