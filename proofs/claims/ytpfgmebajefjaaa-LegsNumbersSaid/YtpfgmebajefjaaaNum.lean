/-
  Lists of int64 numbers in memory: read as lists, owned, appended to, stored into.
-/
import Derived.Test.YtpfgmebajefjaaaProg
import Derived.WalkKit
import Derived.WalkSpells
import Derived.WalkLawsBesides
import Derived.Lib.Hide
import Derived.Maps.AppendAt
import Derived.Deep.AppendLies
import Derived.RegionTactic
import Derived.OwnWalk
import Derived.Deep.QuietTactic
import Derived.BigQuiet
namespace Go.Proofs.Ytpfgmebajefjaaa
open Go.RowKit
set_option linter.unusedVariables false
set_option linter.unusedSimpArgs false

/-- A number that an int64 holds. -/
def I64 (x : Int) : Prop := -9223372036854775808 ≤ x ∧ x ≤ 9223372036854775807
/-- The sum of a list. -/
def sumL : List Int → Int
  | [] => 0
  | x :: l => x + sumL l
theorem sumL_append (l m : List Int) : sumL (l ++ m) = sumL l + sumL m := by
  induction l with
  | nil => simp [sumL]
  | cons x l ih => simp only [List.cons_append, sumL, ih]; omega
theorem sumL_take (l : List Int) (k : Nat) (h : k < l.length) : sumL (l.take (k + 1)) = sumL (l.take k) + l.getD k 0 := by
  rw [List.take_add_one, sumL_append]
  simp [List.getD, List.getElem?_eq_getElem h, sumL]
theorem sumL_bound (l : List Int) (m : Int) (h : ∀ x ∈ l, 0 ≤ x ∧ x ≤ m) : 0 ≤ sumL l ∧ sumL l ≤ (l.length : Int) * m := by
  induction l with
  | nil => simp [sumL]
  | cons x l ih =>
    have := ih (fun y hy => h y (by simp [hy]))
    obtain ⟨h1, h2⟩ := h x (by simp)
    have e : ((l.length : Int) + 1) * m = (l.length : Int) * m + m := by rw [Int.add_mul, Int.one_mul]
    simp only [List.length_cons, sumL, Int.natCast_add, Int.natCast_one, e]
    omega
theorem getD_mem {l : List Int} {k : Nat} (h : k < l.length) : l.getD k 0 ∈ l := by
  simp [List.getD, List.getElem?_eq_getElem h]
theorem getD_take {l : List Int} {k j : Nat} (h : j < k) : (l.take k).getD j 0 = l.getD j 0 := by simp [List.getD, h]
theorem getD_left {l m : List Int} {j : Nat} (h : j < l.length) : (l ++ m).getD j 0 = l.getD j 0 := by simp [List.getD, List.getElem?_append_left h]
theorem getD_last (l : List Int) (x : Int) : (l ++ [x]).getD l.length 0 = x := by simp [List.getD]
theorem ext_getD {l m : List Int} (h : l.length = m.length) (e : ∀ i, i < l.length → l.getD i 0 = m.getD i 0) : l = m := by
  apply List.ext_getElem h
  intro i h1 h2
  have := e i h1
  simpa [List.getD, List.getElem?_eq_getElem h1, List.getElem?_eq_getElem h2] using this
theorem mem_getD {l : List Int} {x : Int} (h : x ∈ l) : ∃ i, i < l.length ∧ l.getD i 0 = x := by
  obtain ⟨i, hi, e⟩ := List.getElem_of_mem h
  exact ⟨i, hi, by simp [List.getD, List.getElem?_eq_getElem hi, e]⟩

/-- All blocks stand as they stood but those that p names; the streams are as they were; no block has gone. -/
structure Only (p : Nat → Prop) (w w' : World) : Prop where
  os : w'.os = w.os
  tape : w'.tape = w.tape
  output : w'.output = w.output
  size : w.heap.size ≤ w'.heap.size
  block : ∀ k, k < w.heap.size → ¬ p k → w'.heap[k]? = w.heap[k]?
theorem Only.refl (p : Nat → Prop) (w : World) : Only p w w := ⟨rfl, rfl, rfl, Nat.le_refl _, fun _ _ _ => rfl⟩
theorem Only.trans {p : Nat → Prop} {a b c : World} (h : Only p a b) (k : Only p b c) : Only p a c :=
  ⟨k.os.trans h.os, k.tape.trans h.tape, k.output.trans h.output, Nat.le_trans h.size k.size, fun i hi hp => (k.block i (Nat.lt_of_lt_of_le hi h.size) hp).trans (h.block i hi hp)⟩
/-- What is turned may be new, or named. -/
theorem Only.step {p q : Nat → Prop} {a b c : World} (h : Only p a b) (k : Only q b c) (hq : ∀ i, i < a.heap.size → q i → p i) : Only p a c :=
  ⟨k.os.trans h.os, k.tape.trans h.tape, k.output.trans h.output, Nat.le_trans h.size k.size, fun i hi hp => (k.block i (Nat.lt_of_lt_of_le hi h.size) (fun e => hp (hq i hi e))).trans (h.block i hi hp)⟩
theorem only_grown {w w' : World} {row : Option Nat} (h : w.grownBy w' row) : Only (fun k => some k = row) w w' := ⟨h.os, h.tape, h.output, h.size, fun k hk hp => h.block k hk hp⟩
theorem only_below {w w' : World} (h : Below w.heap.size w w') : Only (fun _ => False) w w' := ⟨h.os, h.tape, h.output, h.size, fun k hk _ => h.block k hk⟩
theorem Only.below {p : Nat → Prop} {B : Nat} {w w' : World} (h : Only p w w') (hB : B ≤ w.heap.size) (hp : ∀ k, k < B → ¬ p k) : Below B w w' := ⟨h.os, h.tape, h.output, h.size, fun k hk => h.block k (by omega) (hp k hk)⟩
theorem Only.drewN {p : Nat → Prop} {a w : World} (h : Only p a w) (q : Nat) : Only p a (w.drewN q) := ⟨h.os, h.tape, h.output, h.size, h.block⟩
theorem Only.mono {p q : Nat → Prop} {w w' : World} (h : Only p w w') (hpq : ∀ k, k < w.heap.size → p k → q k) : Only q w w' := ⟨h.os, h.tape, h.output, h.size, fun k hk hn => h.block k hk (fun e => hn (hpq k hk e))⟩
theorem Only.cell {p : Nat → Prop} {w w' : World} (h : Only p w w') {a : Addr} {v : Value} (hc : w.cell? a = some v) (hn : ¬ p a.block) : w'.cell? a = some v :=
  (World.cell?_of_block (h.block a.block (World.block_lt_of_cell? w a hc) hn)).trans hc
theorem below_up {a b c : World} (h : Below a.heap.size a b) (k : Below b.heap.size b c) : Below a.heap.size a c := h.trans (k.mono h.size)
theorem below_drewN {B : Nat} {a b : World} (h : Below B a b) (n : Nat) : Below B a (b.drewN n) := ⟨h.os, h.tape, h.output, h.size, h.block⟩

/-- The slice of this address and length reads as these numbers. -/
def Holds (w : World) (A : Option Addr) (n : Nat) (xs : List Int) : Prop :=
  xs.length = n ∧ (∀ x ∈ xs, I64 x) ∧ (0 < n → ∃ b off, A = some ⟨b, off, none⟩ ∧ ∀ k, k < n → w.cell? ⟨b, off + k, none⟩ = some (.int .i64 (xs.getD k 0)))
theorem holds_none (w : World) (A : Option Addr) : Holds w A 0 [] := ⟨rfl, by simp, fun h => absurd h (by omega)⟩
theorem Holds.only {p : Nat → Prop} {w w' : World} {A : Option Addr} {n : Nat} {xs : List Int} (h : Holds w A n xs) (ho : Only p w w') (hn : ∀ ad, A = some ad → ¬ p ad.block) : Holds w' A n xs := by
  refine ⟨h.1, h.2.1, fun h0 => ?_⟩
  obtain ⟨b, off, e, hc⟩ := h.2.2 h0
  exact ⟨b, off, e, fun k hk => ho.cell (hc k hk) (hn ⟨b, off, none⟩ e)⟩
theorem Holds.below {w w' : World} {A : Option Addr} {n : Nat} {xs : List Int} (h : Holds w A n xs) (hb : Below w.heap.size w w') : Holds w' A n xs := h.only (only_below hb) (fun _ _ e => e)
theorem Holds.alloc {w : World} {A : Option Addr} {n : Nat} {xs : List Int} (h : Holds w A n xs) (o : Obj) : Holds (w.alloc o) A n xs := h.below ((Below.refl _ _).alloc (Nat.le_refl _) o)
theorem Holds.drewN {w : World} {A : Option Addr} {n : Nat} {xs : List Int} (h : Holds w A n xs) (q : Nat) : Holds (w.drewN q) A n xs := h
theorem Holds.i64 {w : World} {A : Option Addr} {n : Nat} {xs : List Int} (h : Holds w A n xs) {k : Nat} (hk : k < n) : I64 (xs.getD k 0) := h.2.1 _ (getD_mem (by rw [h.1]; exact hk))
theorem Holds.take {w : World} {A : Option Addr} {n k : Nat} {xs : List Int} (h : Holds w A n xs) (hk : k ≤ n) : Holds w A k (xs.take k) := by
  refine ⟨by rw [List.length_take, h.1]; omega, fun x hx => h.2.1 x (List.mem_of_mem_take hx), fun hn => ?_⟩
  obtain ⟨b, off, e, hc⟩ := h.2.2 (by omega)
  refine ⟨b, off, e, fun j hj => ?_⟩
  rw [hc j (by omega), getD_take hj]
theorem holds_lit (w : World) (xs : List Int) (T : TypeId) (hx : ∀ x ∈ xs, I64 x) : Holds (w.alloc (.cells (xs.map (Value.int .i64)).toArray T)) (some ⟨w.heap.size, 0, none⟩) xs.length xs := by
  refine ⟨rfl, hx, fun _ => ⟨w.heap.size, 0, rfl, fun k hk => ?_⟩⟩
  rw [Nat.zero_add, Lib.cell_of_heap (heap_alloc_new w _)]
  simp [List.getD, List.getElem?_eq_getElem hk]

/-- The call's own slice v, from block number base on, holds these numbers. -/
def Row (w : World) (base : Nat) (v : Value) (xs : List Int) : Prop := w.ownsRow base 2 1 v xs.length (xs.map (Value.int .i64))
theorem row_nil (w : World) (base : Nat) : Row w base (.slice none 0 0) [] := World.ownsRow_nil w base _ _
theorem row_lit (w : World) (base : Nat) (xs : List Int) (h : base ≤ w.heap.size) (hl : xs.length ≤ 1000000) : Row (w.alloc (.cells (xs.map (Value.int .i64)).toArray 2)) base (.slice (some ⟨w.heap.size, 0, none⟩) xs.length xs.length) xs := by
  have := World.ownsRow_lit (e := 2) (base := base) (size := 1) w (xs.map (Value.int .i64)).toArray xs.length h (by simp only [maxLen]; omega) (by simp)
  unfold Row
  simpa using this
theorem Row.only {p : Nat → Prop} {w w' : World} {base : Nat} {v : Value} {l : List Int} (h : Row w base v l) (ho : Only p w w') (hn : ∀ k, v.ownBlock = some k → ¬ p k) : Row w' base v l := by
  refine ⟨h.1, ?_⟩
  rcases h.2 with h | ⟨g, cap, cur, rfl, h2, h3, h4⟩
  · exact .inl h
  · have hg : g < w.heap.size := (Array.getElem?_eq_some_iff.1 h3).1
    exact .inr ⟨g, cap, cur, rfl, h2, (ho.block g hg (hn g rfl)).trans h3, h4⟩
theorem Row.below {w w' : World} {base : Nat} {v : Value} {l : List Int} (h : Row w base v l) (hb : Below w.heap.size w w') : Row w' base v l := h.only (only_below hb) (fun _ _ e => e)
theorem Row.alloc {w : World} {base : Nat} {v : Value} {l : List Int} (h : Row w base v l) (o : Obj) : Row (w.alloc o) base v l := h.below ((Below.refl _ _).alloc (Nat.le_refl _) o)
theorem Row.drewN {w : World} {base : Nat} {v : Value} {l : List Int} (h : Row w base v l) (q : Nat) : Row (w.drewN q) base v l := h
theorem Row.base {w : World} {base base' : Nat} {v : Value} {l : List Int} (h : Row w base v l) (hb : base' ≤ base) : Row w base' v l := by
  refine ⟨h.1, ?_⟩
  rcases h.2 with h | ⟨g, cap, cur, rfl, h2, h3⟩
  · exact .inl h
  · exact .inr ⟨g, cap, cur, rfl, by omega, h3⟩
theorem Row.lt {w : World} {base : Nat} {v : Value} {l : List Int} (h : Row w base v l) {k : Nat} (hk : v.ownBlock = some k) : base ≤ k ∧ k < w.heap.size := World.ownsRow.lt h k hk
/-- An own row is a slice that reads so; its block is base or later. -/
theorem Row.slice {w : World} {base : Nat} {v : Value} {xs : List Int} (h : Row w base v xs) (hx : ∀ x ∈ xs, I64 x) : ∃ A cap, v = .slice A xs.length cap ∧ Holds w A xs.length xs ∧ (A = none → cap = 0) ∧ xs.length ≤ cap ∧ cap ≤ 9223372036854775807 ∧ (∀ ad, A = some ad → base ≤ ad.block ∧ ad.block < w.heap.size) := by
  rcases h.2 with ⟨rfl, e⟩ | ⟨g, cap, cur, rfl, h1, h2, hc, hm, hs, ht⟩
  · have e2 : xs = [] := List.eq_nil_of_length_eq_zero e
    subst e2
    exact ⟨none, 0, rfl, holds_none _ _, fun _ => rfl, Nat.le_refl _, by omega, fun ad e => by cases e⟩
  · simp only [maxLen] at hm
    refine ⟨_, cap, rfl, ⟨rfl, hx, fun _ => ⟨g, 0, rfl, fun k hk => ?_⟩⟩, (fun e => by cases e), hc, by omega, fun ad e => by cases e; exact ⟨h1, (Array.getElem?_eq_some_iff.1 h2).1⟩⟩
    unfold Row at h
    rw [Nat.zero_add, World.ownsRow.cellAt h k (by omega)]
    simp [List.getD, List.getElem?_eq_getElem hk]
/-- The block of a row that holds something. -/
theorem Row.open' {w : World} {base : Nat} {v : Value} {xs : List Int} (h : Row w base v xs) (hl : 0 < xs.length) : ∃ g cap, v = .slice (some ⟨g, 0, none⟩) xs.length cap ∧ base ≤ g ∧ g < w.heap.size ∧ xs.length ≤ cap ∧ cap ≤ 9223372036854775807 ∧ (∀ k, w.frozen? ⟨g, k, none⟩ = false) ∧ ∀ k, k < xs.length → w.cell? ⟨g, k, none⟩ = some (.int .i64 (xs.getD k 0)) := by
  rcases h.2 with ⟨rfl, e⟩ | ⟨g, cap, cur, rfl, h1, h2, hc, hm, hs, ht⟩
  · omega
  · simp only [maxLen] at hm
    refine ⟨g, cap, rfl, h1, (Array.getElem?_eq_some_iff.1 h2).1, hc, by omega, fun k => Lib.frozen_of_heap h2 k, fun k hk => ?_⟩
    unfold Row at h
    rw [World.ownsRow.cellAt h k (by omega)]
    simp [List.getD, List.getElem?_eq_getElem hk]
theorem set_only (w : World) (b j : Nat) (v : Value) : Only (fun k => k = b) w (w.setCell ⟨b, j, none⟩ v) :=
  ⟨rfl, rfl, rfl, by simp, fun k _ hn => heap_setCell_other w ⟨b, j, none⟩ k v (fun e => hn (by first | exact e | exact e.symm))⟩
theorem Row.set {w : World} {base g cap n : Nat} {xs : List Int} (h : Row w base (.slice (some ⟨g, 0, none⟩) n cap) xs) {k : Nat} (hk : k < xs.length) (x : Int) : Row (w.setCell ⟨g, k, none⟩ (.int .i64 x)) base (.slice (some ⟨g, 0, none⟩) n cap) (xs.set k x) := by
  rcases h.2 with ⟨e, _⟩ | ⟨g', cap', cur, e0, h1, h2, hc, hm, hs, ht⟩
  · cases e
  · injection e0 with e1 e2 e3
    injection e1 with e1
    injection e1 with e1
    subst e1; subst e2; subst e3
    refine ⟨by simp, .inr ⟨g, cap, cur.setIfInBounds k (.int .i64 x), by rw [List.length_set], h1, heap_setCell_same w g k cur _ _ h2, by rw [List.length_set]; exact hc, hm, by simpa using hs, ?_⟩⟩
    rw [Array.toList_setIfInBounds, List.length_set, List.map_set, ← ht, List.take_set]
theorem Row.block {w : World} {base : Nat} {v : Value} {l : List Int} (h : Row w base v l) : v.ownBlock = none ∨ ∃ k, v.ownBlock = some k ∧ base ≤ k ∧ k < w.heap.size := by
  cases e : v.ownBlock with
  | none => exact .inl rfl
  | some k => exact .inr ⟨k, rfl, h.lt e⟩
theorem row_grown {w0 w w' : World} {v : Value} {xs : List Int} (hb : Below w0.heap.size w0 w) (h : Row w w0.heap.size v xs) (hg : w.grownBy w' v.ownBlock) : Below w0.heap.size w0 w' :=
  hb.grown hg hb.size (fun k hk => (World.ownsRow.lt h k hk).1)

theorem made_nums (n : Nat) : (madeCells #[Value.int .i64 0] n).toList = (List.replicate n (0 : Int)).map (Value.int .i64) := by
  rw [toList_madeCells_one, List.map_replicate]
theorem row_made {w : World} {B : Nat} {v : Value} {n : Nat} (h : w.ownsRow B 2 1 v n (madeCells #[Value.int .i64 0] n).toList) : Row w B v (List.replicate n 0) := by
  unfold Row
  rw [List.length_replicate, ← made_nums]
  exact h
theorem info_num : (Try.prog.info? 2).map (fun i => (i.zero, i.size, i.bytes)) = some (some (.int .i64 0), 1, 8) := by kernel_rfl
theorem info_parts {t : TypeId} {z : Option Value} {s b : Nat} (h : (Try.prog.info? t).map (fun i => (i.zero, i.size, i.bytes)) = some (z, s, b)) : ∃ i, Try.prog.info? t = some i ∧ i.zero = z ∧ i.size = s ∧ i.bytes = b := by
  cases e : Try.prog.info? t with
  | none => rw [e] at h; cases h
  | some i => rw [e] at h; simp at h; exact ⟨i, rfl, h.1, h.2.1, h.2.2⟩
section
variable {P : Program}
/-- append of whatever slice of numbers onto a row of the call's own. -/
theorem run_onto (w : World) (base t ty : Nat) (i : TypeInfo) (ht : P.underlying t = some (.slice 2)) (hi : P.info? 2 = some i) (hz : i.zero = some (.int .i64 0)) (hsize : i.size = 1) (hby : i.bytes = 8)
    (v : Value) (xs : List Int) (hown : Row w base v xs) (A : Option Addr) (m c : Nat) (ys : List Int) (hr : Holds w A m ys) (hc : A = none → c = 0) (hn : xs.length + m ≤ 1000000) (hbase : base ≤ w.heap.size) :
    ∃ v' w', (Builtin.append_ #[t, t] ty #[v, .slice A m c]).run P w = .ok v' w' ∧ Row w' base v' (xs ++ ys) ∧ w.grownBy w' v.ownBlock ∧ (v'.ownBlock = v.ownBlock ∨ v'.ownBlock = some w.heap.size) := by
  have hl : (ys.map (Value.int .i64)).length = m * 1 := by rw [List.length_map, hr.1, Nat.mul_one]
  cases A with
  | none =>
    have hm : m = 0 := by
      by_cases h0 : 0 < m
      · obtain ⟨b, off, e, _⟩ := hr.2.2 h0; cases e
      · omega
    subst hm
    obtain rfl := hc rfl
    have e : ys = [] := List.eq_nil_of_length_eq_zero hr.1
    subst e
    refine ⟨v, w, run_append_owned_none w base t ty _ i 1 ht hi v _ _ hown, by rw [List.append_nil]; exact hown, World.grownBy.refl w _, .inl rfl⟩
  | some ad =>
    obtain ⟨v', w', h1, h2, h3, _, h5⟩ := run_append_own_at (P := P) w base t ty _ i _ 1 8 ht hi hz hsize hby rfl (by omega) v _ _ hown ad m c (ys.map (Value.int .i64)) hl (fun j u hj => by
      have hjl : j < ys.length := by
        rcases Nat.lt_or_ge j ys.length with h | h
        · exact h
        · rw [List.getElem?_eq_none (by simpa using h)] at hj; cases hj
      obtain ⟨b, off, e, hcell⟩ := hr.2.2 (by rw [← hr.1]; omega)
      injection e with e
      subst e
      rw [WideShapes.add_plain, hcell j (by rw [← hr.1]; exact hjl)]
      rw [List.getElem?_map, List.getElem?_eq_getElem hjl] at hj
      simp only [Option.map_some, Option.some.injEq] at hj
      rw [← hj]
      simp [List.getD, List.getElem?_eq_getElem hjl]) (fun u hu => by
      obtain ⟨x, _, rfl⟩ := List.mem_map.1 hu
      rfl) (by simp only [maxLen]; omega) (by omega) hbase
    refine ⟨v', w', h1, ?_, h3, h5⟩
    unfold Row
    rw [List.length_append, hr.1, List.map_append]
    exact h2

theorem wp_onto {w : World} {o : Oper} {a : Act} {K : Act → World → Prop} {Q : Exit → Act → World → Prop} (s x : Operand) (t : TypeId)
    (ho : o.op = .call { callee := .builtin .append, args := #[s, x], argTypes := #[t, t] })
    (base : Nat) (i : TypeInfo) (ht : P.underlying t = some (.slice 2)) (hi : P.info? 2 = some i) (hz : i.zero = some (.int .i64 0)) (hsize : i.size = 1) (hby : i.bytes = 8)
    (v : Value) (xs : List Int) (hs : a.eval s = v) (hown : Row w base v xs) (A : Option Addr) (m c : Nat) (ys : List Int) (hx : a.eval x = .slice A m c) (hr : Holds w A m ys) (hc : A = none → c = 0) (hn : xs.length + m ≤ 1000000) (hbase : base ≤ w.heap.size)
    (h : ∀ v' w', Row w' base v' (xs ++ ys) → w.grownBy w' v.ownBlock → (v'.ownBlock = v.ownBlock ∨ v'.ownBlock = some w.heap.size) → K (a.put o.dst v') w') : o.wp P a w K Q := by
  obtain ⟨v', w', hrun, h2, h3, h4⟩ := run_onto (P := P) w base t o.type i ht hi hz hsize hby v xs hown A m c ys hr hc hn hbase
  unfold Oper.wp execOp
  simp only [ho, resolve, invoke, builtin, Sem.run_bind, Sem.run_pure, Result.andThen_ok, List.map_toArray, List.map_cons, List.map_nil, hs, hx, hrun]
  exact h v' w' h2 h3 h4
theorem wpList_onto {w : World} {ops : Array Oper} {rest : List Oper} {o : Oper} {a : Act} {Q : Exit → Act → World → Prop} (hgd : o.guard = none) (s x : Operand) (t : TypeId)
    (ho : o.op = .call { callee := .builtin .append, args := #[s, x], argTypes := #[t, t] })
    (base : Nat) (i : TypeInfo) (ht : P.underlying t = some (.slice 2)) (hi : P.info? 2 = some i) (hz : i.zero = some (.int .i64 0)) (hsize : i.size = 1) (hby : i.bytes = 8)
    (v : Value) (xs : List Int) (hs : a.eval s = v) (hown : Row w base v xs) (A : Option Addr) (m c : Nat) (ys : List Int) (hx : a.eval x = .slice A m c) (hr : Holds w A m ys) (hc : A = none → c = 0) (hn : xs.length + m ≤ 1000000) (hbase : base ≤ w.heap.size)
    (h : ∀ v' w', Row w' base v' (xs ++ ys) → w.grownBy w' v.ownBlock → (v'.ownBlock = v.ownBlock ∨ v'.ownBlock = some w.heap.size) → wpList P ops Q rest (a.put o.dst v') w') : wpList P ops Q (o :: rest) a w :=
  wpList_plain hgd fun _ hK => wp_onto s x t ho base i ht hi hz hsize hby v xs hs hown A m c ys hx hr hc hn hbase fun v' w' h2 h3 h4 => hK _ _ (h v' w' h2 h3 h4)
theorem step_onto {w : World} {ops : Array Oper} {o : Oper} {a : Act} {K : Act → World → Prop} {Q : Exit → Act → World → Prop} {E : Prop} (hgd : o.guard = none) (s x : Operand) (t : TypeId)
    (ho : o.op = .call { callee := .builtin .append, args := #[s, x], argTypes := #[t, t] })
    (base : Nat) (i : TypeInfo) (ht : P.underlying t = some (.slice 2)) (hi : P.info? 2 = some i) (hz : i.zero = some (.int .i64 0)) (hsize : i.size = 1) (hby : i.bytes = 8)
    (v : Value) (xs : List Int) (hs : a.eval s = v) (hown : Row w base v xs) (A : Option Addr) (m c : Nat) (ys : List Int) (hx : a.eval x = .slice A m c) (hr : Holds w A m ys) (hc : A = none → c = 0) (hn : xs.length + m ≤ 1000000) (hbase : base ≤ w.heap.size)
    (h : ∀ v' w', Row w' base v' (xs ++ ys) → w.grownBy w' v.ownBlock → (v'.ownBlock = v.ownBlock ∨ v'.ownBlock = some w.heap.size) → K (a.put o.dst v') w') :
    if Region.wanted o (yielded ops a.tmps) = true then Oper.wp P o a w K Q else E := by
  have hw : Region.wanted o (yielded ops a.tmps) = true := by simp [Region.wanted, hgd]
  rw [if_pos hw]
  exact wp_onto s x t ho base i ht hi hz hsize hby v xs hs hown A m c ys hx hr hc hn hbase h
end
end Go.Proofs.Ytpfgmebajefjaaa
