/-
  Numbers, texts, products: plain facts, and what reads as them.
-/
import Derived.Test.YtdeofifidjbolaaProg
import Derived.WalkKit
import Derived.WalkSpells
import Derived.WalkLawsBesides
import Derived.Lib.Hide
import Derived.Maps.AppendAt
import Derived.Deep.AppendLies
import Derived.RegionTactic
import Derived.OwnWalk
import Derived.Deep.QuietTactic
import Derived.BigQuiet
import Derived.Lib.OthersKept
import Derived.Laws.Externs
import Derived.Deep.Cut
import Derived.Laws.AppendOwnNone
import Derived.Laws.Slices
namespace Go.Proofs.Ytdeofifidjbolaa
open Go.RowKit
set_option linter.unusedVariables false
set_option linter.unusedSimpArgs false

/-- A number that an int64 holds. -/
def I64 (x : Int) : Prop := -9223372036854775808 ≤ x ∧ x ≤ 9223372036854775807
/-- The sum of a list. -/
def sumL : List Int → Int
  | [] => 0
  | x :: l => x + sumL l
theorem sumL_append (l m : List Int) : sumL (l ++ m) = sumL l + sumL m := by
  induction l with
  | nil => simp [sumL]
  | cons x l ih => simp only [List.cons_append, sumL, ih]; omega
theorem sumL_take (l : List Int) (k : Nat) (h : k < l.length) : sumL (l.take (k + 1)) = sumL (l.take k) + l.getD k 0 := by
  rw [List.take_add_one, sumL_append]
  simp [List.getD, List.getElem?_eq_getElem h, sumL]
theorem sumL_bound (l : List Int) (m : Int) (h : ∀ x ∈ l, 0 ≤ x ∧ x ≤ m) : 0 ≤ sumL l ∧ sumL l ≤ (l.length : Int) * m := by
  induction l with
  | nil => simp [sumL]
  | cons x l ih =>
    have := ih (fun y hy => h y (by simp [hy]))
    obtain ⟨h1, h2⟩ := h x (by simp)
    have e : ((l.length : Int) + 1) * m = (l.length : Int) * m + m := by rw [Int.add_mul, Int.one_mul]
    simp only [List.length_cons, sumL, Int.natCast_add, Int.natCast_one, e]
    omega
theorem getD_mem {l : List Int} {k : Nat} (h : k < l.length) : l.getD k 0 ∈ l := by
  simp [List.getD, List.getElem?_eq_getElem h]
theorem getD_take {l : List Int} {k j : Nat} (h : j < k) : (l.take k).getD j 0 = l.getD j 0 := by simp [List.getD, h]
theorem getD_left {l m : List Int} {j : Nat} (h : j < l.length) : (l ++ m).getD j 0 = l.getD j 0 := by simp [List.getD, List.getElem?_append_left h]
theorem getD_last (l : List Int) (x : Int) : (l ++ [x]).getD l.length 0 = x := by simp [List.getD]
theorem ext_getD {l m : List Int} (h : l.length = m.length) (e : ∀ i, i < l.length → l.getD i 0 = m.getD i 0) : l = m := by
  apply List.ext_getElem h
  intro i h1 h2
  have := e i h1
  simpa [List.getD, List.getElem?_eq_getElem h1, List.getElem?_eq_getElem h2] using this
theorem mem_getD {l : List Int} {x : Int} (h : x ∈ l) : ∃ i, i < l.length ∧ l.getD i 0 = x := by
  obtain ⟨i, hi, e⟩ := List.getElem_of_mem h
  exact ⟨i, hi, by simp [List.getD, List.getElem?_eq_getElem hi, e]⟩

/-- All blocks stand as they stood but those that p names; the streams are as they were; no block has gone. -/
structure Only (p : Nat → Prop) (w w' : World) : Prop where
  os : w'.os = w.os
  tape : w'.tape = w.tape
  output : w'.output = w.output
  size : w.heap.size ≤ w'.heap.size
  block : ∀ k, k < w.heap.size → ¬ p k → w'.heap[k]? = w.heap[k]?
theorem Only.refl (p : Nat → Prop) (w : World) : Only p w w := ⟨rfl, rfl, rfl, Nat.le_refl _, fun _ _ _ => rfl⟩
theorem Only.trans {p : Nat → Prop} {a b c : World} (h : Only p a b) (k : Only p b c) : Only p a c :=
  ⟨k.os.trans h.os, k.tape.trans h.tape, k.output.trans h.output, Nat.le_trans h.size k.size, fun i hi hp => (k.block i (Nat.lt_of_lt_of_le hi h.size) hp).trans (h.block i hi hp)⟩
/-- What is turned may be new, or named. -/
theorem Only.step {p q : Nat → Prop} {a b c : World} (h : Only p a b) (k : Only q b c) (hq : ∀ i, i < a.heap.size → q i → p i) : Only p a c :=
  ⟨k.os.trans h.os, k.tape.trans h.tape, k.output.trans h.output, Nat.le_trans h.size k.size, fun i hi hp => (k.block i (Nat.lt_of_lt_of_le hi h.size) (fun e => hp (hq i hi e))).trans (h.block i hi hp)⟩
theorem only_grown {w w' : World} {row : Option Nat} (h : w.grownBy w' row) : Only (fun k => some k = row) w w' := ⟨h.os, h.tape, h.output, h.size, fun k hk hp => h.block k hk hp⟩
theorem only_below {w w' : World} (h : Below w.heap.size w w') : Only (fun _ => False) w w' := ⟨h.os, h.tape, h.output, h.size, fun k hk _ => h.block k hk⟩
theorem Only.below {p : Nat → Prop} {B : Nat} {w w' : World} (h : Only p w w') (hB : B ≤ w.heap.size) (hp : ∀ k, k < B → ¬ p k) : Below B w w' := ⟨h.os, h.tape, h.output, h.size, fun k hk => h.block k (by omega) (hp k hk)⟩
theorem Only.drewN {p : Nat → Prop} {a w : World} (h : Only p a w) (q : Nat) : Only p a (w.drewN q) := ⟨h.os, h.tape, h.output, h.size, h.block⟩
theorem Only.mono {p q : Nat → Prop} {w w' : World} (h : Only p w w') (hpq : ∀ k, k < w.heap.size → p k → q k) : Only q w w' := ⟨h.os, h.tape, h.output, h.size, fun k hk hn => h.block k hk (fun e => hn (hpq k hk e))⟩
theorem Only.cell {p : Nat → Prop} {w w' : World} (h : Only p w w') {a : Addr} {v : Value} (hc : w.cell? a = some v) (hn : ¬ p a.block) : w'.cell? a = some v :=
  (World.cell?_of_block (h.block a.block (World.block_lt_of_cell? w a hc) hn)).trans hc
theorem below_up {a b c : World} (h : Below a.heap.size a b) (k : Below b.heap.size b c) : Below a.heap.size a c := h.trans (k.mono h.size)
theorem below_drewN {B : Nat} {a b : World} (h : Below B a b) (n : Nat) : Below B a (b.drewN n) := ⟨h.os, h.tape, h.output, h.size, h.block⟩

/-- The slice of this address and length reads as these numbers. -/
def Holds (w : World) (A : Option Addr) (n : Nat) (xs : List Int) : Prop :=
  xs.length = n ∧ (∀ x ∈ xs, I64 x) ∧ (0 < n → ∃ b off, A = some ⟨b, off, none⟩ ∧ ∀ k, k < n → w.cell? ⟨b, off + k, none⟩ = some (.int .i64 (xs.getD k 0)))
theorem holds_none (w : World) (A : Option Addr) : Holds w A 0 [] := ⟨rfl, by simp, fun h => absurd h (by omega)⟩
theorem Holds.only {p : Nat → Prop} {w w' : World} {A : Option Addr} {n : Nat} {xs : List Int} (h : Holds w A n xs) (ho : Only p w w') (hn : ∀ ad, A = some ad → ¬ p ad.block) : Holds w' A n xs := by
  refine ⟨h.1, h.2.1, fun h0 => ?_⟩
  obtain ⟨b, off, e, hc⟩ := h.2.2 h0
  exact ⟨b, off, e, fun k hk => ho.cell (hc k hk) (hn ⟨b, off, none⟩ e)⟩
theorem Holds.below {w w' : World} {A : Option Addr} {n : Nat} {xs : List Int} (h : Holds w A n xs) (hb : Below w.heap.size w w') : Holds w' A n xs := h.only (only_below hb) (fun _ _ e => e)
theorem Holds.alloc {w : World} {A : Option Addr} {n : Nat} {xs : List Int} (h : Holds w A n xs) (o : Obj) : Holds (w.alloc o) A n xs := h.below ((Below.refl _ _).alloc (Nat.le_refl _) o)
theorem Holds.drewN {w : World} {A : Option Addr} {n : Nat} {xs : List Int} (h : Holds w A n xs) (q : Nat) : Holds (w.drewN q) A n xs := h
theorem Holds.i64 {w : World} {A : Option Addr} {n : Nat} {xs : List Int} (h : Holds w A n xs) {k : Nat} (hk : k < n) : I64 (xs.getD k 0) := h.2.1 _ (getD_mem (by rw [h.1]; exact hk))
theorem Holds.take {w : World} {A : Option Addr} {n k : Nat} {xs : List Int} (h : Holds w A n xs) (hk : k ≤ n) : Holds w A k (xs.take k) := by
  refine ⟨by rw [List.length_take, h.1]; omega, fun x hx => h.2.1 x (List.mem_of_mem_take hx), fun hn => ?_⟩
  obtain ⟨b, off, e, hc⟩ := h.2.2 (by omega)
  refine ⟨b, off, e, fun j hj => ?_⟩
  rw [hc j (by omega), getD_take hj]
theorem holds_lit (w : World) (xs : List Int) (T : TypeId) (hx : ∀ x ∈ xs, I64 x) : Holds (w.alloc (.cells (xs.map (Value.int .i64)).toArray T)) (some ⟨w.heap.size, 0, none⟩) xs.length xs := by
  refine ⟨rfl, hx, fun _ => ⟨w.heap.size, 0, rfl, fun k hk => ?_⟩⟩
  rw [Nat.zero_add, Lib.cell_of_heap (heap_alloc_new w _)]
  simp [List.getD, List.getElem?_eq_getElem hk]

/-- The call's own slice v, from block number base on, holds these numbers. -/
def Row (w : World) (base : Nat) (v : Value) (xs : List Int) : Prop := w.ownsRow base 2 1 v xs.length (xs.map (Value.int .i64))
theorem row_nil (w : World) (base : Nat) : Row w base (.slice none 0 0) [] := World.ownsRow_nil w base _ _
theorem row_lit (w : World) (base : Nat) (xs : List Int) (h : base ≤ w.heap.size) (hl : xs.length ≤ 1000000) : Row (w.alloc (.cells (xs.map (Value.int .i64)).toArray 2)) base (.slice (some ⟨w.heap.size, 0, none⟩) xs.length xs.length) xs := by
  have := World.ownsRow_lit (e := 2) (base := base) (size := 1) w (xs.map (Value.int .i64)).toArray xs.length h (by simp only [maxLen]; omega) (by simp)
  unfold Row
  simpa using this
theorem Row.only {p : Nat → Prop} {w w' : World} {base : Nat} {v : Value} {l : List Int} (h : Row w base v l) (ho : Only p w w') (hn : ∀ k, v.ownBlock = some k → ¬ p k) : Row w' base v l := by
  refine ⟨h.1, ?_⟩
  rcases h.2 with h | ⟨g, cap, cur, rfl, h2, h3, h4⟩
  · exact .inl h
  · have hg : g < w.heap.size := (Array.getElem?_eq_some_iff.1 h3).1
    exact .inr ⟨g, cap, cur, rfl, h2, (ho.block g hg (hn g rfl)).trans h3, h4⟩
theorem Row.below {w w' : World} {base : Nat} {v : Value} {l : List Int} (h : Row w base v l) (hb : Below w.heap.size w w') : Row w' base v l := h.only (only_below hb) (fun _ _ e => e)
theorem Row.alloc {w : World} {base : Nat} {v : Value} {l : List Int} (h : Row w base v l) (o : Obj) : Row (w.alloc o) base v l := h.below ((Below.refl _ _).alloc (Nat.le_refl _) o)
theorem Row.drewN {w : World} {base : Nat} {v : Value} {l : List Int} (h : Row w base v l) (q : Nat) : Row (w.drewN q) base v l := h
theorem Row.base {w : World} {base base' : Nat} {v : Value} {l : List Int} (h : Row w base v l) (hb : base' ≤ base) : Row w base' v l := by
  refine ⟨h.1, ?_⟩
  rcases h.2 with h | ⟨g, cap, cur, rfl, h2, h3⟩
  · exact .inl h
  · exact .inr ⟨g, cap, cur, rfl, by omega, h3⟩
theorem Row.lt {w : World} {base : Nat} {v : Value} {l : List Int} (h : Row w base v l) {k : Nat} (hk : v.ownBlock = some k) : base ≤ k ∧ k < w.heap.size := World.ownsRow.lt h k hk
/-- An own row is a slice that reads so; its block is base or later. -/
theorem Row.slice {w : World} {base : Nat} {v : Value} {xs : List Int} (h : Row w base v xs) (hx : ∀ x ∈ xs, I64 x) : ∃ A cap, v = .slice A xs.length cap ∧ Holds w A xs.length xs ∧ (A = none → cap = 0) ∧ xs.length ≤ cap ∧ cap ≤ 9223372036854775807 ∧ (∀ ad, A = some ad → base ≤ ad.block ∧ ad.block < w.heap.size) := by
  rcases h.2 with ⟨rfl, e⟩ | ⟨g, cap, cur, rfl, h1, h2, hc, hm, hs, ht⟩
  · have e2 : xs = [] := List.eq_nil_of_length_eq_zero e
    subst e2
    exact ⟨none, 0, rfl, holds_none _ _, fun _ => rfl, Nat.le_refl _, by omega, fun ad e => by cases e⟩
  · simp only [maxLen] at hm
    refine ⟨_, cap, rfl, ⟨rfl, hx, fun _ => ⟨g, 0, rfl, fun k hk => ?_⟩⟩, (fun e => by cases e), hc, by omega, fun ad e => by cases e; exact ⟨h1, (Array.getElem?_eq_some_iff.1 h2).1⟩⟩
    unfold Row at h
    rw [Nat.zero_add, World.ownsRow.cellAt h k (by omega)]
    simp [List.getD, List.getElem?_eq_getElem hk]
/-- The block of a row that holds something. -/
theorem Row.open' {w : World} {base : Nat} {v : Value} {xs : List Int} (h : Row w base v xs) (hl : 0 < xs.length) : ∃ g cap, v = .slice (some ⟨g, 0, none⟩) xs.length cap ∧ base ≤ g ∧ g < w.heap.size ∧ xs.length ≤ cap ∧ cap ≤ 9223372036854775807 ∧ (∀ k, w.frozen? ⟨g, k, none⟩ = false) ∧ ∀ k, k < xs.length → w.cell? ⟨g, k, none⟩ = some (.int .i64 (xs.getD k 0)) := by
  rcases h.2 with ⟨rfl, e⟩ | ⟨g, cap, cur, rfl, h1, h2, hc, hm, hs, ht⟩
  · omega
  · simp only [maxLen] at hm
    refine ⟨g, cap, rfl, h1, (Array.getElem?_eq_some_iff.1 h2).1, hc, by omega, fun k => Lib.frozen_of_heap h2 k, fun k hk => ?_⟩
    unfold Row at h
    rw [World.ownsRow.cellAt h k (by omega)]
    simp [List.getD, List.getElem?_eq_getElem hk]
theorem set_only (w : World) (b j : Nat) (v : Value) : Only (fun k => k = b) w (w.setCell ⟨b, j, none⟩ v) :=
  ⟨rfl, rfl, rfl, by simp, fun k _ hn => heap_setCell_other w ⟨b, j, none⟩ k v (fun e => hn (by first | exact e | exact e.symm))⟩
theorem Row.set {w : World} {base g cap n : Nat} {xs : List Int} (h : Row w base (.slice (some ⟨g, 0, none⟩) n cap) xs) {k : Nat} (hk : k < xs.length) (x : Int) : Row (w.setCell ⟨g, k, none⟩ (.int .i64 x)) base (.slice (some ⟨g, 0, none⟩) n cap) (xs.set k x) := by
  rcases h.2 with ⟨e, _⟩ | ⟨g', cap', cur, e0, h1, h2, hc, hm, hs, ht⟩
  · cases e
  · injection e0 with e1 e2 e3
    injection e1 with e1
    injection e1 with e1
    subst e1; subst e2; subst e3
    refine ⟨by simp, .inr ⟨g, cap, cur.setIfInBounds k (.int .i64 x), by rw [List.length_set], h1, heap_setCell_same w g k cur _ _ h2, by rw [List.length_set]; exact hc, hm, by simpa using hs, ?_⟩⟩
    rw [Array.toList_setIfInBounds, List.length_set, List.map_set, ← ht, List.take_set]
theorem Row.block {w : World} {base : Nat} {v : Value} {l : List Int} (h : Row w base v l) : v.ownBlock = none ∨ ∃ k, v.ownBlock = some k ∧ base ≤ k ∧ k < w.heap.size := by
  cases e : v.ownBlock with
  | none => exact .inl rfl
  | some k => exact .inr ⟨k, rfl, h.lt e⟩
theorem row_grown {w0 w w' : World} {v : Value} {xs : List Int} (hb : Below w0.heap.size w0 w) (h : Row w w0.heap.size v xs) (hg : w.grownBy w' v.ownBlock) : Below w0.heap.size w0 w' :=
  hb.grown hg hb.size (fun k hk => (World.ownsRow.lt h k hk).1)

theorem made_nums (n : Nat) : (madeCells #[Value.int .i64 0] n).toList = (List.replicate n (0 : Int)).map (Value.int .i64) := by
  rw [toList_madeCells_one, List.map_replicate]
theorem row_made {w : World} {B : Nat} {v : Value} {n : Nat} (h : w.ownsRow B 2 1 v n (madeCells #[Value.int .i64 0] n).toList) : Row w B v (List.replicate n 0) := by
  unfold Row
  rw [List.length_replicate, ← made_nums]
  exact h
theorem info_num : (Try.prog.info? 2).map (fun i => (i.zero, i.size, i.bytes)) = some (some (.int .i64 0), 1, 8) := by kernel_rfl
theorem info_parts {t : TypeId} {z : Option Value} {s b : Nat} (h : (Try.prog.info? t).map (fun i => (i.zero, i.size, i.bytes)) = some (z, s, b)) : ∃ i, Try.prog.info? t = some i ∧ i.zero = z ∧ i.size = s ∧ i.bytes = b := by
  cases e : Try.prog.info? t with
  | none => rw [e] at h; cases h
  | some i => rw [e] at h; simp at h; exact ⟨i, rfl, h.1, h.2.1, h.2.2⟩
section
variable {P : Program}
/-- append of whatever slice of numbers onto a row of the call's own. -/
theorem run_onto (w : World) (base t ty : Nat) (i : TypeInfo) (ht : P.underlying t = some (.slice 2)) (hi : P.info? 2 = some i) (hz : i.zero = some (.int .i64 0)) (hsize : i.size = 1) (hby : i.bytes = 8)
    (v : Value) (xs : List Int) (hown : Row w base v xs) (A : Option Addr) (m c : Nat) (ys : List Int) (hr : Holds w A m ys) (hc : A = none → c = 0) (hn : xs.length + m ≤ 1000000) (hbase : base ≤ w.heap.size) :
    ∃ v' w', (Builtin.append_ #[t, t] ty #[v, .slice A m c]).run P w = .ok v' w' ∧ Row w' base v' (xs ++ ys) ∧ w.grownBy w' v.ownBlock ∧ (v'.ownBlock = v.ownBlock ∨ v'.ownBlock = some w.heap.size) := by
  have hl : (ys.map (Value.int .i64)).length = m * 1 := by rw [List.length_map, hr.1, Nat.mul_one]
  cases A with
  | none =>
    have hm : m = 0 := by
      by_cases h0 : 0 < m
      · obtain ⟨b, off, e, _⟩ := hr.2.2 h0; cases e
      · omega
    subst hm
    obtain rfl := hc rfl
    have e : ys = [] := List.eq_nil_of_length_eq_zero hr.1
    subst e
    refine ⟨v, w, run_append_owned_none w base t ty _ i 1 ht hi v _ _ hown, by rw [List.append_nil]; exact hown, World.grownBy.refl w _, .inl rfl⟩
  | some ad =>
    obtain ⟨v', w', h1, h2, h3, _, h5⟩ := run_append_own_at (P := P) w base t ty _ i _ 1 8 ht hi hz hsize hby rfl (by omega) v _ _ hown ad m c (ys.map (Value.int .i64)) hl (fun j u hj => by
      have hjl : j < ys.length := by
        rcases Nat.lt_or_ge j ys.length with h | h
        · exact h
        · rw [List.getElem?_eq_none (by simpa using h)] at hj; cases hj
      obtain ⟨b, off, e, hcell⟩ := hr.2.2 (by rw [← hr.1]; omega)
      injection e with e
      subst e
      rw [WideShapes.add_plain, hcell j (by rw [← hr.1]; exact hjl)]
      rw [List.getElem?_map, List.getElem?_eq_getElem hjl] at hj
      simp only [Option.map_some, Option.some.injEq] at hj
      rw [← hj]
      simp [List.getD, List.getElem?_eq_getElem hjl]) (fun u hu => by
      obtain ⟨x, _, rfl⟩ := List.mem_map.1 hu
      rfl) (by simp only [maxLen]; omega) (by omega) hbase
    refine ⟨v', w', h1, ?_, h3, h5⟩
    unfold Row
    rw [List.length_append, hr.1, List.map_append]
    exact h2

theorem wp_onto {w : World} {o : Oper} {a : Act} {K : Act → World → Prop} {Q : Exit → Act → World → Prop} (s x : Operand) (t : TypeId)
    (ho : o.op = .call { callee := .builtin .append, args := #[s, x], argTypes := #[t, t] })
    (base : Nat) (i : TypeInfo) (ht : P.underlying t = some (.slice 2)) (hi : P.info? 2 = some i) (hz : i.zero = some (.int .i64 0)) (hsize : i.size = 1) (hby : i.bytes = 8)
    (v : Value) (xs : List Int) (hs : a.eval s = v) (hown : Row w base v xs) (A : Option Addr) (m c : Nat) (ys : List Int) (hx : a.eval x = .slice A m c) (hr : Holds w A m ys) (hc : A = none → c = 0) (hn : xs.length + m ≤ 1000000) (hbase : base ≤ w.heap.size)
    (h : ∀ v' w', Row w' base v' (xs ++ ys) → w.grownBy w' v.ownBlock → (v'.ownBlock = v.ownBlock ∨ v'.ownBlock = some w.heap.size) → K (a.put o.dst v') w') : o.wp P a w K Q := by
  obtain ⟨v', w', hrun, h2, h3, h4⟩ := run_onto (P := P) w base t o.type i ht hi hz hsize hby v xs hown A m c ys hr hc hn hbase
  unfold Oper.wp execOp
  simp only [ho, resolve, invoke, builtin, Sem.run_bind, Sem.run_pure, Result.andThen_ok, List.map_toArray, List.map_cons, List.map_nil, hs, hx, hrun]
  exact h v' w' h2 h3 h4
theorem wpList_onto {w : World} {ops : Array Oper} {rest : List Oper} {o : Oper} {a : Act} {Q : Exit → Act → World → Prop} (hgd : o.guard = none) (s x : Operand) (t : TypeId)
    (ho : o.op = .call { callee := .builtin .append, args := #[s, x], argTypes := #[t, t] })
    (base : Nat) (i : TypeInfo) (ht : P.underlying t = some (.slice 2)) (hi : P.info? 2 = some i) (hz : i.zero = some (.int .i64 0)) (hsize : i.size = 1) (hby : i.bytes = 8)
    (v : Value) (xs : List Int) (hs : a.eval s = v) (hown : Row w base v xs) (A : Option Addr) (m c : Nat) (ys : List Int) (hx : a.eval x = .slice A m c) (hr : Holds w A m ys) (hc : A = none → c = 0) (hn : xs.length + m ≤ 1000000) (hbase : base ≤ w.heap.size)
    (h : ∀ v' w', Row w' base v' (xs ++ ys) → w.grownBy w' v.ownBlock → (v'.ownBlock = v.ownBlock ∨ v'.ownBlock = some w.heap.size) → wpList P ops Q rest (a.put o.dst v') w') : wpList P ops Q (o :: rest) a w :=
  wpList_plain hgd fun _ hK => wp_onto s x t ho base i ht hi hz hsize hby v xs hs hown A m c ys hx hr hc hn hbase fun v' w' h2 h3 h4 => hK _ _ (h v' w' h2 h3 h4)
theorem step_onto {w : World} {ops : Array Oper} {o : Oper} {a : Act} {K : Act → World → Prop} {Q : Exit → Act → World → Prop} {E : Prop} (hgd : o.guard = none) (s x : Operand) (t : TypeId)
    (ho : o.op = .call { callee := .builtin .append, args := #[s, x], argTypes := #[t, t] })
    (base : Nat) (i : TypeInfo) (ht : P.underlying t = some (.slice 2)) (hi : P.info? 2 = some i) (hz : i.zero = some (.int .i64 0)) (hsize : i.size = 1) (hby : i.bytes = 8)
    (v : Value) (xs : List Int) (hs : a.eval s = v) (hown : Row w base v xs) (A : Option Addr) (m c : Nat) (ys : List Int) (hx : a.eval x = .slice A m c) (hr : Holds w A m ys) (hc : A = none → c = 0) (hn : xs.length + m ≤ 1000000) (hbase : base ≤ w.heap.size)
    (h : ∀ v' w', Row w' base v' (xs ++ ys) → w.grownBy w' v.ownBlock → (v'.ownBlock = v.ownBlock ∨ v'.ownBlock = some w.heap.size) → K (a.put o.dst v') w') :
    if Region.wanted o (yielded ops a.tmps) = true then Oper.wp P o a w K Q else E := by
  have hw : Region.wanted o (yielded ops a.tmps) = true := by simp [Region.wanted, hgd]
  rw [if_pos hw]
  exact wp_onto s x t ho base i ht hi hz hsize hby v xs hs hown A m c ys hx hr hc hn hbase h
end
end Go.Proofs.Ytdeofifidjbolaa
namespace Go.Proofs.Ytdeofifidjbolaa
open Go.RowKit
set_option linter.unusedVariables false
set_option linter.unusedSimpArgs false

/-- Does the byte go on with a rune? -/
def contB (b : UInt8) : Bool := b.toNat / 64 == 2
/-- The bytes at the head that go on with a rune. -/
def tw : List UInt8 → List UInt8
  | [] => []
  | b :: l => bif contB b then b :: tw l else []
/-- A number of 16 bits and more that is a rune. -/
def okC (c : Nat) : Bool := Utf8.valid (c : Int)
/-- The rune and the width of a byte with those behind it that go on with a rune. -/
def dec (b : UInt8) : List UInt8 → Nat × Nat
  | [] => if b.toNat < 128 then (b.toNat, 1) else (65533, 1)
  | [c1] => if b.toNat < 128 then (b.toNat, 1) else
      if b.toNat / 32 = 6 ∧ 128 ≤ b.toNat % 32 * 64 + c1.toNat % 64 then (b.toNat % 32 * 64 + c1.toNat % 64, 2) else (65533, 1)
  | [c1, c2] => if b.toNat < 128 then (b.toNat, 1) else
      if b.toNat / 32 = 6 ∧ 128 ≤ b.toNat % 32 * 64 + c1.toNat % 64 then (b.toNat % 32 * 64 + c1.toNat % 64, 2) else
      if b.toNat / 16 = 14 ∧ 2048 ≤ b.toNat % 16 * 4096 + c1.toNat % 64 * 64 + c2.toNat % 64 ∧ okC (b.toNat % 16 * 4096 + c1.toNat % 64 * 64 + c2.toNat % 64) = true then
        (b.toNat % 16 * 4096 + c1.toNat % 64 * 64 + c2.toNat % 64, 3) else (65533, 1)
  | c1 :: c2 :: c3 :: _ => if b.toNat < 128 then (b.toNat, 1) else
      if b.toNat / 32 = 6 ∧ 128 ≤ b.toNat % 32 * 64 + c1.toNat % 64 then (b.toNat % 32 * 64 + c1.toNat % 64, 2) else
      if b.toNat / 16 = 14 ∧ 2048 ≤ b.toNat % 16 * 4096 + c1.toNat % 64 * 64 + c2.toNat % 64 ∧ okC (b.toNat % 16 * 4096 + c1.toNat % 64 * 64 + c2.toNat % 64) = true then
        (b.toNat % 16 * 4096 + c1.toNat % 64 * 64 + c2.toNat % 64, 3) else
      if b.toNat / 8 = 30 ∧ 65536 ≤ b.toNat % 8 * 262144 + c1.toNat % 64 * 4096 + c2.toNat % 64 * 64 + c3.toNat % 64 ∧ okC (b.toNat % 8 * 262144 + c1.toNat % 64 * 4096 + c2.toNat % 64 * 64 + c3.toNat % 64) = true then
        (b.toNat % 8 * 262144 + c1.toNat % 64 * 4096 + c2.toNat % 64 * 64 + c3.toNat % 64, 4) else (65533, 1)
/-- The first rune of a text that is not empty, and its width. -/
def step : List UInt8 → Nat × Nat
  | [] => (65533, 1)
  | b :: l => dec b (tw l)

/-- The text of some bytes. -/
def str (l : List UInt8) : ByteArray := ⟨l.toArray⟩
theorem str_self (s : ByteArray) : str s.data.toList = s := rfl
theorem str_list (l : List UInt8) : (str l).data.toList = l := rfl
theorem str_size (l : List UInt8) : (str l).size = l.length := rfl
theorem str_inj {a b : List UInt8} (h : str a = str b) : a = b := by
  have := congrArg (fun s : ByteArray => s.data.toList) h
  exact this
theorem str_append (a b : List UInt8) : str a ++ str b = str (a ++ b) := by
  apply ByteArray.ext
  simp [str]
theorem get_str (l : List UInt8) (i : Nat) : (str l).get! i = l.getD i 0 := by
  show (l.toArray)[i]! = _
  simp [List.getD_eq_getElem?_getD, getElem!_def]
  cases l[i]? <;> rfl

theorem decode_str (l : List UInt8) (pos : Nat) (h : pos < l.length) : Utf8.decode (str l) pos = step (l.drop pos) := by
  obtain ⟨t, ht⟩ : ∃ t, l.drop pos = t := ⟨_, rfl⟩
  have g : ∀ k, (str l).get! (pos + k) = t.getD k 0 := by
    intro k
    rw [get_str, ← ht]
    simp [List.getD_eq_getElem?_getD, List.getElem?_drop]
  have hsz : (str l).size = pos + t.length := by
    rw [str_size, ← ht, List.length_drop]; omega
  have hlen : 0 < t.length := by rw [← ht, List.length_drop]; omega
  rw [ht]
  clear ht h
  obtain ⟨b, t, rfl⟩ : ∃ b t', t = b :: t' := by cases t with
    | nil => simp at hlen
    | cons b t => exact ⟨b, t, rfl⟩
  have g0 : (str l).get! pos = b := by have := g 0; simpa using this
  have g1 := g 1
  have g2 := g 2
  have g3 := g 3
  simp only [List.getD_cons_succ] at g1 g2 g3
  have s1 : pos + 1 < (str l).size ↔ 0 < t.length := by rw [hsz, List.length_cons]; omega
  have s2 : pos + 2 < (str l).size ↔ 1 < t.length := by rw [hsz, List.length_cons]; omega
  have s3 : pos + 3 < (str l).size ↔ 2 < t.length := by rw [hsz, List.length_cons]; omega
  clear g hsz hlen
  by_cases c0 : b.toNat < 128
  · simp only [Utf8.decode, Nat.add_zero, g0, c0, if_true]
    simp only [step]
    unfold dec
    split <;> simp only [c0, if_true]
  · have e2 : (b.toNat / 32 = 6 ∧ b.toNat / 16 ≠ 14 ∧ b.toNat / 8 ≠ 30) ∨ (b.toNat / 32 ≠ 6 ∧ b.toNat / 16 = 14 ∧ b.toNat / 8 ≠ 30) ∨ (b.toNat / 32 ≠ 6 ∧ b.toNat / 16 ≠ 14 ∧ b.toNat / 8 = 30) ∨ (b.toNat / 32 ≠ 6 ∧ b.toNat / 16 ≠ 14 ∧ b.toNat / 8 ≠ 30) := by omega
    match t, g1, g2, g3, s1, s2, s3 with
    | [], g1, g2, g3, s1, s2, s3 =>
      simp [Utf8.decode, g0, s1, s2, s3, step, tw, dec, Utf8.runeError, c0]
    | [c1], g1, g2, g3, s1, s2, s3 =>
      simp only [List.getD_cons_zero] at g1
      by_cases k1 : contB c1 = true
      all_goals
        have k1' := k1
        simp only [contB, beq_iff_eq] at k1'
        rcases e2 with ⟨h, h', h''⟩ | ⟨h, h', h''⟩ | ⟨h, h', h''⟩ | ⟨h, h', h''⟩
      all_goals simp [Utf8.decode, g0, g1, s1, s2, s3, step, tw, dec, Utf8.runeError, c0, k1, k1', h, h', h'']
    | [c1, c2], g1, g2, g3, s1, s2, s3 =>
      simp only [List.getD_cons_succ, List.getD_cons_zero] at g1 g2
      by_cases k1 : contB c1 = true
      all_goals
        have k1' := k1
        simp only [contB, beq_iff_eq] at k1'
      · by_cases k2 : contB c2 = true
        all_goals
          have k2' := k2
          simp only [contB, beq_iff_eq] at k2'
          rcases e2 with ⟨h, h', h''⟩ | ⟨h, h', h''⟩ | ⟨h, h', h''⟩ | ⟨h, h', h''⟩
        all_goals simp [Utf8.decode, g0, g1, g2, s1, s2, s3, step, tw, dec, Utf8.runeError, okC, c0, k1, k1', k2, k2', h, h', h'']
      · simp [Utf8.decode, g0, g1, g2, s1, s2, s3, step, tw, dec, Utf8.runeError, okC, c0, k1, k1']
    | c1 :: c2 :: c3 :: t, g1, g2, g3, s1, s2, s3 =>
      simp only [List.getD_cons_succ, List.getD_cons_zero] at g1 g2 g3
      have s1 : pos + 1 < (str l).size := s1.2 (by simp)
      have s2 : pos + 2 < (str l).size := s2.2 (by simp)
      have s3 : pos + 3 < (str l).size := s3.2 (by simp)
      by_cases k1 : contB c1 = true
      all_goals
        have k1' := k1
        simp only [contB, beq_iff_eq] at k1'
      · by_cases k2 : contB c2 = true
        all_goals
          have k2' := k2
          simp only [contB, beq_iff_eq] at k2'
        · by_cases k3 : contB c3 = true
          all_goals
            have k3' := k3
            simp only [contB, beq_iff_eq] at k3'
            rcases e2 with ⟨h, h', h''⟩ | ⟨h, h', h''⟩ | ⟨h, h', h''⟩ | ⟨h, h', h''⟩
          all_goals simp [Utf8.decode, g0, g1, g2, g3, s1, s2, s3, step, tw, dec, Utf8.runeError, okC, c0, k1, k1', k2, k2', k3, k3', h, h', h'']
        · rcases e2 with ⟨h, h', h''⟩ | ⟨h, h', h''⟩ | ⟨h, h', h''⟩ | ⟨h, h', h''⟩
          all_goals simp [Utf8.decode, g0, g1, g2, g3, s1, s2, s3, step, tw, dec, Utf8.runeError, okC, c0, k1, k1', k2, k2', h, h', h'']
      · simp [Utf8.decode, g0, g1, g2, g3, s1, s2, s3, step, tw, dec, Utf8.runeError, okC, c0, k1, k1']

theorem tw_len (l : List UInt8) : (tw l).length ≤ l.length := by
  induction l with
  | nil => simp [tw]
  | cons b l ih => simp only [tw]; cases contB b <;> simp [ih]
theorem dec_width (b : UInt8) (c : List UInt8) : 1 ≤ (dec b c).2 ∧ (dec b c).2 ≤ 1 + c.length := by
  match c with
  | [] => simp only [dec]; split <;> simp
  | [c1] => simp only [dec]; repeat' split
            all_goals simp
  | [c1, c2] => simp only [dec]; repeat' split
                all_goals simp
  | c1 :: c2 :: c3 :: c => simp only [dec]; repeat' split
                           all_goals simp <;> omega
theorem step_pos (l : List UInt8) : 1 ≤ (step l).2 := by
  cases l with
  | nil => simp [step]
  | cons b l => exact (dec_width _ _).1
theorem step_le (l : List UInt8) (h : l ≠ []) : (step l).2 ≤ l.length := by
  cases l with
  | nil => exact absurd rfl h
  | cons b l =>
    have h1 := (dec_width b (tw l)).2
    have h2 := tw_len l
    simp only [step, List.length_cons]
    omega

/-- The runes of a text, each with its own bytes, as far as a number of them goes. -/
def runesF : Nat → List UInt8 → List (Nat × List UInt8)
  | 0, _ => []
  | _ + 1, [] => []
  | f + 1, b :: l => ((step (b :: l)).1, (b :: l).take (step (b :: l)).2) :: runesF f ((b :: l).drop (step (b :: l)).2)
/-- The runes of a text, each with its own bytes. -/
def runes (l : List UInt8) : List (Nat × List UInt8) := runesF l.length l
theorem runesF_more (f g : Nat) (l : List UInt8) (hf : l.length ≤ f) (hg : l.length ≤ g) : runesF f l = runesF g l := by
  induction f generalizing g l with
  | zero =>
    have : l = [] := List.length_eq_zero_iff.1 (by omega)
    subst this
    cases g <;> rfl
  | succ f ih =>
    cases l with
    | nil => cases g <;> rfl
    | cons b l =>
      cases g with
      | zero => simp at hg
      | succ g =>
        simp only [runesF]
        rw [ih g]
        · have := step_pos (b :: l); simp only [List.length_drop, List.length_cons] at *; omega
        · have := step_pos (b :: l); simp only [List.length_drop, List.length_cons] at *; omega
theorem runes_nil : runes [] = [] := rfl
theorem runes_cons (l : List UInt8) (h : l ≠ []) : runes l = ((step l).1, l.take (step l).2) :: runes (l.drop (step l).2) := by
  cases l with
  | nil => exact absurd rfl h
  | cons b l =>
    show runesF (l.length + 1) (b :: l) = _
    simp only [runesF]
    rw [runes, runesF_more l.length ((b :: l).drop (step (b :: l)).2).length _ _ (Nat.le_refl _)]
    have := step_pos (b :: l); simp only [List.length_drop, List.length_cons] at *; omega
/-- The bytes of some runes, one behind the other. -/
def cat (P : List (Nat × List UInt8)) : List UInt8 := P.flatMap Prod.snd
theorem cat_nil : cat [] = [] := rfl
theorem cat_cons (p : Nat × List UInt8) (P : List (Nat × List UInt8)) : cat (p :: P) = p.2 ++ cat P := by simp [cat]
theorem cat_append (P Q : List (Nat × List UInt8)) : cat (P ++ Q) = cat P ++ cat Q := by simp [cat]
/-- An induction rune by rune. -/
theorem rune_ind {C : List UInt8 → Prop} (h0 : C []) (h1 : ∀ l, l ≠ [] → C (l.drop (step l).2) → C l) (l : List UInt8) : C l := by
  obtain ⟨n, hn⟩ : ∃ n, l.length ≤ n := ⟨_, Nat.le_refl _⟩
  induction n generalizing l with
  | zero => rw [List.length_eq_zero_iff.1 (by omega : l.length = 0)]; exact h0
  | succ n ih =>
    by_cases hl : l = []
    · rw [hl]; exact h0
    · refine h1 l hl (ih _ ?_)
      have := step_pos l
      have := List.length_pos_iff.2 hl
      rw [List.length_drop]; omega
theorem cat_runes (l : List UInt8) : cat (runes l) = l := by
  refine rune_ind (C := fun l => cat (runes l) = l) rfl (fun l h ih => ?_) l
  show cat (runes l) = l
  rw [runes_cons l h, cat_cons, ih]
  exact List.take_append_drop _ _
theorem runes_len (l : List UInt8) : (runes l).length ≤ l.length := by
  refine rune_ind (C := fun l => (runes l).length ≤ l.length) (by simp [runes_nil]) (fun l h ih => ?_) l
  show (runes l).length ≤ l.length
  rw [runes_cons l h, List.length_cons]
  have := step_pos l
  have := List.length_pos_iff.2 h
  rw [List.length_drop] at ih
  omega
theorem runes_ne (l : List UInt8) (h : l ≠ []) : runes l ≠ [] := by rw [runes_cons l h]; simp

/-- Behind k runes of a text the place pos. -/
def At (l : List UInt8) (k pos : Nat) : Prop := pos ≤ l.length ∧ k ≤ (runes l).length ∧ runes (l.drop pos) = (runes l).drop k ∧ cat ((runes l).take k) = l.take pos
theorem at_zero (l : List UInt8) : At l 0 0 := ⟨Nat.zero_le _, Nat.zero_le _, by simp, by simp [cat]⟩
theorem at_next {l : List UInt8} {k pos : Nat} (h : At l k pos) (hp : pos < l.length) :
    k < (runes l).length ∧ (runes l)[k]? = some ((step (l.drop pos)).1, (l.drop pos).take (step (l.drop pos)).2) ∧ At l (k + 1) (pos + (step (l.drop pos)).2) ∧ pos + (step (l.drop pos)).2 ≤ l.length := by
  obtain ⟨h1, h2, h3, h4⟩ := h
  have hne : l.drop pos ≠ [] := by intro e; have := congrArg List.length e; rw [List.length_drop] at this; simp at this; omega
  have hs := step_le (l.drop pos) hne
  rw [List.length_drop] at hs
  rw [runes_cons _ hne] at h3
  have hk : k < (runes l).length := by
    have := congrArg List.length h3
    simp only [List.length_cons, List.length_drop] at this
    omega
  have hg : (runes l)[k]? = some ((step (l.drop pos)).1, (l.drop pos).take (step (l.drop pos)).2) := by
    have := congrArg (fun x => x[0]?) h3
    simp only [List.getElem?_cons_zero, List.getElem?_drop, Nat.add_zero] at this
    exact this.symm
  refine ⟨hk, hg, ⟨by omega, hk, ?_, ?_⟩, by omega⟩
  · have := congrArg List.tail h3
    simp only [List.tail_cons, List.tail_drop] at this
    rw [List.drop_drop] at this
    exact this
  · rw [List.take_add_one, hg, cat_append, h4]
    simp only [Option.toList_some, cat_cons, cat_nil, List.append_nil]
    rw [List.take_add]
theorem at_end {l : List UInt8} {k pos : Nat} (h : At l k pos) (hp : ¬ pos < l.length) : pos = l.length ∧ k = (runes l).length := by
  obtain ⟨h1, h2, h3, h4⟩ := h
  refine ⟨by omega, ?_⟩
  rw [List.drop_eq_nil_of_le (by omega), runes_nil] at h3
  have := congrArg List.length h3
  simp only [List.length_nil, List.length_drop] at this
  omega
end Go.Proofs.Ytdeofifidjbolaa
namespace Go.Proofs.Ytdeofifidjbolaa
open Go.RowKit
set_option linter.unusedVariables false
set_option linter.unusedSimpArgs false

/-- A round of a range over a text: the rune at hand, its width, and the next place. -/
theorem at_step {l : List UInt8} {k pos : Nat} (h : At l k pos) (hp : pos < l.length) : ∃ r d : Nat,
    (∀ (w : World) (ty : TypeId), (Instr.next (.pointer (some ⟨w.heap.size, 0, none⟩)) true ty).run Try.prog (w.iter (str l) pos) = .ok (.tuple #[.bool true, .int .i64 pos, .int .i32 r]) (w.iter (str l) (pos + d))) ∧
    (∀ (w : World) (b : Nat) (ty : TypeId), w.heap[b]? = some (.stringIter (str l) pos) → (Instr.next (.pointer (some ⟨b, 0, none⟩)) true ty).run Try.prog w = .ok (.tuple #[.bool true, .int .i64 pos, .int .i32 r]) (w.iterAt b (str l) (pos + d))) ∧
    1 ≤ d ∧ pos + d ≤ l.length ∧ k < (runes l).length ∧ (runes l)[k]? = some (r, (l.drop pos).take d) ∧ At l (k + 1) (pos + d) ∧ r ≤ 2147483647 := by
  obtain ⟨h1, h2, h3, h4⟩ := at_next h hp
  have hd := decode_str l pos hp
  have hs : pos < (str l).size := hp
  refine ⟨(step (l.drop pos)).1, (step (l.drop pos)).2, ?_, ?_, step_pos _, h4, h1, h2, h3, ?_⟩
  · intro w ty
    rw [run_next_any w (str l) pos ty hs, hd]
  · intro w b ty hb
    rw [Lib.run_next_any_at w b (str l) pos ty hb hs, hd]
  · rw [← hd]; exact decode_le _ _
theorem at_stop {l : List UInt8} {pos : Nat} (hp : ¬ pos < l.length) :
    (∀ (w : World) (ty : TypeId), (Instr.next (.pointer (some ⟨w.heap.size, 0, none⟩)) true ty).run Try.prog (w.iter (str l) pos) = .ok (.tuple #[.bool false]) (w.iter (str l) pos)) ∧
    (∀ (w : World) (b : Nat) (ty : TypeId), w.heap[b]? = some (.stringIter (str l) pos) → (Instr.next (.pointer (some ⟨b, 0, none⟩)) true ty).run Try.prog w = .ok (.tuple #[.bool false]) w) := by
  have hs : ¬ pos < (str l).size := hp
  exact ⟨fun w ty => run_next_end w (str l) pos ty hs, fun w b ty hb => Lib.run_next_end_at w b (str l) pos ty hb hs⟩
/-- The length of a text that the walk may see. -/
theorem fits {l : List UInt8} (h : l.length ≤ 140737488355328) : (runes l).length ≤ 140737488355328 := Nat.le_trans (runes_len l) h
theorem below_iter (w : World) (s : ByteArray) (pos : Nat) : Below w.heap.size w (w.iter s pos) := (Below.refl _ w).alloc (Nat.le_refl _) _
theorem ret_i {a b : Int} (h : a = b) : Ending.returned (.int .i64 a) = .returned (.int .i64 b) := by rw [h]
theorem ret_b {a b : Bool} (h : a = b) : Ending.returned (.bool a) = .returned (.bool b) := by rw [h]
theorem ret_s {a b : List UInt8} (h : a = b) : Ending.returned (.string (str a)) = .returned (.string (str b)) := by rw [h]
/-- The first n runes of a text. -/
def cutL (l : List UInt8) (n : Int) : List UInt8 := cat ((runes l).take n.toNat)
theorem cutL_le (l : List UInt8) (n : Int) : (cutL l n).length ≤ l.length := by
  have h : l = cat ((runes l).take n.toNat) ++ cat ((runes l).drop n.toNat) := by rw [← cat_append, List.take_append_drop, cat_runes]
  have := congrArg List.length h
  rw [List.length_append] at this
  unfold cutL; omega
theorem cut_stop {l : List UInt8} {k pos : Nat} {n : Int} (h : At l k pos) (h1 : n ≤ k) (h2 : ∀ j : Nat, j < k → (j : Int) < n) : l.take pos = cutL l n := by
  obtain ⟨_, _, _, h4⟩ := h
  unfold cutL
  rw [← h4]
  by_cases hk : k = 0
  · subst hk; rw [show n.toNat = 0 by omega]
  · have := h2 (k - 1) (by omega)
    rw [show n.toNat = k by omega]
theorem cut_all {l : List UInt8} {n : Int} (h : ∀ j : Nat, j < (runes l).length → (j : Int) < n) : l = cutL l n := by
  unfold cutL
  by_cases h0 : (runes l).length = 0
  · rw [List.take_of_length_le (by omega), cat_runes]
  · have := h ((runes l).length - 1) (by omega)
    rw [List.take_of_length_le (by omega), cat_runes]
theorem ext_str (l : List UInt8) (a b : Nat) : (str l).extract a b = str ((l.drop a).take (b - a)) := ByteArray.extract_mk l a b
theorem ext_to (l : List UInt8) (b : Nat) : (str l).extract 0 b = str (l.take b) := by rw [ext_str]; simp
theorem cutL_neg (l : List UInt8) {n : Int} (h : n ≤ 0) : cutL l n = [] := by
  unfold cutL; rw [show n.toNat = 0 by omega]; rfl
theorem at_len (l : List UInt8) : At l (runes l).length l.length := ⟨Nat.le_refl _, Nat.le_refl _, by simp [runes_nil], by rw [List.take_length, List.take_length, cat_runes]⟩
theorem ext_from (l : List UInt8) (a b : Nat) (h : b ≤ l.length) : (str l).extract a b = str ((l.take b).drop a) := by
  rw [ext_str, List.drop_take]
theorem dec_len (b : UInt8) (c : List UInt8) : ((dec b c).1 < 128 → (dec b c).2 = 1) ∧ (128 ≤ (dec b c).1 → (dec b c).1 < 2048 → (dec b c).2 = 2) := by
  match c with
  | [] => simp only [dec]; repeat' split
          all_goals simp <;> omega
  | [c1] => simp only [dec]; repeat' split
            all_goals simp <;> omega
  | [c1, c2] => simp only [dec]; repeat' split
                all_goals simp <;> omega
  | c1 :: c2 :: c3 :: c => simp only [dec]; repeat' split
                           all_goals simp <;> omega
theorem step_len (l : List UInt8) : ((step l).1 < 128 → (step l).2 = 1) ∧ (128 ≤ (step l).1 → (step l).1 < 2048 → (step l).2 = 2) := by
  cases l with
  | nil => simp [step]
  | cons b l => exact dec_len _ _
theorem rune_len (l : List UInt8) : ∀ p ∈ runes l, (p.1 < 128 → p.2.length = 1) ∧ (128 ≤ p.1 → p.1 < 2048 → p.2.length = 2) := by
  refine rune_ind (C := fun l => ∀ p ∈ runes l, (p.1 < 128 → p.2.length = 1) ∧ (128 ≤ p.1 → p.1 < 2048 → p.2.length = 2)) (by simp [runes_nil]) (fun l h ih => ?_) l
  show ∀ p ∈ runes l, _
  intro p hp
  rw [runes_cons l h, List.mem_cons] at hp
  rcases hp with rfl | hp
  · have h1 := step_len l
    have h2 := step_le l h
    simp only [List.length_take, Nat.min_eq_left h2]
    exact h1
  · exact ih p hp
/-- The bytes of a rune below 2048. -/
def enc (r : Nat) : List UInt8 := if r < 128 then [UInt8.ofNat r] else [UInt8.ofNat (192 + r / 64), UInt8.ofNat (128 + r % 64)]
theorem enc_one {r : Nat} (h : r < 128) : (enc r).length = 1 := by unfold enc; rw [if_pos h]; rfl
theorem enc_two {r : Nat} (h : 128 ≤ r) : (enc r).length = 2 := by unfold enc; rw [if_neg (by omega)]; rfl
theorem tw_cons_yes {b : UInt8} {l : List UInt8} (h : contB b = true) : tw (b :: l) = b :: tw l := by simp only [tw, h, cond_true]
theorem tw_cons_no {b : UInt8} {l : List UInt8} (h : contB b = false) : tw (b :: l) = [] := by simp only [tw, h, cond_false]
theorem tw_append (a b : List UInt8) (h : tw b = []) : tw (a ++ b) = tw a := by
  induction a with
  | nil => exact h
  | cons x a ih =>
    rw [List.cons_append]
    cases hx : contB x
    · rw [tw_cons_no hx, tw_cons_no hx]
    · rw [tw_cons_yes hx, tw_cons_yes hx, ih]
theorem tw_congr (a : List UInt8) {b c : List UInt8} (h : tw b = tw c) : tw (a ++ b) = tw (a ++ c) := by
  induction a with
  | nil => exact h
  | cons x a ih =>
    rw [List.cons_append, List.cons_append]
    cases hx : contB x
    · rw [tw_cons_no hx, tw_cons_no hx]
    · rw [tw_cons_yes hx, tw_cons_yes hx, ih]
theorem tw_take (t : List UInt8) (k : Nat) : tw (t.take k) = (tw t).take k := by
  induction t generalizing k with
  | nil => simp [tw]
  | cons x t ih =>
    cases k with
    | zero => simp [tw]
    | succ k =>
      rw [List.take_succ_cons]
      cases hx : contB x
      · rw [tw_cons_no hx, tw_cons_no hx]; rfl
      · rw [tw_cons_yes hx, tw_cons_yes hx, ih, List.take_succ_cons]
theorem tw_split (t : List UInt8) : ∃ z, t = tw t ++ z := by
  induction t with
  | nil => exact ⟨[], rfl⟩
  | cons x t ih =>
    cases hx : contB x
    · exact ⟨x :: t, by rw [tw_cons_no hx]; rfl⟩
    · obtain ⟨z, hz⟩ := ih
      exact ⟨z, by rw [tw_cons_yes hx, List.cons_append, ← hz]⟩
theorem tw_all (t : List UInt8) : ∀ b ∈ tw t, contB b = true := by
  induction t with
  | nil => simp [tw]
  | cons x t ih =>
    cases hx : contB x
    · rw [tw_cons_no hx]; simp
    · rw [tw_cons_yes hx]
      intro b hb
      rcases List.mem_cons.1 hb with rfl | hb
      · exact hx
      · exact ih b hb
theorem tw_of_all (a z : List UInt8) (h : ∀ b ∈ a, contB b = true) : tw (a ++ z) = a ++ tw z := by
  induction a with
  | nil => rfl
  | cons x a ih =>
    rw [List.cons_append, tw_cons_yes (h x List.mem_cons_self), ih (fun b hb => h b (List.mem_cons_of_mem _ hb)), List.cons_append]
theorem dec_cont {b : UInt8} (h : contB b = true) (c : List UInt8) : dec b c = (65533, 1) := by
  have hb : b.toNat / 64 = 2 := by simpa [contB] using h
  have h1 : ¬ b.toNat < 128 := by omega
  have h2 : ¬ b.toNat / 32 = 6 := by omega
  have h3 : ¬ b.toNat / 16 = 14 := by omega
  have h4 : ¬ b.toNat / 8 = 30 := by omega
  unfold dec
  split <;> simp [h1, h2, h3, h4]
theorem dec_two {b c1 : UInt8} (h0 : ¬ b.toNat < 128) (hc : b.toNat / 32 = 6 ∧ 128 ≤ b.toNat % 32 * 64 + c1.toNat % 64) (y : List UInt8) : dec b (c1 :: y) = (b.toNat % 32 * 64 + c1.toNat % 64, 2) := by
  match y with
  | [] => simp [dec, h0, hc]
  | [c2] => simp [dec, h0, hc]
  | c2 :: c3 :: y => simp [dec, h0, hc]
theorem dec_three {b c1 c2 : UInt8} (h0 : ¬ b.toNat < 128)
    (hd : b.toNat / 16 = 14 ∧ 2048 ≤ b.toNat % 16 * 4096 + c1.toNat % 64 * 64 + c2.toNat % 64 ∧ okC (b.toNat % 16 * 4096 + c1.toNat % 64 * 64 + c2.toNat % 64) = true) (y : List UInt8) :
    dec b (c1 :: c2 :: y) = (b.toNat % 16 * 4096 + c1.toNat % 64 * 64 + c2.toNat % 64, 3) := by
  have : ¬ b.toNat / 32 = 6 := by omega
  match y with
  | [] => simp [dec, h0, hd, this]
  | c3 :: y => simp [dec, h0, hd, this]
/-- What a byte with those behind it is. -/
theorem dec_ways (b : UInt8) (c : List UInt8) :
    (∀ y, dec b y = (b.toNat, 1)) ∨
    (∃ c1 c' r, c = c1 :: c' ∧ ∀ y, dec b (c1 :: y) = (r, 2)) ∨
    (∃ c1 c2 c' r, c = c1 :: c2 :: c' ∧ ∀ y, dec b (c1 :: c2 :: y) = (r, 3)) ∨
    (∃ c1 c2 c3 c' r, c = c1 :: c2 :: c3 :: c' ∧ ∀ y, dec b (c1 :: c2 :: c3 :: y) = (r, 4)) ∨
    (∀ k, dec b (c.take k) = (65533, 1)) := by
  by_cases h0 : b.toNat < 128
  · refine .inl fun y => ?_
    unfold dec; split <;> simp [h0]
  · match c with
    | [] => exact .inr (.inr (.inr (.inr fun k => by simp [dec, h0])))
    | [c1] =>
      by_cases hc : b.toNat / 32 = 6 ∧ 128 ≤ b.toNat % 32 * 64 + c1.toNat % 64
      · exact .inr (.inl ⟨c1, [], _, rfl, dec_two h0 hc⟩)
      · refine .inr (.inr (.inr (.inr fun k => ?_)))
        match k with
        | 0 => simp [dec, h0]
        | k + 1 => simp [dec, h0, hc]
    | [c1, c2] =>
      by_cases hc : b.toNat / 32 = 6 ∧ 128 ≤ b.toNat % 32 * 64 + c1.toNat % 64
      · exact .inr (.inl ⟨c1, [c2], _, rfl, dec_two h0 hc⟩)
      · by_cases hd : b.toNat / 16 = 14 ∧ 2048 ≤ b.toNat % 16 * 4096 + c1.toNat % 64 * 64 + c2.toNat % 64 ∧ okC (b.toNat % 16 * 4096 + c1.toNat % 64 * 64 + c2.toNat % 64) = true
        · exact .inr (.inr (.inl ⟨c1, c2, [], _, rfl, dec_three h0 hd⟩))
        · refine .inr (.inr (.inr (.inr fun k => ?_)))
          match k with
          | 0 => simp [dec, h0]
          | 1 => simp [dec, h0, hc]
          | k + 2 => simp [dec, h0, hc, hd]
    | c1 :: c2 :: c3 :: c =>
      by_cases hc : b.toNat / 32 = 6 ∧ 128 ≤ b.toNat % 32 * 64 + c1.toNat % 64
      · exact .inr (.inl ⟨c1, c2 :: c3 :: c, _, rfl, dec_two h0 hc⟩)
      · by_cases hd : b.toNat / 16 = 14 ∧ 2048 ≤ b.toNat % 16 * 4096 + c1.toNat % 64 * 64 + c2.toNat % 64 ∧ okC (b.toNat % 16 * 4096 + c1.toNat % 64 * 64 + c2.toNat % 64) = true
        · exact .inr (.inr (.inl ⟨c1, c2, c3 :: c, _, rfl, dec_three h0 hd⟩))
        · by_cases he : b.toNat / 8 = 30 ∧ 65536 ≤ b.toNat % 8 * 262144 + c1.toNat % 64 * 4096 + c2.toNat % 64 * 64 + c3.toNat % 64 ∧ okC (b.toNat % 8 * 262144 + c1.toNat % 64 * 4096 + c2.toNat % 64 * 64 + c3.toNat % 64) = true
          · exact .inr (.inr (.inr (.inl ⟨c1, c2, c3, c, _, rfl, fun y => by rw [dec, if_neg h0, if_neg hc, if_neg hd, if_pos he]⟩)))
          · refine .inr (.inr (.inr (.inr fun k => ?_)))
            match k with
            | 0 => simp [dec, h0]
            | 1 => simp [dec, h0, hc]
            | 2 => simp [dec, h0, hc, hd]
            | k + 3 => simp [dec, h0, hc, hd, he]
theorem dec_take (b : UInt8) (c : List UInt8) (k : Nat) (h : (dec b c).2 ≤ k + 1) : dec b (c.take k) = dec b c := by
  rcases dec_ways b c with h1 | ⟨c1, c', r, rfl, h1⟩ | ⟨c1, c2, c', r, rfl, h1⟩ | ⟨c1, c2, c3, c', r, rfl, h1⟩ | h1
  · rw [h1, h1]
  · rw [h1] at h ⊢
    match k, h with
    | k + 1, _ => rw [List.take_succ_cons, h1]
  · rw [h1] at h ⊢
    match k, h with
    | k + 2, _ => rw [List.take_succ_cons, List.take_succ_cons, h1]
  · rw [h1] at h ⊢
    match k, h with
    | k + 3, _ => rw [List.take_succ_cons, List.take_succ_cons, List.take_succ_cons, h1]
  · have := h1 c.length
    rw [List.take_length] at this
    rw [h1, this]
theorem dec_solid (b : UInt8) (c : List UInt8) (h : (dec b c).1 ≠ 65533) (z : List UInt8) : dec b (c.take ((dec b c).2 - 1) ++ z) = dec b c := by
  rcases dec_ways b c with h1 | ⟨c1, c', r, rfl, h1⟩ | ⟨c1, c2, c', r, rfl, h1⟩ | ⟨c1, c2, c3, c', r, rfl, h1⟩ | h1
  · rw [h1, h1]
  · rw [h1]; exact h1 z
  · rw [h1]; exact h1 z
  · rw [h1]; exact h1 z
  · have := h1 c.length
    rw [List.take_length] at this
    rw [this] at h
    exact absurd rfl h
theorem step_cons (b : UInt8) (t : List UInt8) : step (b :: t) = dec b (tw t) := rfl
theorem step_append (a b : List UInt8) (ha : a ≠ []) (h : tw b = []) : step (a ++ b) = step a := by
  cases a with
  | nil => exact absurd rfl ha
  | cons x a => rw [List.cons_append, step_cons, step_cons, tw_append a b h]
theorem runes_append (a b : List UInt8) (h : tw b = []) : runes (a ++ b) = runes a ++ runes b := by
  refine rune_ind (C := fun a => runes (a ++ b) = runes a ++ runes b) rfl (fun a ha ih => ?_) a
  show runes (a ++ b) = _
  have hs := step_append a b ha h
  have hle := step_le a ha
  rw [runes_cons a ha, runes_cons (a ++ b) (by simp [ha]), hs, List.take_append_of_le_length hle, List.drop_append_of_le_length hle, List.cons_append]
  rw [ih]
theorem step_take (l : List UInt8) (hl : l ≠ []) (k : Nat) (h : (step l).2 ≤ k) : step (l.take k) = step l := by
  cases l with
  | nil => exact absurd rfl hl
  | cons b t =>
    cases k with
    | zero => have := step_pos (b :: t); omega
    | succ k =>
      rw [List.take_succ_cons, step_cons, step_cons, tw_take, dec_take]
      exact h
theorem cat_take (l : List UInt8) (n : Nat) : cat ((runes l).take n) = l.take (cat ((runes l).take n)).length := by
  have h : cat ((runes l).take n) ++ cat ((runes l).drop n) = l := by rw [← cat_append, List.take_append_drop, cat_runes]
  have := congrArg (List.take (cat ((runes l).take n)).length) h
  rw [List.take_left'] at this
  · exact this
  · rfl
theorem runes_cut (l : List UInt8) : ∀ n, runes (cat ((runes l).take n)) = (runes l).take n := by
  refine rune_ind (C := fun l => ∀ n, runes (cat ((runes l).take n)) = (runes l).take n) (fun n => by simp [runes_nil, cat_nil]) (fun l hl ih => ?_) l
  show ∀ n, runes (cat ((runes l).take n)) = (runes l).take n
  intro n
  cases n with
  | zero => simp [cat_nil, runes_nil]
  | succ n =>
    have hle := step_le l hl
    have hpos := step_pos l
    obtain ⟨y, hy⟩ : ∃ y, cat ((runes (l.drop (step l).2)).take n) = y := ⟨_, rfl⟩
    have hy2 : y = (l.drop (step l).2).take y.length := by have := cat_take (l.drop (step l).2) n; rw [hy] at this; exact this
    have e1 : cat ((runes l).take (n + 1)) = l.take ((step l).2 + y.length) := by
      rw [runes_cons l hl, List.take_succ_cons, cat_cons, hy, List.take_add, ← hy2]
    have hne : l.take ((step l).2 + y.length) ≠ [] := by
      intro e
      have := congrArg List.length e
      have := List.length_pos_iff.2 hl
      simp only [List.length_take, List.length_nil] at *
      omega
    have hs := step_take l hl ((step l).2 + y.length) (by omega)
    have ih := ih n
    rw [hy] at ih
    rw [e1, runes_cons _ hne, hs, runes_cons l hl, List.take_succ_cons, List.take_take, Nat.min_eq_left (by omega), List.drop_take, Nat.add_sub_cancel_left, ← hy2, ih]
theorem runes_cutL (l : List UInt8) (n : Int) : runes (cutL l n) = (runes l).take n.toNat := runes_cut l _
theorem cutL_cutL (l : List UInt8) (n m : Int) (hn : 0 ≤ n) (hm : 0 ≤ m) : cutL (cutL l n) m = cutL l (min n m) := by
  unfold cutL
  rw [runes_cut, List.take_take]
  congr 2
  omega
theorem cutL_all (l : List UInt8) (n : Int) (h : ((runes l).length : Int) ≤ n) : cutL l n = l := by
  unfold cutL
  rw [List.take_of_length_le (by omega), cat_runes]
theorem piece_ne (l : List UInt8) : ∀ p ∈ runes l, p.2 ≠ [] := by
  refine rune_ind (C := fun l => ∀ p ∈ runes l, p.2 ≠ []) (by simp [runes_nil]) (fun l hl ih => ?_) l
  show ∀ p ∈ runes l, p.2 ≠ []
  intro p hp
  rw [runes_cons l hl] at hp
  rcases List.mem_cons.1 hp with rfl | hp
  · intro e
    have := congrArg List.length e
    have := step_pos l
    have := List.length_pos_iff.2 hl
    simp only [List.length_take, List.length_nil] at *
    omega
  · exact ih p hp
theorem cutL_next (l : List UInt8) (i : Nat) (h : i < (runes l).length) : ∃ x, x ≠ [] ∧ cutL l ((i : Int) + 1) = cutL l i ++ x := by
  refine ⟨((runes l)[i]).2, piece_ne l _ (List.getElem_mem h), ?_⟩
  unfold cutL
  rw [show ((i : Int) + 1).toNat = i + 1 by omega, show ((i : Int)).toNat = i by omega, List.take_add_one, List.getElem?_eq_getElem h, cat_append]
  simp [cat_cons, cat_nil]
theorem tw_enc {r : Nat} (h : r < 2048) (z : List UInt8) : tw (enc r ++ z) = [] := by
  unfold enc
  split
  · rename_i h1
    refine tw_cons_no ?_
    simp [contB]; omega
  · refine tw_cons_no ?_
    simp [contB]; omega
theorem step_enc {r : Nat} (h : r < 2048) (z : List UInt8) : step (enc r ++ z) = (r, (enc r).length) := by
  unfold enc
  split
  · rename_i h1
    rw [List.singleton_append, step_cons]
    have e : (UInt8.ofNat r).toNat = r := by simp; omega
    have : (UInt8.ofNat r).toNat < 128 := by omega
    unfold dec
    split <;> simp only [e, h1, if_true] <;> rfl
  · rename_i h1
    have e1 : (UInt8.ofNat (192 + r / 64)).toNat = 192 + r / 64 := by simp; omega
    have e2 : (UInt8.ofNat (128 + r % 64)).toNat = 128 + r % 64 := by simp; omega
    show step (UInt8.ofNat (192 + r / 64) :: (UInt8.ofNat (128 + r % 64) :: z)) = _
    rw [step_cons, tw_cons_yes (by simp [contB]; omega), dec_two (by rw [e1]; omega) (by rw [e1, e2]; omega), e1, e2]
    simp; omega
/-- A rune that reads as itself whatever follows. -/
def Solid (p : Nat × List UInt8) : Prop := p.2 ≠ [] ∧ ∀ z, step (p.2 ++ z) = (p.1, p.2.length)
theorem runes_solid (P : List (Nat × List UInt8)) (h : ∀ p ∈ P, Solid p) (z : List UInt8) : runes (cat P ++ z) = P ++ runes z := by
  induction P with
  | nil => rfl
  | cons p P ih =>
    obtain ⟨hne, hs⟩ := h p List.mem_cons_self
    have ih := ih (fun q hq => h q (List.mem_cons_of_mem _ hq))
    have e : cat (p :: P) ++ z = p.2 ++ (cat P ++ z) := by rw [cat_cons, List.append_assoc]
    rw [e, runes_cons _ (by simp [hne]), hs]
    rw [List.take_left' rfl, List.drop_left' rfl, ih, List.cons_append]
theorem runes_solid' (P : List (Nat × List UInt8)) (h : ∀ p ∈ P, Solid p) : runes (cat P) = P := by
  have := runes_solid P h []
  rw [List.append_nil, runes_nil, List.append_nil] at this
  exact this
theorem solid_step {l : List UInt8} (hl : l ≠ []) (h : (step l).1 ≠ 65533) : Solid ((step l).1, l.take (step l).2) := by
  have hle := step_le l hl
  have hpos := step_pos l
  refine ⟨?_, fun z => ?_⟩
  · intro e
    have := congrArg List.length e
    have := List.length_pos_iff.2 hl
    simp only [List.length_take, List.length_nil] at *
    omega
  · simp only [List.length_take, Nat.min_eq_left hle]
    cases l with
    | nil => exact absurd rfl hl
    | cons b t =>
      obtain ⟨d, hd⟩ : ∃ d, (step (b :: t)).2 = d + 1 := ⟨(step (b :: t)).2 - 1, by omega⟩
      rw [hd, List.take_succ_cons, List.cons_append, step_cons]
      have hw := (dec_width b (tw t)).2
      rw [← step_cons, hd] at hw
      obtain ⟨y, hy⟩ := tw_split t
      have ht : t.take d = (tw t).take d := by
        have := congrArg (List.take d) hy
        rw [List.take_append_of_le_length (by omega)] at this
        exact this
      rw [ht, tw_of_all _ z (fun c hc => tw_all t c (List.mem_of_mem_take hc))]
      rw [step_cons] at h hd
      have := dec_solid b (tw t) h (tw z)
      rw [hd, Nat.add_sub_cancel] at this
      rw [this, step_cons, ← hd]
theorem solid_of (l : List UInt8) : ∀ p ∈ runes l, p.1 ≠ 65533 → Solid p := by
  refine rune_ind (C := fun l => ∀ p ∈ runes l, p.1 ≠ 65533 → Solid p) (by simp [runes_nil]) (fun l hl ih => ?_) l
  show ∀ p ∈ runes l, p.1 ≠ 65533 → Solid p
  intro p hp h
  rw [runes_cons l hl] at hp
  rcases List.mem_cons.1 hp with rfl | hp
  · exact solid_step hl h
  · exact ih p hp h
theorem cutL_start (l : List UInt8) (n : Int) : l.take (cutL l n).length = cutL l n := (cat_take l n.toNat).symm
theorem take_len (l : List UInt8) (n : Nat) : (l.take n).length ≤ n := by rw [List.length_take]; omega
end Go.Proofs.Ytdeofifidjbolaa
namespace Go.Proofs.Ytdeofifidjbolaa
open Go.RowKit
set_option linter.unusedVariables false
set_option linter.unusedSimpArgs false

/-! ### Bytes below 128 -/
theorem step_ascii {l : List UInt8} (h : l ≠ []) : ((step l).1 < 128 → ∃ b, l.take (step l).2 = [b] ∧ b.toNat = (step l).1) ∧ (128 ≤ (step l).1 → ∀ x ∈ l.take (step l).2, 128 ≤ x.toNat) := by
  cases l with
  | nil => exact absurd rfl h
  | cons b t =>
    have hc := step_cons b t
    by_cases hb : b.toNat < 128
    · have e : ∀ y, dec b y = (b.toNat, 1) := by intro y; unfold dec; split <;> simp [hb]
      rw [e] at hc
      rw [hc]
      refine ⟨fun _ => ⟨b, by simp, rfl⟩, fun hx => ?_⟩
      simp at hx; omega
    · have hl := (step_len (b :: t)).1
      obtain ⟨z, hz⟩ := tw_split t
      have hw := (dec_width b (tw t)).2
      have hp := (dec_width b (tw t)).1
      rw [← hc] at hw hp
      refine ⟨fun hx => ?_, fun hx x hm => ?_⟩
      · exfalso
        have h1 := hl hx
        rw [hc] at hx
        rcases dec_ways b (tw t) with h2 | ⟨c1, c', r, e, h2⟩ | ⟨c1, c2, c', r, e, h2⟩ | ⟨c1, c2, c3, c', r, e, h2⟩ | h2
        · rw [h2] at hx; simp at hx; omega
        · rw [hc, e, h2] at h1; simp at h1
        · rw [hc, e, h2] at h1; simp at h1
        · rw [hc, e, h2] at h1; simp at h1
        · have := h2 (tw t).length
          rw [List.take_length] at this
          rw [this] at hx
          simp at hx
      · obtain ⟨d, hd⟩ : ∃ d, (step (b :: t)).2 = d + 1 := ⟨(step (b :: t)).2 - 1, by omega⟩
        rw [hd, List.take_succ_cons] at hm
        rcases List.mem_cons.1 hm with rfl | hm
        · omega
        · have hm2 : x ∈ tw t := by
            rw [hz, List.take_append_of_le_length (by omega)] at hm
            exact List.mem_of_mem_take hm
          have := tw_all t x hm2
          simp only [contB, beq_iff_eq] at this
          omega
theorem piece_ascii (l : List UInt8) : ∀ p ∈ runes l, (p.1 < 128 → ∃ b, p.2 = [b] ∧ b.toNat = p.1) ∧ (128 ≤ p.1 → ∀ x ∈ p.2, 128 ≤ x.toNat) := by
  refine rune_ind (C := fun l => ∀ p ∈ runes l, (p.1 < 128 → ∃ b, p.2 = [b] ∧ b.toNat = p.1) ∧ (128 ≤ p.1 → ∀ x ∈ p.2, 128 ≤ x.toNat)) (by simp [runes_nil]) (fun l h ih => ?_) l
  show ∀ p ∈ runes l, _
  intro p hp
  rw [runes_cons l h, List.mem_cons] at hp
  rcases hp with rfl | hp
  · exact step_ascii h
  · exact ih p hp
theorem runes_ascii (t : List UInt8) (h : ∀ b ∈ t, b.toNat < 128) : runes t = t.map (fun b => (b.toNat, [b])) := by
  induction t with
  | nil => rfl
  | cons b t ih =>
    have hb := h b List.mem_cons_self
    have e : step (b :: t) = (b.toNat, 1) := by rw [step_cons]; unfold dec; split <;> simp [hb]
    rw [runes_cons _ (by simp), e, List.map_cons]
    simp only [List.take_succ_cons, List.take_zero, List.drop_succ_cons, List.drop_zero]
    rw [ih (fun c hc => h c (List.mem_cons_of_mem _ hc))]
theorem tw_ascii {t : List UInt8} (h : ∀ b ∈ t, b.toNat < 128) : tw t = [] := by
  cases t with
  | nil => rfl
  | cons b t =>
    have := h b List.mem_cons_self
    refine tw_cons_no ?_
    simp only [contB, beq_eq_false_iff_ne]; omega
/-- Behind k runes a place stands. -/
theorem at_cat (l : List UInt8) (k : Nat) (h : k ≤ (runes l).length) : At l k (cat ((runes l).take k)).length := by
  induction k with
  | zero => simp only [List.take_zero, cat_nil, List.length_nil]; exact at_zero l
  | succ k ih =>
    have h1 := ih (by omega)
    have hp : (cat ((runes l).take k)).length < l.length := by
      apply Decidable.byContradiction
      intro hn
      have := (at_end h1 hn).2
      omega
    obtain ⟨h2, h3, h4, h5⟩ := at_next h1 hp
    have he : cat ((runes l).take (k + 1)) = l.take ((cat ((runes l).take k)).length + (step (l.drop (cat ((runes l).take k)).length)).2) := h4.2.2.2
    have : (cat ((runes l).take (k + 1))).length = (cat ((runes l).take k)).length + (step (l.drop (cat ((runes l).take k)).length)).2 := by
      rw [he, List.length_take]; omega
    rw [this]; exact h4
theorem at_uniq {l : List UInt8} {k pos : Nat} (h : At l k pos) : pos = (cat ((runes l).take k)).length := by
  have := congrArg List.length h.2.2.2
  rw [List.length_take] at this
  have := h.1
  omega

/-! ### Products -/
/-- May a product have the rune? -/
def okS (r : Nat) : Bool := decide ((65 ≤ r ∧ r ≤ 90) ∨ (913 ≤ r ∧ r ≤ 937 ∧ r ≠ 930))
theorem okS_yes {r : Nat} (h : okS r = true) : (65 ≤ r ∧ r ≤ 90) ∨ (913 ≤ r ∧ r ≤ 937 ∧ r ≠ 930) := of_decide_eq_true h
theorem okS_no {r : Nat} (h : okS r = false) : ¬ ((65 ≤ r ∧ r ≤ 90) ∨ (913 ≤ r ∧ r ≤ 937 ∧ r ≠ 930)) := of_decide_eq_false h
theorem okS_ways {r : Nat} (h : okS r = false) : r < 65 ∨ (90 < r ∧ r < 913) ∨ 937 < r ∨ r = 930 := by have := okS_no h; omega
/-- Is the text a product? -/
def prodB (l : List UInt8) : Bool := (runes l).all (fun p => okS p.1) && (decide (1 ≤ (runes l).length) && decide ((runes l).length ≤ 4))
theorem prodB_yes {l : List UInt8} (h : prodB l = true) : (∀ p ∈ runes l, okS p.1 = true) ∧ 1 ≤ (runes l).length ∧ (runes l).length ≤ 4 := by
  unfold prodB at h
  simp only [Bool.and_eq_true, List.all_eq_true, decide_eq_true_eq] at h
  exact ⟨h.1, h.2.1, h.2.2⟩
theorem prodB_of {l : List UInt8} (h1 : ∀ p ∈ runes l, okS p.1 = true) (h2 : 1 ≤ (runes l).length) (h3 : (runes l).length ≤ 4) : prodB l = true := by
  unfold prodB
  simp only [Bool.and_eq_true, List.all_eq_true, decide_eq_true_eq]
  exact ⟨h1, h2, h3⟩
theorem prodB_long {l : List UInt8} (h : 4 < (runes l).length) : prodB l = false := by
  unfold prodB
  rw [show decide ((runes l).length ≤ 4) = false from decide_eq_false (by omega)]
  simp
theorem prodB_bad {l : List UInt8} {k r : Nat} {x : List UInt8} (h : (runes l)[k]? = some (r, x)) (hr : okS r = false) : prodB l = false := by
  have hm := List.mem_of_getElem? h
  have : (runes l).all (fun p => okS p.1) = false := by
    rw [List.all_eq_false]
    exact ⟨_, hm, by simp [hr]⟩
  unfold prodB
  rw [this]
  rfl
theorem prodB_nil : prodB [] = false := rfl
/-- The first k runes are such as may be. -/
def OkS (l : List UInt8) (k : Nat) : Prop := ∀ i r x, i < k → (runes l)[i]? = some (r, x) → okS r = true
theorem okS_zero (l : List UInt8) : OkS l 0 := fun i r x h => absurd h (Nat.not_lt_zero _)
theorem okS_next {l : List UInt8} {k r : Nat} {x : List UInt8} (h : OkS l k) (hk : (runes l)[k]? = some (r, x)) (hr : okS r = true) : OkS l (k + 1) := by
  intro i r' x' hi he
  by_cases e : i = k
  · subst e; rw [hk] at he; cases he; exact hr
  · exact h i r' x' (by omega) he
theorem okS_all {l : List UInt8} (h : OkS l (runes l).length) : ∀ p ∈ runes l, okS p.1 = true := by
  intro p hp
  obtain ⟨i, hi, he⟩ := List.mem_iff_getElem.1 hp
  refine h i p.1 p.2 hi ?_
  rw [List.getElem?_eq_getElem hi, he]
theorem prodB_end {l : List UInt8} (h : OkS l (runes l).length) (h4 : (runes l).length ≤ 4) : prodB l = decide (0 < ((runes l).length : Int)) := by
  by_cases h1 : 1 ≤ (runes l).length
  · rw [prodB_of (okS_all h) h1 h4, decide_eq_true (by omega)]
  · unfold prodB
    rw [decide_eq_false (show ¬ 1 ≤ (runes l).length from h1), decide_eq_false (show ¬ (0 : Int) < ((runes l).length : Int) by omega)]
    simp
theorem prodB_end2 {l : List UInt8} (h : OkS l (runes l).length) : (if 1 ≤ ((runes l).length : Int) then decide (((runes l).length : Int) ≤ 4) else false) = prodB l := by
  by_cases h4 : (runes l).length ≤ 4
  · rw [prodB_end h h4]
    by_cases h1 : 1 ≤ (runes l).length
    · rw [if_pos (by omega), decide_eq_true (by omega), decide_eq_true (by omega)]
    · rw [if_neg (by omega), decide_eq_false (by omega)]
  · rw [prodB_long (by omega), if_pos (by omega), decide_eq_false (by omega)]
/-- The bytes of a product: neither a stroke nor a digit, and few of them. -/
theorem prodB_bytes {l : List UInt8} (h : prodB l = true) : ∀ x ∈ l, 65 ≤ x.toNat := by
  intro x hx
  rw [← cat_runes l] at hx
  obtain ⟨p, hp, hxp⟩ := List.mem_flatMap.1 hx
  obtain ⟨h1, h2⟩ := piece_ascii l p hp
  have hk := okS_yes ((prodB_yes h).1 p hp)
  by_cases h3 : p.1 < 128
  · obtain ⟨b, e1, e2⟩ := h1 h3
    rw [e1] at hxp
    rw [List.mem_singleton.1 hxp]
    omega
  · have := h2 (by omega) x hxp
    omega
theorem prodB_len {l : List UInt8} (h : prodB l = true) : 1 ≤ l.length ∧ l.length ≤ 8 := by
  obtain ⟨h1, h2, h3⟩ := prodB_yes h
  refine ⟨Nat.le_trans h2 (runes_len l), ?_⟩
  have hb : ∀ P : List (Nat × List UInt8), (∀ p ∈ P, p.2.length ≤ 2) → (cat P).length ≤ 2 * P.length := by
    intro P
    induction P with
    | nil => intro _; simp [cat]
    | cons p P ih =>
      intro hP
      have := ih (fun q hq => hP q (List.mem_cons_of_mem _ hq))
      have := hP p List.mem_cons_self
      rw [cat_cons, List.length_append, List.length_cons]; omega
  have := hb (runes l) (fun p hp => by
    have hk := okS_yes (h1 p hp)
    have hl := rune_len l p hp
    rcases hk with hk | hk
    · rw [hl.1 (by omega)]; omega
    · rw [hl.2 (by omega) (by omega)]; omega)
  rw [cat_runes] at this
  omega

/-! ### Codes of months -/
def letters : List UInt8 := [70, 71, 72, 74, 75, 77, 78, 81, 85, 86, 88, 90]
/-- The month of a year that has the letter. -/
def idx (a : Nat) : Option Nat := (List.range 12).find? (fun i => (letters.getD i 0).toNat == a)
theorem letters_big : ∀ i, i < 12 → 70 ≤ (letters.getD i 0).toNat ∧ (letters.getD i 0).toNat ≤ 90 := by decide
theorem idx_some {a i : Nat} (h : idx a = some i) : i < 12 ∧ (letters.getD i 0).toNat = a := by
  have h1 := List.mem_of_find?_eq_some h
  have h2 := List.find?_some h
  exact ⟨List.mem_range.1 h1, by simpa using h2⟩
theorem idx_none {a : Nat} (h : idx a = none) : ∀ i, i < 12 → (letters.getD i 0).toNat ≠ a := by
  intro i hi
  have := List.find?_eq_none.1 h i (List.mem_range.2 hi)
  simpa using this
theorem idx_at : ∀ i, i < 12 → idx (letters.getD i 0).toNat = some i := by decide
theorem idx_of {a i : Nat} (hi : i < 12) (h : (letters.getD i 0).toNat = a) : idx a = some i := by rw [← h]; exact idx_at i hi
/-- The month of a letter and two digits. -/
def dig (b : Nat) : Bool := decide (48 ≤ b ∧ b ≤ 57)
theorem dig_yes {b : Nat} (h : dig b = true) : 48 ≤ b ∧ b ≤ 57 := of_decide_eq_true h
theorem dig_no {b : Nat} (h : dig b = false) : ¬ (48 ≤ b ∧ b ≤ 57) := of_decide_eq_false h
theorem dig_of {b : Nat} (h : 48 ≤ b ∧ b ≤ 57) : dig b = true := decide_eq_true h
def readO (a b c : Nat) : Option Nat := bif dig b && dig c then (idx a).map (fun i => 12 * (10 * (b - 48) + (c - 48)) + i) else none
theorem readO_yes {a b c i : Nat} (h1 : idx a = some i) (h2 : dig b = true) (h3 : dig c = true) : readO a b c = some (12 * (10 * (b - 48) + (c - 48)) + i) := by unfold readO; rw [h1, h2, h3]; rfl
theorem readO_idx {a b c : Nat} (h1 : idx a = none) : readO a b c = none := by unfold readO; rw [h1]; cases dig b <;> cases dig c <;> rfl
theorem readO_two {a b c : Nat} (h1 : dig b = false) : readO a b c = none := by unfold readO; rw [h1]; rfl
theorem readO_three {a b c : Nat} (h1 : dig c = false) : readO a b c = none := by unfold readO; rw [h1, Bool.and_false]; rfl
theorem readO_some {a b c m : Nat} (h : readO a b c = some m) : ∃ i, idx a = some i ∧ dig b = true ∧ dig c = true ∧ m = 12 * (10 * (b - 48) + (c - 48)) + i := by
  cases h2 : dig b
  · rw [readO_two h2] at h; cases h
  · cases h3 : dig c
    · rw [readO_three h3] at h; cases h
    · cases h1 : idx a with
      | none => rw [readO_idx h1] at h; cases h
      | some i => rw [readO_yes h1 h2 h3] at h; cases h; exact ⟨i, rfl, rfl, rfl, rfl⟩
/-- The letter and the digits of a month. -/
def tail (m : Nat) : List UInt8 := [letters.getD (m % 12) 0, UInt8.ofNat (48 + m / 12 / 10), UInt8.ofNat (48 + m / 12 % 10)]
theorem tail_len (m : Nat) : (tail m).length = 3 := rfl
theorem digit_nat {k : Nat} (h : k ≤ 9) : (UInt8.ofNat (48 + k)).toNat = 48 + k := by simp; omega
theorem readO_tail {m : Nat} (h : m < 1200) : readO (letters.getD (m % 12) 0).toNat (UInt8.ofNat (48 + m / 12 / 10)).toNat (UInt8.ofNat (48 + m / 12 % 10)).toNat = some m := by
  rw [digit_nat (by omega), digit_nat (by omega), readO_yes (idx_at _ (by omega)) (dig_of (by omega)) (dig_of (by omega))]
  congr 1
  omega
theorem readO_bytes {c d e : UInt8} {m : Nat} (h : readO c.toNat d.toNat e.toNat = some m) : m < 1200 ∧ [c, d, e] = tail m := by
  obtain ⟨i, h1, h2, h3, rfl⟩ := readO_some h
  obtain ⟨h4, h5⟩ := idx_some h1
  have h2 := dig_yes h2
  have h3 := dig_yes h3
  refine ⟨by omega, ?_⟩
  unfold tail
  rw [show (12 * (10 * (d.toNat - 48) + (e.toNat - 48)) + i) % 12 = i by omega, show (12 * (10 * (d.toNat - 48) + (e.toNat - 48)) + i) / 12 / 10 = d.toNat - 48 by omega, show (12 * (10 * (d.toNat - 48) + (e.toNat - 48)) + i) / 12 % 10 = e.toNat - 48 by omega]
  rw [show 48 + (d.toNat - 48) = d.toNat by omega, show 48 + (e.toNat - 48) = e.toNat by omega, UInt8.ofNat_toNat, UInt8.ofNat_toNat]
  congr 1
  exact UInt8.toNat_inj.1 h5.symm
theorem tail_inj {m n : Nat} (hm : m < 1200) (hn : n < 1200) (h : tail m = tail n) : m = n := by
  have h1 := readO_tail hm
  have h2 := readO_tail hn
  unfold tail at h
  injection h with e1 h
  injection h with e2 h
  injection h with e3 h
  rw [e1, e2, e3, h2] at h1
  injection h1 with h1
  exact h1.symm
theorem tail_bytes {m : Nat} (h : m < 1200) : ∀ x ∈ tail m, 48 ≤ x.toNat ∧ x.toNat < 128 := by
  intro x hx
  have h0 := letters_big (m % 12) (by omega)
  have h1 := digit_nat (k := m / 12 / 10) (by omega)
  have h2 := digit_nat (k := m / 12 % 10) (by omega)
  simp only [tail, List.mem_cons, List.not_mem_nil, or_false] at hx
  rcases hx with rfl | rfl | rfl <;> omega
theorem runes_code {p : List UInt8} {m : Nat} (h : m < 1200) : runes (p ++ tail m) = runes p ++ (tail m).map (fun b => (b.toNat, [b])) := by
  rw [runes_append _ _ (tw_ascii (fun b hb => (tail_bytes h b hb).2)), runes_ascii _ (fun b hb => (tail_bytes h b hb).2)]

/-- The text is the code of the product's month. -/
def IsCode (l p : List UInt8) (m : Nat) : Prop := prodB p = true ∧ m < 1200 ∧ l = p ++ tail m
/-- What a text is the code of. -/
def last3 : List UInt8 → Option Nat
  | [c, d, e] => readO c.toNat d.toNat e.toNat
  | _ => none
def parseO (l : List UInt8) : Option (List UInt8 × Nat) := bif prodB (l.take (l.length - 3)) then (last3 (l.drop (l.length - 3))).map (fun m => (l.take (l.length - 3), m)) else none
theorem parseO_app (p : List UInt8) (c d e : UInt8) : parseO (p ++ [c, d, e]) = bif prodB p then (readO c.toNat d.toNat e.toNat).map (fun m => (p, m)) else none := by
  have h : (p ++ [c, d, e]).length - 3 = p.length := by rw [List.length_append]; simp
  unfold parseO
  rw [h, List.take_left', List.drop_left']
  · rfl
  · rfl
  · rfl
theorem parseO_code {l p : List UInt8} {m : Nat} (h : IsCode l p m) : parseO l = some (p, m) := by
  obtain ⟨h1, h2, rfl⟩ := h
  unfold tail
  rw [parseO_app, h1, cond_true, readO_tail h2]
  rfl
theorem last3_some {t : List UInt8} {m : Nat} (h : last3 t = some m) : m < 1200 ∧ t = tail m := by
  match t with
  | [c, d, e] => exact readO_bytes h
  | [] => cases h
  | [c] => cases h
  | [c, d] => cases h
  | c :: d :: e :: f :: t => cases h
theorem code_of {l p : List UInt8} {m : Nat} (h : parseO l = some (p, m)) : IsCode l p m := by
  unfold parseO at h
  cases hp : prodB (l.take (l.length - 3))
  · rw [hp] at h; cases h
  · rw [hp, cond_true] at h
    cases h3 : last3 (l.drop (l.length - 3)) with
    | none => rw [h3] at h; cases h
    | some k =>
      rw [h3] at h
      simp only [Option.map_some, Option.some.injEq, Prod.mk.injEq] at h
      obtain ⟨rfl, rfl⟩ := h
      obtain ⟨h4, h5⟩ := last3_some h3
      exact ⟨hp, h4, by rw [← h5, List.take_append_drop]⟩
theorem parseO_short {l : List UInt8} (h : l.length < 4) : parseO l = none := by
  cases hp : parseO l with
  | none => rfl
  | some x =>
    obtain ⟨p, m⟩ := x
    obtain ⟨h1, h2, h3⟩ := code_of hp
    have := (prodB_len h1).1
    rw [h3, List.length_append, tail_len] at h
    omega
theorem parseO_nil : parseO [] = none := rfl

/-! ### Rune by rune -/
theorem code_runes {l p : List UInt8} {m : Nat} (h : IsCode l p m) :
    cutL l (((runes l).length : Int) - 3) = p ∧ runes (l.drop p.length) = (tail m).map (fun b => (b.toNat, [b])) := by
  obtain ⟨h1, h2, rfl⟩ := h
  have hr := runes_code (p := p) h2
  constructor
  · unfold cutL
    rw [hr, List.length_append, List.length_map, tail_len, show ((((runes p).length + 3 : Nat) : Int) - 3).toNat = (runes p).length by omega, List.take_left', cat_runes]
    rfl
  · rw [List.drop_left', runes_ascii _ (fun b hb => (tail_bytes h2 b hb).2)]
    rfl
theorem cut_no {l : List UInt8} (h : prodB (cutL l (((runes l).length : Int) - 3)) = false) : parseO l = none := by
  cases hp : parseO l with
  | none => rfl
  | some x =>
    obtain ⟨p, m⟩ := x
    have hc := code_of hp
    rw [(code_runes hc).1, hc.1] at h
    cases h
theorem cut_yes {l : List UInt8} (h : prodB (cutL l (((runes l).length : Int) - 3)) = true) : ∃ a b c xa xb xc, 
    runes (l.drop (cutL l (((runes l).length : Int) - 3)).length) = [(a, xa), (b, xb), (c, xc)] ∧ parseO l = (readO a b c).map (fun m => (cutL l (((runes l).length : Int) - 3), m)) := by
  have h4 : 4 ≤ (runes l).length := by
    apply Decidable.byContradiction
    intro hn
    rw [cutL_neg l (by omega)] at h
    rw [prodB_nil] at h; cases h
  have ha := at_cat l ((runes l).length - 3) (by omega)
  have hcut : cutL l (((runes l).length : Int) - 3) = cat ((runes l).take ((runes l).length - 3)) := by
    unfold cutL; rw [show (((runes l).length : Int) - 3).toNat = (runes l).length - 3 by omega]
  have hd := ha.2.2.1
  rw [← hcut] at hd
  have hlen : ((runes l).drop ((runes l).length - 3)).length = 3 := by rw [List.length_drop]; omega
  have ht := ha.2.2.2
  rw [← hcut] at ht
  obtain ⟨pa, pb, pc, e3⟩ : ∃ pa pb pc, (runes l).drop ((runes l).length - 3) = [pa, pb, pc] := by
    match hq : (runes l).drop ((runes l).length - 3), hlen with
    | [pa, pb, pc], _ => exact ⟨pa, pb, pc, rfl⟩
  rw [e3] at hd
  obtain ⟨a, xa⟩ := pa
  obtain ⟨b, xb⟩ := pb
  obtain ⟨c, xc⟩ := pc
  refine ⟨a, b, c, xa, xb, xc, hd, ?_⟩
  have hall := piece_ascii (l.drop (cutL l (((runes l).length : Int) - 3)).length)
  have hcat := cat_runes (l.drop (cutL l (((runes l).length : Int) - 3)).length)
  rw [hd] at hall hcat
  have hjoin : cutL l (((runes l).length : Int) - 3) ++ l.drop (cutL l (((runes l).length : Int) - 3)).length = l := by
    have := List.take_append_drop (cutL l (((runes l).length : Int) - 3)).length l
    rw [← ht] at this
    exact this
  cases hr : readO a b c with
  | some m =>
    obtain ⟨i, h1, h2, h3, em⟩ := readO_some hr
    obtain ⟨h5, h6⟩ := idx_some h1
    have h7 := letters_big i h5
    have h2 := dig_yes h2
    have h3 := dig_yes h3
    obtain ⟨ba, ea, na⟩ := (hall (a, xa) (by simp)).1 (show a < 128 by omega)
    obtain ⟨bb, eb, nb⟩ := (hall (b, xb) (by simp)).1 (show b < 128 by omega)
    obtain ⟨bc, ec, nc⟩ := (hall (c, xc) (by simp)).1 (show c < 128 by omega)
    simp only at ea eb ec na nb nc
    have hl : l.drop (cutL l (((runes l).length : Int) - 3)).length = [ba, bb, bc] := by
      rw [← hcat, ea, eb, ec]; rfl
    rw [← na, ← nb, ← nc] at hr
    obtain ⟨h8, h9⟩ := readO_bytes hr
    refine parseO_code ⟨h, h8, ?_⟩
    rw [← h9, ← hl, hjoin]
  | none =>
    cases hp : parseO l with
    | none => rfl
    | some x =>
      exfalso
      obtain ⟨p, m⟩ := x
      have hc := code_of hp
      obtain ⟨h1, h2⟩ := code_runes hc
      rw [h1, h2] at hd
      have hm := readO_tail hc.2.1
      simp only [tail, List.map_cons, List.map_nil, List.cons.injEq, Prod.mk.injEq, and_true] at hd
      obtain ⟨⟨e1, _⟩, ⟨e2, _⟩, ⟨e3, _⟩⟩ := hd
      rw [e1, e2, e3, hr] at hm
      cases hm
end Go.Proofs.Ytdeofifidjbolaa
namespace Go.Proofs.Ytdeofifidjbolaa
open Go.RowKit
set_option linter.unusedVariables false
set_option linter.unusedSimpArgs false

set_option maxRecDepth 100000 in
theorem SAllowed_val (r : Nat) (b : Bool) (w : World) (h : r ≤ 2147483647) (hb : okS r = b) : Calls Try.prog 70 #[.int .i32 r] w fun e w' => e = .returned (.bool b) ∧ w' = w := by
  cases b
  · rcases okS_ways hb with h1 | ⟨h1, h2⟩ | h1 | h1
    · clear hb
      go_enter Try.func70, Try.ntmps70
      go_wp2
      go_ret
      exact ⟨rfl, rfl⟩
    · clear hb
      go_enter Try.func70, Try.ntmps70
      go_wp2
      go_ret
      exact ⟨rfl, rfl⟩
    · clear hb
      go_enter Try.func70, Try.ntmps70
      go_wp2
      go_ret
      exact ⟨rfl, rfl⟩
    · clear hb
      subst h1
      go_enter Try.func70, Try.ntmps70
      go_wp2
      go_ret
      exact ⟨rfl, rfl⟩
  · rcases okS_yes hb with ⟨h1, h2⟩ | ⟨h1, h2, h3⟩
    · clear hb
      go_enter Try.func70, Try.ntmps70
      go_wp2
      go_ret
      exact ⟨rfl, rfl⟩
    · clear hb
      have h4 : ((r : Int) != 930) = true := by simp; omega
      clear h3
      go_enter Try.func70, Try.ntmps70
      go_wp2
      go_ret
      exact ⟨rfl, rfl⟩

set_option maxRecDepth 100000 in
set_option maxHeartbeats 1000000 in
theorem Product_any (l : List UInt8) (w : World) :
    Calls Try.prog 56 #[.string (str l)] w fun e w' => e = .returned (.bool (prodB l)) ∧ Below w.heap.size w w' := by
  go_enter Try.func56, Try.ntmps56
  go_wp2
  go_loopw [3] (fun c wr => ∃ k pos : Nat, k ≤ 4 ∧ c = .int .i64 k ∧ Hid (At l k pos) ∧ OkS l k ∧ wr = w.iter (str l) pos) (fun _ wr => l.length - wr.iterPos w.heap.size)
  case atStart => exact ⟨0, 0, by omega, rfl, Lib.hid (at_zero l), okS_zero l, rfl⟩
  case round =>
    obtain ⟨k, pos, hk, rfl, ha, hok, rfl⟩ := hrel
    by_cases hp : pos < l.length
    · obtain ⟨r, d, hnx, _, hd, hpd, hkl, hg, ha2, hr⟩ := at_step ha.out hp
      have ha2 := Lib.hid ha2
      have hn := hnx w
      have hg := Lib.hid hg
      have hok := Lib.hid hok
      clear hnx
      by_cases h4 : k < 4
      · cases hb : okS r
        · have hbad := Lib.hid (prodB_bad hg.out hb)
          have hb := Lib.hid hb
          have hd1 : decide (4 < (k : Int) + 1) = false := decide_eq_false (by omega)
          go_wp2_with (go_at_call 70; refine (SAllowed_val r false _ hr hb.out).mono ?_; rintro e w' ⟨rfl, rfl⟩)
          go_ret
          exact ⟨ret_b (by rw [hbad.out]), below_iter _ _ _⟩
        · have hok2 := Lib.hid (okS_next hok.out hg.out hb)
          have hb := Lib.hid hb
          have hd1 : decide (4 < (k : Int) + 1) = false := decide_eq_false (by omega)
          go_wp2_with (go_at_call 70; refine (SAllowed_val r true _ hr hb.out).mono ?_; rintro e w' ⟨rfl, rfl⟩)
          go_roundw
          case rel => exact ⟨k + 1, pos + d, by omega, by go_num, ha2, hok2.out, rfl⟩
          case measure => simp only [World.iterPos_iter]; omega
      · have hlong := Lib.hid (prodB_long (l := l) (by omega))
        have hd1 : decide (4 < (k : Int) + 1) = true := decide_eq_true (by omega)
        go_wp2_with fail
        go_ret
        exact ⟨ret_b (by rw [hlong.out]), below_iter _ _ _⟩
    · have hn := (at_stop hp).1 w
      have he := Lib.hid (at_end ha.out hp).2
      have hend := Lib.hid (prodB_end (l := l) (by rw [← he.out]; exact hok) (by rw [← he.out]; exact hk))
      clear hok
      go_wp2
      go_ret
      refine ⟨ret_b ?_, below_iter _ _ _⟩
      rw [hend.out, ← he.out]
      exact decide_eq_decide.2 (by omega)

set_option maxRecDepth 100000 in
set_option maxHeartbeats 1000000 in
theorem RefProduct_any (l : List UInt8) (w : World) (hs : l.length ≤ 140737488355328) :
    Calls Try.prog 63 #[.string (str l)] w fun e w' => e = .returned (.bool (prodB l)) ∧ Below w.heap.size w w' := by
  have fl := fits hs
  go_enter Try.func63, Try.ntmps63
  go_wp2
  go_loopw [3] (fun c wr => ∃ k pos : Nat, k ≤ 140737488355328 ∧ c = .int .i64 k ∧ Hid (At l k pos) ∧ OkS l k ∧ wr = w.iter (str l) pos) (fun _ wr => l.length - wr.iterPos w.heap.size)
  case atStart => exact ⟨0, 0, by omega, rfl, Lib.hid (at_zero l), okS_zero l, rfl⟩
  case round =>
    obtain ⟨k, pos, hk, rfl, ha, hok, rfl⟩ := hrel
    by_cases hp : pos < l.length
    · obtain ⟨r, d, hnx, _, hd, hpd, hkl, hg, ha2, hr⟩ := at_step ha.out hp
      have ha2 := Lib.hid ha2
      have hn := hnx w
      have hg := Lib.hid hg
      have hok := Lib.hid hok
      clear hnx
      cases hb : okS r
      · have hbad := Lib.hid (prodB_bad hg.out hb)
        rcases okS_ways hb with h1 | ⟨h1, h2⟩ | h1 | h1
        · clear hb
          have t1 : decide (65 ≤ (r : Int)) = false := decide_eq_false (by omega)
          have t3 : decide (913 ≤ (r : Int)) = false := decide_eq_false (by omega)
          clear h1
          go_wp2_with fail
          go_ret
          exact ⟨ret_b (by rw [hbad.out]), below_iter _ _ _⟩
        · clear hb
          have t1 : decide (65 ≤ (r : Int)) = true := decide_eq_true (by omega)
          have t2 : decide ((r : Int) ≤ 90) = false := decide_eq_false (by omega)
          have t3 : decide (913 ≤ (r : Int)) = false := decide_eq_false (by omega)
          clear h1 h2
          go_wp2_with fail
          go_ret
          exact ⟨ret_b (by rw [hbad.out]), below_iter _ _ _⟩
        · clear hb
          have t1 : decide (65 ≤ (r : Int)) = true := decide_eq_true (by omega)
          have t2 : decide ((r : Int) ≤ 90) = false := decide_eq_false (by omega)
          have t3 : decide (913 ≤ (r : Int)) = true := decide_eq_true (by omega)
          have t4 : decide ((r : Int) ≤ 937) = false := decide_eq_false (by omega)
          clear h1
          go_wp2_with fail
          go_ret
          exact ⟨ret_b (by rw [hbad.out]), below_iter _ _ _⟩
        · clear hb
          have t1 : decide (65 ≤ (r : Int)) = true := decide_eq_true (by omega)
          have t2 : decide ((r : Int) ≤ 90) = false := decide_eq_false (by omega)
          have t3 : decide (913 ≤ (r : Int)) = true := decide_eq_true (by omega)
          have t4 : decide ((r : Int) ≤ 937) = true := decide_eq_true (by omega)
          have t5 : ((r : Int) != 930) = false := by simp; omega
          clear h1
          go_wp2_with fail
          go_ret
          exact ⟨ret_b (by rw [hbad.out]), below_iter _ _ _⟩
      · have hok2 := Lib.hid (okS_next hok.out hg.out hb)
        rcases okS_yes hb with ⟨h1, h2⟩ | ⟨h1, h2, h3⟩
        · clear hb
          have t1 : decide (65 ≤ (r : Int)) = true := decide_eq_true (by omega)
          have t2 : decide ((r : Int) ≤ 90) = true := decide_eq_true (by omega)
          clear h1 h2
          go_wp2_with fail
          go_roundw
          case rel => exact ⟨k + 1, pos + d, by omega, by go_num, ha2, hok2.out, rfl⟩
          case measure => simp only [World.iterPos_iter]; omega
        · clear hb
          have t1 : decide (65 ≤ (r : Int)) = true := decide_eq_true (by omega)
          have t2 : decide ((r : Int) ≤ 90) = false := decide_eq_false (by omega)
          have t3 : decide (913 ≤ (r : Int)) = true := decide_eq_true (by omega)
          have t4 : decide ((r : Int) ≤ 937) = true := decide_eq_true (by omega)
          have t5 : ((r : Int) != 930) = true := by simp; omega
          clear h1 h2 h3
          go_wp2_with fail
          go_roundw
          case rel => exact ⟨k + 1, pos + d, by omega, by go_num, ha2, hok2.out, rfl⟩
          case measure => simp only [World.iterPos_iter]; omega
    · have hn := (at_stop hp).1 w
      have he := Lib.hid (at_end ha.out hp).2
      have hend := Lib.hid (prodB_end2 (l := l) (by rw [← he.out]; exact hok))
      clear hok
      by_cases h1 : 1 ≤ k
      · have hd1 : decide (1 ≤ (k : Int)) = true := decide_eq_true (by omega)
        go_wp2
        go_ret
        refine ⟨ret_b ?_, below_iter _ _ _⟩
        rw [← hend.out, ← he.out, if_pos (by omega)]
      · have hd1 : decide (1 ≤ (k : Int)) = false := decide_eq_false (by omega)
        go_wp2
        go_ret
        refine ⟨ret_b ?_, below_iter _ _ _⟩
        rw [← hend.out, ← he.out, if_neg (by omega)]

end Go.Proofs.Ytdeofifidjbolaa
namespace Go.Proofs.Ytdeofifidjbolaa
open Go.RowKit
set_option linter.unusedVariables false
set_option linter.unusedSimpArgs false

structure PD where
  code : List UInt8
  A1 : Option Addr
  n1 : Nat
  c1 : Nat
  tick : Int
  low : Int
  high : Int
  wide : Int
  rule : Int
  top : Int
  least : Int
  part : Int
  A2 : Option Addr
  n2 : Nat
  c2 : Nat
  Q : Nat → Int
  R : Nat → Int
def PD.cells (p : PD) : Array Value := #[.string (str p.code), .slice p.A1 p.n1 p.c1, .int .i64 p.tick, .int .i64 p.low, .int .i64 p.high, .int .i64 p.wide, .int .i64 p.rule, .int .i64 p.top, .int .i64 p.least, .int .i64 p.part, .slice p.A2 p.n2 p.c2]
def PD.val (p : PD) : Value := .agg p.cells
/-- Number i of a slice of numbers. -/
def Nums (w : World) (a : Option Addr) (len : Nat) (N : Nat → Int) : Prop :=
  ∀ i, i < len → ∃ b off, a = some ⟨b, off, none⟩ ∧ w.cell? ⟨b, off + i, none⟩ = some (.int .i64 (N i)) ∧ -9223372036854775808 ≤ N i ∧ N i ≤ 9223372036854775807
theorem Nums.below {w w' : World} {a : Option Addr} {len : Nat} {N : Nat → Int} (h : Nums w a len N) (hb : Below w.heap.size w w') : Nums w' a len N := by
  intro i hi
  obtain ⟨b, off, e, h1, h4⟩ := h i hi
  exact ⟨b, off, e, (hb.cell (p := ⟨b, off + i, none⟩) (World.block_lt_of_cell? w _ h1)).trans h1, h4⟩
structure PD.Ok (p : PD) (w : World) : Prop where
  months : Nums w p.A1 p.n1 p.Q
  settle : Nums w p.A2 p.n2 p.R
  code : p.code.length ≤ 140737488355328
  l1 : p.n1 ≤ p.c1
  m1 : p.c1 ≤ 9223372036854775807
  l2 : p.n2 ≤ p.c2
  m2 : p.c2 ≤ 9223372036854775807
  tick : I64 p.tick
  low : I64 p.low
  high : I64 p.high
  wide : I64 p.wide
  rule : I64 p.rule
  top : I64 p.top
  least : I64 p.least
  part : I64 p.part
theorem PD.Ok.below {p : PD} {w w' : World} (h : p.Ok w) (hb : Below w.heap.size w w') : p.Ok w' := ⟨h.months.below hb, h.settle.below hb, h.code, h.l1, h.m1, h.l2, h.m2, h.tick, h.low, h.high, h.wide, h.rule, h.top, h.least, h.part⟩

/-- What Check answers, stage by stage. -/
def okM (Q : Nat → Int) (i : Nat) : Prop := 0 ≤ Q i ∧ Q i ≤ 1199 ∧ (0 < i → Q (i - 1) < Q i)
instance (Q : Nat → Int) (i : Nat) : Decidable (okM Q i) := by unfold okM; infer_instance
def chk9 (p : PD) : Nat := if p.top < 0 ∨ 1000000 < p.top ∨ p.least < 1 ∨ 1000 < p.least ∨ p.part < 0 ∨ 100 < p.part then 24 else 0
def chk8 (p : PD) : Nat := if p.rule < 1 ∨ 3 < p.rule then 31 else chk9 p
def chk7 (p : PD) : Nat := if (∀ i, i < p.n2 → p.low ≤ p.R i ∧ p.R i ≤ p.high) then chk8 p else 1
def chk6 (p : PD) : Nat := if p.n2 ≠ p.n1 then 1 else chk7 p
def chk5 (p : PD) : Nat := if p.low < -1000000 ∨ p.high ≤ p.low ∨ 1000000 < p.high ∨ p.wide < 0 ∨ p.high - p.low < p.wide then 23 else chk6 p
def chk4 (p : PD) : Nat := if (∀ i, i < p.n2 → (p.R i).tmod p.tick = 0) then chk5 p else 22
def chk3 (p : PD) : Nat := if p.tick < 1 ∨ 1000 < p.tick ∨ p.low.tmod p.tick ≠ 0 ∨ p.high.tmod p.tick ≠ 0 ∨ p.wide.tmod p.tick ≠ 0 then 22 else chk4 p
def chk2 (p : PD) : Nat := if (∀ i, i < p.n1 → okM p.Q i) then chk3 p else 1
def chk1 (p : PD) : Nat := if p.n1 < 2 ∨ 6 < p.n1 then 1 else chk2 p
def chk (p : PD) : Nat := if prodB p.code = false then 12 else chk1 p
/-- The stages, each by a letter. -/
theorem chk_chain (p : PD) : ∃ e1 e2 e3 e4 e5 e6 e7 e8 e9 : Nat, ((prodB p.code = false → chk p = 12) ∧ (prodB p.code = true → chk p = e1)) ∧
    ((p.n1 < 2 ∨ 6 < p.n1 → e1 = 1) ∧ (¬ (p.n1 < 2 ∨ 6 < p.n1) → e1 = e2)) ∧
    ((¬ (∀ i, i < p.n1 → okM p.Q i) → e2 = 1) ∧ ((∀ i, i < p.n1 → okM p.Q i) → e2 = e3)) ∧
    ((p.tick < 1 ∨ 1000 < p.tick ∨ p.low.tmod p.tick ≠ 0 ∨ p.high.tmod p.tick ≠ 0 ∨ p.wide.tmod p.tick ≠ 0 → e3 = 22) ∧ (¬ (p.tick < 1 ∨ 1000 < p.tick ∨ p.low.tmod p.tick ≠ 0 ∨ p.high.tmod p.tick ≠ 0 ∨ p.wide.tmod p.tick ≠ 0) → e3 = e4)) ∧
    ((¬ (∀ i, i < p.n2 → (p.R i).tmod p.tick = 0) → e4 = 22) ∧ ((∀ i, i < p.n2 → (p.R i).tmod p.tick = 0) → e4 = e5)) ∧
    ((p.low < -1000000 ∨ p.high ≤ p.low ∨ 1000000 < p.high ∨ p.wide < 0 ∨ p.high - p.low < p.wide → e5 = 23) ∧ (¬ (p.low < -1000000 ∨ p.high ≤ p.low ∨ 1000000 < p.high ∨ p.wide < 0 ∨ p.high - p.low < p.wide) → e5 = e6)) ∧
    ((p.n2 ≠ p.n1 → e6 = 1) ∧ (¬ (p.n2 ≠ p.n1) → e6 = e7)) ∧
    ((¬ (∀ i, i < p.n2 → p.low ≤ p.R i ∧ p.R i ≤ p.high) → e7 = 1) ∧ ((∀ i, i < p.n2 → p.low ≤ p.R i ∧ p.R i ≤ p.high) → e7 = e8)) ∧
    ((p.rule < 1 ∨ 3 < p.rule → e8 = 31) ∧ (¬ (p.rule < 1 ∨ 3 < p.rule) → e8 = e9)) ∧
    ((p.top < 0 ∨ 1000000 < p.top ∨ p.least < 1 ∨ 1000 < p.least ∨ p.part < 0 ∨ 100 < p.part → e9 = 24) ∧ (¬ (p.top < 0 ∨ 1000000 < p.top ∨ p.least < 1 ∨ 1000 < p.least ∨ p.part < 0 ∨ 100 < p.part) → e9 = 0)) :=
  ⟨chk1 p, chk2 p, chk3 p, chk4 p, chk5 p, chk6 p, chk7 p, chk8 p, chk9 p,
    ⟨fun h => if_pos h, fun h => if_neg (by rw [h]; decide)⟩,
    ⟨fun h => if_pos h, fun h => if_neg h⟩,
    ⟨fun h => if_neg h, fun h => if_pos h⟩,
    ⟨fun h => if_pos h, fun h => if_neg h⟩,
    ⟨fun h => if_neg h, fun h => if_pos h⟩,
    ⟨fun h => if_pos h, fun h => if_neg h⟩,
    ⟨fun h => if_pos h, fun h => if_neg h⟩,
    ⟨fun h => if_neg h, fun h => if_pos h⟩,
    ⟨fun h => if_pos h, fun h => if_neg h⟩,
    ⟨fun h => if_pos h, fun h => if_neg h⟩⟩
end Go.Proofs.Ytdeofifidjbolaa
namespace Go.Proofs.Ytdeofifidjbolaa
open Go.RowKit
set_option linter.unusedVariables false
set_option linter.unusedSimpArgs false

/-- A number brought into 0 .. m. -/
def withinN (n : Int) (m : Nat) : Nat := (n % ((m : Int) + 1)).toNat
theorem withinN_le (n : Int) (m : Nat) : withinN n m ≤ m := by
  have := Int.emod_lt_of_pos n (show (0 : Int) < (m : Int) + 1 by omega)
  unfold withinN; omega
theorem withinN_pos {n : Int} {m : Nat} (h : 0 ≤ n) : ((withinN n m : Nat) : Int) = n % ((m : Int) + 1) := by
  have := Int.emod_nonneg n (show (m : Int) + 1 ≠ 0 by omega)
  unfold withinN; omega

set_option maxRecDepth 100000 in
theorem Within_pos (n : Int) (m : Nat) (w : World) (hm : m ≤ 140737488355328) (h0 : 0 ≤ n) (h1 : n ≤ 9223372036854775807) :
    Calls Try.prog 19 #[.int .i64 n, .int .i64 0, .int .i64 m] w fun e w' => e = .returned (.int .i64 (withinN n m)) ∧ w' = w := by
  have hj := withinN_pos (m := m) h0
  have hb := withinN_le n m
  obtain ⟨j, ej⟩ : ∃ j, withinN n m = j := ⟨_, rfl⟩
  rw [ej] at hj hb ⊢
  have hj2 := hj.symm
  clear ej hj
  go_enter Try.func19, Try.ntmps19
  go_wp2
  go_ret
  exact ⟨rfl, rfl⟩
theorem wmod_neg {n : Int} {m : Nat} (h : n < 0) : ∃ a : Nat, n.tmod ((m : Int) + 1) = -(a : Int) ∧ ((a = 0 ∧ withinN n m = 0) ∨ (0 < a ∧ a ≤ m ∧ ((withinN n m : Nat) : Int) = -(a : Int) + (m : Int) + 1)) := by
  have e1 : n.tmod ((m : Int) + 1) = -((-n) % ((m : Int) + 1)) := by
    rw [← Int.tmod_eq_emod_of_nonneg (by omega : 0 ≤ -n), Int.neg_tmod]; omega
  have e2 := Int.emod_nonneg (-n) (show (m : Int) + 1 ≠ 0 by omega)
  have e3 := Int.emod_lt_of_pos (-n) (show (0 : Int) < (m : Int) + 1 by omega)
  have f2 := Int.emod_nonneg n (show (m : Int) + 1 ≠ 0 by omega)
  have f3 := Int.emod_lt_of_pos n (show (0 : Int) < (m : Int) + 1 by omega)
  have d1 := Int.emod_add_mul_ediv (-n) ((m : Int) + 1)
  have d2 := Int.emod_add_mul_ediv n ((m : Int) + 1)
  refine ⟨((-n) % ((m : Int) + 1)).toNat, by rw [e1]; omega, ?_⟩
  have hs : (n % ((m : Int) + 1) + (-n) % ((m : Int) + 1)) = 0 ∨ (n % ((m : Int) + 1) + (-n) % ((m : Int) + 1)) = (m : Int) + 1 := by
    generalize hx : n % ((m : Int) + 1) = x at *
    generalize hy : (-n) % ((m : Int) + 1) = y at *
    generalize hp : n / ((m : Int) + 1) = p at *
    generalize hq : (-n) / ((m : Int) + 1) = q at *
    have hsum : x + y = -(((m : Int) + 1) * (p + q)) := by rw [Int.mul_add]; omega
    have h1 : x + y < 2 * ((m : Int) + 1) := by omega
    rcases Int.lt_trichotomy (p + q) 0 with h4 | h4 | h4
    · rcases (show p + q < -1 ∨ -1 ≤ p + q by omega) with h5 | h5
      · exfalso
        have := Int.mul_le_mul_of_nonneg_left (show p + q ≤ -2 by omega) (show (0 : Int) ≤ (m : Int) + 1 by omega)
        omega
      · have : p + q = -1 := by omega
        rw [this] at hsum
        right; omega
    · rw [h4] at hsum; left; omega
    · exfalso
      have := Int.mul_le_mul_of_nonneg_left (show 1 ≤ p + q by omega) (show (0 : Int) ≤ (m : Int) + 1 by omega)
      omega
  unfold withinN
  omega
set_option maxRecDepth 100000 in
theorem Within_neg (n : Int) (m : Nat) (w : World) (hm : m ≤ 140737488355328) (h0 : n < 0) (h1 : -9223372036854775808 ≤ n) :
    Calls Try.prog 19 #[.int .i64 n, .int .i64 0, .int .i64 m] w fun e w' => e = .returned (.int .i64 (withinN n m)) ∧ w' = w := by
  have hb := withinN_le n m
  obtain ⟨a, ea, hc⟩ := wmod_neg (m := m) h0
  obtain ⟨j, ej⟩ : ∃ j, withinN n m = j := ⟨_, rfl⟩
  rw [ej] at hc hb ⊢
  clear ej
  rcases hc with ⟨rfl, rfl⟩ | ⟨ha, ham, hj⟩
  · go_enter Try.func19, Try.ntmps19
    go_wp2
    go_ret
    exact ⟨rfl, rfl⟩
  · have Hj := Lib.hid hj
    have hd : decide (-(a : Int) < 0) = true := decide_eq_true (by omega)
    clear hj hb
    go_enter Try.func19, Try.ntmps19
    go_wp2
    go_ret
    exact ⟨by rw [Hj.out]; rfl, rfl⟩
theorem Within_any (n : Int) (m : Nat) (w : World) (hm : m ≤ 140737488355328) (h1 : -9223372036854775808 ≤ n) (h2 : n ≤ 9223372036854775807) :
    Calls Try.prog 19 #[.int .i64 n, .int .i64 0, .int .i64 m] w fun e w' => e = .returned (.int .i64 (withinN n m)) ∧ w' = w := by
  by_cases h : 0 ≤ n
  · exact Within_pos n m w hm h h2
  · exact Within_neg n m w hm (by omega) h1

set_option maxRecDepth 100000 in
theorem Head_any (l : List UInt8) (k : Nat) (w : World) (hk : k ≤ 140737488355328) :
    Calls Try.prog 35 #[.string (str l), .int .i64 k] w fun e w' => e = .returned (.string (str (l.take k))) ∧ w' = w := by
  by_cases h : k < l.length
  · have hz : (k : Int) < ((str l).size : Int) := by rw [str_size]; omega
    have hz2 : k ≤ (str l).size := by rw [str_size]; omega
    have hz3 : k < (str l).size := by rw [str_size]; omega
    go_enter Try.func35, Try.ntmps35
    go_wp2
    go_ret
    refine ⟨?_, rfl⟩
    have e : (str l).extract 0 k = str (l.take k) := by rw [show (str l).extract 0 k = str ((l.drop 0).take (k - 0)) from ByteArray.extract_mk l 0 k]; simp
    rw [← e]
    rfl
  · have hz : ¬ (k : Int) < ((str l).size : Int) := by rw [str_size]; omega
    have hz3 : ¬ k < (str l).size := by rw [str_size]; omega
    have ht := Lib.hid (show l.take k = l from List.take_of_length_le (by omega))
    go_enter Try.func35, Try.ntmps35
    go_wp2
    go_ret
    exact ⟨by rw [ht.out]; rfl, rfl⟩

end Go.Proofs.Ytdeofifidjbolaa
namespace Go.Proofs.Ytdeofifidjbolaa
open Go.RowKit
set_option linter.unusedVariables false
set_option linter.unusedSimpArgs false
structure PD.Fit (p : PD) (w : World) : Prop where
  months : Nums w p.A1 p.n1 p.Q
  settle : Nums w p.A2 p.n2 p.R
  l1 : p.n1 ≤ p.c1
  m1 : p.c1 ≤ 9223372036854775807
  l2 : p.n2 ≤ p.c2
  m2 : p.c2 ≤ 9223372036854775807
  tick : I64 p.tick
  low : I64 p.low
  high : I64 p.high
  wide : I64 p.wide
  rule : I64 p.rule
  top : I64 p.top
  least : I64 p.least
  part : I64 p.part
theorem PD.Fit.below {p : PD} {w w' : World} (h : p.Fit w) (hb : Below w.heap.size w w') : p.Fit w' := ⟨h.months.below hb, h.settle.below hb, h.l1, h.m1, h.l2, h.m2, h.tick, h.low, h.high, h.wide, h.rule, h.top, h.least, h.part⟩
theorem PD.Ok.fit {p : PD} {w : World} (h : p.Ok w) : p.Fit w := ⟨h.months, h.settle, h.l1, h.m1, h.l2, h.m2, h.tick, h.low, h.high, h.wide, h.rule, h.top, h.least, h.part⟩
end Go.Proofs.Ytdeofifidjbolaa
namespace Go.Proofs.Ytdeofifidjbolaa
open Go.RowKit
set_option linter.unusedVariables false
set_option linter.unusedSimpArgs false

/-- A product that is not too large. -/
def PD.short (p : PD) : PD := { p with code := p.code.take 20, n1 := if 8 < p.n1 then 8 else p.n1, n2 := if 8 < p.n2 then 8 else p.n2 }
theorem PD.Fit.short {p : PD} {w : World} (h : p.Fit w) : p.short.Ok w := by
  have a1 : (if 8 < p.n1 then 8 else p.n1) ≤ p.n1 := by split <;> omega
  have a2 : (if 8 < p.n2 then 8 else p.n2) ≤ p.n2 := by split <;> omega
  exact ⟨fun i hi => h.months i (Nat.lt_of_lt_of_le hi a1), fun i hi => h.settle i (Nat.lt_of_lt_of_le hi a2), by show (p.code.take 20).length ≤ _; rw [List.length_take]; omega,
    Nat.le_trans a1 h.l1, h.m1, Nat.le_trans a2 h.l2, h.m2, h.tick, h.low, h.high, h.wide, h.rule, h.top, h.least, h.part⟩

set_option maxRecDepth 100000 in
set_option maxHeartbeats 1600000 in
theorem Short_any (p : PD) (w : World) (h : Hid (p.Fit w)) :
    Calls Try.prog 16 #[p.val] w fun e w' => e = .returned p.short.val ∧ Below w.heap.size w w' := by
  have N1 := h.out.months
  have N2 := h.out.settle
  have l1 := h.out.l1
  have m1 := h.out.m1
  have l2 := h.out.l2
  have m2 := h.out.m2
  clear h
  obtain ⟨code, A1, n1, c1, tick, low, high, wide, rule, top, least, part, A2, n2, c2, Q, R⟩ := p
  simp only at N1 N2 l1 m1 l2 m2
  show Calls Try.prog 16 #[.agg #[.string (str code), .slice A1 n1 c1, .int .i64 tick, .int .i64 low, .int .i64 high, .int .i64 wide, .int .i64 rule, .int .i64 top, .int .i64 least, .int .i64 part, .slice A2 n2 c2]] w fun e w' => e = .returned (.agg #[.string (str (code.take 20)), .slice A1 (if 8 < n1 then 8 else n1) c1, .int .i64 tick, .int .i64 low, .int .i64 high, .int .i64 wide, .int .i64 rule, .int .i64 top, .int .i64 least, .int .i64 part, .slice A2 (if 8 < n2 then 8 else n2) c2]) ∧ Below w.heap.size w w'
  by_cases g1 : 8 < n1 <;> by_cases g2 : 8 < n2
  · rw [if_pos g1]
    obtain ⟨b1, o1, rfl, -, -, -⟩ := N1 0 (by omega)
    have d1 : decide ((8 : Int) < (n1 : Int)) = true := decide_eq_true (by omega)
    have q1 : 8 ≤ c1 := by omega
    rw [if_pos g2]
    obtain ⟨b2, o2, rfl, -, -, -⟩ := N2 0 (by omega)
    have d2 : decide ((8 : Int) < (n2 : Int)) = true := decide_eq_true (by omega)
    have q2 : 8 ≤ c2 := by omega
    clear g1 N1 g2 N2
    go_enter Try.func16, Try.ntmps16
    go_wp2_with fail
    refine (Head_any code 20 _ (by omega)).mono ?_
    rintro e w1 ⟨rfl, rfl⟩
    go_wp2_with fail
    (try simp only [Exit.inBlock, Exit.then])
    refine bodyPost_ret (results_cell_row rfl _ _ (w.heap.size + 1) 25 _ (0, 0) _ rfl (heap_alloc2_new w _ _) rfl rfl rfl) rfl ?_
    exact ⟨rfl, ((Below.refl _ w).alloc (Nat.le_refl _) _).alloc (by simp) _⟩
  · rw [if_pos g1]
    obtain ⟨b1, o1, rfl, -, -, -⟩ := N1 0 (by omega)
    have d1 : decide ((8 : Int) < (n1 : Int)) = true := decide_eq_true (by omega)
    have q1 : 8 ≤ c1 := by omega
    rw [if_neg g2]
    have d2 : decide ((8 : Int) < (n2 : Int)) = false := decide_eq_false (by omega)
    clear g1 N1 g2 N2
    go_enter Try.func16, Try.ntmps16
    go_wp2_with fail
    refine (Head_any code 20 _ (by omega)).mono ?_
    rintro e w1 ⟨rfl, rfl⟩
    go_wp2_with fail
    (try simp only [Exit.inBlock, Exit.then])
    refine bodyPost_ret (results_cell_row rfl _ _ (w.heap.size + 1) 25 _ (0, 0) _ rfl (heap_alloc2_new w _ _) rfl rfl rfl) rfl ?_
    exact ⟨rfl, ((Below.refl _ w).alloc (Nat.le_refl _) _).alloc (by simp) _⟩
  · rw [if_neg g1]
    have d1 : decide ((8 : Int) < (n1 : Int)) = false := decide_eq_false (by omega)
    rw [if_pos g2]
    obtain ⟨b2, o2, rfl, -, -, -⟩ := N2 0 (by omega)
    have d2 : decide ((8 : Int) < (n2 : Int)) = true := decide_eq_true (by omega)
    have q2 : 8 ≤ c2 := by omega
    clear g1 N1 g2 N2
    go_enter Try.func16, Try.ntmps16
    go_wp2_with fail
    refine (Head_any code 20 _ (by omega)).mono ?_
    rintro e w1 ⟨rfl, rfl⟩
    go_wp2_with fail
    (try simp only [Exit.inBlock, Exit.then])
    refine bodyPost_ret (results_cell_row rfl _ _ (w.heap.size + 1) 25 _ (0, 0) _ rfl (heap_alloc2_new w _ _) rfl rfl rfl) rfl ?_
    exact ⟨rfl, ((Below.refl _ w).alloc (Nat.le_refl _) _).alloc (by simp) _⟩
  · rw [if_neg g1]
    have d1 : decide ((8 : Int) < (n1 : Int)) = false := decide_eq_false (by omega)
    rw [if_neg g2]
    have d2 : decide ((8 : Int) < (n2 : Int)) = false := decide_eq_false (by omega)
    clear g1 N1 g2 N2
    go_enter Try.func16, Try.ntmps16
    go_wp2_with fail
    refine (Head_any code 20 _ (by omega)).mono ?_
    rintro e w1 ⟨rfl, rfl⟩
    go_wp2_with fail
    (try simp only [Exit.inBlock, Exit.then])
    refine bodyPost_ret (results_cell_row rfl _ _ (w.heap.size + 1) 25 _ (0, 0) _ rfl (heap_alloc2_new w _ _) rfl rfl rfl) rfl ?_
    exact ⟨rfl, ((Below.refl _ w).alloc (Nat.le_refl _) _).alloc (by simp) _⟩
end Go.Proofs.Ytdeofifidjbolaa
namespace Go.Proofs.Ytdeofifidjbolaa
open Go.RowKit
set_option linter.unusedVariables false
set_option linter.unusedSimpArgs false

def Q3 (i : Nat) : Int := if i = 0 then 320 else if i = 1 then 321 else 323
def R3 (i : Nat) : Int := if i = 0 then 500 else if i = 1 then 505 else 490
set_option maxRecDepth 100000 in
set_option maxHeartbeats 1600000 in
theorem Three_any (r : Nat) (hr : r ≤ 1000) (w : World) :
    Calls Try.prog 10 #[.int .i64 r] w fun e w' => ∃ a1 a2 : Nat, e = .returned (PD.val ⟨[67, 76], some ⟨a1, 0, none⟩, 3, 3, 5, 0, 1000, 200, r, 4, 2, 40, some ⟨a2, 0, none⟩, 3, 3, Q3, R3⟩) ∧
      Nums w' (some ⟨a1, 0, none⟩) 3 Q3 ∧ Nums w' (some ⟨a2, 0, none⟩) 3 R3 ∧ Below w.heap.size w w' := by
  go_enter Try.func10, Try.ntmps10
  go_wp2_with fail
  (try simp only [Exit.inBlock, Exit.then])
  refine bodyPost_ret (results_cell_row rfl _ _ w.heap.size 25 _ (0, 0) _ rfl ((heap_alloc_old _ _ (by simp; omega)).trans ((heap_alloc_old _ _ (by simp)).trans (heap_alloc_new w _))) rfl rfl rfl) rfl ?_
  have n0 : ∀ i : Nat, i < 3 → i = 0 ∨ i = 1 ∨ i = 2 := fun i h => by omega
  refine ⟨w.heap.size + 1, w.heap.size + 1 + 1, rfl, ?_, ?_, ?_⟩
  · obtain ⟨W1, e1⟩ : ∃ W, w.alloc (.cells #[.string { data := #[67, 76] }, .slice (some { block := w.heap.size + 1, off := 0 }) 3 3, .int .i64 5, .int .i64 0, .int .i64 1000, .int .i64 200, .int .i64 r, .int .i64 4, .int .i64 2, .int .i64 40, .slice (some { block := w.heap.size + 1 + 1, off := 0 }) 3 3] 25) = W := ⟨_, rfl⟩
    rw [e1]
    have s1 : W1.heap.size = w.heap.size + 1 := by rw [← e1]; simp
    rw [← s1]
    have hb := heap_alloc_new W1 (.cells #[.int .i64 320, .int .i64 321, .int .i64 323] 3)
    obtain ⟨W2, e2⟩ : ∃ W, W1.alloc (.cells #[.int .i64 320, .int .i64 321, .int .i64 323] 3) = W := ⟨_, rfl⟩
    have s2 : W1.heap.size < W2.heap.size := by rw [← e2]; simp
    rw [e2] at hb ⊢
    have hb := (heap_alloc_old W2 (.cells #[.int .i64 500, .int .i64 505, .int .i64 490] 2) s2).trans hb
    intro i hi
    refine ⟨_, _, rfl, ?_, ?_⟩
    · rcases n0 i hi with rfl | rfl | rfl <;> (rw [Lib.cell_of_heap hb]; rfl)
    · rcases n0 i hi with rfl | rfl | rfl <;> decide
  · obtain ⟨W1, e1⟩ : ∃ W, w.alloc (.cells #[.string { data := #[67, 76] }, .slice (some { block := w.heap.size + 1, off := 0 }) 3 3, .int .i64 5, .int .i64 0, .int .i64 1000, .int .i64 200, .int .i64 r, .int .i64 4, .int .i64 2, .int .i64 40, .slice (some { block := w.heap.size + 1 + 1, off := 0 }) 3 3] 25) = W := ⟨_, rfl⟩
    rw [e1]
    have s1 : W1.heap.size = w.heap.size + 1 := by rw [← e1]; simp
    obtain ⟨W2, e2⟩ : ∃ W, W1.alloc (.cells #[.int .i64 320, .int .i64 321, .int .i64 323] 3) = W := ⟨_, rfl⟩
    have s2 : W2.heap.size = w.heap.size + 1 + 1 := by rw [← e2, ← s1]; simp
    rw [e2, ← s2]
    have hb := heap_alloc_new W2 (.cells #[.int .i64 500, .int .i64 505, .int .i64 490] 2)
    intro i hi
    refine ⟨_, _, rfl, ?_, ?_⟩
    · rcases n0 i hi with rfl | rfl | rfl <;> (rw [Lib.cell_of_heap hb]; rfl)
    · rcases n0 i hi with rfl | rfl | rfl <;> decide
  · exact (((Below.refl _ w).alloc (Nat.le_refl _) _).alloc (by simp) _).alloc (by simp; omega) _
end Go.Proofs.Ytdeofifidjbolaa
namespace Go.Proofs.Ytdeofifidjbolaa
open Go.RowKit
set_option linter.unusedVariables false
set_option linter.unusedSimpArgs false

theorem row_only {p : Nat → Prop} {w w' : World} {base : Nat} {T : TypeId} {z : Nat} {v : Value} {n : Nat} {xs : List Value} (h : w.ownsRow base T z v n xs) (ho : Only p w w') (hn : ∀ k, v.ownBlock = some k → ¬ p k) : w'.ownsRow base T z v n xs := by
  refine ⟨h.1, ?_⟩
  rcases h.2 with h | ⟨g, cap, cur, rfl, h2, h3, h4⟩
  · exact .inl h
  · have hg : g < w.heap.size := (Array.getElem?_eq_some_iff.1 h3).1
    exact .inr ⟨g, cap, cur, rfl, h2, (ho.block g hg (hn g rfl)).trans h3, h4⟩
/-- How an element lies in cells. -/
structure Fmt (α : Type) where
  f : α → List Value
  k : Nat
  len : ∀ x, (f x).length = k
  pos : 0 < k
  one : ∀ x u, u ∈ f x → u.oneCell' = true
def rowsG {α : Type} (f : α → List Value) : List α → List Value
  | [] => []
  | x :: l => f x ++ rowsG f l
section
variable {α : Type} {fm : Fmt α}
theorem rowsG_len (l : List α) : (rowsG fm.f l).length = l.length * fm.k := by
  induction l with
  | nil => simp [rowsG]
  | cons r l ih => rw [rowsG, List.length_append, ih, fm.len, List.length_cons, Nat.add_mul, Nat.one_mul, Nat.add_comm]
theorem rowsG_app (a b : List α) : rowsG fm.f (a ++ b) = rowsG fm.f a ++ rowsG fm.f b := by
  induction a with
  | nil => rfl
  | cons x a ih => rw [List.cons_append, rowsG, rowsG, ih, List.append_assoc]
theorem rowsG_one (x : α) : rowsG fm.f [x] = fm.f x := by simp [rowsG]
theorem rowsG_get (l : List α) : ∀ (j m : Nat) (x : α), l[j]? = some x → m < fm.k → (rowsG fm.f l)[j * fm.k + m]? = (fm.f x)[m]? := by
  induction l with
  | nil => intro j m r hj; simp at hj
  | cons x l ih =>
    intro j m r hj hm
    cases j with
    | zero =>
      rw [rowsG, List.getElem?_append_left (by rw [fm.len]; omega)]
      simp at hj; subst hj; simp
    | succ j =>
      have e : (j + 1) * fm.k + m = fm.k + (j * fm.k + m) := by rw [Nat.add_mul, Nat.one_mul]; omega
      rw [rowsG, List.getElem?_append_right (by rw [fm.len, e]; omega), fm.len, e, Nat.add_sub_cancel_left]
      exact ih j m r (by simpa using hj) hm
theorem rowsG_set (l : List α) : ∀ (j m : Nat) (x x' : α) (v : Value), l[j]? = some x → m < fm.k → fm.f x' = (fm.f x).set m v → (rowsG fm.f l).set (j * fm.k + m) v = rowsG fm.f (l.set j x') := by
  induction l with
  | nil => intro j m r r' v hj; simp at hj
  | cons x l ih =>
    intro j m r r' v hj hm hr
    cases j with
    | zero =>
      simp at hj; subst hj
      rw [rowsG, List.set_append_left _ _ (by rw [fm.len]; omega), List.set_cons_zero, rowsG, hr]
      simp
    | succ j =>
      have e : (j + 1) * fm.k + m = fm.k + (j * fm.k + m) := by rw [Nat.add_mul, Nat.one_mul]; omega
      rw [rowsG, List.set_append_right _ _ (by rw [fm.len, e]; omega), fm.len, e, Nat.add_sub_cancel_left, List.set_cons_succ, rowsG]
      rw [ih j m r r' v (by simpa using hj) hm hr]
theorem rowsG_one_cell (l : List α) : ∀ u ∈ rowsG fm.f l, u.oneCell' = true := by
  induction l with
  | nil => intro u hu; cases hu
  | cons e l ih =>
    intro u hu
    rcases List.mem_append.1 hu with h | h
    · exact fm.one e u h
    · exact ih u h
theorem rowsG_take (l : List α) (k : Nat) : (rowsG fm.f l).take (k * fm.k) = rowsG fm.f (l.take k) := by
  induction l generalizing k with
  | nil => simp [rowsG]
  | cons x l ih =>
    cases k with
    | zero => simp [rowsG]
    | succ k =>
      have e : (k + 1) * fm.k = fm.k + k * fm.k := by rw [Nat.add_mul, Nat.one_mul]; omega
      rw [rowsG, e, List.take_append, fm.len, Nat.add_sub_cancel_left, List.take_of_length_le (by rw [fm.len]; omega), ih, List.take_succ_cons, rowsG]
theorem rowsG_drop (l : List α) (k : Nat) : (rowsG fm.f l).drop (k * fm.k) = rowsG fm.f (l.drop k) := by
  induction l generalizing k with
  | nil => simp [rowsG]
  | cons x l ih =>
    cases k with
    | zero => simp
    | succ k =>
      have e : (k + 1) * fm.k = fm.k + k * fm.k := by rw [Nat.add_mul, Nat.one_mul]; omega
      rw [rowsG, e, List.drop_append, fm.len, Nat.add_sub_cancel_left, List.drop_of_length_le (by rw [fm.len]; omega), ih, List.drop_succ_cons, List.nil_append]
/-- A slice reads as these. -/
def HV (fm : Fmt α) (w : World) (A : Option Addr) (n : Nat) (l : List α) : Prop :=
  l.length = n ∧ ∀ j x, l[j]? = some x → ∃ b off, A = some ⟨b, off, none⟩ ∧ ∀ m u, (fm.f x)[m]? = some u → w.cell? ⟨b, off + j * fm.k + m, none⟩ = some u
theorem hv_nil (w : World) (A : Option Addr) : HV fm w A 0 [] := ⟨rfl, fun j e he => by simp at he⟩
theorem HV.keep {w w' : World} {A : Option Addr} {n : Nat} {l : List α} (h : HV fm w A n l) (k : ∀ b, (∃ off, A = some ⟨b, off, none⟩) → b < w.heap.size → w'.heap[b]? = w.heap[b]?) : HV fm w' A n l := by
  refine ⟨h.1, fun j x hx => ?_⟩
  obtain ⟨b, off, e, hc⟩ := h.2 j x hx
  refine ⟨b, off, e, fun m u hu => ?_⟩
  have := hc m u hu
  exact (World.cell?_of_block (a := ⟨b, off + j * fm.k + m, none⟩) (k b ⟨off, e⟩ (World.block_lt_of_cell? w _ this))).trans this
theorem HV.below {w w' : World} {A : Option Addr} {n : Nat} {l : List α} (h : HV fm w A n l) (hb : Below w.heap.size w w') : HV fm w' A n l := h.keep (fun b _ hk => hb.block b hk)
theorem HV.only {p : Nat → Prop} {w w' : World} {A : Option Addr} {n : Nat} {l : List α} (h : HV fm w A n l) (ho : Only p w w') (hp : ∀ b off, A = some ⟨b, off, none⟩ → ¬ p b) : HV fm w' A n l := h.keep (fun b ⟨off, e⟩ hk => ho.block b hk (hp b off e))
theorem HV.take {w : World} {A : Option Addr} {n k : Nat} {l : List α} (h : HV fm w A n l) (hk : k ≤ n) : HV fm w A k (l.take k) := by
  refine ⟨by rw [List.length_take, h.1]; omega, fun j e he => ?_⟩
  rw [List.getElem?_take] at he
  split at he
  · exact h.2 j e he
  · cases he
theorem HV.drop {w : World} {b off n k : Nat} {l : List α} (h : HV fm w (some ⟨b, off, none⟩) n l) (hk : k ≤ n) : HV fm w (some ⟨b, off + k * fm.k, none⟩) (n - k) (l.drop k) := by
  refine ⟨by rw [List.length_drop, h.1], fun j e he => ?_⟩
  rw [List.getElem?_drop] at he
  obtain ⟨b', off', e1, hc⟩ := h.2 (k + j) e he
  injection e1 with e1
  injection e1 with e1 e2
  subst e1; subst e2
  refine ⟨b, off + k * fm.k, rfl, fun m u hu => ?_⟩
  have := hc m u hu
  rwa [show off + (k + j) * fm.k + m = off + k * fm.k + j * fm.k + m by rw [Nat.add_mul]; omega] at this
theorem HV.news {w : World} {ad : Addr} {n : Nat} {l : List α} (h : HV fm w (some ad) n l) : ∀ j u, (rowsG fm.f l)[j]? = some u → w.cell? (ad.add j) = some u := by
  intro j u hu
  have hj : j < (rowsG fm.f l).length := (List.getElem?_eq_some_iff.1 hu).1
  rw [rowsG_len] at hj
  have hq : j / fm.k < l.length := Nat.div_lt_of_lt_mul (by rw [Nat.mul_comm]; exact hj)
  have hr : j % fm.k < fm.k := Nat.mod_lt _ fm.pos
  have hd : j / fm.k * fm.k + j % fm.k = j := by rw [Nat.mul_comm]; exact Nat.div_add_mod j fm.k
  obtain ⟨e, he⟩ : ∃ e, l[j / fm.k]? = some e := ⟨_, List.getElem?_eq_getElem hq⟩
  obtain ⟨b, off, e1, hc⟩ := h.2 (j / fm.k) e he
  injection e1 with e1
  subst e1
  rw [WideShapes.add_plain]
  have hg := rowsG_get l (j / fm.k) (j % fm.k) e he hr
  rw [hd, hu] at hg
  have := hc _ u hg.symm
  rwa [Nat.add_assoc, hd] at this
/-- A row of the call's own. -/
def Own (fm : Fmt α) (T : TypeId) (w : World) (base : Nat) (v : Value) (l : List α) : Prop := w.ownsRow base T fm.k v l.length (rowsG fm.f l)
theorem own_nil (T : TypeId) (w : World) (base : Nat) : Own fm T w base (.slice none 0 0) [] := World.ownsRow_nil w base _ _
theorem Own.only {p : Nat → Prop} {T : TypeId} {w w' : World} {base : Nat} {v : Value} {l : List α} (h : Own fm T w base v l) (ho : Only p w w') (hn : ∀ k, v.ownBlock = some k → ¬ p k) : Own fm T w' base v l := row_only h ho hn
theorem Own.below {T : TypeId} {w w' : World} {base : Nat} {v : Value} {l : List α} (h : Own fm T w base v l) (hb : Below w.heap.size w w') : Own fm T w' base v l := row_only h (only_below hb) (fun _ _ e => e)
theorem Own.base {T : TypeId} {w : World} {base base' : Nat} {v : Value} {l : List α} (h : Own fm T w base v l) (hb : base' ≤ base) : Own fm T w base' v l := by
  refine ⟨h.1, ?_⟩
  rcases h.2 with h | ⟨g, cap, cur, rfl, h2, h3⟩
  · exact .inl h
  · exact .inr ⟨g, cap, cur, rfl, by omega, h3⟩
theorem Own.lt {T : TypeId} {w : World} {base : Nat} {v : Value} {l : List α} (h : Own fm T w base v l) : ∀ k, v.ownBlock = some k → base ≤ k ∧ k < w.heap.size := World.ownsRow.lt h
theorem Own.slice {T : TypeId} {w : World} {base : Nat} {v : Value} {l : List α} (h : Own fm T w base v l) : ∃ A cap, v = .slice A l.length cap ∧ HV fm w A l.length l ∧ l.length ≤ cap ∧ cap ≤ 9223372036854775807 ∧ (A = none → cap = 0) ∧ (∀ ad, A = some ad → ad.off = 0 ∧ ad.spot = none ∧ base ≤ ad.block ∧ ad.block < w.heap.size) := by
  rcases h.2 with ⟨rfl, e⟩ | ⟨g, cap, cur, rfl, h1, h2, hc, hm, hs, ht⟩
  · have e2 : l = [] := List.eq_nil_of_length_eq_zero e
    subst e2
    exact ⟨none, 0, rfl, ⟨rfl, fun j e he => by simp at he⟩, Nat.le_refl _, by omega, fun _ => rfl, fun ad e => by cases e⟩
  · simp only [maxLen] at hm
    refine ⟨_, cap, rfl, ⟨rfl, fun j e he => ⟨g, 0, rfl, fun m u hu => ?_⟩⟩, hc, by omega, (fun e => by cases e), fun ad e => by cases e; exact ⟨rfl, rfl, h1, (Array.getElem?_eq_some_iff.1 h2).1⟩⟩
    have hj : j < l.length := (List.getElem?_eq_some_iff.1 he).1
    have hm2 : m < fm.k := by rw [← fm.len e]; exact (List.getElem?_eq_some_iff.1 hu).1
    have hb : j * fm.k + m < l.length * fm.k := by
      have : (j + 1) * fm.k ≤ l.length * fm.k := Nat.mul_le_mul_right _ hj
      rw [Nat.add_mul, Nat.one_mul] at this; omega
    rw [Nat.zero_add, Lib.cell_of_heap h2, ← hu, ← rowsG_get l j m e he hm2, ← ht, List.getElem?_take, if_pos hb, Array.getElem?_toList]
/-- The block of a row that holds something. -/
theorem Own.open' {T : TypeId} {w : World} {base : Nat} {v : Value} {l : List α} (h : Own fm T w base v l) (hl : 0 < l.length) : ∃ g cap cur, v = .slice (some ⟨g, 0, none⟩) l.length cap ∧ base ≤ g ∧ g < w.heap.size ∧ w.heap[g]? = some (.cells cur T (0, 0)) ∧ l.length ≤ cap ∧ cap ≤ maxLen ∧ cur.size = cap * fm.k ∧ cur.toList.take (l.length * fm.k) = rowsG fm.f l := by
  rcases h.2 with ⟨rfl, e⟩ | ⟨g, cap, cur, rfl, h1, h2, hc, hm, hs, ht⟩
  · omega
  · exact ⟨g, cap, cur, rfl, h1, (Array.getElem?_eq_some_iff.1 h2).1, h2, hc, hm, hs, ht⟩
/-- The first k of a row. -/
theorem Own.cut {T : TypeId} {w : World} {base g n cap k : Nat} {l : List α} (h : Own fm T w base (.slice (some ⟨g, 0, none⟩) n cap) l) (hk : k ≤ l.length) : Own fm T w base (.slice (some ⟨g, 0, none⟩) k cap) (l.take k) := by
  have hl : (l.take k).length = k := by rw [List.length_take]; omega
  refine ⟨rowsG_len _, ?_⟩
  rcases h.2 with ⟨e0, _⟩ | ⟨g', cap', cur, e0, b1, b2, b3, b4, b5, b6⟩
  · cases e0
  · injection e0 with e1 e2 e3
    injection e1 with e1
    injection e1 with e1
    subst e1; subst e3
    refine .inr ⟨g, cap, cur, by rw [hl], b1, b2, by omega, b4, b5, ?_⟩
    rw [hl, ← rowsG_take, ← b6, List.take_take]
    congr 1
    have : k * fm.k ≤ l.length * fm.k := Nat.mul_le_mul_right _ hk
    omega
theorem own_empty (T : TypeId) (w : World) (base : Nat) (h : base ≤ w.heap.size) : Own fm T (w.alloc (.cells #[] T)) base (.slice (some ⟨w.heap.size, 0, none⟩) 0 0) ([] : List α) :=
  World.ownsRow_made w #[] 0 h (by unfold maxLen; omega) (by simp)
variable {P : Program} {T : TypeId}
theorem run_onto_g (w : World) (base t ty : Nat) (i : TypeInfo) (z : Value) (by' : Nat) (ht : P.underlying t = some (.slice T)) (hi : P.info? T = some i) (hz : i.zero = some z) (hsize : i.size = fm.k) (hby : i.bytes = by') (hzs : z.cells.size = fm.k) (hb40 : by' ≤ 64)
    (v : Value) (xs : List α) (hown : Own fm T w base v xs) (A : Option Addr) (m c : Nat) (ys : List α) (hr : HV fm w A m ys) (hc : A = none → c = 0) (hn : xs.length + m ≤ 1000000) (hbase : base ≤ w.heap.size) :
    ∃ v' w', (Builtin.append_ #[t, t] ty #[v, .slice A m c]).run P w = .ok v' w' ∧ Own fm T w' base v' (xs ++ ys) ∧ w.grownBy w' v.ownBlock ∧ (v'.ownBlock = v.ownBlock ∨ v'.ownBlock = some w.heap.size) := by
  have hl : (rowsG fm.f ys).length = m * fm.k := by rw [rowsG_len, hr.1]
  cases A with
  | none =>
    have hm : m = 0 := by
      rcases Nat.eq_zero_or_pos m with h0 | h0
      · exact h0
      · obtain ⟨e, he⟩ : ∃ e, ys[0]? = some e := ⟨_, List.getElem?_eq_getElem (by rw [hr.1]; exact h0)⟩
        obtain ⟨b, off, e, _⟩ := hr.2 0 e he; cases e
    subst hm
    obtain rfl := hc rfl
    have e : ys = [] := List.eq_nil_of_length_eq_zero hr.1
    subst e
    refine ⟨v, w, run_append_owned_none w base t ty _ i fm.k ht hi v _ _ hown, by rw [List.append_nil]; exact hown, World.grownBy.refl w _, .inl rfl⟩
  | some ad =>
    have hbytes : (xs.length + m) * by' ≤ 140737488355328 := by
      have : (xs.length + m) * by' ≤ 1000000 * 64 := Nat.mul_le_mul hn hb40
      omega
    obtain ⟨v', w', h1, h2, h3, _, h5⟩ := run_append_own_at (P := P) w base t ty _ i z fm.k by' ht hi hz hsize hby hzs fm.pos v _ _ hown ad m c (rowsG fm.f ys) hl hr.news (rowsG_one_cell ys) (by simp only [maxLen]; omega) hbytes hbase
    refine ⟨v', w', h1, ?_, h3, h5⟩
    unfold Own
    rw [List.length_append, hr.1, rowsG_app]
    exact h2
theorem wp_onto_g {w : World} {o : Oper} {a : Act} {K : Act → World → Prop} {Q : Exit → Act → World → Prop} (s x : Operand) (t : TypeId)
    (ho : o.op = .call { callee := .builtin .append, args := #[s, x], argTypes := #[t, t] })
    (base : Nat) (i : TypeInfo) (z : Value) (by' : Nat) (ht : P.underlying t = some (.slice T)) (hi : P.info? T = some i) (hz : i.zero = some z) (hsize : i.size = fm.k) (hby : i.bytes = by') (hzs : z.cells.size = fm.k) (hb40 : by' ≤ 64)
    (v : Value) (xs : List α) (hs : a.eval s = v) (hown : Own fm T w base v xs) (A : Option Addr) (m c : Nat) (ys : List α) (hx : a.eval x = .slice A m c) (hr : HV fm w A m ys) (hc : A = none → c = 0) (hn : xs.length + m ≤ 1000000) (hbase : base ≤ w.heap.size)
    (h : ∀ v' w', Own fm T w' base v' (xs ++ ys) → w.grownBy w' v.ownBlock → (v'.ownBlock = v.ownBlock ∨ v'.ownBlock = some w.heap.size) → K (a.put o.dst v') w') : o.wp P a w K Q := by
  obtain ⟨v', w', hrun, h2, h3, h4⟩ := run_onto_g (P := P) w base t o.type i z by' ht hi hz hsize hby hzs hb40 v xs hown A m c ys hr hc hn hbase
  unfold Oper.wp execOp
  simp only [ho, resolve, invoke, builtin, Sem.run_bind, Sem.run_pure, Result.andThen_ok, List.map_toArray, List.map_cons, List.map_nil, hs, hx, hrun]
  exact h v' w' h2 h3 h4
theorem wpList_onto_g {w : World} {ops : Array Oper} {rest : List Oper} {o : Oper} {a : Act} {Q : Exit → Act → World → Prop} (hgd : o.guard = none) (s x : Operand) (t : TypeId)
    (ho : o.op = .call { callee := .builtin .append, args := #[s, x], argTypes := #[t, t] })
    (base : Nat) (i : TypeInfo) (z : Value) (by' : Nat) (ht : P.underlying t = some (.slice T)) (hi : P.info? T = some i) (hz : i.zero = some z) (hsize : i.size = fm.k) (hby : i.bytes = by') (hzs : z.cells.size = fm.k) (hb40 : by' ≤ 64)
    (v : Value) (xs : List α) (hs : a.eval s = v) (hown : Own fm T w base v xs) (A : Option Addr) (m c : Nat) (ys : List α) (hx : a.eval x = .slice A m c) (hr : HV fm w A m ys) (hc : A = none → c = 0) (hn : xs.length + m ≤ 1000000) (hbase : base ≤ w.heap.size)
    (h : ∀ v' w', Own fm T w' base v' (xs ++ ys) → w.grownBy w' v.ownBlock → (v'.ownBlock = v.ownBlock ∨ v'.ownBlock = some w.heap.size) → wpList P ops Q rest (a.put o.dst v') w') : wpList P ops Q (o :: rest) a w :=
  wpList_plain hgd fun _ hK => wp_onto_g s x t ho base i z by' ht hi hz hsize hby hzs hb40 v xs hs hown A m c ys hx hr hc hn hbase fun v' w' h2 h3 h4 => hK _ _ (h v' w' h2 h3 h4)
theorem step_onto_g {w : World} {ops : Array Oper} {o : Oper} {a : Act} {K : Act → World → Prop} {Q : Exit → Act → World → Prop} {E : Prop} (hgd : o.guard = none) (s x : Operand) (t : TypeId)
    (ho : o.op = .call { callee := .builtin .append, args := #[s, x], argTypes := #[t, t] })
    (base : Nat) (i : TypeInfo) (z : Value) (by' : Nat) (ht : P.underlying t = some (.slice T)) (hi : P.info? T = some i) (hz : i.zero = some z) (hsize : i.size = fm.k) (hby : i.bytes = by') (hzs : z.cells.size = fm.k) (hb40 : by' ≤ 64)
    (v : Value) (xs : List α) (hs : a.eval s = v) (hown : Own fm T w base v xs) (A : Option Addr) (m c : Nat) (ys : List α) (hx : a.eval x = .slice A m c) (hr : HV fm w A m ys) (hc : A = none → c = 0) (hn : xs.length + m ≤ 1000000) (hbase : base ≤ w.heap.size)
    (h : ∀ v' w', Own fm T w' base v' (xs ++ ys) → w.grownBy w' v.ownBlock → (v'.ownBlock = v.ownBlock ∨ v'.ownBlock = some w.heap.size) → K (a.put o.dst v') w') :
    if Region.wanted o (yielded ops a.tmps) = true then Oper.wp P o a w K Q else E := by
  have hw : Region.wanted o (yielded ops a.tmps) = true := by simp [Region.wanted, hgd]
  rw [if_pos hw]
  exact wp_onto_g s x t ho base i z by' ht hi hz hsize hby hzs hb40 v xs hs hown A m c ys hx hr hc hn hbase h
end
/-- An order of a book. -/
structure Or where
  i : Int
  s : Int
  p : Int
  n : Int
  t : Bool
def fO : Fmt Or := ⟨fun x => [.int .i64 x.i, .int .i64 x.s, .int .i64 x.p, .int .i64 x.n, .bool x.t], 5, fun _ => rfl, by decide, fun x u hu => by
  simp only [List.mem_cons, List.not_mem_nil, or_false] at hu
  rcases hu with rfl | rfl | rfl | rfl | rfl <;> rfl⟩
theorem HV.atO {w : World} {A : Option Addr} {n : Nat} {l : List Or} (h : HV fO w A n l) {j : Nat} {x : Or} (hx : l[j]? = some x) : ∃ b off, A = some ⟨b, off, none⟩ ∧ w.cell? ⟨b, off + j * 5, none⟩ = some (.int .i64 x.i) ∧ w.cell? ⟨b, off + j * 5 + 1, none⟩ = some (.int .i64 x.s) ∧ w.cell? ⟨b, off + j * 5 + 2, none⟩ = some (.int .i64 x.p) ∧ w.cell? ⟨b, off + j * 5 + 3, none⟩ = some (.int .i64 x.n) ∧ w.cell? ⟨b, off + j * 5 + 4, none⟩ = some (.bool x.t) := by
  obtain ⟨b, off, e, hc⟩ := h.2 j x hx
  exact ⟨b, off, e, hc 0 _ rfl, hc 1 _ rfl, hc 2 _ rfl, hc 3 _ rfl, hc 4 _ rfl⟩
end Go.Proofs.Ytdeofifidjbolaa
