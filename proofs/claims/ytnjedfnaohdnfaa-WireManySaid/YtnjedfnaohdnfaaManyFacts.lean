/-
  What the law WireMany makes: frames, one behind the other, and their ends.
-/
import Derived.Test.YtnjedfnaohdnfaaParts
import Derived.Test.YtnjedfnaohdnfaaWireFacts
namespace Go.Proofs.Ytnjedfnaohdnfaa
open Go.RowKit
set_option linter.unusedVariables false
set_option linter.unusedSimpArgs false

/-- Row i of a slice of slices of bytes. -/
def Grid (w : World) (a : Option Addr) (len : Nat) (L : Nat → List UInt8) : Prop :=
  ∀ i, i < len → ∃ b off A n c, a = some ⟨b, off, none⟩ ∧ w.cell? ⟨b, off + i, none⟩ = some (.slice A n c) ∧ HB w A n (L i) ∧ n ≤ c ∧ c ≤ 9223372036854775807 ∧ (A = none → c = 0)
theorem Grid.below {w w' : World} {a : Option Addr} {len : Nat} {L : Nat → List UInt8} (h : Grid w a len L) (hb : Below w.heap.size w w') : Grid w' a len L := by
  intro i hi
  obtain ⟨b, off, A, n, c, e, h1, h2, h3⟩ := h i hi
  exact ⟨b, off, A, n, c, e, (hb.cell (p := ⟨b, off + i, none⟩) (World.block_lt_of_cell? w _ h1)).trans h1, h2.below hb, h3⟩
theorem take_min {l : List UInt8} {n k : Nat} (h : l.length = n) : l.take (min n k) = l.take k := by
  by_cases hk : k ≤ n
  · rw [Nat.min_eq_right hk]
  · rw [Nat.min_eq_left (by omega), List.take_of_length_le (by omega), List.take_of_length_le (by omega)]

/-- The call's own row of numbers. -/
def IR (w : World) (base : Nat) (v : Value) (l : List Int) : Prop := w.ownsRow base 3 1 v l.length (l.map (Value.int .i64))
theorem info_int : (Try.prog.info? 3).map (fun i => (i.zero, i.size, i.bytes)) = some (some (.int .i64 0), 1, 8) := by kernel_rfl
theorem ir_nil (w : World) (base : Nat) : IR w base (.slice none 0 0) [] := World.ownsRow_nil w base _ _
theorem IR.only {p : Nat → Prop} {w w' : World} {base : Nat} {v : Value} {l : List Int} (h : IR w base v l) (ho : Only p w w') (hn : ∀ k, v.ownBlock = some k → ¬ p k) : IR w' base v l := by
  refine ⟨h.1, ?_⟩
  rcases h.2 with h | ⟨g, cap, cur, rfl, h2, h3, h4⟩
  · exact .inl h
  · have hg : g < w.heap.size := (Array.getElem?_eq_some_iff.1 h3).1
    exact .inr ⟨g, cap, cur, rfl, h2, (ho.block g hg (hn g rfl)).trans h3, h4⟩
theorem IR.blk {w : World} {base : Nat} {v : Value} {l : List Int} (h : IR w base v l) {k : Nat} (hk : v.ownBlock = some k) : base ≤ k ∧ k < w.heap.size := World.ownsRow.lt h k hk
theorem IR.slice {w : World} {base : Nat} {v : Value} {l : List Int} (h : IR w base v l) : ∃ A n cap, v = .slice A n cap ∧ l.length = n ∧ n ≤ cap ∧ cap ≤ 9223372036854775807 ∧ (A = none → cap = 0) ∧
    ∀ i, i < n → ∃ ge, A = some ⟨ge, 0, none⟩ ∧ w.cell? ⟨ge, i, none⟩ = some (.int .i64 (l.getD i 0)) := by
  rcases h.2 with ⟨rfl, e⟩ | ⟨g, cap, cur, rfl, _, _, hc, hm, _⟩
  · exact ⟨none, 0, 0, rfl, e, Nat.le_refl _, by omega, fun _ => rfl, fun i hi => absurd hi (by omega)⟩
  · simp only [maxLen] at hm
    refine ⟨_, l.length, cap, rfl, rfl, hc, by omega, (fun e => by cases e), fun i hi => ⟨g, rfl, ?_⟩⟩
    have := World.ownsRow.cellAt h i (by omega)
    rw [this]
    simp [List.getD, List.getElem?_eq_getElem hi]
section
variable {P : Program}
theorem wpList_onto_i {w : World} {ops : Array Oper} {rest : List Oper} {o : Oper} {a : Act} {Q : Exit → Act → World → Prop} (hgd : o.guard = none) (s x : Operand) (t : TypeId)
    (ho : o.op = .call { callee := .builtin .append, args := #[s, x], argTypes := #[t, t] })
    (base : Nat) (i : TypeInfo) (ht : P.underlying t = some (.slice 3)) (hi : P.info? 3 = some i) (hz : i.zero = some (.int .i64 0)) (hsize : i.size = 1) (hby : i.bytes = 8)
    (v : Value) (xs : List Int) (hs : a.eval s = v) (hown : IR w base v xs) (ad : Addr) (c : Nat) (e : Int) (hx : a.eval x = .slice (some ad) 1 c) (hc : w.cell? ad = some (.int .i64 e)) (hn : xs.length ≤ 1000000) (hbase : base ≤ w.heap.size)
    (h : ∀ v' w', IR w' base v' (xs ++ [e]) → w.grownBy w' v.ownBlock → (v'.ownBlock = v.ownBlock ∨ v'.ownBlock = some w.heap.size) → wpList P ops Q rest (a.put o.dst v') w') : wpList P ops Q (o :: rest) a w := by
  refine wpList_plain hgd fun K hK => ?_
  obtain ⟨v', w', hr, h2, h3, _, h5⟩ := run_append_own_at (P := P) w base t o.type _ i _ 1 8 ht hi hz hsize hby rfl (by omega) v _ _ hown ad 1 c [.int .i64 e] rfl (fun j u hj => by
    match j, hj with
    | 0, hj =>
      simp only [List.getElem?_cons_zero, Option.some.injEq] at hj
      rw [← hj, show ad.add 0 = ad by simp [Addr.add]]
      exact hc
    | j + 1, hj => simp at hj) (fun u hu => by
    simp only [List.mem_singleton] at hu
    rw [hu]; rfl) (by simp only [maxLen]; omega) (by omega) hbase
  unfold Oper.wp execOp
  simp only [ho, resolve, invoke, builtin, Sem.run_bind, Sem.run_pure, Result.andThen_ok, List.map_toArray, List.map_cons, List.map_nil, hs, hx, hr]
  refine hK _ _ (h v' w' ?_ h3 h5)
  unfold IR
  rw [List.length_append, List.map_append]
  exact h2
end

def catM (L : Nat → List UInt8) : Nat → List UInt8
  | 0 => []
  | k + 1 => catM L k ++ frameL ((L k).take 100)
theorem catM_next (L : Nat → List UInt8) (k : Nat) : catM L (k + 1) = catM L k ++ frameL ((L k).take 100) := rfl
theorem take100_len (l : List UInt8) : (l.take 100).length ≤ 100 := by rw [List.length_take]; omega
theorem catM_len (L : Nat → List UInt8) (k : Nat) : (catM L k).length ≤ 106 * k := by
  induction k with
  | zero => simp [catM]
  | succ k ih =>
    rw [catM_next, List.length_append, frameL_len]
    have := take100_len (L k)
    omega
theorem catM_succ_len (L : Nat → List UInt8) (k : Nat) : (catM L (k + 1)).length = (catM L k).length + 6 + ((L k).take 100).length := by
  rw [catM_next, List.length_append, frameL_len]; omega
theorem catM_split (L : Nat → List UInt8) {k M : Nat} (h : k < M) : ∃ r, catM L M = catM L k ++ (frameL ((L k).take 100) ++ r) := by
  induction M with
  | zero => omega
  | succ M ih =>
    by_cases e : k = M
    · subst e
      exact ⟨[], by rw [catM_next, List.append_nil]⟩
    · obtain ⟨r, hr⟩ := ih (by omega)
      refine ⟨r ++ frameL ((L M).take 100), ?_⟩
      rw [catM_next, hr]
      simp
def endsL (L : Nat → List UInt8) (k : Nat) : List Int := (List.range k).map (fun j => ((catM L (j + 1)).length : Int))
theorem endsL_next (L : Nat → List UInt8) (k : Nat) : endsL L (k + 1) = endsL L k ++ [((catM L (k + 1)).length : Int)] := by
  unfold endsL; rw [List.range_succ, List.map_append]; rfl
theorem endsL_len (L : Nat → List UInt8) (k : Nat) : (endsL L k).length = k := by unfold endsL; simp
theorem endsL_get (L : Nat → List UInt8) {k i : Nat} (h : i < k) : (endsL L k).getD i 0 = ((catM L (i + 1)).length : Int) := by
  unfold endsL; simp [List.getD, h]
theorem catM_zero (L : Nat → List UInt8) : catM L 0 = [] := rfl
theorem endsL_zero (L : Nat → List UInt8) : endsL L 0 = [] := rfl
attribute [irreducible] catM endsL
/-- A frame among others, cut off behind it, is opened. -/
theorem open_whole (a b r : List UInt8) (hb : b.length ≤ 255) (k : Nat) (hk : a.length + 6 + b.length ≤ k) : openR ((a ++ (frameL b ++ r)).take k) (a.length : Int) = (b, a.length + 6 + b.length, 0) := by
  have e : (a ++ (frameL b ++ r)).take k = a ++ (frameL b ++ r.take (k - (a.length + (b.length + 6)))) := by
    rw [List.take_append, List.take_of_length_le (by omega), List.take_append, List.take_of_length_le (by rw [frameL_len]; omega), frameL_len]
    congr 3
    omega
  rw [e]
  exact open_frame a b _ hb
end Go.Proofs.Ytnjedfnaohdnfaa
