/-
  Rows of ints of the call's own: read, appended to.
-/
import Derived.Test.YtoflnfdkcbpgeaaNum
namespace Go.Proofs.Ytoflnfdkcbpgeaa
open Go.RowKit
set_option linter.unusedVariables false
set_option linter.unusedSimpArgs false

/-- The call's own row of numbers. -/
def IR (w : World) (base : Nat) (v : Value) (l : List Nat) : Prop := w.ownsRow base 3 1 v l.length (l.map (fun (k : Nat) => Value.int .i64 (k : Int)))
theorem info_int : (Try.prog.info? 3).map (fun i => (i.zero, i.size, i.bytes)) = some (some (.int .i64 0), 1, 8) := by kernel_rfl
theorem ir_nil (w : World) (base : Nat) : IR w base (.slice none 0 0) [] := World.ownsRow_nil w base _ _
theorem IR.only {p : Nat → Prop} {w w' : World} {base : Nat} {v : Value} {l : List Nat} (h : IR w base v l) (ho : Only p w w') (hn : ∀ k, v.ownBlock = some k → ¬ p k) : IR w' base v l := by
  refine ⟨h.1, ?_⟩
  rcases h.2 with h | ⟨g, cap, cur, rfl, h2, h3, h4⟩
  · exact .inl h
  · have hg : g < w.heap.size := (Array.getElem?_eq_some_iff.1 h3).1
    exact .inr ⟨g, cap, cur, rfl, h2, (ho.block g hg (hn g rfl)).trans h3, h4⟩
theorem IR.below {w w' : World} {base : Nat} {v : Value} {l : List Nat} (h : IR w base v l) (hb : Below w.heap.size w w') : IR w' base v l := h.only (only_below hb) (fun _ _ e => e)
theorem IR.alloc {w : World} {base : Nat} {v : Value} {l : List Nat} (h : IR w base v l) (o : Obj) : IR (w.alloc o) base v l := h.below ((Below.refl _ _).alloc (Nat.le_refl _) o)
theorem IR.lt {w : World} {base : Nat} {v : Value} {l : List Nat} (h : IR w base v l) {k : Nat} (hk : v.ownBlock = some k) : base ≤ k ∧ k < w.heap.size := World.ownsRow.lt h k hk
theorem IR.slice {w : World} {base : Nat} {v : Value} {l : List Nat} (h : IR w base v l) : ∃ A cap, v = .slice A l.length cap ∧ l.length ≤ cap ∧ cap ≤ 9223372036854775807 ∧ (A = none → cap = 0) ∧
    ∀ i, i < l.length → ∃ ge, A = some ⟨ge, 0, none⟩ ∧ w.cell? ⟨ge, i, none⟩ = some (.int .i64 (l.getD i 0 : Int)) := by
  rcases h.2 with ⟨rfl, e⟩ | ⟨g, cap, cur, rfl, _, _, hc, hm, _⟩
  · exact ⟨none, 0, by rw [e], by omega, by omega, fun _ => rfl, fun i hi => absurd hi (by omega)⟩
  · simp only [maxLen] at hm
    refine ⟨_, cap, rfl, hc, by omega, (fun e => by cases e), fun i hi => ⟨g, rfl, ?_⟩⟩
    have := World.ownsRow.cellAt h i (by omega)
    rw [this]
    simp [List.getD, List.getElem?_eq_getElem hi]
section
variable {P : Program}
theorem wpList_onto_i {w : World} {ops : Array Oper} {rest : List Oper} {o : Oper} {a : Act} {Q : Exit → Act → World → Prop} (hgd : o.guard = none) (s x : Operand) (t : TypeId)
    (ho : o.op = .call { callee := .builtin .append, args := #[s, x], argTypes := #[t, t] })
    (base : Nat) (i : TypeInfo) (ht : P.underlying t = some (.slice 3)) (hi : P.info? 3 = some i) (hz : i.zero = some (.int .i64 0)) (hsize : i.size = 1) (hby : i.bytes = 8)
    (v : Value) (xs : List Nat) (hs : a.eval s = v) (hown : IR w base v xs) (ad : Addr) (c : Nat) (e : Nat) (hx : a.eval x = .slice (some ad) 1 c) (hc : w.cell? ad = some (.int .i64 (e : Int))) (hn : xs.length ≤ 1000000) (hbase : base ≤ w.heap.size)
    (h : ∀ v' w', IR w' base v' (xs ++ [e]) → w.grownBy w' v.ownBlock → (v'.ownBlock = v.ownBlock ∨ v'.ownBlock = some w.heap.size) → wpList P ops Q rest (a.put o.dst v') w') : wpList P ops Q (o :: rest) a w := by
  refine wpList_plain hgd fun K hK => ?_
  obtain ⟨v', w', hr, h2, h3, _, h5⟩ := run_append_own_at (P := P) w base t o.type _ i _ 1 8 ht hi hz hsize hby rfl (by omega) v _ _ hown ad 1 c [.int .i64 (e : Int)] rfl (fun j u hj => by
    match j, hj with
    | 0, hj =>
      simp only [List.getElem?_cons_zero, Option.some.injEq] at hj
      rw [← hj, show ad.add 0 = ad by simp [Addr.add]]
      exact hc
    | j + 1, hj => simp at hj) (fun u hu => by
    simp only [List.mem_singleton] at hu
    rw [hu]; rfl) (by simp only [maxLen]; omega) (by omega) hbase
  unfold Oper.wp execOp
  simp only [ho, resolve, invoke, builtin, Sem.run_bind, Sem.run_pure, Result.andThen_ok, List.map_toArray, List.map_cons, List.map_nil, hs, hx, hr]
  refine hK _ _ (h v' w' ?_ h3 h5)
  unfold IR
  rw [List.length_append, List.map_append]
  exact h2
end
end Go.Proofs.Ytoflnfdkcbpgeaa
