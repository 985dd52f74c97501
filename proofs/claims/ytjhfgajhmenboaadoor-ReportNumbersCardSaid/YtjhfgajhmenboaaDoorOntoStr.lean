/-
  append of a text onto an own row of bytes, and which block the result lies in.
-/
import Derived.Test.YtjhfgajhmenboaaDoorNumber
namespace Go.Proofs.YtjhfgajhmenboaaDoor
open Go.RowKit
set_option linter.unusedVariables false
set_option linter.unusedSimpArgs false
section
variable {P : Program}
theorem run_onto_str (w : World) (base t u ty : Nat) (i : TypeInfo) (ht : P.underlying t = some (.slice 5)) (hu : P.underlying u = some .string) (hi : P.info? 5 = some i) (hz : i.zero = some (.int .u8 0)) (hsize : i.size = 1) (hby : i.bytes = 1)
    (v : Value) (xs : List UInt8) (hown : RB w base v xs) (s : List UInt8) (hn : xs.length + s.length ≤ 140737488355328) (hbase : base ≤ w.heap.size) :
    ∃ v' w', (Builtin.append_ #[t, u] ty #[v, .string (str s)]).run P w = .ok v' w' ∧ RB w' base v' (xs ++ s) ∧ w.grownBy w' v.ownBlock ∧ (v'.ownBlock = v.ownBlock ∨ v'.ownBlock = some w.heap.size) := by
  have hsz := str_size s
  obtain ⟨v', w', hr, h2, h3, _⟩ := Lib.run_append_own_string (P := P) w base t u ty 5 i ht hu hi hz hsize hby v _ _ hown (str s) (by rw [hsz]; simp only [maxLen]; omega) (by rw [hsz]; exact hn) hbase
  refine ⟨v', w', hr, rb_of_own (by rw [List.length_append, hsz]) (by rw [List.map_append]; rfl) h2, h3, ?_⟩
  rcases hown.2 with ⟨rfl, he⟩ | ⟨g, cap, cur, rfl, hbg, hg, hnc, hcm, hcs, htake⟩
  · by_cases hm : (str s).size = 0
    · have e0 : (Builtin.append_ #[t, u] ty #[.slice none 0 0, .string (str s)]).run P w = .ok (.slice none 0 0) w := by
        have hf := Lib.run_firstCells_string (P := P) w 1 (str s)
        rw [hm] at hf
        simp [Builtin.append_, run_underlying ht, run_underlying hu, sizeOf, typeInfo, hi, hsize, Builtin.lenOf, hm, hf]
      rw [e0] at hr
      injection hr with e1 e2
      subst e1
      exact .inl rfl
    · have e0 := run_append_nil_string (P := P) w t u ty 5 i (.int .u8 0) ht hu hi hz (str s) (by omega) (by omega) (by rw [hby]; omega)
      rw [e0] at hr
      injection hr with e1 e2
      subst e1
      exact .inr rfl
  · by_cases hroom : xs.length + (str s).size ≤ cap
    · have hcs' : cur.size = cap := by simpa using hcs
      have e0 := Lib.run_append_room_string (P := P) w t u ty 5 i ht hu hi hsize g xs.length cap cur hg (str s) hroom (by omega)
      rw [e0] at hr
      injection hr with e1 e2
      subst e1
      exact .inl rfl
    · have holds : ∀ j u, (xs.map bc)[j]? = some u → w.cell? ((⟨g, 0, none⟩ : Addr).add j) = some u := hown.cells (g := g) rfl
      have e0 := Lib.run_append_grow_string (P := P) w t u ty 5 i (.int .u8 0) ht hu hi hz ⟨g, 0, none⟩ xs.length cap (xs.map bc) (by rw [hsize]; simp) holds (str s) (by omega) (by omega) (by rw [hby]; exact growslice_fits (by omega) (by omega))
      rw [e0] at hr
      injection hr with e1 e2
      subst e1
      exact .inr rfl
theorem wpList_onto_str {w : World} {ops : Array Oper} {rest : List Oper} {o : Oper} {a : Act} {Q : Exit → Act → World → Prop} (hgd : o.guard = none) (sl x : Operand) (t u : TypeId)
    (ho : o.op = .call { callee := .builtin .append, args := #[sl, x], argTypes := #[t, u] })
    (base : Nat) (i : TypeInfo) (ht : P.underlying t = some (.slice 5)) (hu : P.underlying u = some .string) (hi : P.info? 5 = some i) (hz : i.zero = some (.int .u8 0)) (hsize : i.size = 1) (hby : i.bytes = 1)
    (v : Value) (xs : List UInt8) (hs : a.eval sl = v) (hown : RB w base v xs) (s : List UInt8) (hx : a.eval x = .string (str s)) (hn : xs.length + s.length ≤ 140737488355328) (hbase : base ≤ w.heap.size)
    (h : ∀ v' w', RB w' base v' (xs ++ s) → w.grownBy w' v.ownBlock → (v'.ownBlock = v.ownBlock ∨ v'.ownBlock = some w.heap.size) → wpList P ops Q rest (a.put o.dst v') w') : wpList P ops Q (o :: rest) a w := by
  refine wpList_plain hgd fun K hK => ?_
  obtain ⟨v', w', hr, h2, h3, h4⟩ := run_onto_str (P := P) w base t u o.type i ht hu hi hz hsize hby v xs hown s hn hbase
  unfold Oper.wp execOp
  simp only [ho, resolve, invoke, builtin, Sem.run_bind, Sem.run_pure, Result.andThen_ok, List.map_toArray, List.map_cons, List.map_nil, hs, hx, hr]
  exact hK _ _ (h v' w' h2 h3 h4)
end
end Go.Proofs.YtjhfgajhmenboaaDoor
