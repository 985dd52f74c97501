/-
  Rows of bytes that may bear the mark of a conversion, and append onto one.
-/
import Derived.Test.YtjhfgajhmenboaaDoorOnly
import Derived.Test.YtjhfgajhmenboaaDoorOntoStr
import Derived.Lib.ConvBytes
import Derived.Lib.AppendStr
namespace Go.Proofs.YtjhfgajhmenboaaDoor
open Go.RowKit
set_option linter.unusedVariables false
set_option linter.unusedSimpArgs false

/-- The call's own slice v holds these bytes; behind its last cell the row may bear the mark of a conversion. -/
def MB (w : World) (base : Nat) (v : Value) (l : List UInt8) : Prop :=
  (v = .slice none 0 0 ∧ l = []) ∨ ∃ g cap cur fz, v = .slice (some ⟨g, 0, none⟩) l.length cap ∧ base ≤ g ∧ w.heap[g]? = some (.cells cur 5 fz) ∧ (fz = (0, 0) ∨ cur.size ≤ fz.1) ∧ l.length ≤ cap ∧ cap ≤ maxLen ∧ cur.size = cap ∧ cur.toList.take l.length = l.map bc
theorem RB.mb {w : World} {base : Nat} {v : Value} {l : List UInt8} (h : RB w base v l) : MB w base v l := by
  rcases h.2 with ⟨e, e2⟩ | ⟨g, cap, cur, e, hb, hg, hn, hm, hs, ht⟩
  · exact .inl ⟨e, List.eq_nil_of_length_eq_zero e2⟩
  · exact .inr ⟨g, cap, cur, (0, 0), e, hb, hg, .inl rfl, hn, hm, by simpa using hs, by simpa using ht⟩
theorem MB.only {p : Nat → Prop} {w w' : World} {base : Nat} {v : Value} {l : List UInt8} (h : MB w base v l) (ho : Only p w w') (hn : ∀ k, v.ownBlock = some k → ¬ p k) : MB w' base v l := by
  rcases h with h | ⟨g, cap, cur, fz, rfl, hb, hg, h4⟩
  · exact .inl h
  · have hlt : g < w.heap.size := (Array.getElem?_eq_some_iff.1 hg).1
    exact .inr ⟨g, cap, cur, fz, rfl, hb, (ho.block g hlt (hn g rfl)).trans hg, h4⟩
theorem MB.keep {w w' : World} {base : Nat} {v : Value} {l : List UInt8} (h : MB w base v l) (hb : Below w.heap.size w w') : MB w' base v l := h.only (only_below hb) (fun _ _ e => e)
theorem MB.blk {w : World} {base : Nat} {v : Value} {l : List UInt8} (h : MB w base v l) {k : Nat} (hk : v.ownBlock = some k) : base ≤ k ∧ k < w.heap.size ∧ ∃ c fz, w.heap[k]? = some (.cells c 5 fz) := by
  rcases h with ⟨rfl, _⟩ | ⟨g, cap, cur, fz, rfl, hb, hg, _⟩
  · cases hk
  · injection hk with hk
    subst hk
    exact ⟨hb, (Array.getElem?_eq_some_iff.1 hg).1, cur, fz, hg⟩
theorem MB.cells {w : World} {base g cap : Nat} {l : List UInt8} {cur : Array Value} {fz : Nat × Nat} (hg : w.heap[g]? = some (.cells cur 5 fz)) (ht : cur.toList.take l.length = l.map bc) : ∀ j u, (l.map bc)[j]? = some u → w.cell? ((⟨g, 0, none⟩ : Addr).add j) = some u := by
  intro j u hj
  rw [WideShapes.add_plain, Lib.cell_of_heap hg, Nat.zero_add]
  rw [← ht, List.getElem?_take] at hj
  split at hj
  · simpa using hj
  · cases hj
/-- Such a row reads as its list. -/
theorem MB.holds {w : World} {base : Nat} {v : Value} {l : List UInt8} (h : MB w base v l) : ∃ A cap, v = .slice A l.length cap ∧ HB w A l.length l := by
  rcases h with ⟨rfl, rfl⟩ | ⟨g, cap, cur, fz, rfl, _, hg, _, _, _, _, ht⟩
  · exact ⟨none, 0, rfl, hb_nil _ _⟩
  · refine ⟨_, cap, rfl, rfl, fun _ => ⟨g, 0, rfl, fun k hk => ?_⟩⟩
    have := MB.cells (base := 0) (cap := cap) hg ht k (bc (l.getD k 0)) (by simp [List.getD, List.getElem?_eq_getElem hk])
    rwa [WideShapes.add_plain] at this
/-- What a conversion of a text makes. -/
theorem mb_conv (w : World) (l : List UInt8) (hl : l.length ≤ 1000000) : MB (Lib.bytesWorld w 5 (str l)) w.heap.size (.slice (some ⟨w.heap.size, 0, none⟩) (str l).size (grownCap w (str l).size 0 5)) l := by
  have hz := str_size l
  have hge := grownCap_ge w (str l).size 0 5
  have hm := grownCap_le_maxLen w (str l).size 0 5 (by rw [hz]; simp only [maxLen]; omega)
  have hsz : (Lib.bytesCells w 5 (str l)).size = grownCap w (str l).size 0 5 := by
    simp only [Lib.bytesCells, Array.size_append, Array.size_map, Array.size_replicate]
    show (str l).size + _ = _
    omega
  refine .inr ⟨w.heap.size, _, _, _, by rw [hz], Nat.le_refl _, Lib.bytesWorld_at_new w 5 (str l), .inr (Nat.le_refl _), by rw [← hz]; exact hge, hm, hsz, ?_⟩
  have e1 : (Lib.bytesCells w 5 (str l)).toList = l.map bc ++ List.replicate (grownCap w (str l).size 0 5 - (str l).size) (.int .u8 0) := by
    simp [Lib.bytesCells, str, bc, Function.comp_def]
  rw [e1]
  have e2 : (l.map bc).length = l.length := List.length_map _
  rw [← e2]
  exact List.take_left
theorem below_conv (w : World) (s : ByteArray) : Below w.heap.size w (Lib.bytesWorld w 5 s) :=
  ⟨rfl, rfl, rfl, by rw [Lib.bytesWorld_size]; omega, fun k hk => Lib.bytesWorld_at_old w 5 s k hk⟩
section
variable {P : Program}
theorem run_stores_M (g o : Nat) (t : TypeId) (fz : Nat × Nat) : ∀ (vs : List Value) (i : Nat) (cur : Array Value) (w : World), w.heap[g]? = some (.cells cur t fz) → (fz = (0, 0) ∨ cur.size ≤ fz.1) → o + i + vs.length ≤ cur.size → (∀ v ∈ vs, v.oneCell' = true) →
    (storeCells ⟨g, o, none⟩ vs i).run P w = .ok () (w.setRow g (cur.toList.take (o + i) ++ vs ++ cur.toList.drop (o + i + vs.length)).toArray) := by
  intro vs
  induction vs with
  | nil =>
    intro i cur w hg _ _ _
    have e : (cur.toList.take (o + i) ++ [] ++ cur.toList.drop (o + i + ([] : List Value).length)).toArray = cur := by simp
    rw [e, setRow_self w g cur t fz hg]
    rfl
  | cons v rest ih =>
    intro i cur w hg hf hl h1
    have hi : o + i < cur.size := by simp at hl; omega
    have hcell : w.cell? ⟨g, o + i, none⟩ = some cur[o + i] := by rw [Lib.cell_of_heap hg]; simp [hi]
    have hfro : w.frozen? ⟨g, o + i, none⟩ = false := by
      simp only [World.frozen?, hg]
      rcases hf with rfl | hf
      · simp
      · simp; omega
    have hst : (store ((⟨g, o, none⟩ : Addr).add i) v).run P w = .ok () (w.setRow g (cur.setIfInBounds (o + i) v)) := by
      rw [WideShapes.add_plain, run_store P w _ v _ (h1 v (by simp)), hcell]
      simp [hfro, setCell_eq_setRow w g (o + i) cur t fz v hg]
    have hrest := ih (i + 1) (cur.setIfInBounds (o + i) v) (w.setRow g (cur.setIfInBounds (o + i) v)) (setRow_heap w g cur _ t _ hg) (by rcases hf with e | e; exact .inl e; exact .inr (by simpa using e)) (by simp at hl ⊢; omega) (fun x hx => h1 x (by simp [hx]))
    simp only [storeCells, Sem.run_bind, hst, Result.andThen_ok, hrest, setRow_setRow]
    congr 3
    have e := list_seg_step cur.toList (o + i) v rest (by simp at hl ⊢; omega)
    simpa [Array.toList_setIfInBounds, Nat.add_assoc] using e
/-- append, of what has these cells ahead, onto such a row. -/
theorem run_append_M0 (w : World) (base t u ty : Nat) (i : TypeInfo) (ht : P.underlying t = some (.slice 5)) (hu : ∀ W, (underlying u).run P W = .ok (if u = t then .slice 5 else .string) W) (hi : P.info? 5 = some i) (hz : i.zero = some (.int .u8 0)) (hsize : i.size = 1) (hby : i.bytes = 1)
    (g cap : Nat) (cur : Array Value) (fz : Nat × Nat) (xs ys : List UInt8) (hb : base ≤ g) (hg : w.heap[g]? = some (.cells cur 5 fz)) (hf : fz = (0, 0) ∨ cur.size ≤ fz.1) (hn : xs.length ≤ cap) (hm : cap ≤ maxLen) (hs : cur.size = cap) (htk : cur.toList.take xs.length = xs.map bc)
    (x : Value) (hlen : ∀ W, (Builtin.lenOf x).run P W = .ok ys.length W) (hfirst : (Builtin.firstCells 1 ys.length x).run P w = .ok (ys.map bc).toArray w)
    (hroom : xs.length + ys.length ≤ cap) :
    (Builtin.append_ #[t, u] ty #[.slice (some ⟨g, 0, none⟩) xs.length cap, x]).run P w = .ok (.slice (some ⟨g, 0, none⟩) (xs.length + ys.length) cap) (w.setRow g (cur.toList.take xs.length ++ ys.map bc ++ cur.toList.drop (xs.length + ys.length)).toArray) := by
  have hst := run_stores_M (P := P) g xs.length 5 fz (ys.map bc) 0 cur w hg hf (by simp; omega) (fun v hv => by
    obtain ⟨b, _, rfl⟩ := List.mem_map.1 hv; rfl)
  simp only [Nat.add_zero, List.length_map] at hst
  have hu' := hu w
  by_cases e : u = t
  · rw [if_pos e] at hu'
    simp [Builtin.append_, run_underlying ht, hu', sizeOf, typeInfo, hi, hsize, hlen, hroom, hfirst, Addr.add_lit, hst]
  · rw [if_neg e] at hu'
    simp [Builtin.append_, run_underlying ht, hu', sizeOf, typeInfo, hi, hsize, hlen, hroom, hfirst, Addr.add_lit, hst]
theorem mb_room {w : World} {base g cap : Nat} {cur : Array Value} {fz : Nat × Nat} {xs ys : List UInt8} (hb : base ≤ g) (hg : w.heap[g]? = some (.cells cur 5 fz)) (hf : fz = (0, 0) ∨ cur.size ≤ fz.1) (hm : cap ≤ maxLen) (hs : cur.size = cap) (htk : cur.toList.take xs.length = xs.map bc) (hroom : xs.length + ys.length ≤ cap) :
    MB (w.setRow g (cur.toList.take xs.length ++ ys.map bc ++ cur.toList.drop (xs.length + ys.length)).toArray) base (.slice (some ⟨g, 0, none⟩) (xs.length + ys.length) cap) (xs ++ ys) := by
  have hlen : (cur.toList.take xs.length ++ ys.map bc ++ cur.toList.drop (xs.length + ys.length)).length = cur.size := by simp; omega
  refine .inr ⟨g, cap, _, fz, by rw [List.length_append], hb, setRow_heap w g cur _ _ _ hg, ?_, by rw [List.length_append]; exact hroom, hm, by rw [List.size_toArray, hlen, hs], ?_⟩
  · rcases hf with e | e
    · exact .inl e
    · exact .inr (by rw [List.size_toArray, hlen]; exact e)
  · show List.take (xs ++ ys).length (cur.toList.take xs.length ++ ys.map bc ++ cur.toList.drop (xs.length + ys.length)) = _
    rw [htk, ← List.map_append]
    have e2 : (xs ++ ys).length = ((xs ++ ys).map bc).length := by rw [List.length_map]
    rw [e2]
    exact List.take_left
theorem grown_setRow (w : World) (g : Nat) (cs : Array Value) : w.grownBy (w.setRow g cs) (some g) :=
  ⟨rfl, rfl, rfl, by simp, fun k _ hk => setRow_other w g k _ (fun e => hk (by rw [e]))⟩
/-- append of a slice of bytes onto such a row. -/
theorem run_append_M (w : World) (base t ty : Nat) (i : TypeInfo) (ht : P.underlying t = some (.slice 5)) (hi : P.info? 5 = some i) (hz : i.zero = some (.int .u8 0)) (hsize : i.size = 1) (hby : i.bytes = 1)
    (v : Value) (xs : List UInt8) (hown : MB w base v xs) (ad : Addr) (m c : Nat) (ys : List UInt8) (hr : HB w (some ad) m ys) (hn : xs.length + m ≤ 140737488355328) (hbase : base ≤ w.heap.size) :
    ∃ v' w', (Builtin.append_ #[t, t] ty #[v, .slice (some ad) m c]).run P w = .ok v' w' ∧ MB w' base v' (xs ++ ys) ∧ w.grownBy w' v.ownBlock := by
  rcases hown with ⟨rfl, rfl⟩ | ⟨g, cap, cur, fz, rfl, hb, hg, hf, hnc, hm, hs, htk⟩
  · obtain ⟨v', w', h1, h2, h3, _⟩ := run_onto_b (P := P) w base t ty i ht hi hz hsize hby (.slice none 0 0) [] (rb_nil _ _) (some ad) m c ys hr (fun e => by cases e) (by simpa using hn) hbase
    exact ⟨v', w', h1, h2.mb, h3⟩
  · have hym : ys.length = m := hr.1
    have hcell : ∀ j u, (ys.map bc)[j]? = some u → w.cell? (ad.add j) = some u := fun j u hj => by
      have hjl : j < ys.length := by
        rcases Nat.lt_or_ge j ys.length with h | h
        · exact h
        · rw [List.getElem?_eq_none (by simpa using h)] at hj; cases hj
      obtain ⟨b, off, e, hc⟩ := hr.2 (by omega)
      injection e with e
      subst e
      rw [WideShapes.add_plain, hc j (by omega)]
      rw [List.getElem?_map, List.getElem?_eq_getElem hjl] at hj
      simp only [Option.map_some, Option.some.injEq] at hj
      rw [← hj]
      simp [List.getD, List.getElem?_eq_getElem hjl]
    by_cases hroom : xs.length + ys.length ≤ cap
    · refine ⟨_, _, run_append_M0 (P := P) w base t t ty i ht (fun W => by rw [if_pos rfl]; exact run_underlying ht W) hi hz hsize hby g cap cur fz xs ys hb hg hf hnc hm hs htk (.slice (some ad) m c) (fun W => by rw [hym]; rfl) ?_ hroom, mb_room hb hg hf hm hs htk hroom, grown_setRow w g _⟩
      exact run_firstCells_some (P := P) w 1 ys.length ad m c (ys.map bc) (by simp) hcell
    · have hr2 := run_append_grow (P := P) w t ty 5 i (.int .u8 0) ht hi hz ⟨g, 0, none⟩ xs.length cap (xs.map bc) (by rw [hsize]; simp) (MB.cells (base := base) (cap := cap) hg htk) ad m c (ys.map bc) (by rw [hsize]; simp [hym]) hcell (by omega) (by omega) (growslice_fits (by omega) (by rw [hby]; omega))
      refine ⟨_, _, hr2, ?_, ⟨rfl, rfl, rfl, by simp, fun k hk _ => heap_alloc_old w.drew _ hk⟩⟩
      have hge := grownCap_ge w (xs.length + m) cap 5
      have hcm := grownCap_le_maxLen w (xs.length + m) cap 5 (by simp only [maxLen]; omega)
      refine .inr ⟨w.heap.size, _, _, (0, 0), by rw [List.length_append, hym], hbase, heap_alloc_new w.drew _, .inl rfl, by rw [List.length_append, hym]; exact hge, hcm, ?_, ?_⟩
      · simp only [Array.size_append, List.size_toArray, List.length_map, size_zeroCells, hym]
        have : (Value.int IntKind.u8 0).cells.size = 1 := rfl
        rw [this]
        omega
      · simp only [Array.toList_append, List.append_assoc]
        rw [← List.append_assoc, ← List.map_append, show (xs ++ ys).length = ((xs ++ ys).map bc).length by rw [List.length_map]]
        exact List.take_left
/-- append of a text onto such a row. -/
theorem run_append_MS (w : World) (base t u ty : Nat) (i : TypeInfo) (ht : P.underlying t = some (.slice 5)) (hu : P.underlying u = some .string) (hi : P.info? 5 = some i) (hz : i.zero = some (.int .u8 0)) (hsize : i.size = 1) (hby : i.bytes = 1)
    (v : Value) (xs : List UInt8) (hown : MB w base v xs) (s : List UInt8) (hn : xs.length + s.length ≤ 140737488355328) (hbase : base ≤ w.heap.size) :
    ∃ v' w', (Builtin.append_ #[t, u] ty #[v, .string (str s)]).run P w = .ok v' w' ∧ MB w' base v' (xs ++ s) ∧ w.grownBy w' v.ownBlock := by
  have hsz := str_size s
  have hsc : Lib.strCells (str s) = s.map bc := by simp [Lib.strCells, str, bc, Function.comp_def]
  rcases hown with ⟨rfl, rfl⟩ | ⟨g, cap, cur, fz, rfl, hb, hg, hf, hnc, hm, hs, htk⟩
  · obtain ⟨v', w', h1, h2, h3, _⟩ := run_onto_str (P := P) w base t u ty i ht hu hi hz hsize hby (.slice none 0 0) [] (rb_nil _ _) s (by simpa using hn) hbase
    exact ⟨v', w', h1, h2.mb, h3⟩
  · by_cases hroom : xs.length + s.length ≤ cap
    · have htu : u ≠ t := fun e => by rw [e, ht] at hu; cases hu
      refine ⟨_, _, run_append_M0 (P := P) w base t u ty i ht (fun W => by rw [if_neg htu]; exact run_underlying hu W) hi hz hsize hby g cap cur fz xs s hb hg hf hnc hm hs htk (.string (str s)) (fun W => by rw [← hsz]; rfl) ?_ hroom, mb_room hb hg hf hm hs htk hroom, grown_setRow w g _⟩
      have := Lib.run_firstCells_string (P := P) w 1 (str s)
      rw [hsz, hsc] at this
      exact this
    · have hr2 := Lib.run_append_grow_string (P := P) w t u ty 5 i (.int .u8 0) ht hu hi hz ⟨g, 0, none⟩ xs.length cap (xs.map bc) (by rw [hsize]; simp) (MB.cells (base := base) (cap := cap) hg htk) (str s) (by omega) (by omega) (growslice_fits (by omega) (by rw [hby]; omega))
      refine ⟨_, _, hr2, ?_, ⟨rfl, rfl, rfl, by simp, fun k hk _ => heap_alloc_old w.drew _ hk⟩⟩
      have hge := grownCap_ge w (xs.length + (str s).size) cap 5
      have hcm := grownCap_le_maxLen w (xs.length + (str s).size) cap 5 (by rw [hsz]; simp only [maxLen]; omega)
      refine .inr ⟨w.heap.size, _, _, (0, 0), by rw [List.length_append, hsz], hbase, heap_alloc_new w.drew _, .inl rfl, by rw [List.length_append, ← hsz]; exact hge, hcm, ?_, ?_⟩
      · simp only [Array.size_append, List.size_toArray, List.length_map, size_zeroCells, hsc]
        have : (Value.int IntKind.u8 0).cells.size = 1 := rfl
        rw [this]
        omega
      · simp only [Array.toList_append, List.append_assoc, hsc]
        rw [← List.append_assoc, ← List.map_append, show (xs ++ s).length = ((xs ++ s).map bc).length by rw [List.length_map]]
        exact List.take_left
theorem wpList_onto_M {w : World} {ops : Array Oper} {rest : List Oper} {o : Oper} {a : Act} {Q0 : Exit → Act → World → Prop} (hgd : o.guard = none) (s x : Operand) (t : TypeId)
    (ho : o.op = .call { callee := .builtin .append, args := #[s, x], argTypes := #[t, t] })
    (base : Nat) (i : TypeInfo) (ht : P.underlying t = some (.slice 5)) (hi : P.info? 5 = some i) (hz : i.zero = some (.int .u8 0)) (hsize : i.size = 1) (hby : i.bytes = 1)
    (v : Value) (xs : List UInt8) (hs : a.eval s = v) (hown : MB w base v xs) (ad : Addr) (m c : Nat) (ys : List UInt8) (hx : a.eval x = .slice (some ad) m c) (hr : HB w (some ad) m ys) (hn : xs.length + m ≤ 140737488355328) (hbase : base ≤ w.heap.size)
    (h : ∀ v' w', MB w' base v' (xs ++ ys) → w.grownBy w' v.ownBlock → wpList P ops Q0 rest (a.put o.dst v') w') : wpList P ops Q0 (o :: rest) a w := by
  refine wpList_plain hgd fun K hK => ?_
  obtain ⟨v', w', hr, h2, h3⟩ := run_append_M (P := P) w base t o.type i ht hi hz hsize hby v xs hown ad m c ys hr hn hbase
  unfold Oper.wp execOp
  simp only [ho, resolve, invoke, builtin, Sem.run_bind, Sem.run_pure, Result.andThen_ok, List.map_toArray, List.map_cons, List.map_nil, hs, hx, hr]
  exact hK _ _ (h v' w' h2 h3)
theorem wpList_onto_MS {w : World} {ops : Array Oper} {rest : List Oper} {o : Oper} {a : Act} {Q0 : Exit → Act → World → Prop} (hgd : o.guard = none) (sl x : Operand) (t u : TypeId)
    (ho : o.op = .call { callee := .builtin .append, args := #[sl, x], argTypes := #[t, u] })
    (base : Nat) (i : TypeInfo) (ht : P.underlying t = some (.slice 5)) (hu : P.underlying u = some .string) (hi : P.info? 5 = some i) (hz : i.zero = some (.int .u8 0)) (hsize : i.size = 1) (hby : i.bytes = 1)
    (v : Value) (xs : List UInt8) (hs : a.eval sl = v) (hown : MB w base v xs) (s : List UInt8) (hx : a.eval x = .string (str s)) (hn : xs.length + s.length ≤ 140737488355328) (hbase : base ≤ w.heap.size)
    (h : ∀ v' w', MB w' base v' (xs ++ s) → w.grownBy w' v.ownBlock → wpList P ops Q0 rest (a.put o.dst v') w') : wpList P ops Q0 (o :: rest) a w := by
  refine wpList_plain hgd fun K hK => ?_
  obtain ⟨v', w', hr, h2, h3⟩ := run_append_MS (P := P) w base t u o.type i ht hu hi hz hsize hby v xs hown s hn hbase
  unfold Oper.wp execOp
  simp only [ho, resolve, invoke, builtin, Sem.run_bind, Sem.run_pure, Result.andThen_ok, List.map_toArray, List.map_cons, List.map_nil, hs, hx, hr]
  exact hK _ _ (h v' w' h2 h3)
end
end Go.Proofs.YtjhfgajhmenboaaDoor
