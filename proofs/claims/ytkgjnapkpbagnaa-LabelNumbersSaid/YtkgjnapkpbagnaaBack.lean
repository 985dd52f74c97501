/-
  Contract: Back, of package label: a row of bytes that is filled from its end.
-/
import Derived.Test.YtkgjnapkpbagnaaRefBack
import Derived.Lib.BufferWrite
import Derived.Deep.RegionLaw
import Derived.IntWalk
import Derived.Laws.CopyOwn
namespace Go.Proofs.Ytkgjnapkpbagnaa
open Go.RowKit
set_option linter.unusedVariables false
set_option linter.unusedSimpArgs false

/-- A copy of a text into a row, as one step of a region that draws its order. -/
theorem step_copy_row {P : Program} {ops : Array Oper} {o : Oper} {a : Act} {w : World} {K : Act → World → Prop} {Q : Exit → Act → World → Prop} {E : Prop}
    (hg : o.guard = none) (d x : Operand) (dT sT : TypeId) (hop : o.op = Op.call { callee := Callee.builtin Builtin.copy, args := #[d, x], argTypes := #[dT, sT] })
    (elem : TypeId) (hu : P.underlying dT = some (.slice elem)) (hs : (P.info? elem).map (·.size) = some 1)
    (g off dLen dCap : Nat) (hd : a.eval d = .slice (some ⟨g, off, none⟩) dLen dCap) (t : ByteArray) (hx : a.eval x = .string t) (cur : Array Value) (ty : TypeId) (hgw : w.heap[g]? = some (.cells cur ty (0, 0)))
    (hle : t.size ≤ dLen) (hfit : off + t.size ≤ cur.size) (row : Array Value) (hrow : (cur.toList.take off ++ Lib.byteCells t.data.toList ++ cur.toList.drop (off + t.size)).toArray = row)
    (hK : K (a.put o.dst (goInt t.size)) (w.setRow g row)) :
    if Region.wanted o (yielded ops a.tmps) = true then Oper.wp P o a w K Q else E := by
  have hw : Region.wanted o (yielded ops a.tmps) = true := by simp [Region.wanted, hg]
  rw [if_pos hw]
  have hrun := Lib.run_copy_row_string (P := P) w dT sT o.type elem g off dLen dCap t cur ty hu hs hgw hle hfit
  rw [hrow] at hrun
  unfold Oper.wp
  simp [execOp, hop, resolve, invoke, builtin, hd, hx, hrun, Result.andThen]
  exact hK

/-- The row of a call, filled from its end: the first k runes turned. -/
def Buf (l : List UInt8) (g k p : Nat) (w : World) : Prop :=
  ∃ cur : Array Value, w.heap[g]? = some (.cells cur 5 (0, 0)) ∧ cur.size = l.length ∧ cur.toList.drop (l.length - p) = Lib.byteCells (backTo l k)
theorem Buf.iter {l : List UInt8} {g k p : Nat} {w : World} (h : Buf l g k p w) (s : ByteArray) (pos : Nat) : Buf l g k p (w.iterAt (g + 1) s pos) := by
  obtain ⟨cur, h1, h2, h3⟩ := h
  exact ⟨cur, by rw [Lib.iterAt_other _ _ _ _ _ (by omega)]; exact h1, h2, h3⟩
theorem info1 : (Try.prog.info? 5).map (·.size) = some 1 := by kernel_rfl

theorem buf_next {l : List UInt8} {g k p pos : Nat} {w : World} {cur : Array Value} (h1 : At l (k - 1) p) (h2 : At l k pos) (hw : w.heap[g]? = some (.cells cur 5 (0, 0))) (hc : cur.size = l.length)
    (hb : cur.toList.drop (l.length - p) = Lib.byteCells (backTo l (k - 1))) :
    Buf l g k pos (w.setRow g (cur.toList.take (l.length - pos) ++ Lib.byteCells ((l.take pos).drop p) ++ cur.toList.drop (l.length - pos + (pos - p))).toArray) := by
  have hle := h2.1
  obtain ⟨hp, hbk⟩ := back_step h1 h2
  refine ⟨_, setRow_heap _ _ _ _ _ _ hw, ?_, ?_⟩
  · simp only [List.size_toArray, List.length_append, List.length_take, List.length_drop, Lib.byteCells_length, Array.length_toList]
    omega
  · have hcl : cur.toList.length = l.length := by rw [Array.length_toList]; exact hc
    rw [List.toList_toArray, List.append_assoc, List.drop_left' (by rw [List.length_take, hcl]; omega), show l.length - pos + (pos - p) = l.length - p by omega, hb, ← Lib.byteCells_append, hbk]

theorem buf_row {l : List UInt8} {g k p pos : Nat} {w : World} (h1 : At l (k - 1) p) (h2 : At l k pos) (hb : Buf l g (k - 1) p w) : ∃ cur row : Array Value,
    w.heap[g]? = some (.cells cur 5 (0, 0)) ∧ cur.size = l.length ∧
    (cur.toList.take (l.length - pos) ++ Lib.byteCells ((str l).extract p pos).data.toList ++ cur.toList.drop (l.length - pos + ((str l).extract p pos).size)).toArray = row ∧ Buf l g k pos (w.setRow g row) := by
  obtain ⟨cur, c1, c2, c3⟩ := hb
  refine ⟨cur, _, c1, c2, rfl, ?_⟩
  have h := buf_next h1 h2 c1 c2 c3
  have hle := h2.1
  have hpp := (back_step h1 h2).1
  rw [ext_from l p pos hle, str_list, str_size, List.length_drop, List.length_take, Nat.min_eq_left hle]
  exact h
theorem ext_size (l : List UInt8) (p pos : Nat) (h : pos ≤ l.length) : ((str l).extract p pos).size = pos - p := by
  rw [ext_from l p pos h, str_size, List.length_drop, List.length_take, Nat.min_eq_left h]
theorem buf_zero {l : List UInt8} {g k p pos : Nat} {w : World} (h1 : At l (k - 1) p) (h2 : At l k pos) (h0 : pos = 0) (hb : Buf l g (k - 1) p w) : ∃ cur row : Array Value,
    w.heap[g]? = some (.cells cur 5 (0, 0)) ∧ cur.size = l.length ∧
    (cur.toList.take 0 ++ Lib.byteCells ((str l).extract p pos).data.toList ++ cur.toList.drop (0 + ((str l).extract p pos).size)).toArray = row ∧ Buf l g k pos (w.setRow g row) := by
  obtain ⟨cur, c1, c2, c3⟩ := hb
  subst h0
  have hb0 : backTo l k = [] := List.length_eq_zero_iff.1 (backTo_len h2)
  have hcl : cur.toList.length = l.length := by rw [Array.length_toList]; exact c2
  refine ⟨cur, _, c1, c2, rfl, _, setRow_heap _ _ _ _ _ _ c1, ?_, ?_⟩
  · rw [ext_size l p 0 (Nat.zero_le _), ext_from l p 0 (Nat.zero_le _)]
    simp [Lib.byteCells, str_list, c2]
  · rw [ext_size l p 0 (Nat.zero_le _), ext_from l p 0 (Nat.zero_le _), hb0]
    simp [Lib.byteCells, str_list, c2]

theorem row_other {l : List UInt8} {g : Nat} {W : World} {pos : Nat} (row : Array Value) (h : W.heap[g + 1]? = some (.stringIter (str l) pos)) : (W.drew.setRow g row).heap[g + 1]? = some (.stringIter (str l) pos) := by
  rw [setRow_other _ _ _ _ (by omega)]; exact h

set_option maxRecDepth 100000 in
set_option maxHeartbeats 4000000 in
theorem Back_any (l : List UInt8) (w : World) (hs : l.length ≤ 1000000) :
    Calls Try.prog 15 #[.string (str l)] w fun e w' => e = .returned (.string (str (backL l))) ∧ Below w.heap.size w w' := by
  obtain ⟨i0, hi, hz0, hz1, hz2⟩ := info_parts info_byte
  obtain ⟨n, hn⟩ : ∃ n, l.length = n := ⟨_, rfl⟩
  have hz : (str l).size = n := by rw [str_size, hn]
  rw [hn] at hs
  have hn' := Lib.hid hn
  clear hn
  obtain ⟨M, hM⟩ : ∃ M, M = madeCells (Value.int .u8 0).cells (((n : Nat) : Int).toNat * i0.size) := ⟨_, rfl⟩
  have hMs : Hid (M.size = n) := Lib.hid (by rw [hM, size_madeCells, hz1]; simp)
  have hmk : ∀ W : World, (Instr.makeSlice 33 (.int .i64 (n : Int)) (.int .i64 (n : Int))).run Try.prog W = .ok (.slice (some ⟨W.heap.size, 0, none⟩) n n) (W.alloc (.cells M 5)) := fun W => by
    have h := run_make (P := Try.prog) W 33 5 i0 (.int .u8 0) Try.underlying33 hi hz0 .i64 .i64 (n : Int) (n : Int) (by omega) (by omega) (by rw [hz2]; omega) (by omega)
    rw [← hM] at h
    simpa using h
  clear hM hz0 hz1 hz2 hi
  have buf0 : Hid (Buf l w.heap.size 0 0 (w.alloc (.cells M 5))) := Lib.hid ⟨M, heap_alloc_new w _, by rw [hMs.out, hn'.out], by rw [Nat.sub_zero, backTo_zero, List.drop_of_length_le (by rw [Array.length_toList, hMs.out, hn'.out]; exact Nat.le_refl _)]; rfl⟩
  obtain ⟨g, eg⟩ : ∃ g, w.heap.size = g := ⟨_, rfl⟩
  go_enter Try.func15, Try.ntmps15
  go_wp2
  go_loopw [4] (fun s wr => ∃ k pos p : Nat, Hid (At l k pos) ∧ Hid (At l (k - 1) p) ∧ p ≤ pos ∧ pos ≤ n ∧ s = .int .i64 p ∧ Hid (Buf l g (k - 1) p wr) ∧ wr.heap[g + 1]? = some (.stringIter (str l) pos) ∧ Hid (Below g w wr)) (fun _ wr => n - wr.iterPos (g + 1))
  case atStart =>
    rw [eg] at buf0
    refine ⟨0, 0, 0, Lib.hid (at_zero l), Lib.hid (at_zero l), Nat.le_refl _, Nat.zero_le _, rfl, Lib.hid ?_, ?_, Lib.hid (((Below.refl _ w).alloc (by omega) _).alloc (by simp; omega) _)⟩
    · obtain ⟨cur, c1, c2, c3⟩ := buf0.out
      exact ⟨cur, by rw [World.iter, Below.heap_alloc _ _ _ (by simp; omega)]; rw [← eg] at c1 ⊢; exact c1, c2, c3⟩
    · have := World.iter_heap (w.alloc (.cells M 5)) (str l) 0
      simpa [eg] using this
  case round =>
    obtain ⟨k, pos, p, ha, hb, hpp, hpn, rfl, hbuf, hit, hbel⟩ := hrel
    have hxs := Lib.hid (ext_size l p pos (by rw [hn'.out]; exact hpn))
    by_cases hp : pos < n
    · obtain ⟨r, d, _, hnx, hd, hpd, hkl, _, ha2, _⟩ := at_step ha.out (by rw [hn'.out]; exact hp)
      have ha3 := Lib.hid ha2
      have hnn := fun ty => hnx wr (g + 1) ty hit
      have hpd2 : pos + d ≤ n := by rw [← hn'.out]; exact hpd
      clear hnx ha2
      have hbuf2 := Lib.hid (hbuf.out.iter (str l) (pos + d))
      have hit2 := Lib.hid (Lib.iterAt_heap wr (g + 1) (str l) pos (pos + d) hit)
      have hbel2 := Lib.hid (Lib.below_iterAt hbel.out (k := g + 1) (by omega) (str l) (pos + d))
      obtain ⟨W, hW⟩ : ∃ W, wr.iterAt (g + 1) (str l) (pos + d) = W := ⟨_, rfl⟩
      rw [hW] at hbuf2 hit2 hbel2
      have hle : ((str l).extract p pos).size ≤ pos := by rw [hxs.out]; omega
      by_cases h0 : pos = 0
      · obtain ⟨cur, row, c1, c2, c4, c5⟩ := buf_zero (w := W.drew) hb.out ha.out h0 hbuf2.out
        have w1 : IntKind.i64.wrap ((n : Int) - (pos : Int)) = (n : Int) := by rw [IntWalk.i64_in _ (by omega)]; omega
        have hle0 : ((str l).extract p pos).size ≤ 0 := by omega
        have h0' := Lib.hid h0
        have hfit : 0 + ((str l).extract p pos).size ≤ cur.size := by omega
        have c4' := Lib.hid c4
        have c5 := Lib.hid c5
        have c2 := Lib.hid c2
        clear h0 c4
        rw [hW] at hnn
        have hnn' := hnn
        clear hW
        go_wp2_with fail
        go_region_law (refine step_copy_row rfl (.tmp 19) (.tmp 23) 33 9 rfl 5 Try.underlying33 info1 g 0 0 0 (by simp [Act.eval, Act.put]) ((str l).extract p pos) (by simp [Act.eval, Act.put]) cur 5 c1 hle0 hfit row c4'.out ?_)
        have hit3 := Lib.hid (row_other row hit2.out)
        have hbel3 := Lib.hid (below_setRow hbel2.out.drew (Nat.le_refl _) row)
        obtain ⟨W2, hW2⟩ : ∃ W2, W.drew.setRow g row = W2 := ⟨_, rfl⟩
        rw [hW2] at hit3 hbel3 c5 ⊢
        clear hW2 w1
        go_wp2_with fail
        go_roundw
        case rel => exact ⟨k + 1, pos + d, pos, ha3, ha, by omega, hpd2, rfl, c5, hit3.out, hbel3⟩
        case measure => simp only [World.iterPos, hit3.out, hit]; omega
      · obtain ⟨cur, row, c1, c2, c4, c5⟩ := buf_row (w := W.drew) hb.out ha.out hbuf2.out
        rw [hn'.out] at c4 c2
        obtain ⟨q, hq⟩ : ∃ q, q + pos = n := ⟨n - pos, by omega⟩
        rw [show n - pos = q by omega] at c4
        have w1 : IntKind.i64.wrap ((n : Int) - (pos : Int)) = (q : Int) := by rw [IntWalk.i64_in _ (by omega)]; omega
        have q1 : q ≤ n := by omega
        have q2 : ¬ n = q := by omega
        have q3 : n - q = pos := by omega
        have hfit : q + ((str l).extract p pos).size ≤ cur.size := by omega
        have hq' := Lib.hid hq
        have c4' := Lib.hid c4
        have c5 := Lib.hid c5
        have c2' := Lib.hid c2
        clear hq c4 c2
        rw [hW] at hnn
        clear hW
        go_wp2_with fail
        go_region_law (refine step_copy_row rfl (.tmp 19) (.tmp 23) 33 9 rfl 5 Try.underlying33 info1 g q pos pos (by simp [Act.eval, Act.put]) ((str l).extract p pos) (by simp [Act.eval, Act.put]) cur 5 c1 hle hfit row c4'.out ?_)
        have hit3 := Lib.hid (row_other row hit2.out)
        have hbel3 := Lib.hid (below_setRow hbel2.out.drew (Nat.le_refl _) row)
        obtain ⟨W2, hW2⟩ : ∃ W2, W.drew.setRow g row = W2 := ⟨_, rfl⟩
        rw [hW2] at hit3 hbel3 c5 ⊢
        clear hW2 w1 q3 q2
        go_wp2_with fail
        go_roundw
        case rel => exact ⟨k + 1, pos + d, pos, ha3, ha, by omega, hpd2, rfl, c5, hit3.out, hbel3⟩
        case measure => simp only [World.iterPos, hit3.out, hit]; omega
    · have hnn := fun ty => (at_stop (l := l) (pos := pos) (by rw [hn'.out]; exact hp)).2 wr (g + 1) ty hit
      have he1 := Lib.hid (show pos = n by omega)
      have he2 := Lib.hid (at_end ha.out (by rw [hn'.out]; exact hp)).2
      obtain ⟨cur, row, c1, c2, c4, c5⟩ := buf_row (w := wr) hb.out ha.out hbuf.out
      rw [hn'.out] at c4 c2
      rw [show n - pos = 0 by omega] at c4
      have hxs2 : ((str l).extract p n).size = n - p := by rw [← he1.out]; exact hxs.out
      have hcp := Lib.run_copy_row_string (P := Try.prog) wr 33 9 3 5 g 0 n n ((str l).extract p n) cur 5 Try.underlying33 info1 c1 (by omega) (by omega)
      have c4' : (cur.toList.take 0 ++ Lib.byteCells ((str l).extract p n).data.toList ++ cur.toList.drop (0 + ((str l).extract p n).size)).toArray = row := by rw [he1.out] at c4; exact c4
      rw [c4'] at hcp
      have c5' : Hid (Buf l g (runes l).length n (wr.setRow g row)) := Lib.hid (by rw [← he2.out, ← he1.out]; exact c5)
      have hbel3 := Lib.hid (below_setRow hbel.out (Nat.le_refl _) row)
      obtain ⟨W2, hW2⟩ : ∃ W2, wr.setRow g row = W2 := ⟨_, rfl⟩
      rw [hW2] at hcp c5' hbel3
      have hconv : (convert 33 9 (.slice (some ⟨g, 0, none⟩) n n)).run Try.prog W2 = .ok (.string (str (backL l))) W2 := by
        obtain ⟨cu, d1, d2, d3⟩ := c5'.out
        rw [hn'.out, Nat.sub_self, List.drop_zero, backTo_all] at d3
        have h := run_convert_bytes_back (P := Try.prog) W2 33 9 5 ⟨g, 0, none⟩ n (backL l) Try.underlying33 Try.underlying5 Try.underlying9 (fun j hj => by
          rw [show (⟨g, 0, none⟩ : Addr).add j = ⟨g, j, none⟩ by simp [Addr.add]; omega, Lib.cell_of_heap d1]
          rw [← Array.getElem?_toList, d3]
          simp [Lib.byteCells, hj])
        rw [backL_len, hn'.out] at h
        exact h
      clear hW2 c4' c4 hxs2 c1 c2
      go_wp2_with fail
      go_ret
      exact ⟨rfl, by rw [eg]; exact hbel3.out⟩
end Go.Proofs.Ytkgjnapkpbagnaa
