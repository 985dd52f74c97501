/-
  Contracts: New, Open, of level.
-/
import Derived.Test.YtlknlicokacoiaaLvAct
namespace Go.Proofs.Ytlknlicokacoiaa
open Go.RowKit
set_option linter.unusedVariables false
set_option linter.unusedSimpArgs false

theorem info_place : (Try.prog.info? 112).map (fun i => (i.zero, i.size, i.bytes)) = some (some (.agg #[.int .i64 0, .int .i64 0, .int .i64 0, .bool false, .int .i64 0, .int .i64 0, .int .i64 0]), 7, 56) := by kernel_rfl
theorem info_ends : (Try.prog.info? 115).map (fun i => (i.zero, i.size, i.bytes)) = some (some (.agg #[.int .i64 0, .int .i64 0]), 2, 16) := by kernel_rfl
/-- An arena as New leaves it. -/
def newS (room : Nat) : St := ⟨List.replicate room false, []⟩
theorem newS_ok (room : Nat) : (newS room).Ok := by
  refine ⟨fun q l h => by simp [newS] at h, fun q q' l l' h => by simp [newS] at h, fun s => ?_, fun q l e h => by simp [newS] at h, ?_⟩
  · constructor
    · intro h
      have : (List.replicate room false)[s]? = some true := h
      rw [List.getElem?_replicate] at this
      split at this <;> simp at this
    · rintro ⟨q, l, e, h, _⟩; simp [newS] at h
  · simp [newS, List.count_replicate]
theorem newS_inv (room : Nat) : Inv (List.replicate room zeroP) [] (newS room) := by
  refine ⟨newS_ok room, by simp [newS], rfl, fun q l h => by simp [newS] at h, fun s h => ?_⟩
  have : (List.replicate room false)[s]? = some false := h
  rw [List.getElem?_replicate] at this ⊢
  split at this
  · rename_i hs; rw [if_pos hs]
  · simp at this
theorem rowsP_zero (n : Nat) : rowsP (List.replicate n zeroP) = (List.replicate n zeroP.row).flatten := by
  induction n with
  | zero => rfl
  | succ n ih => rw [List.replicate_succ, rowsP, ih, List.replicate_succ, List.flatten_cons]
theorem made_rows (n : Nat) : (madeCells #[.int .i64 0, .int .i64 0, .int .i64 0, .bool false, .int .i64 0, .int .i64 0, .int .i64 0] (n * 7)).toList = rowsP (List.replicate n zeroP) := by
  apply List.ext_getElem?
  intro j
  rcases Nat.lt_or_ge j (n * 7) with hj | hj
  · have e1 : (rowsP (List.replicate n zeroP))[j]? = zeroP.row[j % 7]? := by
      have h := rowsP_get (List.replicate n zeroP) (j / 7) (j % 7) zeroP (by rw [List.getElem?_replicate, if_pos (by omega)]) (by omega)
      rwa [show j / 7 * 7 + j % 7 = j by omega] at h
    rw [e1]
    simp only [madeCells, Array.toList_map, List.getElem?_map, Array.toList_range, List.getElem?_range hj, Option.map_some]
    have : j % 7 < 7 := by omega
    show some (#[Value.int .i64 0, .int .i64 0, .int .i64 0, .bool false, .int .i64 0, .int .i64 0, .int .i64 0][j % 7]!) = zeroP.row[j % 7]?
    generalize j % 7 = m at this
    match m, this with
    | 0, _ => rfl
    | 1, _ => rfl
    | 2, _ => rfl
    | 3, _ => rfl
    | 4, _ => rfl
    | 5, _ => rfl
    | 6, _ => rfl
    | m + 7, h => omega
  · rw [List.getElem?_eq_none (l := rowsP (List.replicate n zeroP)) (by rw [rowsP_len, List.length_replicate]; omega), List.getElem?_eq_none (by rw [Array.length_toList, size_madeCells]; omega)]
set_option maxRecDepth 100000 in
set_option maxHeartbeats 1000000 in
theorem New_no (room : Int) (w : World) (h : room < 1 ∨ 4096 < room) :
    Calls Try.prog 24 #[.int .i64 room] w fun e w' => e = .returned (.tuple #[.pointer none, .int .i64 1]) ∧ w = w' := by
  rcases h with h | h
  · have d1 : decide (room < 1) = true := decide_eq_true h
    go_enter Try.func24, Try.ntmps24
    go_wp2
    go_ret2
    exact ⟨rfl, rfl⟩
  · have d1 : decide (room < 1) = false := decide_eq_false (by omega)
    have d1' : ¬ room < 1 := by omega
    go_enter Try.func24, Try.ntmps24
    go_wp2
    go_ret2
    exact ⟨rfl, rfl⟩
set_option maxRecDepth 100000 in
set_option maxHeartbeats 1000000 in
theorem New_yes (room : Nat) (w : World) (h1 : 1 ≤ room) (h2 : room ≤ 4096) :
    Calls Try.prog 24 #[.int .i64 room] w fun e w' => ∃ c F, e = .returned (.tuple #[.pointer (some ⟨c, 0, none⟩), .int .i64 0]) ∧ AR w.heap.size c F (newS room) w' ∧ Below w.heap.size w w' := by
  obtain ⟨i0, hi0, hz0, hz1, hz2⟩ := info_parts info_place
  have d1 : decide ((room : Int) < 1) = false := decide_eq_false (by omega)
  have d1' : ¬ (room : Int) < 1 := by omega
  have d2 : ¬ (4096 : Int) < (room : Int) := by omega
  have d3 : decide ((4096 : Int) < (room : Int)) = false := decide_eq_false (by omega)
  have d4 : ¬ 4096 < room := by omega
  go_enter Try.func24, Try.ntmps24
  go_wp2_with (at_make; refine wpList_make_full _ (by rfl) (.tmp 10) (.tmp 10) 99 (by rfl) w.heap.size 112 i0 (.agg #[.int .i64 0, .int .i64 0, .int .i64 0, .bool false, .int .i64 0, .int .i64 0, .int .i64 0]) 7 Try.underlying99 hi0 hz0 hz1 .i64 .i64 _ _ room (by rfl) (by rfl) rfl rfl (by rw [hz2]; omega) (by unfold maxLen; omega) (Nat.le_refl _) ?_)
  intro w1 r1 g1
  replace r1 := Lib.hid r1
  replace g1 := Lib.hid g1
  have hbb : ∀ W : World, (Instr.build 102 #[(0, .slice (some ⟨w.heap.size, 0, none⟩) room room)]).run Try.prog W = .ok (.agg #[.slice (some ⟨w.heap.size, 0, none⟩) room room, .slice none 0 0]) W := fun W => by kernel_rfl
  go_wp2_with fail
  go_ret2
  refine ⟨w1.heap.size, foot w1.heap.size w.heap.size (.slice none 0 0), rfl, ⟨w.heap.size, .slice none 0 0, List.replicate room zeroP, [], rfl, ?_, newS_inv room, ?_⟩, ?_⟩
  · rcases r1.out.2 with ⟨e0, _⟩ | ⟨g, cap, cur, e0, b1, b2, b3, b4, b5, b6⟩
    · cases e0
    · injection e0 with e1 e2 e3
      injection e1 with e1
      injection e1 with e1
      subst e1
      subst e3
      have hlt : w.heap.size < w1.heap.size := (Array.getElem?_eq_some_iff.1 b2).1
      refine ⟨by rw [List.length_replicate]; exact heap_alloc_new w1 _, ⟨cur, (heap_alloc_old w1 _ _ hlt).trans b2, ?_⟩, World.ownsRow_nil _ _ _ _, by omega, (fun k h => by cases h), by rw [List.length_replicate]; exact h2⟩
      rw [← made_rows, ← b6, List.take_of_length_le (by rw [Array.length_toList, b5]; omega)]
  · have := g1.out.size
    rintro k (rfl | rfl | h)
    · exact this
    · exact Nat.le_refl _
    · cases h
  · exact ((Below.refl _ w).grown g1.out (Nat.le_refl _) (fun k h => by cases h)).alloc g1.out.size _
theorem below_of_only {p : Nat → Prop} {B : Nat} {w w' : World} (h : Only p w w') (hB : B ≤ w.heap.size) (hp : ∀ k, p k → B ≤ k) : Below B w w' := h.below hB (fun k hk e => by have := hp k e; omega)
theorem rowsE_one (e : Int × Int) (E : List (Int × Int)) : rowsE (E ++ [e]) = rowsE E ++ [.int .i64 e.1, .int .i64 e.2] := rowsE_snoc E e
set_option maxRecDepth 100000 in
set_option maxHeartbeats 1000000 in
theorem Open_any (B c : Nat) (F : Nat → Prop) (st : St) (w : World) (hA0 : Hid (AR B c F st w)) (hQ : st.Q.length ≤ 1000000) :
    Calls Try.prog 57 #[.pointer (some ⟨c, 0, none⟩)] w fun e w' => ∃ F', e = .returned (.int .i64 (st.Q.length : Int)) ∧ AR B c F' st.opened w' ∧ Only F w w' ∧ (∀ k, F' k → F k ∨ w.heap.size ≤ k) := by
  obtain ⟨s, v, L, E, eF, hA, hI, hB⟩ := hA0.out
  obtain ⟨i0, hi0, hz0, hz1, hz2⟩ := info_parts info_ends
  have hlc := (hA0.out.lt (k := c) (by rw [eF]; exact .inl rfl))
  obtain ⟨x0, x1, f0, f1⟩ := hA.cells
  have heQ := hI.elen
  obtain ⟨nE, enE⟩ : ∃ n, E.length = n := ⟨_, rfl⟩
  have henQ : st.Q.length = nE := by rw [← heQ, enE]
  rw [henQ] at hQ ⊢
  have R0 := hA.en
  rw [enE] at R0
  have hinv := Lib.hid hI.opened
  replace hA := Lib.hid hA
  replace hI := Lib.hid hI
  replace hB := Lib.hid hB
  replace enE := Lib.hid enE
  replace henQ := Lib.hid henQ
  clear heQ
  have hbe : ∀ W : World, (Instr.build 115 #[(0, .int .i64 (-1)), (1, .int .i64 (-1))]).run Try.prog W = .ok (.agg #[.int .i64 (-1), .int .i64 (-1)]) W := fun W => by kernel_rfl
  have R1 := Lib.hid (World.ownsRow.alloc R0 (.cells #[.int .i64 (-1), .int .i64 (-1)] 115))
  replace R0 := Lib.hid R0
  go_enter Try.func57, Try.ntmps57
  have hH : w.heap.size + 1 = (w.alloc (.cells #[.int .i64 (-1), .int .i64 (-1)] 115)).heap.size := by simp
  replace hH := Lib.hid hH
  go_wp2_with (at_builtin; refine wpList_append_lies _ rfl (.tmp 7) (.tmp 9) 100 rfl 0 115 i0 (.agg #[.int .i64 0, .int .i64 0]) 2 16 Try.underlying100 hi0 hz0 hz1 hz2 rfl (by decide) v nE _ rfl R1.out ⟨w.heap.size, 0, none⟩ 1 1 [.int .i64 (-1), .int .i64 (-1)] rfl rfl (World.news_of_block (heap_alloc_new w _)) (ints_oneCell .i64 [-1, -1]) (by omega) (by unfold maxLen; omega) (by omega) (Nat.zero_le _) _ rfl ?_)
  intro g cap w4 r4 g4 h4 l4
  have hcs : c < w.heap.size ∧ s < w.heap.size := ⟨hA.out.lt (.inl rfl), hA.out.lt (.inr (.inl rfl))⟩
  have hgg : g ≠ c ∧ g ≠ s := by
    rcases h4 with e | e
    · exact hA.out.qc g e
    · omega
  have O4 : Only (fun k => v.ownBlock = some k) w w4 := by
    refine ((alloc_only w _).mono (fun _ _ e => e.elim)).step (only_grown g4) (fun i hi e => e.symm)
  have at4 : w4.heap[c]? = some (.cells #[.slice (some ⟨s, 0, none⟩) L.length L.length, v] 102 (0, 0)) := (O4.block c hcs.1 (fun e => (hA.out.qc c e).1 rfl)).trans hA.out.at'
  have pl4 : ∃ cur : Array Value, w4.heap[s]? = some (.cells cur 112 (0, 0)) ∧ cur.toList = rowsP L := by
    obtain ⟨cur, a1, a2⟩ := hA.out.pl
    exact ⟨cur, (O4.block s hcs.2 (fun e => (hA.out.qc s e).2 rfl)).trans a1, a2⟩
  have m1 : w4.cell? ⟨c, 1, none⟩ = some v := by rw [Lib.cell_of_heap at4]; rfl
  have m2 := Lib.frozen_of_heap at4 1
  have hA5 : Ar c s (.slice (some ⟨g, 0, none⟩) (nE + 1) cap) L (E ++ [(-1, -1)]) (w4.setCell ⟨c, 1, none⟩ (.slice (some ⟨g, 0, none⟩) (nE + 1) cap)) := by
    refine ⟨heap_setCell_same w4 c 1 _ _ _ at4, ?_, ?_, hA.out.cs, ?_, hA.out.room⟩
    · obtain ⟨cur, a1, a2⟩ := pl4
      exact ⟨cur, (heap_setCell_other w4 ⟨c, 1, none⟩ s _ (fun e => hA.out.cs (by first | exact e | exact e.symm))).trans a1, a2⟩
    · have := row_only r4 (set_only w4 c 1 (.slice (some ⟨g, 0, none⟩) (nE + 1) cap)) (fun k hk e => by
        have hk' : g = k := by injection hk
        exact hgg.1 (hk'.trans e))
      rw [List.length_append, List.length_singleton, enE.out, rowsE_one]
      exact this
    · intro k hk
      have hk' : g = k := by injection hk
      rw [← hk']; exact hgg
  have O5 : Only F w (w4.setCell ⟨c, 1, none⟩ (.slice (some ⟨g, 0, none⟩) (nE + 1) cap)) := by
    rw [eF]
    exact (O4.mono (fun k _ e => .inr (.inr e))).trans ((set_only w4 c 1 _).mono (fun k _ e => .inl e))
  have hnew : ∀ k, foot c s (.slice (some ⟨g, 0, none⟩) (nE + 1) cap) k → F k ∨ w.heap.size ≤ k := by
    rw [eF]
    rintro k (rfl | rfl | hk)
    · exact .inl (.inl rfl)
    · exact .inl (.inr (.inl rfl))
    · have hk' : g = k := by injection hk
      subst hk'
      rcases h4 with e | e
      · exact .inl (.inr (.inr e))
      · right; omega
  have hB5 : ∀ k, foot c s (.slice (some ⟨g, 0, none⟩) (nE + 1) cap) k → B ≤ k := fun k hk => by
    rcases hnew k hk with e | e
    · exact hB.out k e
    · omega
  have fin := Lib.hid (And.intro hA5 (And.intro O5 (And.intro hnew hB5)))
  clear hA5 O5 hnew hB5 at4 pl4 r4 g4 h4 l4 O4 R1 R0 hbe x0 x1 f0 f1 hH
  have hw : IntKind.i64.wrap ((nE : Int) + 1 - 1) = (nE : Int) := by rw [show (nE : Int) + 1 - 1 = (nE : Int) by omega]; exact IntWalk.i64_in _ (by omega)
  go_wp2_with fail
  go_ret
  obtain ⟨a1, a2, a3, a4⟩ := fin.out
  exact ⟨_, by rfl, ⟨s, _, L, _, rfl, a1, hinv.out, a4⟩, a2, a3⟩
end Go.Proofs.Ytlknlicokacoiaa
