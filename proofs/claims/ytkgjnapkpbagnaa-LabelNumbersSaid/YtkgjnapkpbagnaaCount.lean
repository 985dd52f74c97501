/-
  Contracts: Count and Right, of package label and of the document's own answer.
-/
import Derived.Test.YtkgjnapkpbagnaaBuilder
namespace Go.Proofs.Ytkgjnapkpbagnaa
open Go.RowKit
set_option linter.unusedVariables false
set_option linter.unusedSimpArgs false

/-- A round of a range over a text: the rune at hand, its width, and the next place. -/
theorem at_step {l : List UInt8} {k pos : Nat} (h : At l k pos) (hp : pos < l.length) : ∃ r d : Nat,
    (∀ (w : World) (ty : TypeId), (Instr.next (.pointer (some ⟨w.heap.size, 0, none⟩)) true ty).run Try.prog (w.iter (str l) pos) = .ok (.tuple #[.bool true, .int .i64 pos, .int .i32 r]) (w.iter (str l) (pos + d))) ∧
    (∀ (w : World) (b : Nat) (ty : TypeId), w.heap[b]? = some (.stringIter (str l) pos) → (Instr.next (.pointer (some ⟨b, 0, none⟩)) true ty).run Try.prog w = .ok (.tuple #[.bool true, .int .i64 pos, .int .i32 r]) (w.iterAt b (str l) (pos + d))) ∧
    1 ≤ d ∧ pos + d ≤ l.length ∧ k < (runes l).length ∧ (runes l)[k]? = some (r, (l.drop pos).take d) ∧ At l (k + 1) (pos + d) ∧ r ≤ 2147483647 := by
  obtain ⟨h1, h2, h3, h4⟩ := at_next h hp
  have hd := decode_str l pos hp
  have hs : pos < (str l).size := hp
  refine ⟨(step (l.drop pos)).1, (step (l.drop pos)).2, ?_, ?_, step_pos _, h4, h1, h2, h3, ?_⟩
  · intro w ty
    rw [run_next_any w (str l) pos ty hs, hd]
  · intro w b ty hb
    rw [Lib.run_next_any_at w b (str l) pos ty hb hs, hd]
  · rw [← hd]; exact decode_le _ _
theorem at_stop {l : List UInt8} {pos : Nat} (hp : ¬ pos < l.length) :
    (∀ (w : World) (ty : TypeId), (Instr.next (.pointer (some ⟨w.heap.size, 0, none⟩)) true ty).run Try.prog (w.iter (str l) pos) = .ok (.tuple #[.bool false]) (w.iter (str l) pos)) ∧
    (∀ (w : World) (b : Nat) (ty : TypeId), w.heap[b]? = some (.stringIter (str l) pos) → (Instr.next (.pointer (some ⟨b, 0, none⟩)) true ty).run Try.prog w = .ok (.tuple #[.bool false]) w) := by
  have hs : ¬ pos < (str l).size := hp
  exact ⟨fun w ty => run_next_end w (str l) pos ty hs, fun w b ty hb => Lib.run_next_end_at w b (str l) pos ty hb hs⟩

/-- May a label have the rune? -/
def okR (r : Nat) : Bool := decide (32 ≤ r ∧ r ≠ 127 ∧ r ≠ 65533)
theorem okR_yes {r : Nat} (h : okR r = true) : 32 ≤ r ∧ r ≠ 127 ∧ r ≠ 65533 := of_decide_eq_true h
theorem okR_no {r : Nat} (h : okR r = false) : ¬ (32 ≤ r ∧ r ≠ 127 ∧ r ≠ 65533) := of_decide_eq_false h
/-- Is the text a right label? -/
def rightB (l : List UInt8) : Bool := (runes l).all (fun p => okR p.1) && (decide (1 ≤ (runes l).length) && decide ((runes l).length ≤ 12))
theorem rightB_yes {l : List UInt8} (h : rightB l = true) : (∀ p ∈ runes l, okR p.1 = true) ∧ 1 ≤ (runes l).length ∧ (runes l).length ≤ 12 := by
  unfold rightB at h
  simp only [Bool.and_eq_true, List.all_eq_true, decide_eq_true_eq] at h
  exact ⟨h.1, h.2.1, h.2.2⟩
theorem rightB_of {l : List UInt8} (h1 : ∀ p ∈ runes l, okR p.1 = true) (h2 : 1 ≤ (runes l).length) (h3 : (runes l).length ≤ 12) : rightB l = true := by
  unfold rightB
  simp only [Bool.and_eq_true, List.all_eq_true, decide_eq_true_eq]
  exact ⟨h1, h2, h3⟩
theorem rightB_long {l : List UInt8} (h : 12 < (runes l).length) : rightB l = false := by
  unfold rightB
  rw [show decide ((runes l).length ≤ 12) = false from decide_eq_false (by omega)]
  simp
theorem rightB_bad {l : List UInt8} {k r : Nat} {x : List UInt8} (h : (runes l)[k]? = some (r, x)) (hr : okR r = false) : rightB l = false := by
  have hm := List.mem_of_getElem? h
  have : (runes l).all (fun p => okR p.1) = false := by
    rw [List.all_eq_false]
    exact ⟨_, hm, by simp [hr]⟩
  unfold rightB
  rw [this]
  rfl
/-- The first k runes are such as may be. -/
def OkTo (l : List UInt8) (k : Nat) : Prop := ∀ i r x, i < k → (runes l)[i]? = some (r, x) → okR r = true
theorem okTo_zero (l : List UInt8) : OkTo l 0 := fun i r x h => absurd h (Nat.not_lt_zero _)
theorem okTo_next {l : List UInt8} {k r : Nat} {x : List UInt8} (h : OkTo l k) (hk : (runes l)[k]? = some (r, x)) (hr : okR r = true) : OkTo l (k + 1) := by
  intro i r' x' hi he
  by_cases e : i = k
  · subst e; rw [hk] at he; cases he; exact hr
  · exact h i r' x' (by omega) he
theorem okTo_all {l : List UInt8} (h : OkTo l (runes l).length) : ∀ p ∈ runes l, okR p.1 = true := by
  intro p hp
  obtain ⟨i, hi, he⟩ := List.mem_iff_getElem.1 hp
  refine h i p.1 p.2 hi ?_
  rw [List.getElem?_eq_getElem hi, he]
theorem rightB_end {l : List UInt8} (h : OkTo l (runes l).length) (h12 : (runes l).length ≤ 12) : rightB l = decide (0 < ((runes l).length : Int)) := by
  by_cases h1 : 1 ≤ (runes l).length
  · rw [rightB_of (okTo_all h) h1 h12, decide_eq_true (by omega)]
  · unfold rightB
    rw [decide_eq_false (show ¬ 1 ≤ (runes l).length from h1), decide_eq_false (show ¬ (0 : Int) < ((runes l).length : Int) by omega)]
    simp

/-- The length of a text that the walk may see. -/
theorem fits {l : List UInt8} (h : l.length ≤ 140737488355328) : (runes l).length ≤ 140737488355328 := Nat.le_trans (runes_len l) h
theorem below_iter (w : World) (s : ByteArray) (pos : Nat) : Below w.heap.size w (w.iter s pos) := (Below.refl _ w).alloc (Nat.le_refl _) _
theorem ret_i {a b : Int} (h : a = b) : Ending.returned (.int .i64 a) = .returned (.int .i64 b) := by rw [h]
theorem ret_b {a b : Bool} (h : a = b) : Ending.returned (.bool a) = .returned (.bool b) := by rw [h]
theorem ret_s {a b : List UInt8} (h : a = b) : Ending.returned (.string (str a)) = .returned (.string (str b)) := by rw [h]

set_option maxRecDepth 100000 in
set_option maxHeartbeats 1000000 in
theorem Count_any (l : List UInt8) (w : World) (hs : l.length ≤ 140737488355328) :
    Calls Try.prog 11 #[.string (str l)] w fun e w' => e = .returned (.int .i64 (runes l).length) ∧ Below w.heap.size w w' := by
  have fl := fits hs
  go_enter Try.func11, Try.ntmps11
  go_wp2
  go_loopw [3] (fun c wr => ∃ k pos : Nat, k ≤ 140737488355328 ∧ c = .int .i64 k ∧ Hid (At l k pos) ∧ wr = w.iter (str l) pos) (fun _ wr => l.length - wr.iterPos w.heap.size)
  case atStart => exact ⟨0, 0, by omega, rfl, Lib.hid (at_zero l), rfl⟩
  case round =>
    obtain ⟨k, pos, hk, rfl, ha, rfl⟩ := hrel
    by_cases hp : pos < l.length
    · obtain ⟨r, d, hnx, _, hd, hpd, hkl, _, ha2, _⟩ := at_step ha.out hp
      have ha2 := Lib.hid ha2
      have hn := hnx w
      clear hnx
      go_wp2
      go_roundw
      case rel => exact ⟨k + 1, pos + d, by omega, by go_num, ha2, rfl⟩
      case measure => simp only [World.iterPos_iter]; omega
    · have hn := (at_stop hp).1 w
      have he := Lib.hid (at_end ha.out hp).2
      go_wp2
      go_ret
      exact ⟨ret_i (by rw [he.out]), below_iter _ _ _⟩

set_option maxRecDepth 100000 in
set_option maxHeartbeats 1000000 in
theorem RefCount_any (l : List UInt8) (w : World) (hs : l.length ≤ 140737488355328) :
    Calls Try.prog 12 #[.string (str l)] w fun e w' => e = .returned (.int .i64 (runes l).length) ∧ Below w.heap.size w w' := by
  have fl := fits hs
  go_enter Try.func12, Try.ntmps12
  go_wp2
  go_loopw [3] (fun c wr => ∃ k pos : Nat, k ≤ 140737488355328 ∧ c = .int .i64 k ∧ Hid (At l k pos) ∧ wr = w.iter (str l) pos) (fun _ wr => l.length - wr.iterPos w.heap.size)
  case atStart => exact ⟨0, 0, by omega, rfl, Lib.hid (at_zero l), rfl⟩
  case round =>
    obtain ⟨k, pos, hk, rfl, ha, rfl⟩ := hrel
    by_cases hp : pos < l.length
    · obtain ⟨r, d, hnx, _, hd, hpd, hkl, _, ha2, _⟩ := at_step ha.out hp
      have ha2 := Lib.hid ha2
      have hn := hnx w
      clear hnx
      go_wp2
      go_roundw
      case rel => exact ⟨k + 1, pos + d, by omega, by go_num, ha2, rfl⟩
      case measure => simp only [World.iterPos_iter]; omega
    · have hn := (at_stop hp).1 w
      have he := Lib.hid (at_end ha.out hp).2
      go_wp2
      go_ret
      exact ⟨ret_i (by rw [he.out]), below_iter _ _ _⟩

set_option maxRecDepth 100000 in
theorem Allowed_any (r : Nat) (w : World) (h : r ≤ 2147483647) : Calls Try.prog 23 #[.int .i32 r] w fun e w' => e = .returned (.bool (okR r)) ∧ w' = w := by
  by_cases h1 : 32 ≤ r <;> by_cases h2 : r = 127 <;> by_cases h3 : r = 65533
  all_goals
    have hb : okR r = decide (32 ≤ r ∧ r ≠ 127 ∧ r ≠ 65533) := rfl
    have Hb := Lib.hid hb
    clear hb
    have i1 : ((r : Int) == 127) = decide (r = 127) := by rw [Bool.eq_iff_iff]; simp; omega
    have i2 : ((r : Int) == 65533) = decide (r = 65533) := by rw [Bool.eq_iff_iff]; simp; omega
    go_enter Try.func23, Try.ntmps23
    go_wp2
    go_ret
    exact ⟨ret_b (by rw [Hb.out]; simp_all), rfl⟩
end Go.Proofs.Ytkgjnapkpbagnaa
