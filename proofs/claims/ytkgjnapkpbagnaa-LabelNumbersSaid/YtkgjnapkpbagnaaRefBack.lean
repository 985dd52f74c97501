/-
  Contract: Back, of the document's own answer; the plain facts for both Backs.
-/
import Derived.Test.YtkgjnapkpbagnaaCut
namespace Go.Proofs.Ytkgjnapkpbagnaa
open Go.RowKit
set_option linter.unusedVariables false
set_option linter.unusedSimpArgs false

/-- A text turned: its runes from the last to the first. -/
def backL (l : List UInt8) : List UInt8 := cat (runes l).reverse
/-- The first k runes turned. -/
def backTo (l : List UInt8) (k : Nat) : List UInt8 := cat ((runes l).take k).reverse
theorem backTo_zero (l : List UInt8) : backTo l 0 = [] := rfl
theorem backTo_all (l : List UInt8) : backTo l (runes l).length = backL l := by unfold backTo backL; rw [List.take_length]
theorem at_pos_zero {l : List UInt8} {pos : Nat} (h : At l 0 pos) : pos = 0 := by
  obtain ⟨h1, _, _, h4⟩ := h
  have := congrArg List.length h4
  simp only [List.take_zero, cat_nil, List.length_nil, List.length_take] at this
  omega
theorem at_mono {l : List UInt8} {k p pos : Nat} (h : At l k p) (h2 : At l (k + 1) pos) : p ≤ pos ∧ ∃ r, (runes l)[k]? = some (r, (l.take pos).drop p) := by
  obtain ⟨a1, a2, a3, a4⟩ := h
  obtain ⟨b1, b2, b3, b4⟩ := h2
  have hk : k < (runes l).length := by omega
  have hg : (runes l)[k]? = some (runes l)[k] := List.getElem?_eq_getElem hk
  rw [List.take_add_one, cat_append, a4, hg] at b4
  simp only [Option.toList_some, cat_cons, cat_nil, List.append_nil] at b4
  have hl := congrArg List.length b4
  simp only [List.length_append, List.length_take] at hl
  refine ⟨by omega, (runes l)[k].1, ?_⟩
  rw [hg, ← b4, List.drop_left' (by rw [List.length_take]; omega)]
theorem back_step {l : List UInt8} {k p pos : Nat} (h : At l (k - 1) p) (h2 : At l k pos) : p ≤ pos ∧ (l.take pos).drop p ++ backTo l (k - 1) = backTo l k := by
  cases k with
  | zero =>
    have e1 := at_pos_zero h
    have e2 := at_pos_zero h2
    subst e1; subst e2
    exact ⟨Nat.le_refl _, rfl⟩
  | succ k =>
    have h : At l k p := h
    obtain ⟨h3, r, h4⟩ := at_mono h h2
    refine ⟨h3, ?_⟩
    unfold backTo
    rw [List.take_add_one, show k + 1 - 1 = k from rfl, h4]
    simp only [Option.toList_some, List.reverse_append, List.reverse_cons, List.reverse_nil, List.nil_append, cat_append, cat_cons, cat_nil, List.append_nil]
theorem backTo_len {l : List UInt8} {k p : Nat} (h : At l k p) : (backTo l k).length = p := by
  obtain ⟨a1, a2, a3, a4⟩ := h
  have := congrArg List.length a4
  rw [List.length_take] at this
  unfold backTo cat at *
  simp only [List.length_flatMap, List.map_reverse, List.sum_reverse] at *
  omega
theorem at_len (l : List UInt8) : At l (runes l).length l.length := ⟨Nat.le_refl _, Nat.le_refl _, by simp [runes_nil], by rw [List.take_length, List.take_length, cat_runes]⟩
theorem backL_len (l : List UInt8) : (backL l).length = l.length := by rw [← backTo_all]; exact backTo_len (at_len l)

theorem ext_from (l : List UInt8) (a b : Nat) (h : b ≤ l.length) : (str l).extract a b = str ((l.take b).drop a) := by
  rw [ext_str, List.drop_take]

set_option maxRecDepth 100000 in
set_option maxHeartbeats 1000000 in
theorem RefBack_any (l : List UInt8) (w : World) (hs : l.length ≤ 1000000) :
    Calls Try.prog 16 #[.string (str l)] w fun e w' => e = .returned (.string (str (backL l))) ∧ Below w.heap.size w w' := by
  go_enter Try.func16, Try.ntmps16
  go_wp2
  go_loopw [3, 4] (fun o s wr => ∃ k pos p : Nat, Hid (At l k pos) ∧ Hid (At l (k - 1) p) ∧ p ≤ pos ∧ s = .int .i64 p ∧ o = .string (str (backTo l (k - 1))) ∧ wr = w.iter (str l) pos) (fun _ _ wr => l.length - wr.iterPos w.heap.size)
  case atStart => exact ⟨0, 0, 0, Lib.hid (at_zero l), Lib.hid (at_zero l), Nat.le_refl _, rfl, rfl, rfl⟩
  case round =>
    obtain ⟨k, pos, p, ha, hb, hpp, rfl, rfl, rfl⟩ := hrel
    have hlen := Lib.hid (backTo_len hb.out)
    have hsz : (str (backTo l (k - 1))).size ≤ 1000000 := by rw [str_size, hlen.out]; have := hb.out.1; omega
    by_cases hp : pos < l.length
    · obtain ⟨r, d, hnx, _, hd, hpd, hkl, _, ha2, _⟩ := at_step ha.out hp
      have ha2 := Lib.hid ha2
      have hn := hnx w
      clear hnx
      have hbk := Lib.hid (back_step hb.out ha.out).2
      have hx : Hid ((str l).extract p pos = str ((l.take pos).drop p)) := Lib.hid (ext_from l p pos (by omega))
      have hsl : pos ≤ (str l).size := by rw [str_size]; omega
      have hsz2 : (str l).size ≤ 1000000 := by rw [str_size]; omega
      go_wp2
      go_roundw
      case rel => exact ⟨k + 1, pos + d, pos, ha2, ha, by omega, rfl, by rw [hx.out, str_append, hbk.out]; rfl, rfl⟩
      case measure => simp only [World.iterPos_iter]; omega
    · have hn := (at_stop hp).1 w
      have e1 := Lib.hid (at_end ha.out hp).1
      have e2 := Lib.hid (at_end ha.out hp).2
      have hbk := Lib.hid (back_step hb.out ha.out).2
      have hx : Hid ((str l).extract p (str l).size = str ((l.take pos).drop p)) := Lib.hid (by rw [str_size, ← e1.out]; exact ext_from l p pos (by have := e1.out; omega))
      have hsl : p ≤ (str l).size := by rw [str_size]; have := e1.out; omega
      have hsz2 : (str l).size ≤ 1000000 := by rw [str_size]; omega
      go_wp2_with fail
      go_ret
      exact ⟨by rw [hx.out, str_append, hbk.out, e2.out, backTo_all]; rfl, below_iter _ _ _⟩
end Go.Proofs.Ytkgjnapkpbagnaa
