/-
  Contracts: Cut, of package label and of the document's own answer; strings.Clone.
-/
import Derived.Test.YtkgjnapkpbagnaaRight
namespace Go.Proofs.Ytkgjnapkpbagnaa
open Go.RowKit
set_option linter.unusedVariables false
set_option linter.unusedSimpArgs false

/-- The first n runes of a text. -/
def cutL (l : List UInt8) (n : Int) : List UInt8 := cat ((runes l).take n.toNat)
theorem cutL_le (l : List UInt8) (n : Int) : (cutL l n).length ≤ l.length := by
  have h : l = cat ((runes l).take n.toNat) ++ cat ((runes l).drop n.toNat) := by rw [← cat_append, List.take_append_drop, cat_runes]
  have := congrArg List.length h
  rw [List.length_append] at this
  unfold cutL; omega
theorem cut_stop {l : List UInt8} {k pos : Nat} {n : Int} (h : At l k pos) (h1 : n ≤ k) (h2 : ∀ j : Nat, j < k → (j : Int) < n) : l.take pos = cutL l n := by
  obtain ⟨_, _, _, h4⟩ := h
  unfold cutL
  rw [← h4]
  by_cases hk : k = 0
  · subst hk; rw [show n.toNat = 0 by omega]
  · have := h2 (k - 1) (by omega)
    rw [show n.toNat = k by omega]
theorem cut_all {l : List UInt8} {n : Int} (h : ∀ j : Nat, j < (runes l).length → (j : Int) < n) : l = cutL l n := by
  unfold cutL
  by_cases h0 : (runes l).length = 0
  · rw [List.take_of_length_le (by omega), cat_runes]
  · have := h ((runes l).length - 1) (by omega)
    rw [List.take_of_length_le (by omega), cat_runes]

theorem ext_str (l : List UInt8) (a b : Nat) : (str l).extract a b = str ((l.drop a).take (b - a)) := ByteArray.extract_mk l a b
theorem ext_to (l : List UInt8) (b : Nat) : (str l).extract 0 b = str (l.take b) := by rw [ext_str]; simp

theorem Clone_any (l : List UInt8) (w : World) (hs : l.length ≤ 140737488355328) :
    Calls Try.prog 30 #[.string (str l)] w fun e w' => e = .returned (.string (str l)) ∧ Below w.heap.size w w' := by
  go_enter Try.func30, Try.ntmps30
  go_wp2_with (go_at_call 34; refine (Try.stringslite_Clone (str l) _ (by rw [str_size]; omega)).mono ?_; rintro e w' ⟨rfl, hb⟩)
  go_ret
  exact ⟨rfl, hb⟩

set_option maxRecDepth 100000 in
set_option maxHeartbeats 1000000 in
theorem Cut_any (l : List UInt8) (n : Int) (w : World) (hs : l.length ≤ 140737488355328) (n1 : -9223372036854775808 ≤ n) (n2 : n ≤ 9223372036854775807) :
    Calls Try.prog 17 #[.string (str l), .int .i64 n] w fun e w' => e = .returned (.string (str (cutL l n))) ∧ Below w.heap.size w w' := by
  have fl := fits hs
  go_enter Try.func17, Try.ntmps17
  go_wp2
  go_loopw [5] (fun c wr => ∃ k pos : Nat, k ≤ 140737488355328 ∧ c = .int .i64 k ∧ Hid (At l k pos) ∧ Hid (∀ j : Nat, j < k → (j : Int) < n) ∧ wr = w.iter (str l) pos) (fun _ wr => l.length - wr.iterPos w.heap.size)
  case atStart => exact ⟨0, 0, by omega, rfl, Lib.hid (at_zero l), Lib.hid (fun j hj => absurd hj (Nat.not_lt_zero _)), rfl⟩
  case round =>
    obtain ⟨k, pos, hk, rfl, ha, hj, rfl⟩ := hrel
    by_cases hp : pos < l.length
    · obtain ⟨r, d, hnx, _, hd, hpd, hkl, _, ha2, _⟩ := at_step ha.out hp
      have ha2 := Lib.hid ha2
      have hn := hnx w
      clear hnx
      by_cases hc : n ≤ k
      · have hd1 : decide (n ≤ (k : Int)) = true := decide_eq_true hc
        have he := Lib.hid (cut_stop ha.out hc hj.out)
        have hx : Hid ((str l).extract 0 pos = str (cutL l n)) := Lib.hid (by rw [ext_to, he.out])
        have hs2 : pos ≤ (str l).size := by rw [str_size]; omega
        go_wp2_with fail
        rw [hx.out]
        refine (Clone_any _ _ (Nat.le_trans (cutL_le l n) hs)).mono ?_
        rintro e w' ⟨rfl, hb⟩
        go_wp2_with fail
        go_ret
        exact ⟨rfl, (below_iter _ _ _).trans (hb.mono (by simp [World.iter]))⟩
      · have hd1 : decide (n ≤ (k : Int)) = false := decide_eq_false hc
        have hj2 : Hid (∀ j : Nat, j < k + 1 → (j : Int) < n) := Lib.hid (fun j h => by have := hj.out; by_cases e : j = k; omega; exact this j (by omega))
        go_wp2
        go_roundw
        case rel => exact ⟨k + 1, pos + d, by omega, by go_num, ha2, hj2, rfl⟩
        case measure => simp only [World.iterPos_iter]; omega
    · have hn := (at_stop hp).1 w
      have he := Lib.hid (at_end ha.out hp).2
      have hall := Lib.hid (cut_all (l := l) (n := n) (by rw [← he.out]; exact hj.out))
      go_wp2_with (go_at_call 30; refine (Clone_any l _ hs).mono ?_; rintro e w' ⟨rfl, hb⟩)
      go_ret
      exact ⟨ret_s hall.out, (below_iter _ _ _).trans (hb.mono (by simp [World.iter]))⟩

theorem cutL_neg (l : List UInt8) {n : Int} (h : n ≤ 0) : cutL l n = [] := by
  unfold cutL; rw [show n.toNat = 0 by omega]; rfl

set_option maxRecDepth 100000 in
set_option maxHeartbeats 1000000 in
theorem RefCut_any (l : List UInt8) (n : Int) (w : World) (hs : l.length ≤ 140737488355328) (n1 : -9223372036854775808 ≤ n) (n2 : n ≤ 9223372036854775807) :
    Calls Try.prog 18 #[.string (str l), .int .i64 n] w fun e w' => e = .returned (.string (str (cutL l n))) ∧ Below w.heap.size w w' := by
  have fl := fits hs
  go_enter Try.func18, Try.ntmps18
  go_wp2
  go_loopw [5] (fun c wr => ∃ k pos : Nat, k ≤ 140737488355328 ∧ c = .int .i64 k ∧ Hid (At l k pos) ∧ Hid (∀ j : Nat, j < k → (j : Int) < n) ∧ wr = w.iter (str l) pos) (fun _ wr => l.length - wr.iterPos w.heap.size)
  case atStart => exact ⟨0, 0, by omega, rfl, Lib.hid (at_zero l), Lib.hid (fun j hj => absurd hj (Nat.not_lt_zero _)), rfl⟩
  case round =>
    obtain ⟨k, pos, hk, rfl, ha, hj, rfl⟩ := hrel
    by_cases hp : pos < l.length
    · obtain ⟨r, d, hnx, _, hd, hpd, hkl, _, ha2, _⟩ := at_step ha.out hp
      have ha2 := Lib.hid ha2
      have hn := hnx w
      clear hnx
      by_cases hc : n ≤ k
      · have hd1 : decide (n ≤ (k : Int)) = true := decide_eq_true hc
        have he := Lib.hid (cut_stop ha.out hc hj.out)
        have hx : Hid ((str l).extract 0 pos = str (cutL l n)) := Lib.hid (by rw [ext_to, he.out])
        have hs2 : pos ≤ (str l).size := by rw [str_size]; omega
        go_wp2_with fail
        go_ret
        exact ⟨by rw [hx.out]; rfl, below_iter _ _ _⟩
      · have hd1 : decide (n ≤ (k : Int)) = false := decide_eq_false hc
        have hj2 : Hid (∀ j : Nat, j < k + 1 → (j : Int) < n) := Lib.hid (fun j h => by have := hj.out; by_cases e : j = k; omega; exact this j (by omega))
        go_wp2
        go_roundw
        case rel => exact ⟨k + 1, pos + d, by omega, by go_num, ha2, hj2, rfl⟩
        case measure => simp only [World.iterPos_iter]; omega
    · have hn := (at_stop hp).1 w
      have he := Lib.hid (at_end ha.out hp).2
      by_cases h0 : n ≤ 0
      · have hd1 : decide (n ≤ 0) = true := decide_eq_true h0
        have hz := Lib.hid (cutL_neg l h0)
        go_wp2_with fail
        go_ret
        exact ⟨by rw [hz.out]; rfl, below_iter _ _ _⟩
      · have hd1 : decide (n ≤ 0) = false := decide_eq_false h0
        have hall := Lib.hid (cut_all (l := l) (n := n) (by rw [← he.out]; exact hj.out))
        go_wp2_with fail
        go_ret
        exact ⟨ret_s hall.out, below_iter _ _ _⟩
end Go.Proofs.Ytkgjnapkpbagnaa
