/-
  Contracts: monthOf, withDigit and readMonth of package symbol.
-/
import Derived.Test.YtfhegnmfkmolbaaSymCode3
namespace Go.Proofs.Ytfhegnmfkmolbaa
open Go.RowKit
set_option linter.unusedVariables false
set_option linter.unusedSimpArgs false

theorem cat_singles (t : List UInt8) : cat (t.map (fun b => (b.toNat, [b]))) = t := by
  induction t with
  | nil => rfl
  | cons b t ih => rw [List.map_cons, cat_cons, ih]; rfl
theorem letters_ascii : ∀ b ∈ letters, b.toNat < 128 := by decide
theorem at_letters {k pos : Nat} (h : At letters k pos) : pos = k := by
  have h1 := at_uniq h
  have h2 := h.2.1
  rw [runes_ascii _ letters_ascii] at h1 h2
  rw [← List.map_take, cat_singles, List.length_take] at h1
  rw [List.length_map] at h2
  omega
theorem rune_letters {k r : Nat} {x : List UInt8} (h : (runes letters)[k]? = some (r, x)) : r = (letters.getD k 0).toNat := by
  rw [runes_ascii _ letters_ascii, List.getElem?_map] at h
  cases hk : letters[k]? with
  | none => rw [hk] at h; cases h
  | some b =>
    rw [hk] at h
    simp only [Option.map_some, Option.some.injEq, Prod.mk.injEq] at h
    rw [List.getD_eq_getElem?_getD, hk]
    exact h.1.symm
theorem idx_all {a : Nat} (h : ∀ j, j < 12 → (letters.getD j 0).toNat ≠ a) : idx a = none := by
  cases hi : idx a with
  | none => rfl
  | some i => exact absurd (idx_some hi).2 (h i (idx_some hi).1)

set_option maxRecDepth 100000 in
set_option maxHeartbeats 1000000 in
theorem MonthOf_any (a : Nat) (o : Option Nat) (w : World) (ha : a ≤ 2147483647) (ho : idx a = o) :
    Calls Try.prog 29 #[.int .i32 a] w fun e w' => e = .returned (.tuple #[.int .i64 ((o.getD 0 : Nat) : Int), .bool o.isSome]) ∧ Below w.heap.size w w' := by
  have Ho := Lib.hid ho
  clear ho
  go_enter Try.func29, Try.ntmps29
  go_wp2
  go_loopw [] (fun wr => ∃ k : Nat, k ≤ 12 ∧ Hid (At letters k k) ∧ Hid (∀ j, j < k → (letters.getD j 0).toNat ≠ a) ∧ wr = w.iter (⟨#[70, 71, 72, 74, 75, 77, 78, 81, 85, 86, 88, 90]⟩ : ByteArray) k) (fun wr => 12 - wr.iterPos w.heap.size)
  case atStart => exact ⟨0, by omega, Lib.hid (at_zero _), Lib.hid (fun j h => absurd h (Nat.not_lt_zero _)), rfl⟩
  case round =>
    obtain ⟨k, hk, hat, hj, rfl⟩ := hrel
    by_cases hp : k < 12
    · obtain ⟨r, d, hnx, _, hd, hpd, hkl, hg, ha2, hr⟩ := at_step hat.out hp
      have e1 := at_letters ha2
      have hd1 : d = 1 := by omega
      subst hd1
      have er := rune_letters hg
      have ha2 := Lib.hid ha2
      have hn : ∀ ty : TypeId, (Instr.next (.pointer (some ⟨w.heap.size, 0, none⟩)) true ty).run Try.prog (w.iter (⟨#[70, 71, 72, 74, 75, 77, 78, 81, 85, 86, 88, 90]⟩ : ByteArray) k) = .ok (.tuple #[.bool true, .int .i64 k, .int .i32 r]) (w.iter (⟨#[70, 71, 72, 74, 75, 77, 78, 81, 85, 86, 88, 90]⟩ : ByteArray) (k + 1)) := hnx w
      clear hnx hg e1
      by_cases hc : r = a
      · have hi := idx_of hp (er.symm.trans hc)
        rw [Ho.out] at hi
        subst hi
        clear er
        subst hc
        have hb : ((r : Int) == (r : Int)) = true := by simp
        go_wp2
        go_ret2
        exact ⟨rfl, below_iter _ _ _⟩
      · have hj2 : Hid (∀ j, j < k + 1 → (letters.getD j 0).toNat ≠ a) := Lib.hid (fun j h => by
          by_cases e : j = k
          · subst e; omega
          · exact hj.out j (by omega))
        have hb : ((r : Int) == (a : Int)) = false := by simp; omega
        have hb2 : (r == a) = false := by simp; omega
        clear er hc
        go_wp2
        go_roundw
        case rel => exact ⟨k + 1, by omega, ha2, hj2, rfl⟩
        case measure => simp only [World.iterPos_iter]; omega
    · have hn : ∀ ty : TypeId, (Instr.next (.pointer (some ⟨w.heap.size, 0, none⟩)) true ty).run Try.prog (w.iter (⟨#[70, 71, 72, 74, 75, 77, 78, 81, 85, 86, 88, 90]⟩ : ByteArray) k) = .ok (.tuple #[.bool false]) (w.iter (⟨#[70, 71, 72, 74, 75, 77, 78, 81, 85, 86, 88, 90]⟩ : ByteArray) k) := (at_stop (l := letters) hp).1 w
      have hi := idx_all (a := a) (fun j h => hj.out j (by omega))
      rw [Ho.out] at hi
      subst hi
      go_wp2
      go_ret2
      exact ⟨rfl, below_iter _ _ _⟩

theorem dig_ways {b : Nat} (h : dig b = false) : b < 48 ∨ 57 < b := by have := dig_no h; omega
set_option maxRecDepth 100000 in
theorem WithDigit_yes (n r : Nat) (w : World) (hn : n ≤ 9) (hr : dig r = true) :
    Calls Try.prog 30 #[.int .i64 n, .int .i32 r] w fun e w' => e = .returned (.tuple #[.int .i64 ((10 * n + (r - 48) : Nat) : Int), .bool true]) ∧ w' = w := by
  have ⟨h1, h2⟩ := dig_yes hr
  clear hr
  have t1 : decide ((r : Int) < 48) = false := decide_eq_false (by omega)
  have t2 : decide (57 < (r : Int)) = false := decide_eq_false (by omega)
  go_enter Try.func30, Try.ntmps30
  go_wp2
  go_ret2
  refine ⟨?_, rfl⟩
  have e : ((10 * n + (r - 48) : Nat) : Int) = 10 * (n : Int) + ((r : Int) - 48) := by omega
  rw [e]
  rfl
set_option maxRecDepth 100000 in
theorem WithDigit_no (n r : Nat) (w : World) (hn : n ≤ 9) (hb : r ≤ 2147483647) (hr : dig r = false) :
    Calls Try.prog 30 #[.int .i64 n, .int .i32 r] w fun e w' => e = .returned (.tuple #[.int .i64 0, .bool false]) ∧ w' = w := by
  rcases dig_ways hr with h1 | h1
  · clear hr
    have t1 : decide ((r : Int) < 48) = true := decide_eq_true (by omega)
    go_enter Try.func30, Try.ntmps30
    go_wp2
    go_ret2
    exact ⟨rfl, rfl⟩
  · clear hr
    have t1 : decide ((r : Int) < 48) = false := decide_eq_false (by omega)
    have t2 : decide (57 < (r : Int)) = true := decide_eq_true (by omega)
    go_enter Try.func30, Try.ntmps30
    go_wp2
    go_ret2
    exact ⟨rfl, rfl⟩
end Go.Proofs.Ytfhegnmfkmolbaa
