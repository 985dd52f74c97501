/-
  Contract: Open, of the document's own answer, for whatever bytes and place.
-/
import Derived.Test.YtjhfgajhmenboaaDoorRefOpen
namespace Go.Proofs.YtjhfgajhmenboaaDoor
open Go.RowKit
set_option linter.unusedVariables false
set_option linter.unusedSimpArgs false

theorem openR_arg {l : List UInt8} {i : Int} (h : i < 0 ∨ (l.length : Int) < i) : openR l i = ([], 0, 1) := by unfold openR; rw [if_pos h]
theorem openR_at {l : List UInt8} {k : Nat} (h : k ≤ l.length) : openR l k = openN l k := by unfold openR; rw [if_neg (by omega)]; rfl
theorem openN_short {l : List UInt8} {k : Nat} (h : l.length < k + 2) : openN l k = ([], 0, 10) := by unfold openN; rw [if_pos h]
theorem openN_head {l : List UInt8} {k : Nat} {x y : UInt8} (h : k + 2 ≤ l.length) (hx : l.getD k 0 = x) (hy : l.getD (k + 1) 0 = y) (hne : y.toNat ≠ 255 - x.toNat) : openN l k = ([], 0, 14) := by
  unfold openN; rw [hx, hy, if_neg (by omega), if_pos hne]
theorem openN_tail {l : List UInt8} {k : Nat} {x y : UInt8} (h : k + 2 ≤ l.length) (hx : l.getD k 0 = x) (hy : l.getD (k + 1) 0 = y) (heq : y.toNat = 255 - x.toNat) (hs : l.length < k + (x.toNat + 6)) : openN l k = ([], 0, 10) := by
  unfold openN; rw [hx, hy, if_neg (by omega), if_neg (by simpa using heq), if_pos hs]
theorem openN_sum {l : List UInt8} {k : Nat} {x y : UInt8} (hx : l.getD k 0 = x) (hy : l.getD (k + 1) 0 = y) (heq : y.toNat = 255 - x.toNat) (hs : k + (x.toNat + 6) ≤ l.length)
    (hc : crcL ((l.drop (k + 2)).take x.toNat) ≠ four (l.getD (k + 2 + x.toNat) 0) (l.getD (k + 2 + x.toNat + 1) 0) (l.getD (k + 2 + x.toNat + 2) 0) (l.getD (k + 2 + x.toNat + 3) 0)) : openN l k = ([], 0, 14) := by
  unfold openN; rw [hx, hy, if_neg (by omega), if_neg (by simpa using heq), if_neg (by omega), if_pos hc]
theorem openN_yes {l : List UInt8} {k : Nat} {x y : UInt8} (hx : l.getD k 0 = x) (hy : l.getD (k + 1) 0 = y) (heq : y.toNat = 255 - x.toNat) (hs : k + (x.toNat + 6) ≤ l.length)
    (hc : crcL ((l.drop (k + 2)).take x.toNat) = four (l.getD (k + 2 + x.toNat) 0) (l.getD (k + 2 + x.toNat + 1) 0) (l.getD (k + 2 + x.toNat + 2) 0) (l.getD (k + 2 + x.toNat + 3) 0)) :
    openN l k = ((l.drop (k + 2)).take x.toNat, k + 6 + x.toNat, 0) := by
  unfold openN; rw [hx, hy, if_neg (by omega), if_neg (by simpa using heq), if_neg (by omega), if_neg (by simpa using hc)]

theorem RefOpen_any (A : Option Addr) (n cap : Nat) (l : List UInt8) (i : Int) (w : World) (hn : n ≤ 140737488355328) (hcap : n ≤ cap) (hcap2 : cap ≤ 9223372036854775807) (h : Hid (HB w A n l)) :
    Calls Tryd.prog 49 #[.slice A n cap, .int .i64 i] w fun e w' => ∃ v, e = .returned (.tuple #[v, .int .i64 ((openR l i).2.1 : Nat), .int .i64 ((openR l i).2.2 : Nat)]) ∧ RB w' w.heap.size v (openR l i).1 ∧ Below w.heap.size w w' := by
  have hl := h.out.1
  have none : ∀ (q : Nat × Nat) (w' : World), ∃ v : Value, Ending.returned (.tuple #[.slice none 0 0, .int .i64 (q.1 : Int), .int .i64 (q.2 : Int)]) = Ending.returned (.tuple #[v, .int .i64 (q.1 : Int), .int .i64 (q.2 : Int)]) ∧ RB w' w.heap.size v [] :=
    fun q w' => ⟨_, rfl, rb_nil w' _⟩
  by_cases hi : i < 0 ∨ (n : Int) < i
  · rw [openR_arg (by rw [hl]; exact hi)]
    refine (RefOpen_arg A n cap i w hn hi).mono ?_
    rintro e w' ⟨rfl, rfl⟩
    exact ⟨_, rfl, rb_nil _ _, Below.refl _ _⟩
  · obtain ⟨k, rfl⟩ : ∃ k : Nat, i = (k : Int) := ⟨i.toNat, by omega⟩
    have hk : k ≤ n := by omega
    rw [openR_at (by omega)]
    by_cases h2 : n < k + 2
    · rw [openN_short (by omega)]
      refine (RefOpen_short A n cap k w hn hk h2).mono ?_
      rintro e w' ⟨rfl, rfl⟩
      exact ⟨_, rfl, rb_nil _ _, Below.refl _ _⟩
    · obtain ⟨b, off, rfl, hc⟩ := h.out.2 (by omega)
      have hx := hc k (by omega)
      have hy := hc (k + 1) (by omega)
      clear hc
      obtain ⟨x, ex⟩ : ∃ x, l.getD k 0 = x := ⟨_, rfl⟩
      obtain ⟨y, ey⟩ : ∃ y, l.getD (k + 1) 0 = y := ⟨_, rfl⟩
      rw [ex] at hx
      rw [ey] at hy
      unfold bc at hx hy
      by_cases hne : y.toNat = 255 - x.toNat
      · by_cases hs : n < k + (x.toNat + 6)
        · rw [openN_tail (by omega) ex ey hne (by omega)]
          refine (RefOpen_tail b off n cap k x y w hn hcap hcap2 (by omega) hx hy hne hs).mono ?_
          rintro e w' ⟨rfl, rfl⟩
          exact ⟨_, rfl, rb_nil _ _, Below.refl _ _⟩
        · by_cases hcr : crcL ((l.drop (k + 2)).take x.toNat) = four (l.getD (k + 2 + x.toNat) 0) (l.getD (k + 2 + x.toNat + 1) 0) (l.getD (k + 2 + x.toNat + 2) 0) (l.getD (k + 2 + x.toNat + 3) 0)
          · rw [openN_yes ex ey hne (by omega) hcr]
            exact RefOpen_yes b off n cap k l _ x y _ _ _ _ _ w hn hcap hcap2 h hx hy hne (by omega) (Lib.hid rfl) (Lib.hid rfl) hcr (Lib.hid rfl) (Lib.hid rfl) (Lib.hid rfl) (Lib.hid rfl)
          · rw [openN_sum ex ey hne (by omega) hcr]
            refine (RefOpen_sum b off n cap k l _ x y _ _ _ _ _ w hn hcap hcap2 h hx hy hne (by omega) (Lib.hid rfl) (Lib.hid rfl) hcr (Lib.hid rfl) (Lib.hid rfl) (Lib.hid rfl) (Lib.hid rfl)).mono ?_
            rintro e w' ⟨rfl, hb⟩
            exact ⟨_, rfl, rb_nil _ _, hb⟩
      · rw [openN_head (by omega) ex ey hne]
        refine (RefOpen_head b off n cap k x y w hn hcap hcap2 (by omega) hx hy hne).mono ?_
        rintro e w' ⟨rfl, rfl⟩
        exact ⟨_, rfl, rb_nil _ _, Below.refl _ _⟩
end Go.Proofs.YtjhfgajhmenboaaDoor
