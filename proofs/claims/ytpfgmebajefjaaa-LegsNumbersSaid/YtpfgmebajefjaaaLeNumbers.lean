/-
  The walk of the closed law LegsNumbers.
-/
import Derived.Test.YtpfgmebajefjaaaLeSame
import Derived.Test.YtpfgmebajefjaaaLeKnown
namespace Go.Proofs.Ytpfgmebajefjaaa
open Go.RowKit
set_option linter.unusedVariables false
set_option linter.unusedSimpArgs false

theorem zero_ok (w : World) : PD.Ok (⟨[], none, 0, 0, 0, 0, 0, 0, 0, 0, 0, 0, none, 0, 0, fun _ => 0, fun _ => 0⟩ : PD) w := ⟨fun j hj => absurd hj (Nat.not_lt_zero j), fun j hj => absurd hj (Nat.not_lt_zero j), by show ([] : List UInt8).length ≤ _; simp, Nat.le_refl _, by show 0 ≤ _; omega, Nat.le_refl _, by show 0 ≤ _; omega, ⟨by show _ ≤ (0 : Int); omega, by show (0 : Int) ≤ _; omega⟩, ⟨by show _ ≤ (0 : Int); omega, by show (0 : Int) ≤ _; omega⟩, ⟨by show _ ≤ (0 : Int); omega, by show (0 : Int) ≤ _; omega⟩, ⟨by show _ ≤ (0 : Int); omega, by show (0 : Int) ≤ _; omega⟩, ⟨by show _ ≤ (0 : Int); omega, by show (0 : Int) ≤ _; omega⟩, ⟨by show _ ≤ (0 : Int); omega, by show (0 : Int) ≤ _; omega⟩, ⟨by show _ ≤ (0 : Int); omega, by show (0 : Int) ≤ _; omega⟩, ⟨by show _ ≤ (0 : Int); omega, by show (0 : Int) ≤ _; omega⟩⟩
theorem zero_prices : pricesL (⟨[], none, 0, 0, 0, 0, 0, 0, 0, 0, 0, 0, none, 0, 0, fun _ => 0, fun _ => 0⟩ : PD) 3 0 = (0, 0, 1) := by
  unfold pricesL
  rw [if_pos (by decide)]
set_option maxRecDepth 100000 in
set_option maxHeartbeats 1600000 in
theorem LNumbers_walk (w : World) :
    Calls Try.prog 3 #[] w fun e w' => e = .returned (.bool true) ∧ Below w.heap.size w w' := by
  have H3 : Calls Try.prog 7 #[.int .i64 1] w fun e w' => ∃ a1 a2 : Nat, e = .returned (.agg #[.string (str [67, 76]), .slice (some ⟨a1, 0, none⟩) 3 3, .int .i64 5, .int .i64 0, .int .i64 1000, .int .i64 200, .int .i64 1, .int .i64 4, .int .i64 2, .int .i64 40, .slice (some ⟨a2, 0, none⟩) 3 3]) ∧ PD.Ok (⟨[67, 76], some ⟨a1, 0, none⟩, 3, 3, 5, 0, 1000, 200, 1, 4, 2, 40, some ⟨a2, 0, none⟩, 3, 3, Q3, R3⟩ : PD) w' ∧ Below w.heap.size w w' := (Three_any 1 (by omega) w).mono fun e w' ⟨a1, a2, he, h1, h2, hb⟩ => ⟨a1, a2, he, ⟨h1, h2, by show [67, 76].length ≤ _; simp, Nat.le_refl _, by show 3 ≤ _; omega, Nat.le_refl _, by show 3 ≤ _; omega, ⟨by show _ ≤ (5 : Int); omega, by show (5 : Int) ≤ _; omega⟩, ⟨by show _ ≤ (0 : Int); omega, by show (0 : Int) ≤ _; omega⟩, ⟨by show _ ≤ (1000 : Int); omega, by show (1000 : Int) ≤ _; omega⟩, ⟨by show _ ≤ (200 : Int); omega, by show (200 : Int) ≤ _; omega⟩, ⟨by show _ ≤ (1 : Int); omega, by show (1 : Int) ≤ _; omega⟩, ⟨by show _ ≤ (4 : Int); omega, by show (4 : Int) ≤ _; omega⟩, ⟨by show _ ≤ (2 : Int); omega, by show (2 : Int) ≤ _; omega⟩, ⟨by show _ ≤ (40 : Int); omega, by show (40 : Int) ≤ _; omega⟩⟩, hb⟩
  go_enter Try.func3, Try.ntmps3
  go_wp2_with fail
  refine H3.mono ?_
  clear H3
  rintro e w1 ⟨a1, a2, rfl, hOk, b1⟩
  obtain ⟨q, eq⟩ : ∃ q, w1.heap.size = q := ⟨_, rfl⟩
  go_upto_region 2 with (fail)
  obtain ⟨W2, eW2⟩ : ∃ W, w1.alloc (.cells #[.string (str [67, 76]), .slice (some ⟨a1, 0, none⟩) 3 3, .int .i64 5, .int .i64 0, .int .i64 1000, .int .i64 200, .int .i64 1, .int .i64 4, .int .i64 2, .int .i64 40, .slice (some ⟨a2, 0, none⟩) 3 3] 25) = W := ⟨_, rfl⟩
  have hB2 := Lib.hid (show Below w.heap.size w W2 by rw [← eW2]; exact b1.alloc b1.size _)
  have hblk : W2.heap[q]? = some (.cells #[.string (str [67, 76]), .slice (some ⟨a1, 0, none⟩) 3 3, .int .i64 5, .int .i64 0, .int .i64 1000, .int .i64 200, .int .i64 1, .int .i64 4, .int .i64 2, .int .i64 40, .slice (some ⟨a2, 0, none⟩) 3 3] 25 (0, 0)) := by rw [← eW2, ← eq]; exact heap_alloc_new w1 _
  have hOk2 : PD.Ok (⟨[67, 76], some ⟨a1, 0, none⟩, 3, 3, 5, 0, 1000, 200, 1, 4, 2, 40, some ⟨a2, 0, none⟩, 3, 3, Q3, R3⟩ : PD) W2 := by rw [← eW2]; exact hOk.below ((Below.refl _ w1).alloc (Nat.le_refl _) _)
  rw [eW2]
  have hR : Hid (∀ W, Below W2.heap.size W2 W → W.heap[q]? = some (.cells #[.string (str [67, 76]), .slice (some ⟨a1, 0, none⟩) 3 3, .int .i64 5, .int .i64 0, .int .i64 1000, .int .i64 200, .int .i64 1, .int .i64 4, .int .i64 2, .int .i64 40, .slice (some ⟨a2, 0, none⟩) 3 3] 25 (0, 0))) := Lib.hid (fun W b => pd_blk' hblk b)
  have HS : Hid (∀ W i y, Below W2.heap.size W2 W → I64 i → I64 y → Calls Try.prog 8 #[.agg #[.string (str [67, 76]), .slice (some ⟨a1, 0, none⟩) 3 3, .int .i64 5, .int .i64 0, .int .i64 1000, .int .i64 200, .int .i64 1, .int .i64 4, .int .i64 2, .int .i64 40, .slice (some ⟨a2, 0, none⟩) 3 3], .int .i64 i, .int .i64 y] W fun e w' => e = .returned (.bool true) ∧ Below W.heap.size W w') := Lib.hid (fun W i y b hi hy => Same_yes (⟨[67, 76], some ⟨a1, 0, none⟩, 3, 3, 5, 0, 1000, 200, 1, 4, 2, 40, some ⟨a2, 0, none⟩, 3, 3, Q3, R3⟩ : PD) i y W (Lib.hid (hOk2.below b)) hi hy)
  have hB0 := Lib.hid (Below.refl W2.heap.size W2)
  clear eW2 hOk b1 eq hblk hOk2
  go_wp2_with fail
  go_loopw [2] (fun iv wr => ∃ i : Nat, iv = .int .i64 ((i : Int) - 1) ∧ i ≤ 9 ∧ Hid (Below W2.heap.size W2 wr)) (fun iv _ => (8 - intOf iv).toNat)
  case atStart => exact ⟨0, rfl, by omega, hB0⟩
  case round =>
    clear hB0
    obtain ⟨i, rfl, hi, hB⟩ := hrel
    by_cases hlt : i < 9
    · have d1 : decide ((i : Int) - 1 < 8) = true := decide_eq_true (by omega)
      have d2 : (i : Int) - 1 < 8 := by omega
      go_wp2_with fail
      go_loopw [3] (fun jv wx => ∃ j : Nat, jv = .int .i64 ((j : Int) - 210) ∧ j ≤ 421 ∧ Hid (Below W2.heap.size W2 wx)) (fun jv _ => (211 - intOf jv).toNat)
      case atStart => exact ⟨0, rfl, by omega, hB⟩
      case round =>
        clear hB d1 d2
        obtain ⟨j, rfl, hj, hB⟩ := hrel
        by_cases hlj : j < 421
        · have d1 : decide ((j : Int) - 210 ≤ 210) = true := decide_eq_true (by omega)
          have d2 : (j : Int) - 210 ≤ 210 := by omega
          rename World => wx
          obtain ⟨k0, k1, k2, k3, k4, k5, k6, k7, k8, k9, k10⟩ := row11 (hR.out wx hB.out)
          have HC := Lib.hid (HS.out wx ((i : Int) - 1) ((j : Int) - 210) hB.out ⟨by omega, by omega⟩ ⟨by omega, by omega⟩)
          go_wp2_with fail
          refine HC.out.mono ?_
          rintro e wy ⟨rfl, bb⟩
          have hBy := Lib.hid (below_top' hB.out bb)
          clear k0 k1 k2 k3 k4 k5 k6 k7 k8 k9 k10 HC bb hB
          go_wp2_with fail
          go_roundw
          case rel => exact ⟨j + 1, by go_num, by omega, hBy⟩
          case measure => simp [intOf]; omega
        · have d1 : decide ((j : Int) - 210 ≤ 210) = false := decide_eq_false (by omega)
          have d2 : ¬ ((j : Int) - 210 ≤ 210) := by omega
          go_wp2_with fail
          go_roundw
          case rel => exact ⟨i + 1, by go_num, by omega, hB⟩
          case measure => simp [intOf]; omega
    · have d1 : decide ((i : Int) - 1 < 8) = false := decide_eq_false (by omega)
      have d2 : ¬ ((i : Int) - 1 < 8) := by omega
      rename World => wr
      have HZ : Hid (Calls Try.prog 9 #[.agg #[.string (str []), .slice none 0 0, .int .i64 0, .int .i64 0, .int .i64 0, .int .i64 0, .int .i64 0, .int .i64 0, .int .i64 0, .int .i64 0, .slice none 0 0], .int .i64 3, .int .i64 0] wr fun e w' => e = .returned (.tuple #[.int .i64 0, .int .i64 0, .int .i64 1]) ∧ Below wr.heap.size wr w') := Lib.hid (by
        have := PPrices_any (⟨[], none, 0, 0, 0, 0, 0, 0, 0, 0, 0, 0, none, 0, 0, fun _ => 0, fun _ => 0⟩ : PD) 3 0 wr (Lib.hid (zero_ok wr)) ⟨by omega, by omega⟩ ⟨by omega, by omega⟩
        rw [zero_prices] at this
        exact this)
      clear HS hR
      go_wp2_with fail
      refine HZ.out.mono ?_
      rintro e wy ⟨rfl, bb⟩
      have hBy := Lib.hid (below_top' hB.out bb)
      clear HZ bb hB
      go_wp2_with fail
      refine (Known_any wy).mono ?_
      rintro e wz ⟨rfl, bb⟩
      have hBz := Lib.hid (below_top' hBy.out bb)
      clear bb hBy
      go_wp2_with fail
      go_ret
      exact ⟨rfl, below_top' hB2.out hBz.out⟩
end Go.Proofs.Ytpfgmebajefjaaa
