/-
  The walk of the closed law SymbolNumbers.
-/
import Derived.Test.YtfhegnmfkmolbaaSymFacts
namespace Go.Proofs.Ytfhegnmfkmolbaa
open Go.RowKit
set_option linter.unusedVariables false
set_option linter.unusedSimpArgs false

/-- The products and the names of the closed law. -/
def prods : List (List UInt8) := [[65], [65, 66, 67, 68], [65, 66, 67, 68, 69], [], [97], [206, 145], [206, 145, 206, 169, 206, 163, 206, 161], [206, 170], [206, 162], [65, 49]]
def names : List (List UInt8) := [[], [70, 48, 48], [65, 70, 48], [65, 70, 48, 48, 48], [65, 73, 48, 48], [65, 102, 48, 48], [65, 70, 120, 120], [65, 32, 70, 48, 48], [65, 70, 48, 48, 45, 65, 71, 48, 48], [65, 71, 48, 48, 45, 65, 70, 48, 48], [65, 70, 48, 48, 45, 65, 70, 48, 48], [65, 70, 48, 48, 45, 66, 71, 48, 48], [65, 70, 48, 48, 45, 65, 71, 48, 48, 45, 65, 72, 48, 48], [45], [65, 70, 48, 48, 45], [45, 65, 70, 48, 48], [65, 66, 67, 68, 69, 70, 48, 48], [65, 70, 70, 48, 48], [206, 169, 206, 169, 206, 169, 206, 169, 90, 57, 57], [206, 169, 206, 169, 206, 169, 206, 169, 206, 169, 90, 57, 57], [206, 169, 70, 48, 48, 45, 206, 169, 90, 57, 57], [255, 70, 48, 48]]
theorem prods_len : prods.length = 10 := rfl
theorem names_len : names.length = 22 := rfl
theorem prods_short : ∀ x ∈ prods, x.length ≤ 30 := by decide
theorem names_short : ∀ x ∈ names, x.length ≤ 30 := by decide
/-- The row of texts in block g. -/
def TextsAt (T : List (List UInt8)) (g : Nat) (w : World) : Prop := ∀ i x, T[i]? = some x → w.cell? ⟨g, i, none⟩ = some (.string (str x))
theorem texts_at (T : List (List UInt8)) (w : World) : TextsAt T w.heap.size (w.alloc (.cells (T.map (fun l => Value.string (str l))).toArray 9)) := by
  intro i x hx
  rw [Lib.cell_of_heap (heap_alloc_new w _)]
  simp [hx]
/-- What stands in a round. -/
def Kept (T : List (List UInt8)) (g : Nat) (w wr : World) : Prop := TextsAt T g wr ∧ Below g w wr ∧ g < wr.heap.size
theorem Kept.call {T : List (List UInt8)} {g : Nat} {w W W' : World} (h : Kept T g w W) (hb : Below W.heap.size W W') : Kept T g w W' := by
  obtain ⟨h1, h2, h3⟩ := h
  refine ⟨fun i x hx => ?_, h2.trans (hb.mono (Nat.le_of_lt h3)), Nat.lt_of_lt_of_le h3 hb.size⟩
  rw [hb.cell (p := ⟨g, i, none⟩) h3]
  exact h1 i x hx

set_option maxRecDepth 100000 in
set_option maxHeartbeats 8000000 in
theorem SNumbers_walk (w : World) : Calls Try.prog 3 #[] w fun e w' => e = .returned (.bool true) ∧ Below w.heap.size w w' := by
  go_enter Try.func3, Try.ntmps3
  go_wp2_with fail
  go_loopw [1] (fun s wr => ∃ j : Nat, j ≤ 172 ∧ s = .int .i64 (7 * (j : Int) - 1) ∧ Hid (Below w.heap.size w wr)) (fun s _ => (1202 - intOf s).toNat)
  case atStart => exact ⟨0, by omega, rfl, Lib.hid (Below.refl _ _)⟩
  case round =>
    obtain ⟨j, hj, rfl, hB⟩ := hrel
    by_cases hlj : j < 172
    · have hd : decide (7 * (j : Int) - 1 < 1202) = true := decide_eq_true (by omega)
      have hold := Lib.hid (show Kept prods wr.heap.size wr (wr.alloc (.cells (prods.map (fun l => Value.string (str l))).toArray 9)) from ⟨texts_at _ wr, (Below.refl _ wr).alloc (Nat.le_refl _) _, by simp⟩)
      obtain ⟨g, eg⟩ : ∃ g, wr.heap.size = g := ⟨_, rfl⟩
      rw [eg] at hold
      go_wp2_with fail
      go_loopw [20] (fun s V => ∃ i : Nat, i ≤ 10 ∧ s = .int .i64 i ∧ Hid (Kept prods g wr V)) (fun s _ => (10 - intOf s).toNat)
      case atStart => exact ⟨0, by omega, rfl, hold⟩
      case round =>
        obtain ⟨i, hi, rfl, K0⟩ := hrel
        by_cases hlt : i < 10
        · obtain ⟨x, ex⟩ : ∃ x, prods[i]? = some x := ⟨_, List.getElem?_eq_getElem (by rw [prods_len]; exact hlt)⟩
          have hl := prods_short x (List.mem_of_getElem? ex)
          have hx := K0.out.1 i x ex
          have b0 : (0 : Int) ≤ (i : Int) := by omega
          have b1 : (i : Int) < 10 := by omega
          obtain ⟨a, ea⟩ : ∃ a, codeL x (7 * (j : Int) - 1) = a := ⟨_, rfl⟩
          obtain ⟨c, ec⟩ : ∃ c, spreadL x (7 * (j : Int) - 1) 600 = c := ⟨_, rfl⟩
          obtain ⟨n, en⟩ : ∃ n, codeE x (7 * (j : Int) - 1) = n := ⟨_, rfl⟩
          obtain ⟨m, em⟩ : ∃ m, spreadE x (7 * (j : Int) - 1) 600 = m := ⟨_, rfl⟩
          have al : a.length ≤ 11 := by rw [← ea]; exact codeL_len _ _
          have cl : c.length ≤ 23 := by rw [← ec]; exact spreadL_len _ _ _
          have Ea := Lib.hid ea
          have Ec := Lib.hid ec
          have En := Lib.hid en
          have Em := Lib.hid em
          clear ex ea ec en em
          go_wp2_with fail
          refine (Code_any x (7 * (j : Int) - 1) _).mono ?_
          rintro e w1 ⟨rfl, b⟩
          rw [Ea.out, En.out]
          have K1 := Lib.hid (K0.out.call b)
          clear b
          go_wp2_with fail
          refine (RefCode_any x (7 * (j : Int) - 1) _ (by omega)).mono ?_
          rintro e w2 ⟨rfl, b⟩
          rw [Ea.out, En.out]
          have K2 := Lib.hid (K1.out.call b)
          clear b
          go_wp2_with fail
          refine (Spread_any x (7 * (j : Int) - 1) 600 _).mono ?_
          rintro e w3 ⟨rfl, b⟩
          rw [Ec.out, Em.out]
          have K3 := Lib.hid (K2.out.call b)
          clear b
          go_wp2_with fail
          refine (RefSpread_any x (7 * (j : Int) - 1) 600 _ (by omega)).mono ?_
          rintro e w4 ⟨rfl, b⟩
          rw [Ec.out, Em.out]
          have K4 := Lib.hid (K3.out.call b)
          clear b
          go_wp2_with fail
          refine (Parsed_any a _ (by omega)).mono ?_
          rintro e w5 ⟨rfl, b⟩
          have K5 := Lib.hid (K4.out.call b)
          clear b
          go_wp2_with fail
          refine (Parsed_any c _ (by omega)).mono ?_
          rintro e w6 ⟨rfl, b⟩
          have K6 := Lib.hid (K5.out.call b)
          clear b
          go_wp2_with fail
          go_roundw
          case rel => exact ⟨i + 1, by omega, by go_num, K6⟩
          case measure => simp [intOf]; omega
        · go_wp2_with fail
          go_roundw
          case rel => exact ⟨j + 1, by omega, by go_num, Lib.hid (hB.out.trans (K0.out.2.1.mono (by rw [← eg]; exact hB.out.size)))⟩
          case measure => simp [intOf]; omega
    · have hd : decide (7 * (j : Int) - 1 < 1202) = false := decide_eq_false (by omega)
      have hold := Lib.hid (show Kept names wr.heap.size wr (wr.alloc (.cells (names.map (fun l => Value.string (str l))).toArray 9)) from ⟨texts_at _ wr, (Below.refl _ wr).alloc (Nat.le_refl _) _, by simp⟩)
      obtain ⟨g, eg⟩ : ∃ g, wr.heap.size = g := ⟨_, rfl⟩
      rw [eg] at hold
      go_wp2_with fail
      go_loopw [79] (fun s V => ∃ i : Nat, i ≤ 22 ∧ s = .int .i64 i ∧ Hid (Kept names g wr V)) (fun s _ => (22 - intOf s).toNat)
      case atStart => exact ⟨0, by omega, rfl, hold⟩
      case round =>
        obtain ⟨i, hi, rfl, K0⟩ := hrel
        by_cases hlt : i < 22
        · obtain ⟨x, ex⟩ : ∃ x, names[i]? = some x := ⟨_, List.getElem?_eq_getElem (by rw [names_len]; exact hlt)⟩
          have hl := names_short x (List.mem_of_getElem? ex)
          have hx := K0.out.1 i x ex
          have b0 : (0 : Int) ≤ (i : Int) := by omega
          have b1 : (i : Int) < 22 := by omega
          clear ex
          go_wp2_with fail
          refine (Parsed_any x _ (by omega)).mono ?_
          rintro e w1 ⟨rfl, b⟩
          have K1 := Lib.hid (K0.out.call b)
          clear b
          go_wp2_with fail
          go_roundw
          case rel => exact ⟨i + 1, by omega, by go_num, K1⟩
          case measure => simp [intOf]; omega
        · go_wp2_with fail
          refine (SKnown_any _).mono ?_
          rintro e w1 ⟨rfl, b⟩
          have K1 := Lib.hid (K0.out.call b)
          clear b
          go_wp2_with fail
          go_ret
          exact ⟨rfl, hB.out.trans (K1.out.2.1.mono (by rw [← eg]; exact hB.out.size))⟩
end Go.Proofs.Ytfhegnmfkmolbaa
