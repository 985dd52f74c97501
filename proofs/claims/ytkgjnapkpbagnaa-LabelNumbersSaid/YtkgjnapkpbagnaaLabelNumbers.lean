/-
  The walk of the closed law LabelNumbers.
-/
import Derived.Test.YtkgjnapkpbagnaaLabelTells
import Derived.Test.YtkgjnapkpbagnaaRuneFacts2
namespace Go.Proofs.Ytkgjnapkpbagnaa
open Go.RowKit
set_option linter.unusedVariables false
set_option linter.unusedSimpArgs false

/-- The texts of the closed law. -/
def texts : List (List UInt8) := [[], [97], [97, 98, 99, 100, 101, 102, 103, 104, 105, 106, 107, 108], [97, 98, 99, 100, 101, 102, 103, 104, 105, 106, 107, 108, 109], [195, 169, 195, 169, 195, 169, 195, 169, 195, 169, 195, 169, 195, 169, 195, 169, 195, 169, 195, 169, 195, 169, 195, 169], [195, 169, 195, 169, 195, 169, 195, 169, 195, 169, 195, 169, 195, 169, 195, 169, 195, 169, 195, 169, 195, 169, 195, 169, 195, 169], [31], [32], [127], [255], [97, 255, 98], [239, 191, 189], [226, 130, 172], [240, 157, 132, 158], [226, 130], [240, 157, 132], [206, 177, 206, 178, 206, 179, 207, 130, 207, 131, 207, 137], [97, 122, 123, 65, 90], [192, 128], [237, 160, 128], [97, 0], [194, 128], [244, 143, 191, 191]]
theorem texts_len : texts.length = 23 := rfl
theorem texts_short : ∀ x ∈ texts, x.length ≤ 30 := by decide
/-- The row of texts in block g. -/
def TextsAt (g : Nat) (w : World) : Prop := ∀ i x, texts[i]? = some x → w.cell? ⟨g, i, none⟩ = some (.string (str x))
theorem texts_at (w : World) : TextsAt w.heap.size (w.alloc (.cells (texts.map (fun l => Value.string (str l))).toArray 9)) := by
  intro i x hx
  rw [Lib.cell_of_heap (heap_alloc_new w _)]
  simp [hx]
/-- What stands in a round. -/
def Kept (g : Nat) (w wr : World) : Prop := TextsAt g wr ∧ Below g w wr ∧ g < wr.heap.size
theorem Kept.call {g : Nat} {w W W' : World} (h : Kept g w W) (hb : Below W.heap.size W W') : Kept g w W' := by
  obtain ⟨h1, h2, h3⟩ := h
  refine ⟨fun i x hx => ?_, h2.trans (hb.mono (Nat.le_of_lt h3)), Nat.lt_of_lt_of_le h3 hb.size⟩
  rw [hb.cell (p := ⟨g, i, none⟩) h3]
  exact h1 i x hx
theorem pad_long : (str (padL [] 5000)).size = 1000 := by
  rw [str_size]
  unfold padL padTo
  rw [show cutL [] (upTo 5000) = [] from rfl, List.nil_append, List.length_replicate, runes_nil]
  rfl
theorem fold_greek : foldL [206, 177, 207, 137] = [206, 145, 206, 169] := by decide

set_option maxRecDepth 100000 in
set_option maxHeartbeats 4000000 in
theorem LNumbers_walk (w : World) : Calls Try.prog 3 #[] w fun e w' => e = .returned (.bool true) ∧ Below w.heap.size w w' := by
  have hold := Lib.hid (show Kept w.heap.size w (w.alloc (.cells (texts.map (fun l => Value.string (str l))).toArray 9)) from ⟨texts_at w, (Below.refl _ w).alloc (Nat.le_refl _) _, by simp⟩)
  obtain ⟨g, eg⟩ : ∃ g, w.heap.size = g := ⟨_, rfl⟩
  rw [eg] at hold
  go_enter Try.func3, Try.ntmps3
  go_wp2_with fail
  go_loopw [6] (fun s wr => ∃ i : Nat, i ≤ 23 ∧ s = .int .i64 i ∧ Hid (Kept g w wr)) (fun s _ => 23 - (intOf s).toNat)
  case atStart => exact ⟨0, by omega, rfl, hold⟩
  case round =>
    obtain ⟨i, hi, rfl, K0⟩ := hrel
    by_cases hlt : i < 23
    · obtain ⟨x, ex⟩ : ∃ x, texts[i]? = some x := ⟨_, List.getElem?_eq_getElem (by rw [texts_len]; exact hlt)⟩
      have hl := texts_short x (List.mem_of_getElem? ex)
      have hx := K0.out.1 i x ex
      have b0 : (0 : Int) ≤ (i : Int) := by omega
      have b1 : (i : Int) < 23 := by omega
      clear ex
      go_wp2_with fail
      refine (Right_any x _).mono ?_
      rintro e w1 ⟨rfl, b⟩
      have K1 := Lib.hid (K0.out.call b)
      clear b
      go_wp2_with fail
      refine (RefRight_any x _ (by omega)).mono ?_
      rintro e w2 ⟨rfl, b⟩
      have K2 := Lib.hid (K1.out.call b)
      clear b
      go_wp2_with fail
      refine (Count_any x _ (by omega)).mono ?_
      rintro e w3 ⟨rfl, b⟩
      have K3 := Lib.hid (K2.out.call b)
      clear b
      go_wp2_with fail
      refine (RefCount_any x _ (by omega)).mono ?_
      rintro e w4 ⟨rfl, b⟩
      have K4 := Lib.hid (K3.out.call b)
      clear b
      go_wp2_with fail
      refine (LFold_any x _ (by omega)).mono ?_
      rintro e w5 ⟨rfl, b⟩
      have K5 := Lib.hid (K4.out.call b)
      clear b
      go_wp2_with fail
      refine (RefFold_any x _ (by omega)).mono ?_
      rintro e w6 ⟨rfl, b⟩
      have K6 := Lib.hid (K5.out.call b)
      clear b
      go_wp2_with fail
      refine (Back_any x _ (by omega)).mono ?_
      rintro e w7 ⟨rfl, b⟩
      have K7 := Lib.hid (K6.out.call b)
      clear b
      go_wp2_with fail
      refine (RefBack_any x _ (by omega)).mono ?_
      rintro e w8 ⟨rfl, b⟩
      have K8 := Lib.hid (K7.out.call b)
      clear b
      go_wp2_with fail
      go_loopw [3] (fun s wr => ∃ j : Nat, j ≤ 16 ∧ s = .int .i64 ((j : Int) - 1) ∧ Hid (Kept g w wr)) (fun s _ => (15 - intOf s).toNat)
      case atStart => exact ⟨0, by omega, rfl, K8⟩
      case round =>
        obtain ⟨j, hj, rfl, K0⟩ := hrel
        clear hx
        by_cases hlj : j < 16
        · have hd : decide ((j : Int) - 1 < 15) = true := decide_eq_true (by omega)
          go_wp2_with fail
          refine (Cut_any x ((j : Int) - 1) _ (by omega) (by omega) (by omega)).mono ?_
          rintro e w1 ⟨rfl, b⟩
          have K1 := Lib.hid (K0.out.call b)
          clear b
          go_wp2_with fail
          refine (RefCut_any x ((j : Int) - 1) _ (by omega) (by omega) (by omega)).mono ?_
          rintro e w2 ⟨rfl, b⟩
          have K2 := Lib.hid (K1.out.call b)
          clear b
          go_wp2_with fail
          refine (Pad_any x ((j : Int) - 1) _ (by omega) (by omega) (by omega)).mono ?_
          rintro e w3 ⟨rfl, b⟩
          have K3 := Lib.hid (K2.out.call b)
          clear b
          go_wp2_with fail
          refine (RefPad_any x ((j : Int) - 1) _ (by omega) (by omega) (by omega)).mono ?_
          rintro e w4 ⟨rfl, b⟩
          have K4 := Lib.hid (K3.out.call b)
          clear b
          go_wp2_with fail
          go_roundw
          case rel => exact ⟨j + 1, by omega, by go_num, K4⟩
          case measure => simp [intOf]; omega
        · have hd : decide ((j : Int) - 1 < 15) = false := decide_eq_false (by omega)
          go_wp2_with fail
          go_roundw
          case rel => exact ⟨i + 1, by omega, by go_num, K0⟩
          case measure => simp [intOf]; omega
    · have hpl := pad_long
      have egk : str [206, 145, 206, 169] = { data := #[206, 145, 206, 169] } := rfl
      go_wp2_with fail
      refine (Pad_any [] 5000 _ (by decide) (by decide) (by decide)).mono ?_
      rintro e w1 ⟨rfl, b⟩
      have K1 := Lib.hid (K0.out.call b)
      clear b
      go_wp2_with fail
      refine (LFold_any [206, 177, 207, 137] _ (by decide)).mono ?_
      rintro e w2 ⟨rfl, b⟩
      rw [fold_greek]
      have K2 := Lib.hid (K1.out.call b)
      clear b
      go_wp2_with fail
      refine (LKnown_any _).mono ?_
      rintro e w3 ⟨rfl, b⟩
      have K3 := Lib.hid (K2.out.call b)
      clear b
      go_wp2_with fail
      go_ret
      exact ⟨rfl, by rw [eg]; exact K3.out.2.1⟩
end Go.Proofs.Ytkgjnapkpbagnaa
