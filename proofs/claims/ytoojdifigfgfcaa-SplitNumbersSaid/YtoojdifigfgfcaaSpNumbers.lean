/-
  The law SplitNumbers: its walk.
-/
import Derived.Test.YtoojdifigfgfcaaSpKnown
namespace Go.Proofs.Ytoojdifigfgfcaa
open Go.RowKit
set_option linter.unusedVariables false
set_option linter.unusedSimpArgs false

theorem mid_I64 {l : List Int} (h : l.all (fun x => decide (-9000000 ≤ x) && decide (x ≤ 9000000)) = true) : ∀ x ∈ l, I64 x := fun x hx => by
  have := List.all_eq_true.1 h x hx
  simp only [Bool.and_eq_true, decide_eq_true_eq] at this
  exact ⟨by omega, by omega⟩
/-- Eight lists lie in this block. -/
def Eight (W : World) (G : Nat) : Prop := ∀ i, i < 8 → ∃ A n c l, W.cell? ⟨G, i, none⟩ = some (.slice A n c) ∧ Holds W A n l ∧ n ≤ 251 ∧ n ≤ c
theorem Eight.below {W W' : World} {G : Nat} (h : Eight W G) (hb : Below W.heap.size W W') : Eight W' G := fun i hi => by
  obtain ⟨A, n, c, l, h1, h2, h3, h4⟩ := h i hi
  exact ⟨A, n, c, l, (hb.cell (p := ⟨G, i, none⟩) (World.block_lt_of_cell? W _ h1)).trans h1, h2.below hb, h3, h4⟩
theorem lit_at (w : World) (xs : List Int) (n g : Nat) (T : TypeId) (hn : xs.length = n) (hg : w.heap.size = g) (hx : ∀ x ∈ xs, I64 x) : Holds (w.alloc (.cells (xs.map (Value.int .i64)).toArray T)) (some ⟨g, 0, none⟩) n xs := by
  subst hn; subst hg; exact holds_lit w xs T hx
def askL : List Int := [-1, 0, 1, 3, 5, 10, 20, 48, 49, 2000001]
theorem askL_holds (w : World) : Holds (w.alloc (.cells #[.int .i64 (-1), .int .i64 0, .int .i64 1, .int .i64 3, .int .i64 5, .int .i64 10, .int .i64 20, .int .i64 48, .int .i64 49, .int .i64 2000001] 2)) (some ⟨w.heap.size, 0, none⟩) 10 askL := holds_lit w [-1, 0, 1, 3, 5, 10, 20, 48, 49, 2000001] 2 (mid_I64 (by decide))
def leastL : List Int := [0, 1, 2, 4]
theorem leastL_holds (w : World) : Holds (w.alloc (.cells #[.int .i64 0, .int .i64 1, .int .i64 2, .int .i64 4] 2)) (some ⟨w.heap.size, 0, none⟩) 4 leastL := holds_lit w [0, 1, 2, 4] 2 (mid_I64 (by decide))
def partL : List Int := [-1, 0, 1, 33, 50, 99, 100, 101]
theorem partL_holds (w : World) : Holds (w.alloc (.cells #[.int .i64 (-1), .int .i64 0, .int .i64 1, .int .i64 33, .int .i64 50, .int .i64 99, .int .i64 100, .int .i64 101] 2)) (some ⟨w.heap.size, 0, none⟩) 8 partL := holds_lit w [-1, 0, 1, 33, 50, 99, 100, 101] 2 (mid_I64 (by decide))
attribute [irreducible] askL leastL partL
theorem eight_of (w : World) : ∃ W, ((((((((w.alloc (.cells #[.int .i64 0] 2)).alloc (.cells #[.int .i64 1] 2)).alloc (.cells #[.int .i64 10, .int .i64 10] 2)).alloc (.cells #[.int .i64 6, .int .i64 3, .int .i64 1] 2)).alloc (.cells #[.int .i64 1000000, .int .i64 1000000, .int .i64 1] 2)).alloc (.cells #[.int .i64 1000001] 2)).alloc (.cells #[.int .i64 7, .int .i64 11, .int .i64 13, .int .i64 17] 2)).alloc (.cells #[.slice none 0 0, .slice (some ⟨w.heap.size, 0, none⟩) 1 1, .slice (some ⟨w.heap.size + 1, 0, none⟩) 1 1, .slice (some ⟨w.heap.size + 1 + 1, 0, none⟩) 2 2, .slice (some ⟨w.heap.size + 1 + 1 + 1, 0, none⟩) 3 3, .slice (some ⟨w.heap.size + 1 + 1 + 1 + 1, 0, none⟩) 3 3, .slice (some ⟨w.heap.size + 1 + 1 + 1 + 1 + 1, 0, none⟩) 1 1, .slice (some ⟨w.heap.size + 1 + 1 + 1 + 1 + 1 + 1, 0, none⟩) 4 4] 22)) = W ∧ Eight W (w.heap.size + 1 + 1 + 1 + 1 + 1 + 1 + 1) ∧ Below w.heap.size w W := by
  refine ⟨_, rfl, ?_, ?_⟩
  · have L0 := ((((((((lit_at w [0] 1 (w.heap.size) 2 rfl (by simp) (mid_I64 (by decide))).alloc (.cells #[.int .i64 1] 2)).alloc (.cells #[.int .i64 10, .int .i64 10] 2)).alloc (.cells #[.int .i64 6, .int .i64 3, .int .i64 1] 2)).alloc (.cells #[.int .i64 1000000, .int .i64 1000000, .int .i64 1] 2)).alloc (.cells #[.int .i64 1000001] 2)).alloc (.cells #[.int .i64 7, .int .i64 11, .int .i64 13, .int .i64 17] 2)).alloc (.cells #[.slice none 0 0, .slice (some ⟨w.heap.size, 0, none⟩) 1 1, .slice (some ⟨w.heap.size + 1, 0, none⟩) 1 1, .slice (some ⟨w.heap.size + 1 + 1, 0, none⟩) 2 2, .slice (some ⟨w.heap.size + 1 + 1 + 1, 0, none⟩) 3 3, .slice (some ⟨w.heap.size + 1 + 1 + 1 + 1, 0, none⟩) 3 3, .slice (some ⟨w.heap.size + 1 + 1 + 1 + 1 + 1, 0, none⟩) 1 1, .slice (some ⟨w.heap.size + 1 + 1 + 1 + 1 + 1 + 1, 0, none⟩) 4 4] 22))
    have L1 := (((((((lit_at (w.alloc (.cells #[.int .i64 0] 2)) [1] 1 (w.heap.size + 1) 2 rfl (by simp) (mid_I64 (by decide))).alloc (.cells #[.int .i64 10, .int .i64 10] 2)).alloc (.cells #[.int .i64 6, .int .i64 3, .int .i64 1] 2)).alloc (.cells #[.int .i64 1000000, .int .i64 1000000, .int .i64 1] 2)).alloc (.cells #[.int .i64 1000001] 2)).alloc (.cells #[.int .i64 7, .int .i64 11, .int .i64 13, .int .i64 17] 2)).alloc (.cells #[.slice none 0 0, .slice (some ⟨w.heap.size, 0, none⟩) 1 1, .slice (some ⟨w.heap.size + 1, 0, none⟩) 1 1, .slice (some ⟨w.heap.size + 1 + 1, 0, none⟩) 2 2, .slice (some ⟨w.heap.size + 1 + 1 + 1, 0, none⟩) 3 3, .slice (some ⟨w.heap.size + 1 + 1 + 1 + 1, 0, none⟩) 3 3, .slice (some ⟨w.heap.size + 1 + 1 + 1 + 1 + 1, 0, none⟩) 1 1, .slice (some ⟨w.heap.size + 1 + 1 + 1 + 1 + 1 + 1, 0, none⟩) 4 4] 22))
    have L2 := ((((((lit_at ((w.alloc (.cells #[.int .i64 0] 2)).alloc (.cells #[.int .i64 1] 2)) [10, 10] 2 (w.heap.size + 1 + 1) 2 rfl (by simp) (mid_I64 (by decide))).alloc (.cells #[.int .i64 6, .int .i64 3, .int .i64 1] 2)).alloc (.cells #[.int .i64 1000000, .int .i64 1000000, .int .i64 1] 2)).alloc (.cells #[.int .i64 1000001] 2)).alloc (.cells #[.int .i64 7, .int .i64 11, .int .i64 13, .int .i64 17] 2)).alloc (.cells #[.slice none 0 0, .slice (some ⟨w.heap.size, 0, none⟩) 1 1, .slice (some ⟨w.heap.size + 1, 0, none⟩) 1 1, .slice (some ⟨w.heap.size + 1 + 1, 0, none⟩) 2 2, .slice (some ⟨w.heap.size + 1 + 1 + 1, 0, none⟩) 3 3, .slice (some ⟨w.heap.size + 1 + 1 + 1 + 1, 0, none⟩) 3 3, .slice (some ⟨w.heap.size + 1 + 1 + 1 + 1 + 1, 0, none⟩) 1 1, .slice (some ⟨w.heap.size + 1 + 1 + 1 + 1 + 1 + 1, 0, none⟩) 4 4] 22))
    have L3 := (((((lit_at (((w.alloc (.cells #[.int .i64 0] 2)).alloc (.cells #[.int .i64 1] 2)).alloc (.cells #[.int .i64 10, .int .i64 10] 2)) [6, 3, 1] 3 (w.heap.size + 1 + 1 + 1) 2 rfl (by simp) (mid_I64 (by decide))).alloc (.cells #[.int .i64 1000000, .int .i64 1000000, .int .i64 1] 2)).alloc (.cells #[.int .i64 1000001] 2)).alloc (.cells #[.int .i64 7, .int .i64 11, .int .i64 13, .int .i64 17] 2)).alloc (.cells #[.slice none 0 0, .slice (some ⟨w.heap.size, 0, none⟩) 1 1, .slice (some ⟨w.heap.size + 1, 0, none⟩) 1 1, .slice (some ⟨w.heap.size + 1 + 1, 0, none⟩) 2 2, .slice (some ⟨w.heap.size + 1 + 1 + 1, 0, none⟩) 3 3, .slice (some ⟨w.heap.size + 1 + 1 + 1 + 1, 0, none⟩) 3 3, .slice (some ⟨w.heap.size + 1 + 1 + 1 + 1 + 1, 0, none⟩) 1 1, .slice (some ⟨w.heap.size + 1 + 1 + 1 + 1 + 1 + 1, 0, none⟩) 4 4] 22))
    have L4 := ((((lit_at ((((w.alloc (.cells #[.int .i64 0] 2)).alloc (.cells #[.int .i64 1] 2)).alloc (.cells #[.int .i64 10, .int .i64 10] 2)).alloc (.cells #[.int .i64 6, .int .i64 3, .int .i64 1] 2)) [1000000, 1000000, 1] 3 (w.heap.size + 1 + 1 + 1 + 1) 2 rfl (by simp) (mid_I64 (by decide))).alloc (.cells #[.int .i64 1000001] 2)).alloc (.cells #[.int .i64 7, .int .i64 11, .int .i64 13, .int .i64 17] 2)).alloc (.cells #[.slice none 0 0, .slice (some ⟨w.heap.size, 0, none⟩) 1 1, .slice (some ⟨w.heap.size + 1, 0, none⟩) 1 1, .slice (some ⟨w.heap.size + 1 + 1, 0, none⟩) 2 2, .slice (some ⟨w.heap.size + 1 + 1 + 1, 0, none⟩) 3 3, .slice (some ⟨w.heap.size + 1 + 1 + 1 + 1, 0, none⟩) 3 3, .slice (some ⟨w.heap.size + 1 + 1 + 1 + 1 + 1, 0, none⟩) 1 1, .slice (some ⟨w.heap.size + 1 + 1 + 1 + 1 + 1 + 1, 0, none⟩) 4 4] 22))
    have L5 := (((lit_at (((((w.alloc (.cells #[.int .i64 0] 2)).alloc (.cells #[.int .i64 1] 2)).alloc (.cells #[.int .i64 10, .int .i64 10] 2)).alloc (.cells #[.int .i64 6, .int .i64 3, .int .i64 1] 2)).alloc (.cells #[.int .i64 1000000, .int .i64 1000000, .int .i64 1] 2)) [1000001] 1 (w.heap.size + 1 + 1 + 1 + 1 + 1) 2 rfl (by simp) (mid_I64 (by decide))).alloc (.cells #[.int .i64 7, .int .i64 11, .int .i64 13, .int .i64 17] 2)).alloc (.cells #[.slice none 0 0, .slice (some ⟨w.heap.size, 0, none⟩) 1 1, .slice (some ⟨w.heap.size + 1, 0, none⟩) 1 1, .slice (some ⟨w.heap.size + 1 + 1, 0, none⟩) 2 2, .slice (some ⟨w.heap.size + 1 + 1 + 1, 0, none⟩) 3 3, .slice (some ⟨w.heap.size + 1 + 1 + 1 + 1, 0, none⟩) 3 3, .slice (some ⟨w.heap.size + 1 + 1 + 1 + 1 + 1, 0, none⟩) 1 1, .slice (some ⟨w.heap.size + 1 + 1 + 1 + 1 + 1 + 1, 0, none⟩) 4 4] 22))
    have L6 := ((lit_at ((((((w.alloc (.cells #[.int .i64 0] 2)).alloc (.cells #[.int .i64 1] 2)).alloc (.cells #[.int .i64 10, .int .i64 10] 2)).alloc (.cells #[.int .i64 6, .int .i64 3, .int .i64 1] 2)).alloc (.cells #[.int .i64 1000000, .int .i64 1000000, .int .i64 1] 2)).alloc (.cells #[.int .i64 1000001] 2)) [7, 11, 13, 17] 4 (w.heap.size + 1 + 1 + 1 + 1 + 1 + 1) 2 rfl (by simp) (mid_I64 (by decide))).alloc (.cells #[.slice none 0 0, .slice (some ⟨w.heap.size, 0, none⟩) 1 1, .slice (some ⟨w.heap.size + 1, 0, none⟩) 1 1, .slice (some ⟨w.heap.size + 1 + 1, 0, none⟩) 2 2, .slice (some ⟨w.heap.size + 1 + 1 + 1, 0, none⟩) 3 3, .slice (some ⟨w.heap.size + 1 + 1 + 1 + 1, 0, none⟩) 3 3, .slice (some ⟨w.heap.size + 1 + 1 + 1 + 1 + 1, 0, none⟩) 1 1, .slice (some ⟨w.heap.size + 1 + 1 + 1 + 1 + 1 + 1, 0, none⟩) 4 4] 22))
    have hcell : ∀ i, ((((((((w.alloc (.cells #[.int .i64 0] 2)).alloc (.cells #[.int .i64 1] 2)).alloc (.cells #[.int .i64 10, .int .i64 10] 2)).alloc (.cells #[.int .i64 6, .int .i64 3, .int .i64 1] 2)).alloc (.cells #[.int .i64 1000000, .int .i64 1000000, .int .i64 1] 2)).alloc (.cells #[.int .i64 1000001] 2)).alloc (.cells #[.int .i64 7, .int .i64 11, .int .i64 13, .int .i64 17] 2)).alloc (.cells #[.slice none 0 0, .slice (some ⟨w.heap.size, 0, none⟩) 1 1, .slice (some ⟨w.heap.size + 1, 0, none⟩) 1 1, .slice (some ⟨w.heap.size + 1 + 1, 0, none⟩) 2 2, .slice (some ⟨w.heap.size + 1 + 1 + 1, 0, none⟩) 3 3, .slice (some ⟨w.heap.size + 1 + 1 + 1 + 1, 0, none⟩) 3 3, .slice (some ⟨w.heap.size + 1 + 1 + 1 + 1 + 1, 0, none⟩) 1 1, .slice (some ⟨w.heap.size + 1 + 1 + 1 + 1 + 1 + 1, 0, none⟩) 4 4] 22)).cell? ⟨w.heap.size + 1 + 1 + 1 + 1 + 1 + 1 + 1, i, none⟩ = (#[.slice none 0 0, .slice (some ⟨w.heap.size, 0, none⟩) 1 1, .slice (some ⟨w.heap.size + 1, 0, none⟩) 1 1, .slice (some ⟨w.heap.size + 1 + 1, 0, none⟩) 2 2, .slice (some ⟨w.heap.size + 1 + 1 + 1, 0, none⟩) 3 3, .slice (some ⟨w.heap.size + 1 + 1 + 1 + 1, 0, none⟩) 3 3, .slice (some ⟨w.heap.size + 1 + 1 + 1 + 1 + 1, 0, none⟩) 1 1, .slice (some ⟨w.heap.size + 1 + 1 + 1 + 1 + 1 + 1, 0, none⟩) 4 4] : Array Value)[i]? := fun i => by
      have e := heap_alloc_new (((((((w.alloc (.cells #[.int .i64 0] 2)).alloc (.cells #[.int .i64 1] 2)).alloc (.cells #[.int .i64 10, .int .i64 10] 2)).alloc (.cells #[.int .i64 6, .int .i64 3, .int .i64 1] 2)).alloc (.cells #[.int .i64 1000000, .int .i64 1000000, .int .i64 1] 2)).alloc (.cells #[.int .i64 1000001] 2)).alloc (.cells #[.int .i64 7, .int .i64 11, .int .i64 13, .int .i64 17] 2)) (.cells #[.slice none 0 0, .slice (some ⟨w.heap.size, 0, none⟩) 1 1, .slice (some ⟨w.heap.size + 1, 0, none⟩) 1 1, .slice (some ⟨w.heap.size + 1 + 1, 0, none⟩) 2 2, .slice (some ⟨w.heap.size + 1 + 1 + 1, 0, none⟩) 3 3, .slice (some ⟨w.heap.size + 1 + 1 + 1 + 1, 0, none⟩) 3 3, .slice (some ⟨w.heap.size + 1 + 1 + 1 + 1 + 1, 0, none⟩) 1 1, .slice (some ⟨w.heap.size + 1 + 1 + 1 + 1 + 1 + 1, 0, none⟩) 4 4] 22)
      simp only [World.size_alloc] at e
      rw [Lib.cell_of_heap e]
    intro i hi
    rcases (show i = 0 ∨ i = 1 ∨ i = 2 ∨ i = 3 ∨ i = 4 ∨ i = 5 ∨ i = 6 ∨ i = 7 by omega) with rfl | rfl | rfl | rfl | rfl | rfl | rfl | rfl
    · exact ⟨_, _, _, _, hcell 0, holds_none _ _, by omega, by omega⟩
    · exact ⟨_, _, _, _, hcell 1, L0, by omega, by omega⟩
    · exact ⟨_, _, _, _, hcell 2, L1, by omega, by omega⟩
    · exact ⟨_, _, _, _, hcell 3, L2, by omega, by omega⟩
    · exact ⟨_, _, _, _, hcell 4, L3, by omega, by omega⟩
    · exact ⟨_, _, _, _, hcell 5, L4, by omega, by omega⟩
    · exact ⟨_, _, _, _, hcell 6, L5, by omega, by omega⟩
    · exact ⟨_, _, _, _, hcell 7, L6, by omega, by omega⟩
  · have b0 := Below.refl w.heap.size w
    have b1 := b0.alloc b0.size (.cells #[.int .i64 0] 2)
    have b2 := b1.alloc b1.size (.cells #[.int .i64 1] 2)
    have b3 := b2.alloc b2.size (.cells #[.int .i64 10, .int .i64 10] 2)
    have b4 := b3.alloc b3.size (.cells #[.int .i64 6, .int .i64 3, .int .i64 1] 2)
    have b5 := b4.alloc b4.size (.cells #[.int .i64 1000000, .int .i64 1000000, .int .i64 1] 2)
    have b6 := b5.alloc b5.size (.cells #[.int .i64 1000001] 2)
    have b7 := b6.alloc b6.size (.cells #[.int .i64 7, .int .i64 11, .int .i64 13, .int .i64 17] 2)
    have b8 := b7.alloc b7.size (.cells #[.slice none 0 0, .slice (some ⟨w.heap.size, 0, none⟩) 1 1, .slice (some ⟨w.heap.size + 1, 0, none⟩) 1 1, .slice (some ⟨w.heap.size + 1 + 1, 0, none⟩) 2 2, .slice (some ⟨w.heap.size + 1 + 1 + 1, 0, none⟩) 3 3, .slice (some ⟨w.heap.size + 1 + 1 + 1 + 1, 0, none⟩) 3 3, .slice (some ⟨w.heap.size + 1 + 1 + 1 + 1 + 1, 0, none⟩) 1 1, .slice (some ⟨w.heap.size + 1 + 1 + 1 + 1 + 1 + 1, 0, none⟩) 4 4] 22)
    exact b8

set_option maxRecDepth 100000 in
set_option maxHeartbeats 3200000 in
theorem SNumbers_walk (w : World) :
    Calls Try.prog 3 #[] w fun e w' => e = .returned (.bool true) ∧ Below w.heap.size w w' := by
  go_enter Try.func3, Try.ntmps3
  go_wp2_with fail
  obtain ⟨W0, hW, hT, hBW⟩ := eight_of w
  rw [hW]
  clear hW
  generalize w.heap.size + 1 + 1 + 1 + 1 + 1 + 1 + 1 = G at *
  replace hT := Lib.hid hT
  replace hBW := Lib.hid hBW
  go_loopw [18] (fun i wx => ∃ (k : Nat), i = .int .i64 k ∧ k ≤ 8 ∧ Hid (Below W0.heap.size W0 wx)) (fun i _ => 8 - (intOf i).toNat)
  case atStart => exact ⟨0, rfl, by omega, Lib.hid (Below.refl _ _)⟩
  case round =>
    rename World => w1
    obtain ⟨kw1, rfl, hkw1, hw1⟩ := hrel
    by_cases hltw1 : kw1 < 8
    · have dw1 : decide ((kw1 : Int) < 8) = true := decide_eq_true (by omega)
      have ew1 : (kw1 : Int) < 8 := by omega
      obtain ⟨A, n, c, l, hcell, hl0, hn, hnc⟩ := (hT.out.below hw1.out) kw1 hltw1
      have hl1 := Lib.hid hl0
      clear hl0
      have hQ := Lib.hid (askL_holds w1)
      replace hl1 := Lib.hid (hl1.out.alloc (.cells #[.int .i64 (-1), .int .i64 0, .int .i64 1, .int .i64 3, .int .i64 5, .int .i64 10, .int .i64 20, .int .i64 48, .int .i64 49, .int .i64 2000001] 2))
      replace hw1 := Lib.hid (hw1.out.alloc hw1.out.size (.cells #[.int .i64 (-1), .int .i64 0, .int .i64 1, .int .i64 3, .int .i64 5, .int .i64 10, .int .i64 20, .int .i64 48, .int .i64 49, .int .i64 2000001] 2))
      go_wp2_with fail
      obtain ⟨W1, hWn⟩ : ∃ Wn, w1.alloc (.cells #[.int .i64 (-1), .int .i64 0, .int .i64 1, .int .i64 3, .int .i64 5, .int .i64 10, .int .i64 20, .int .i64 48, .int .i64 49, .int .i64 2000001] 2) = Wn := ⟨_, rfl⟩
      rw [hWn] at hQ hw1 hl1 ⊢
      generalize w1.heap.size = g1 at *
      clear hWn
      clear hcell
      go_loopw [24] (fun i wx => ∃ (k : Nat), i = .int .i64 k ∧ k ≤ 10 ∧ Hid (Below W1.heap.size W1 wx)) (fun i _ => 10 - (intOf i).toNat)
      case atStart => exact ⟨0, rfl, by omega, Lib.hid (Below.refl _ _)⟩
      case round =>
        rename World => w2
        obtain ⟨kw2, rfl, hkw2, hw2⟩ := hrel
        by_cases hltw2 : kw2 < 10
        · have dw2 : decide ((kw2 : Int) < 10) = true := decide_eq_true (by omega)
          have ew2 : (kw2 : Int) < 10 := by omega
          have hEi := hQ.out.below hw2.out
          obtain ⟨b, off, eb, hc⟩ := hEi.2.2 (by omega)
          injection eb with eb
          injection eb with eb eo
          subst eb; subst eo
          have cq := hc kw2 hltw2
          rw [Nat.zero_add] at cq
          obtain ⟨q1, q2⟩ := hEi.i64 hltw2
          clear hc hEi
          generalize askL.getD kw2 0 = q at *
          have hl2 := Lib.hid (hl1.out.below hw2.out)
          have hU := Lib.hid (leastL_holds w2)
          replace hl2 := Lib.hid (hl2.out.alloc (.cells #[.int .i64 0, .int .i64 1, .int .i64 2, .int .i64 4] 2))
          replace hw2 := Lib.hid (hw2.out.alloc hw2.out.size (.cells #[.int .i64 0, .int .i64 1, .int .i64 2, .int .i64 4] 2))
          go_wp2_with fail
          obtain ⟨W2, hWn⟩ : ∃ Wn, w2.alloc (.cells #[.int .i64 0, .int .i64 1, .int .i64 2, .int .i64 4] 2) = Wn := ⟨_, rfl⟩
          rw [hWn] at hU hw2 hl2 ⊢
          generalize w2.heap.size = g2 at *
          clear hWn
          go_loopw [30] (fun i wx => ∃ (k : Nat), i = .int .i64 k ∧ k ≤ 4 ∧ Hid (Below W2.heap.size W2 wx)) (fun i _ => 4 - (intOf i).toNat)
          case atStart => exact ⟨0, rfl, by omega, Lib.hid (Below.refl _ _)⟩
          case round =>
            rename World => w3
            obtain ⟨kw3, rfl, hkw3, hw3⟩ := hrel
            by_cases hltw3 : kw3 < 4
            · have dw3 : decide ((kw3 : Int) < 4) = true := decide_eq_true (by omega)
              have ew3 : (kw3 : Int) < 4 := by omega
              have hEi := hU.out.below hw3.out
              obtain ⟨b, off, eb, hc⟩ := hEi.2.2 (by omega)
              injection eb with eb
              injection eb with eb eo
              subst eb; subst eo
              have cu := hc kw3 hltw3
              rw [Nat.zero_add] at cu
              obtain ⟨u1, u2⟩ := hEi.i64 hltw3
              clear hc hEi
              generalize leastL.getD kw3 0 = u at *
              have hl3 := Lib.hid (hl2.out.below hw3.out)
              have hM := Lib.hid (partL_holds w3)
              replace hl3 := Lib.hid (hl3.out.alloc (.cells #[.int .i64 (-1), .int .i64 0, .int .i64 1, .int .i64 33, .int .i64 50, .int .i64 99, .int .i64 100, .int .i64 101] 2))
              replace hw3 := Lib.hid (hw3.out.alloc hw3.out.size (.cells #[.int .i64 (-1), .int .i64 0, .int .i64 1, .int .i64 33, .int .i64 50, .int .i64 99, .int .i64 100, .int .i64 101] 2))
              go_wp2_with fail
              obtain ⟨W3, hWn⟩ : ∃ Wn, w3.alloc (.cells #[.int .i64 (-1), .int .i64 0, .int .i64 1, .int .i64 33, .int .i64 50, .int .i64 99, .int .i64 100, .int .i64 101] 2) = Wn := ⟨_, rfl⟩
              rw [hWn] at hM hw3 hl3 ⊢
              generalize w3.heap.size = g3 at *
              clear hWn
              go_loopw [36] (fun i wx => ∃ (k : Nat), i = .int .i64 k ∧ k ≤ 8 ∧ Hid (Below W3.heap.size W3 wx)) (fun i _ => 8 - (intOf i).toNat)
              case atStart => exact ⟨0, rfl, by omega, Lib.hid (Below.refl _ _)⟩
              case round =>
                rename World => w4
                obtain ⟨kw4, rfl, hkw4, hw4⟩ := hrel
                by_cases hltw4 : kw4 < 8
                · have dw4 : decide ((kw4 : Int) < 8) = true := decide_eq_true (by omega)
                  have ew4 : (kw4 : Int) < 8 := by omega
                  have hEi := hM.out.below hw4.out
                  obtain ⟨b, off, eb, hc⟩ := hEi.2.2 (by omega)
                  injection eb with eb
                  injection eb with eb eo
                  subst eb; subst eo
                  have cm := hc kw4 hltw4
                  rw [Nat.zero_add] at cm
                  obtain ⟨m1, m2⟩ := hEi.i64 hltw4
                  clear hc hEi
                  generalize partL.getD kw4 0 = m at *
                  have hl4 := Lib.hid (hl3.out.below hw4.out)
                  obtain ⟨X, hX⟩ : ∃ X, splitL l m u q = X := ⟨_, rfl⟩
                  have iX := small_of (split_mem l m u q)
                  have fX := split_few l m u q
                  rw [hX] at iX fX
                  obtain ⟨nx, hnx⟩ : ∃ nx, X.length = nx := ⟨_, rfl⟩
                  rw [hnx] at fX
                  replace iX := Lib.hid iX
                  replace hX := Lib.hid hX
                  have B := hw4
                  have HS := SShare_any A n c l m u q w4 (by omega) hnc m1 m2 u1 u2 q1 q2 hl4
                  rw [hX.out] at HS
                  replace HS := Lib.hid HS
                  go_wp2_with fail
                  refine HS.out.mono ?_
                  rintro e wA ⟨v, rfl, rr, bb⟩
                  obtain ⟨A8, c8, rfl, h8, zA8, lA8, mA8, atA8⟩ := rr.slice iX.out
                  rw [hnx] at h8 lA8 ⊢
                  replace h8 := Lib.hid h8
                  replace hl4 := Lib.hid (hl4.out.below bb)
                  replace B := Lib.hid (below_up B.out bb)
                  clear HS rr bb atA8 zA8
                  have HS := RSplit_any A n c l m u q wA (by omega) m1 m2 u1 u2 q1 q2 hl4
                  rw [hX.out] at HS
                  replace HS := Lib.hid HS
                  go_wp2_with fail
                  refine HS.out.mono ?_
                  rintro e wB ⟨v, rfl, rr, bb⟩
                  obtain ⟨A9, c9, rfl, h9, zA9, lA9, mA9, atA9⟩ := rr.slice iX.out
                  rw [hnx] at h9 lA9 ⊢
                  replace h9 := Lib.hid h9
                  replace hl4 := Lib.hid (hl4.out.below bb)
                  replace h8 := Lib.hid (h8.out.below bb)
                  replace B := Lib.hid (below_up B.out bb)
                  clear HS rr bb atA9 zA9
                  go_wp2_with fail
                  refine (Same_yes A8 A9 nx c8 c9 X wB (by omega) h8 h9).mono ?_
                  rintro e wx ⟨rfl, dd, rfl⟩
                  replace hl4 := Lib.hid (hl4.out.drewN dd)
                  replace B := Lib.hid (below_drewN B.out dd)
                  obtain ⟨w5, hnw⟩ : ∃ wn, wB.drewN dd = wn := ⟨_, rfl⟩
                  rw [hnw] at hl4 B ⊢
                  clear hnw h8 h9
                  go_wp2_with fail
                  go_roundw
                  case rel => exact ⟨kw4 + 1, by go_num, by omega, B⟩
                  case measure => simp [intOf]; omega
                · have qw4 : kw4 = 8 := by omega
                  have dw4 : decide ((kw4 : Int) < 8) = false := decide_eq_false (by omega)
                  replace hw3 := Lib.hid (hw3.out.trans (hw4.out.mono hw3.out.size))
                  go_wp2_with fail
                  go_roundw
                  case rel => exact ⟨kw3 + 1, by go_num, by omega, hw3⟩
                  case measure => simp [intOf]; omega
            · have qw3 : kw3 = 4 := by omega
              have dw3 : decide ((kw3 : Int) < 4) = false := decide_eq_false (by omega)
              replace hw2 := Lib.hid (hw2.out.trans (hw3.out.mono hw2.out.size))
              go_wp2_with fail
              go_roundw
              case rel => exact ⟨kw2 + 1, by go_num, by omega, hw2⟩
              case measure => simp [intOf]; omega
        · have qw2 : kw2 = 10 := by omega
          have dw2 : decide ((kw2 : Int) < 10) = false := decide_eq_false (by omega)
          replace hw1 := Lib.hid (hw1.out.trans (hw2.out.mono hw1.out.size))
          go_wp2_with fail
          go_roundw
          case rel => exact ⟨kw1 + 1, by go_num, by omega, hw1⟩
          case measure => simp [intOf]; omega
    · have qw1 : kw1 = 8 := by omega
      have dw1 : decide ((kw1 : Int) < 8) = false := decide_eq_false (by omega)
      have B := Lib.hid (below_up hBW.out hw1.out)
      go_wp2_with fail
      refine (Known_any _).mono ?_
      rintro e wz ⟨rfl, bz⟩
      replace B := Lib.hid (below_up B.out bz)
      clear bz
      go_wp2_with fail
      go_ret
      exact ⟨rfl, B.out⟩
end Go.Proofs.Ytoojdifigfgfcaa
