/-
  The law WireNumbers.
-/
import Derived.Test.YtnjedfnaohdnfaaWKnown
import Derived.Test.YtnjedfnaohdnfaaTwo
import Derived.Test.YtnjedfnaohdnfaaWireFacts
namespace Go.Proofs.Ytnjedfnaohdnfaa
open Go.RowKit
set_option linter.unusedVariables false
set_option linter.unusedSimpArgs false

def z255 : List UInt8 := List.replicate 255 0
theorem z255_len : z255.length = 255 := List.length_replicate
theorem z255_map : (List.replicate 255 (0 : UInt8)).map bc = z255.map bc := rfl
attribute [irreducible] z255
theorem num_o1 : openR (frameL z255) 0 = (z255, 261, 0) := by
  have := open_frame [] z255 [] (by rw [z255_len]; omega)
  rw [List.nil_append, List.append_nil, z255_len] at this
  exact this
theorem num_o2 : openR [] 0 = ([], 0, 10) := by kernel_rfl
theorem num_o3 : openR [] 1 = ([], 0, 1) := by kernel_rfl
theorem num_o4 : openR [1, 255, 0, 0, 0, 0, 0] 0 = ([], 0, 14) := by kernel_rfl
theorem num_o5 : openR [1, 254, 0, 0, 0, 0] 0 = ([], 0, 10) := by kernel_rfl
theorem num_o6 : openR [1, 254, 0, 0, 0, 0, 0] 0 = ([], 0, 14) := by kernel_rfl
theorem num_l4 (w : World) : HB (w.alloc (.cells #[.int .u8 1, .int .u8 255, .int .u8 0, .int .u8 0, .int .u8 0, .int .u8 0, .int .u8 0] 5)) (some ⟨w.heap.size, 0, none⟩) 7 [1, 255, 0, 0, 0, 0, 0] := hb_lit w [1, 255, 0, 0, 0, 0, 0]
theorem num_l5 (w : World) : HB (w.alloc (.cells #[.int .u8 1, .int .u8 254, .int .u8 0, .int .u8 0, .int .u8 0, .int .u8 0] 5)) (some ⟨w.heap.size, 0, none⟩) 6 [1, 254, 0, 0, 0, 0] := hb_lit w [1, 254, 0, 0, 0, 0]
theorem num_l6 (w : World) : HB (w.alloc (.cells #[.int .u8 1, .int .u8 254, .int .u8 0, .int .u8 0, .int .u8 0, .int .u8 0, .int .u8 0] 5)) (some ⟨w.heap.size, 0, none⟩) 7 [1, 254, 0, 0, 0, 0, 0] := hb_lit w [1, 254, 0, 0, 0, 0, 0]

/-- The rows of the law, in block tb; the rows' own blocks lie below N. -/
def Tab (W : World) (tb N : Nat) : Prop := ∀ i, i < 7 → ∃ A n cap l, W.cell? ⟨tb, i, none⟩ = some (.slice A n cap) ∧ HB W A n l ∧ n ≤ cap ∧ cap ≤ 8 ∧ (A = none → cap = 0) ∧ (∀ ad, A = some ad → ad.spot = none ∧ ad.block < N)
theorem Tab.below {W W' : World} {tb N : Nat} (h : Tab W tb N) (hb : Below W.heap.size W W') : Tab W' tb N := by
  intro i hi
  obtain ⟨A, n, cap, l, h1, h2, h3⟩ := h i hi
  exact ⟨A, n, cap, l, (hb.cell (p := ⟨tb, i, none⟩) (World.block_lt_of_cell? W _ h1)).trans h1, h2.below hb, h3⟩
theorem num_s1 (w : World) : (w.alloc (.cells #[.int .u8 5] 5)).heap.size = w.heap.size + 1 := by simp
theorem num_s2 (w : World) : ((w.alloc (.cells #[.int .u8 5] 5)).alloc (.cells #[.int .u8 1, .int .u8 2] 5)).heap.size = w.heap.size + 1 + 1 := by simp
theorem num_s3 (w : World) : (((w.alloc (.cells #[.int .u8 5] 5)).alloc (.cells #[.int .u8 1, .int .u8 2] 5)).alloc (.cells #[.int .u8 0] 5)).heap.size = w.heap.size + 1 + 1 + 1 := by simp
theorem num_s4 (w : World) : ((((w.alloc (.cells #[.int .u8 5] 5)).alloc (.cells #[.int .u8 1, .int .u8 2] 5)).alloc (.cells #[.int .u8 0] 5)).alloc (.cells #[.int .u8 3, .int .u8 97, .int .u8 98] 5)).heap.size = w.heap.size + 1 + 1 + 1 + 1 := by simp
theorem num_s5 (w : World) : (((((w.alloc (.cells #[.int .u8 5] 5)).alloc (.cells #[.int .u8 1, .int .u8 2] 5)).alloc (.cells #[.int .u8 0] 5)).alloc (.cells #[.int .u8 3, .int .u8 97, .int .u8 98] 5)).alloc (.cells #[.int .u8 1, .int .u8 2, .int .u8 3, .int .u8 4, .int .u8 5, .int .u8 6, .int .u8 7] 5)).heap.size = w.heap.size + 1 + 1 + 1 + 1 + 1 := by simp
theorem num_s6 (w : World) : ((((((w.alloc (.cells #[.int .u8 5] 5)).alloc (.cells #[.int .u8 1, .int .u8 2] 5)).alloc (.cells #[.int .u8 0] 5)).alloc (.cells #[.int .u8 3, .int .u8 97, .int .u8 98] 5)).alloc (.cells #[.int .u8 1, .int .u8 2, .int .u8 3, .int .u8 4, .int .u8 5, .int .u8 6, .int .u8 7] 5)).alloc (.cells #[.int .u8 1, .int .u8 2, .int .u8 3, .int .u8 4, .int .u8 5, .int .u8 6, .int .u8 7, .int .u8 8] 5)).heap.size = w.heap.size + 1 + 1 + 1 + 1 + 1 + 1 := by simp
theorem num_tab (w : World) : Tab (((((((w.alloc (.cells #[.int .u8 5] 5)).alloc (.cells #[.int .u8 1, .int .u8 2] 5)).alloc (.cells #[.int .u8 0] 5)).alloc (.cells #[.int .u8 3, .int .u8 97, .int .u8 98] 5)).alloc (.cells #[.int .u8 1, .int .u8 2, .int .u8 3, .int .u8 4, .int .u8 5, .int .u8 6, .int .u8 7] 5)).alloc (.cells #[.int .u8 1, .int .u8 2, .int .u8 3, .int .u8 4, .int .u8 5, .int .u8 6, .int .u8 7, .int .u8 8] 5)).alloc (.cells #[.slice none 0 0, .slice (some ⟨w.heap.size, 0, none⟩) 1 1, .slice (some ⟨w.heap.size + 1, 0, none⟩) 2 2, .slice (some ⟨w.heap.size + 1 + 1, 0, none⟩) 1 1, .slice (some ⟨w.heap.size + 1 + 1 + 1, 0, none⟩) 3 3, .slice (some ⟨w.heap.size + 1 + 1 + 1 + 1, 0, none⟩) 7 7, .slice (some ⟨w.heap.size + 1 + 1 + 1 + 1 + 1, 0, none⟩) 8 8] 22)) (w.heap.size + 1 + 1 + 1 + 1 + 1 + 1) (w.heap.size + 1 + 1 + 1 + 1 + 1 + 1 + 1) := by
  have hc := heap_alloc_new ((((((w.alloc (.cells #[.int .u8 5] 5)).alloc (.cells #[.int .u8 1, .int .u8 2] 5)).alloc (.cells #[.int .u8 0] 5)).alloc (.cells #[.int .u8 3, .int .u8 97, .int .u8 98] 5)).alloc (.cells #[.int .u8 1, .int .u8 2, .int .u8 3, .int .u8 4, .int .u8 5, .int .u8 6, .int .u8 7] 5)).alloc (.cells #[.int .u8 1, .int .u8 2, .int .u8 3, .int .u8 4, .int .u8 5, .int .u8 6, .int .u8 7, .int .u8 8] 5)) (.cells #[.slice none 0 0, .slice (some ⟨w.heap.size, 0, none⟩) 1 1, .slice (some ⟨w.heap.size + 1, 0, none⟩) 2 2, .slice (some ⟨w.heap.size + 1 + 1, 0, none⟩) 1 1, .slice (some ⟨w.heap.size + 1 + 1 + 1, 0, none⟩) 3 3, .slice (some ⟨w.heap.size + 1 + 1 + 1 + 1, 0, none⟩) 7 7, .slice (some ⟨w.heap.size + 1 + 1 + 1 + 1 + 1, 0, none⟩) 8 8] 22)
  rw [num_s6] at hc
  have h0 : HB (w.alloc (.cells #[.int .u8 5] 5)) (some ⟨w.heap.size, 0, none⟩) 1 [5] := hb_lit w [5]
  have h1 : HB ((w.alloc (.cells #[.int .u8 5] 5)).alloc (.cells #[.int .u8 1, .int .u8 2] 5)) (some ⟨(w.alloc (.cells #[.int .u8 5] 5)).heap.size, 0, none⟩) 2 [1, 2] := hb_lit (w.alloc (.cells #[.int .u8 5] 5)) [1, 2]
  rw [num_s1] at h1
  have h2 : HB (((w.alloc (.cells #[.int .u8 5] 5)).alloc (.cells #[.int .u8 1, .int .u8 2] 5)).alloc (.cells #[.int .u8 0] 5)) (some ⟨((w.alloc (.cells #[.int .u8 5] 5)).alloc (.cells #[.int .u8 1, .int .u8 2] 5)).heap.size, 0, none⟩) 1 [0] := hb_lit ((w.alloc (.cells #[.int .u8 5] 5)).alloc (.cells #[.int .u8 1, .int .u8 2] 5)) [0]
  rw [num_s2] at h2
  have h3 : HB ((((w.alloc (.cells #[.int .u8 5] 5)).alloc (.cells #[.int .u8 1, .int .u8 2] 5)).alloc (.cells #[.int .u8 0] 5)).alloc (.cells #[.int .u8 3, .int .u8 97, .int .u8 98] 5)) (some ⟨(((w.alloc (.cells #[.int .u8 5] 5)).alloc (.cells #[.int .u8 1, .int .u8 2] 5)).alloc (.cells #[.int .u8 0] 5)).heap.size, 0, none⟩) 3 [3, 97, 98] := hb_lit (((w.alloc (.cells #[.int .u8 5] 5)).alloc (.cells #[.int .u8 1, .int .u8 2] 5)).alloc (.cells #[.int .u8 0] 5)) [3, 97, 98]
  rw [num_s3] at h3
  have h4 : HB (((((w.alloc (.cells #[.int .u8 5] 5)).alloc (.cells #[.int .u8 1, .int .u8 2] 5)).alloc (.cells #[.int .u8 0] 5)).alloc (.cells #[.int .u8 3, .int .u8 97, .int .u8 98] 5)).alloc (.cells #[.int .u8 1, .int .u8 2, .int .u8 3, .int .u8 4, .int .u8 5, .int .u8 6, .int .u8 7] 5)) (some ⟨((((w.alloc (.cells #[.int .u8 5] 5)).alloc (.cells #[.int .u8 1, .int .u8 2] 5)).alloc (.cells #[.int .u8 0] 5)).alloc (.cells #[.int .u8 3, .int .u8 97, .int .u8 98] 5)).heap.size, 0, none⟩) 7 [1, 2, 3, 4, 5, 6, 7] := hb_lit ((((w.alloc (.cells #[.int .u8 5] 5)).alloc (.cells #[.int .u8 1, .int .u8 2] 5)).alloc (.cells #[.int .u8 0] 5)).alloc (.cells #[.int .u8 3, .int .u8 97, .int .u8 98] 5)) [1, 2, 3, 4, 5, 6, 7]
  rw [num_s4] at h4
  have h5 : HB ((((((w.alloc (.cells #[.int .u8 5] 5)).alloc (.cells #[.int .u8 1, .int .u8 2] 5)).alloc (.cells #[.int .u8 0] 5)).alloc (.cells #[.int .u8 3, .int .u8 97, .int .u8 98] 5)).alloc (.cells #[.int .u8 1, .int .u8 2, .int .u8 3, .int .u8 4, .int .u8 5, .int .u8 6, .int .u8 7] 5)).alloc (.cells #[.int .u8 1, .int .u8 2, .int .u8 3, .int .u8 4, .int .u8 5, .int .u8 6, .int .u8 7, .int .u8 8] 5)) (some ⟨(((((w.alloc (.cells #[.int .u8 5] 5)).alloc (.cells #[.int .u8 1, .int .u8 2] 5)).alloc (.cells #[.int .u8 0] 5)).alloc (.cells #[.int .u8 3, .int .u8 97, .int .u8 98] 5)).alloc (.cells #[.int .u8 1, .int .u8 2, .int .u8 3, .int .u8 4, .int .u8 5, .int .u8 6, .int .u8 7] 5)).heap.size, 0, none⟩) 8 [1, 2, 3, 4, 5, 6, 7, 8] := hb_lit (((((w.alloc (.cells #[.int .u8 5] 5)).alloc (.cells #[.int .u8 1, .int .u8 2] 5)).alloc (.cells #[.int .u8 0] 5)).alloc (.cells #[.int .u8 3, .int .u8 97, .int .u8 98] 5)).alloc (.cells #[.int .u8 1, .int .u8 2, .int .u8 3, .int .u8 4, .int .u8 5, .int .u8 6, .int .u8 7] 5)) [1, 2, 3, 4, 5, 6, 7, 8]
  rw [num_s5] at h5
  intro i hi
  match i, hi with
  | 0, _ => exact ⟨none, 0, 0, [], by rw [Lib.cell_of_heap hc]; rfl, hb_nil _ _, Nat.le_refl _, by omega, fun _ => rfl, fun ad e => by cases e⟩
  | 1, _ => exact ⟨_, 1, 1, [5], by rw [Lib.cell_of_heap hc]; rfl, ((((((h0.alloc _).alloc _).alloc _).alloc _).alloc _).alloc _), Nat.le_refl _, by omega, (fun e => by cases e), (fun ad e => by injection e with e; subst e; exact ⟨rfl, by show w.heap.size < _; omega⟩)⟩
  | 2, _ => exact ⟨_, 2, 2, [1, 2], by rw [Lib.cell_of_heap hc]; rfl, (((((h1.alloc _).alloc _).alloc _).alloc _).alloc _), Nat.le_refl _, by omega, (fun e => by cases e), (fun ad e => by injection e with e; subst e; exact ⟨rfl, by show w.heap.size + 1 < _; omega⟩)⟩
  | 3, _ => exact ⟨_, 1, 1, [0], by rw [Lib.cell_of_heap hc]; rfl, ((((h2.alloc _).alloc _).alloc _).alloc _), Nat.le_refl _, by omega, (fun e => by cases e), (fun ad e => by injection e with e; subst e; exact ⟨rfl, by show w.heap.size + 1 + 1 < _; omega⟩)⟩
  | 4, _ => exact ⟨_, 3, 3, [3, 97, 98], by rw [Lib.cell_of_heap hc]; rfl, (((h3.alloc _).alloc _).alloc _), Nat.le_refl _, by omega, (fun e => by cases e), (fun ad e => by injection e with e; subst e; exact ⟨rfl, by show w.heap.size + 1 + 1 + 1 < _; omega⟩)⟩
  | 5, _ => exact ⟨_, 7, 7, [1, 2, 3, 4, 5, 6, 7], by rw [Lib.cell_of_heap hc]; rfl, ((h4.alloc _).alloc _), Nat.le_refl _, by omega, (fun e => by cases e), (fun ad e => by injection e with e; subst e; exact ⟨rfl, by show w.heap.size + 1 + 1 + 1 + 1 < _; omega⟩)⟩
  | 6, _ => exact ⟨_, 8, 8, [1, 2, 3, 4, 5, 6, 7, 8], by rw [Lib.cell_of_heap hc]; rfl, (h5.alloc _), Nat.le_refl _, by omega, (fun e => by cases e), (fun ad e => by injection e with e; subst e; exact ⟨rfl, by show w.heap.size + 1 + 1 + 1 + 1 + 1 < _; omega⟩)⟩
theorem num_grow (w : World) : Below w.heap.size w (((((((w.alloc (.cells #[.int .u8 5] 5)).alloc (.cells #[.int .u8 1, .int .u8 2] 5)).alloc (.cells #[.int .u8 0] 5)).alloc (.cells #[.int .u8 3, .int .u8 97, .int .u8 98] 5)).alloc (.cells #[.int .u8 1, .int .u8 2, .int .u8 3, .int .u8 4, .int .u8 5, .int .u8 6, .int .u8 7] 5)).alloc (.cells #[.int .u8 1, .int .u8 2, .int .u8 3, .int .u8 4, .int .u8 5, .int .u8 6, .int .u8 7, .int .u8 8] 5)).alloc (.cells #[.slice none 0 0, .slice (some ⟨w.heap.size, 0, none⟩) 1 1, .slice (some ⟨w.heap.size + 1, 0, none⟩) 2 2, .slice (some ⟨w.heap.size + 1 + 1, 0, none⟩) 1 1, .slice (some ⟨w.heap.size + 1 + 1 + 1, 0, none⟩) 3 3, .slice (some ⟨w.heap.size + 1 + 1 + 1 + 1, 0, none⟩) 7 7, .slice (some ⟨w.heap.size + 1 + 1 + 1 + 1 + 1, 0, none⟩) 8 8] 22)) := (((((((Below.refl _ w).alloc (Nat.le_refl _) _).alloc (by rw [num_s1]; omega) _).alloc (by rw [num_s2]; omega) _).alloc (by rw [num_s3]; omega) _).alloc (by rw [num_s4]; omega) _).alloc (by rw [num_s5]; omega) _).alloc (by rw [num_s6]; omega) _
theorem num_size (w : World) : (((((((w.alloc (.cells #[.int .u8 5] 5)).alloc (.cells #[.int .u8 1, .int .u8 2] 5)).alloc (.cells #[.int .u8 0] 5)).alloc (.cells #[.int .u8 3, .int .u8 97, .int .u8 98] 5)).alloc (.cells #[.int .u8 1, .int .u8 2, .int .u8 3, .int .u8 4, .int .u8 5, .int .u8 6, .int .u8 7] 5)).alloc (.cells #[.int .u8 1, .int .u8 2, .int .u8 3, .int .u8 4, .int .u8 5, .int .u8 6, .int .u8 7, .int .u8 8] 5)).alloc (.cells #[.slice none 0 0, .slice (some ⟨w.heap.size, 0, none⟩) 1 1, .slice (some ⟨w.heap.size + 1, 0, none⟩) 2 2, .slice (some ⟨w.heap.size + 1 + 1, 0, none⟩) 1 1, .slice (some ⟨w.heap.size + 1 + 1 + 1, 0, none⟩) 3 3, .slice (some ⟨w.heap.size + 1 + 1 + 1 + 1, 0, none⟩) 7 7, .slice (some ⟨w.heap.size + 1 + 1 + 1 + 1 + 1, 0, none⟩) 8 8] 22)).heap.size = w.heap.size + 1 + 1 + 1 + 1 + 1 + 1 + 1 := by simp

set_option maxRecDepth 100000 in
set_option maxHeartbeats 1600000 in
theorem Numbers_law (w : World) :
    Calls Try.prog 3 #[] w fun e w' => e = .returned (.bool true) ∧ Below w.heap.size w w' := by
  obtain ⟨i0, hi0, hz0, hz1, hz2⟩ := info_parts info_u8
  have kc1 : ((255 : Nat) : Int) = 255 := rfl
  go_enter Try.func3, Try.ntmps3
  go_wp2_with (at_make; refine wpList_make_full _ (by rfl) (.const (.int .i64 256)) (.const (.int .i64 256)) 22 (by rfl) w.heap.size 5 i0 (.int .u8 0) 1 Try.underlying22 hi0 hz0 hz1 .i64 .i64 _ _ 256 (by rfl) (by rfl) rfl rfl (by rw [hz2]; omega) (by unfold maxLen; omega) (Nat.le_refl _) ?_)
  intro w1 r1 g1
  have B0 := Lib.hid ((Below.refl w.heap.size w).grown g1 (Nat.le_refl _) (fun k hk => by cases hk))
  clear r1 g1
  go_wp2_with fail
  refine (Frame_long _ 256 256 _ (by omega) (by omega)).mono ?_
  rintro e w1 ⟨rfl, rfl⟩
  have bz0 := B0.out.size
  go_wp2_with (at_make; refine wpList_make_full _ (by rfl) (.const (.int .i64 255)) (.const (.int .i64 255)) 22 (by rfl) w.heap.size 5 i0 (.int .u8 0) 1 Try.underlying22 hi0 hz0 hz1 .i64 .i64 _ _ 255 (by rfl) (by rfl) rfl rfl (by rw [hz2]; omega) (by unfold maxLen; omega) bz0 ?_)
  rw [zeros_bc]
  intro w2 r2 g2
  have B1 := Lib.hid (B0.out.trans ((only_grown g2).below bz0 (fun k _ e => by cases e)))
  have R2 : RB w2 w.heap.size (.slice (some ⟨w1.heap.size, 0, none⟩) 255 255) z255 := by
    unfold RB; rw [z255_len, ← z255_map]; exact r2
  obtain ⟨A2, c2, e2, H2, _, _, _⟩ := R2.holds
  rw [z255_len] at e2 H2
  injection e2 with e3 e4 e5
  subst e3; subst e5
  have H2 := Lib.hid H2
  clear r2 g2 R2 bz0
  go_wp2_with fail
  refine (Frame_any (some ⟨w1.heap.size, 0, none⟩) 255 255 z255 w2 (by omega) (fun e => by cases e) H2).mono ?_
  rintro e w3 ⟨v3, rfl, r3, b3⟩
  have B1 := Lib.hid (below_up B1.out b3)
  obtain ⟨A3, c3, e3, H3, n3, c3m, c3l⟩ := r3.holds
  rw [show (frameL z255).length = 261 by rw [frameL_len, z255_len]] at e3 H3 c3l
  subst e3
  have H3 := Lib.hid H3
  have c3m' : c3 ≤ 9223372036854775807 := by simp only [maxLen] at c3m; omega
  clear r3 b3 H2 c3m
  go_wp2_with fail
  refine (Open_any A3 261 c3 (frameL z255) 0 w3 (by omega) c3l c3m' n3 H3).mono ?_
  rintro e w4 ⟨v4, rfl, r4, b4⟩
  rw [num_o1] at r4 ⊢
  have B2 := Lib.hid (below_up B1.out b4)
  obtain ⟨A4, c4, e4, _, _, _, _⟩ := r4.holds
  rw [z255_len] at e4
  subst e4
  clear r4 b4
  go_wp2_with fail
  refine (Open_any none 0 0 [] 0 w4 (by omega) (by omega) (by omega) (fun _ => rfl) (Lib.hid (hb_nil w4 none))).mono ?_
  rintro e w5 ⟨v5, rfl, -, b5⟩
  rw [num_o2]
  have B2 := Lib.hid (below_up B2.out b5)
  clear b5
  go_wp2_with fail
  refine (Open_any none 0 0 [] 1 w5 (by omega) (by omega) (by omega) (fun _ => rfl) (Lib.hid (hb_nil w5 none))).mono ?_
  rintro e w6 ⟨v6, rfl, -, b6⟩
  rw [num_o3]
  have B3 := Lib.hid (below_up B2.out b6)
  clear b6
  go_wp2_with fail
  refine (Open_any (some ⟨w6.heap.size, 0, none⟩) 7 7 [1, 255, 0, 0, 0, 0, 0] 0 _ (by omega) (Nat.le_refl _) (by omega) (fun e => by cases e) (Lib.hid (num_l4 w6))).mono ?_
  rintro e w7 ⟨v4, rfl, -, b4⟩
  rw [num_o4]
  have B4 := Lib.hid (below_up (B3.out.alloc B3.out.size _) b4)
  clear b4
  go_wp2_with fail
  refine (Open_any (some ⟨w7.heap.size, 0, none⟩) 6 6 [1, 254, 0, 0, 0, 0] 0 _ (by omega) (Nat.le_refl _) (by omega) (fun e => by cases e) (Lib.hid (num_l5 w7))).mono ?_
  rintro e w8 ⟨v5, rfl, -, b5⟩
  rw [num_o5]
  have B5 := Lib.hid (below_up (B4.out.alloc B4.out.size _) b5)
  clear b5
  go_wp2_with fail
  refine (Open_any (some ⟨w8.heap.size, 0, none⟩) 7 7 [1, 254, 0, 0, 0, 0, 0] 0 _ (by omega) (Nat.le_refl _) (by omega) (fun e => by cases e) (Lib.hid (num_l6 w8))).mono ?_
  rintro e w9 ⟨v6, rfl, -, b6⟩
  rw [num_o6]
  have B6 := Lib.hid (below_up (B5.out.alloc B5.out.size _) b6)
  clear b6
  go_upto_region 10 with (fail)
  have hT := num_tab w9
  obtain ⟨W, eW⟩ : ∃ W, (((((((w9.alloc (.cells #[.int .u8 5] 5)).alloc (.cells #[.int .u8 1, .int .u8 2] 5)).alloc (.cells #[.int .u8 0] 5)).alloc (.cells #[.int .u8 3, .int .u8 97, .int .u8 98] 5)).alloc (.cells #[.int .u8 1, .int .u8 2, .int .u8 3, .int .u8 4, .int .u8 5, .int .u8 6, .int .u8 7] 5)).alloc (.cells #[.int .u8 1, .int .u8 2, .int .u8 3, .int .u8 4, .int .u8 5, .int .u8 6, .int .u8 7, .int .u8 8] 5)).alloc (.cells #[.slice none 0 0, .slice (some ⟨w9.heap.size, 0, none⟩) 1 1, .slice (some ⟨w9.heap.size + 1, 0, none⟩) 2 2, .slice (some ⟨w9.heap.size + 1 + 1, 0, none⟩) 1 1, .slice (some ⟨w9.heap.size + 1 + 1 + 1, 0, none⟩) 3 3, .slice (some ⟨w9.heap.size + 1 + 1 + 1 + 1, 0, none⟩) 7 7, .slice (some ⟨w9.heap.size + 1 + 1 + 1 + 1 + 1, 0, none⟩) 8 8] 22)) = W := ⟨_, rfl⟩
  have hG := num_grow w9
  have hS := num_size w9
  rw [eW] at hT hG hS ⊢
  have BW := Lib.hid (below_up B6.out hG)
  clear eW hG B0 B1 B2 B3 B4 B5 B6
  obtain ⟨tb, etb⟩ : ∃ tb, w9.heap.size + 1 + 1 + 1 + 1 + 1 + 1 = tb := ⟨_, rfl⟩
  rw [etb] at hT hS ⊢
  have hT := Lib.hid hT
  clear etb
  go_loopw [80] (fun i wr => ∃ k : Nat, i = .int .i64 k ∧ k ≤ 7 ∧ Hid (Tab wr tb (tb + 1)) ∧ Hid (Below w.heap.size w wr) ∧ Hid (tb + 1 ≤ wr.heap.size)) (fun i _ => 7 - (intOf i).toNat)
  case atStart => exact ⟨0, rfl, by omega, hT, BW, Lib.hid (by rw [hS]; omega)⟩
  case round =>
    clear hS hT BW
    obtain ⟨k, rfl, hk, hT, hB, hN⟩ := hrel
    by_cases hlt : k < 7
    · have t1 : decide ((k : Int) < 7) = true := decide_eq_true (by omega)
      have t2 : (k : Int) < 7 := by omega
      obtain ⟨A, n, cap, l, h1, h2, h3, h4, h5, h6⟩ := hT.out k hlt
      have h2 := Lib.hid h2
      have h5 := Lib.hid h5
      have h6 := Lib.hid h6
      go_wp2_with fail
      go_loopw [25] (fun q wi => ∃ j : Nat, q = .int .i64 j ∧ 1 ≤ j ∧ j ≤ 4 ∧ Hid (Tab wi tb (tb + 1)) ∧ Hid (HB wi A n l) ∧ Hid (Below w.heap.size w wi) ∧ Hid (tb + 1 ≤ wi.heap.size)) (fun q _ => 4 - (intOf q).toNat)
      case atStart => exact ⟨1, rfl, by omega, by omega, hT, h2, hB, hN⟩
      case round =>
        clear h1 h2 hT hB hN
        obtain ⟨j, rfl, hj1, hj, hT, h2, hB, hN⟩ := hrel
        by_cases hlj : j ≤ 3
        · have t3 : decide ((j : Int) ≤ 3) = true := decide_eq_true (by omega)
          go_wp2_with fail
          refine (NewReader_any A n cap l _ (by omega) h2).mono ?_
          rintro e w21 ⟨c, g, rfl, P1, hg, hgc, b1⟩
          have T1 := Lib.hid (two_made h2.out h3 (by omega) (by omega) h5.out (fun ad e => ⟨(h6.out ad e).1, Nat.lt_of_lt_of_le (h6.out ad e).2 hN.out⟩) P1 hg hgc b1)
          have b2 := Lib.hid (b1.alloc b1.size (.cells #[.slice A n cap, .int .i64 0, .int .i64 0] 33))
          have z1 := Lib.hid (Nat.le_trans hg hgc)
          have z2 := Lib.hid b1.size
          clear P1 hg hgc b1
          go_wp2_with fail
          refine (Get_any c g w21.heap.size A n cap l 0 0 j _ T1).mono ?_
          rintro e w22 ⟨rfl, T2, O2⟩
          have T2 := Lib.hid T2
          have O2 := Lib.hid O2
          go_wp2_with fail
          refine (Get_any c g w21.heap.size A n cap l _ _ 1 _ T2).mono ?_
          rintro e w23 ⟨rfl, T3, O3⟩
          have T3 := Lib.hid T3
          have O3 := Lib.hid O3
          go_wp2_with fail
          refine (Get_any c g w21.heap.size A n cap l _ _ 3 _ T3).mono ?_
          rintro e w24 ⟨rfl, T4, O4⟩
          have b3 := Lib.hid (only_pq_below (only_pq_below (only_pq_below b2.out O2.out z1.out z2.out) O3.out z1.out z2.out) O4 z1.out z2.out)
          clear T4 O4 T3 O3 T2 O2 T1
          go_wp2_with fail
          go_roundw
          case rel => exact ⟨j + 1, by go_num, by omega, by omega, Lib.hid (hT.out.below b3.out), Lib.hid (h2.out.below b3.out), Lib.hid (below_up hB.out b3.out), Lib.hid (Nat.le_trans hN.out b3.out.size)⟩
          case measure => simp [intOf]; omega
        · obtain rfl : j = 4 := by omega
          go_wp2_with fail
          go_roundw
          case rel => exact ⟨k + 1, by go_num, by omega, hT, hB, hN⟩
          case measure => simp [intOf]; omega
    · obtain rfl : k = 7 := by omega
      go_wp2_with fail
      refine (Known_any _).mono ?_
      rintro e w25 ⟨rfl, b⟩
      have b := Lib.hid (below_up hB.out b)
      go_wp2_with fail
      go_ret
      exact ⟨rfl, b.out⟩
end Go.Proofs.Ytnjedfnaohdnfaa
