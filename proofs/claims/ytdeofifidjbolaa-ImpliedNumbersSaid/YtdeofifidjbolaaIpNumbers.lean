/-
  The walk of the law ImpliedNumbers.
-/
import Derived.Test.YtdeofifidjbolaaIpNumP
import Derived.Test.YtdeofifidjbolaaIpTells
import Derived.Test.YtdeofifidjbolaaIpBest
namespace Go.Proofs.Ytdeofifidjbolaa
open Go.RowKit
set_option linter.unusedVariables false
set_option linter.unusedSimpArgs false

set_option maxRecDepth 100000 in
set_option maxHeartbeats 16000000 in
theorem INumbers_walk (w : World) : Calls Try.prog 3 #[] w fun e w' => e = .returned (.bool true) ∧ Below w.heap.size w w' := by
  obtain ⟨i0, hi0, hz0, hz1, hz2⟩ := info_parts info_kt
  have H3 := Lib.hid (Three_ok w)
  go_enter Try.func3, Try.ntmps3
  go_wp2_with fail
  refine H3.out.mono ?_
  clear H3
  rintro e w0 ⟨a1, a2, rfl, hOk, b1⟩
  obtain ⟨q, eq⟩ : ∃ q, w0.heap.size = q := ⟨_, rfl⟩
  obtain ⟨w1, e1⟩ : ∃ W, w0.alloc (.cells #[.string (str [67, 76]), .slice (some ⟨a1, 0, none⟩) 3 3, .int .i64 5, .int .i64 0, .int .i64 1000, .int .i64 200, .int .i64 1, .int .i64 4, .int .i64 2, .int .i64 40, .slice (some ⟨a2, 0, none⟩) 3 3] 25) = W := ⟨_, rfl⟩
  have hB1 : Hid (Below w.heap.size w w1) := Lib.hid (by rw [← e1]; exact b1.alloc b1.size _)
  have hblk : w1.heap[q]? = some (.cells #[.string (str [67, 76]), .slice (some ⟨a1, 0, none⟩) 3 3, .int .i64 5, .int .i64 0, .int .i64 1000, .int .i64 200, .int .i64 1, .int .i64 4, .int .i64 2, .int .i64 40, .slice (some ⟨a2, 0, none⟩) 3 3] 25 (0, 0)) := by rw [← e1, ← eq]; exact heap_alloc_new w0 _
  have hOk1 : (P3 1 (some ⟨a1, 0, none⟩) (some ⟨a2, 0, none⟩)).Ok w1 := by rw [← e1]; exact hOk.below ((Below.refl _ w0).alloc (Nat.le_refl _) _)
  have hblk1 : Hid (∀ W, Below w1.heap.size w1 W → W.heap[q]? = some (.cells #[.string (str [67, 76]), .slice (some ⟨a1, 0, none⟩) 3 3, .int .i64 5, .int .i64 0, .int .i64 1000, .int .i64 200, .int .i64 1, .int .i64 4, .int .i64 2, .int .i64 40, .slice (some ⟨a2, 0, none⟩) 3 3] 25 (0, 0))) := Lib.hid (fun W b => (b.block q (Array.getElem?_eq_some_iff.1 hblk).1).trans hblk)
  have hOkW : Hid (∀ W, Below w1.heap.size w1 W → (P3 1 (some ⟨a1, 0, none⟩) (some ⟨a2, 0, none⟩)).Ok W) := Lib.hid (fun W b => hOk1.below b)
  have B11 := Lib.hid (Below.refl w1.heap.size w1)
  replace e1 := Lib.hid e1
  replace eq := Lib.hid eq
  clear hOk hOk1 b1 hblk
  go_upto_region 2 with (fail)
  rw [e1.out, eq.out]
  clear e1 eq
  go_wp2_with fail
  go_loopw [2] (fun iv wr => ∃ h : Nat, iv = .int .i64 (h : Int) ∧ h ≤ 6 ∧ Hid (Below w1.heap.size w1 wr)) (fun iv _ => (6 - intOf iv).toNat)
  case atStart => exact ⟨0, rfl, by omega, B11⟩
  case round =>
    clear B11
    obtain ⟨h, rfl, hh, hBo⟩ := hrel
    by_cases hhl : h < 6
    · have dh : decide ((h : Int) < 6) = true := decide_eq_true (by omega)
      go_wp2_with (at_make; refine wpList_make_full _ (by rfl) (.const (.int .i64 6)) (.const (.int .i64 6)) 27 (by rfl) wr.heap.size 31 i0 (.agg #[.bool false, .bool false, .int .i64 0, .int .i64 0, .int .i64 0, .int .i64 0]) 6 Try.underlying27 hi0 hz0 hz1 .i64 .i64 _ _ 6 (by rfl) (by rfl) rfl rfl (by rw [hz2]; omega) (by unfold maxLen; omega) (Nat.le_refl _) ?_)
      intro w2 r2 g2
      have b12 : Below wr.heap.size wr w2 := (Below.refl _ wr).grown g2 (Nat.le_refl _) (fun k e => by cases e)
      obtain ⟨gr, egr⟩ : ∃ x, wr.heap.size = x := ⟨_, rfl⟩
      have R2 : Hid (Own fTp 31 w2 gr (.slice (some ⟨gr, 0, none⟩) 6 6) (List.replicate 6 zeroT)) := Lib.hid (by
        rw [← egr]
        unfold Own
        rw [List.length_replicate, ← made_tops]
        exact r2)
      have B2 : Hid (Below gr w2 w2) := Lib.hid (Below.refl _ _)
      have hBW : Hid (∀ W, Below gr w2 W → Below w1.heap.size w1 W) := Lib.hid (fun W b => below_top hBo.out (b12.trans (by rw [egr]; exact b)))
      have okz := Lib.hid (okT_zero 6)
      have lz : (List.replicate 6 zeroT).length = 6 := by simp
      replace egr := Lib.hid egr
      clear r2 g2 b12 hBo
      go_upto_region 6 with (fail)
      rw [egr.out]
      clear egr
      go_wp2_with fail
      go_loopw [4] (fun iv wr => ∃ (i : Nat) (L : List Tp), iv = .int .i64 (i : Int) ∧ i ≤ 6 ∧ L.length = 6 ∧ Hid (OkT L) ∧ Hid (Own fTp 31 wr gr (.slice (some ⟨gr, 0, none⟩) 6 6) L) ∧ Hid (Below gr w2 wr)) (fun iv _ => 6 - (intOf iv).toNat)
      case atStart => exact ⟨0, _, rfl, by omega, lz, okz, R2, B2⟩
      case round =>
        clear R2 B2 okz lz
        obtain ⟨i, L, rfl, hi, hl6, hok6, hR, hB⟩ := hrel
        rcases (show i = 0 ∨ i = 1 ∨ i = 2 ∨ i = 3 ∨ i = 4 ∨ i = 5 ∨ i = 6 by omega) with rfl | rfl | rfl | rfl | rfl | rfl | h6
        · rcases (show h = 1 ∨ h = 2 ∨ (h ≠ 1 ∧ h ≠ 2 ∧ h < 6) by omega) with h0 | h0 | h0
          · have hcase := Lib.hid h0
            clear h0
            have m1 : ((h : Int) != 1) = false := by have := hcase.out; simp; omega
            have m1' : decide ((h : Int) = 1) = true := by have := hcase.out; exact decide_eq_true (by omega)
            have m2 : ((h : Int) != 2) = true := by have := hcase.out; exact bne_iff_ne.2 (by omega)
            have m2' : decide ((h : Int) = 2) = false := by have := hcase.out; exact decide_eq_false (by omega)
            obtain ⟨x, hx⟩ : ∃ x, L[0]? = some x := ⟨_, List.getElem?_eq_getElem (by omega)⟩
            have hnx : ∀ y : Tp, (L.set 0 y)[0]? = some y := fun y => by rw [List.getElem?_set, if_pos rfl, if_pos (by omega)]
            obtain ⟨g', cap', cur, ev, -, hgl, hgh, -, -, hcs, -⟩ := hR.out.open' (by omega)
            injection ev with ev1 ev2 ev3
            injection ev1 with ev1
            injection ev1 with ev1
            subst ev1; subst ev3
            have hcs6 : cur.size = 36 := hcs
            obtain ⟨f0, f1, f2, f3, f4, f5, ⟨y0, q0⟩, ⟨y1, q1⟩, ⟨y2, q2⟩, ⟨y3, q3⟩, ⟨y4, q4⟩, ⟨y5, q5⟩⟩ := set6k 0 (.bool true) (.bool true) (.int .i64 500) (.int .i64 510) (.int .i64 1) (.int .i64 9) hgh (by omega)
            have r0 : Own fTp 31 ((((((wr.setCell ⟨gr, 0, none⟩ (.bool true)).setCell ⟨gr, 1, none⟩ (.bool true)).setCell ⟨gr, 2, none⟩ (.int .i64 500)).setCell ⟨gr, 3, none⟩ (.int .i64 510)).setCell ⟨gr, 4, none⟩ (.int .i64 1)).setCell ⟨gr, 5, none⟩ (.int .i64 9)) gr (.slice (some ⟨gr, 0, none⟩) 6 6) (L.set 0 ⟨true, true, 500, 510, 1, 9⟩) := hR.out.top6 (j := 0) hx true true 500 510 1 9
            have bb0 : Below gr w2 ((((((wr.setCell ⟨gr, 0, none⟩ (.bool true)).setCell ⟨gr, 1, none⟩ (.bool true)).setCell ⟨gr, 2, none⟩ (.int .i64 500)).setCell ⟨gr, 3, none⟩ (.int .i64 510)).setCell ⟨gr, 4, none⟩ (.int .i64 1)).setCell ⟨gr, 5, none⟩ (.int .i64 9)) := hB.out.trans (((((((set_only wr gr 0 _).trans (set_only _ gr _ _)).trans (set_only _ gr _ _)).trans (set_only _ gr _ _)).trans (set_only _ gr _ _)).trans (set_only _ gr _ _)).below (B := gr) (by omega) (fun k hk e => by omega))
            have l1 := build_two true true
            have l2 := build_longs 500 510
            have l3 := build_longs 1 9
            have l4 := build_whole true true 500 510 1 9
            obtain ⟨W0, eW0⟩ : ∃ W, ((((((wr.setCell ⟨gr, 0, none⟩ (.bool true)).setCell ⟨gr, 1, none⟩ (.bool true)).setCell ⟨gr, 2, none⟩ (.int .i64 500)).setCell ⟨gr, 3, none⟩ (.int .i64 510)).setCell ⟨gr, 4, none⟩ (.int .i64 1)).setCell ⟨gr, 5, none⟩ (.int .i64 9)) = W := ⟨_, rfl⟩
            rw [eW0] at r0 bb0
            have R0 := Lib.hid r0
            have B0 := Lib.hid bb0
            replace eW0 := Lib.hid eW0
            clear r0 bb0 hgh hcs ev2 hgl hR hB hx
            go_upto_region 11 with (fail)
            rw [eW0.out]
            clear f0 f1 f2 f3 f4 f5 y0 q0 y1 q1 y2 q2 y3 q3 y4 q4 y5 q5 eW0 l1 l2 l3 l4 hcs6 m1 m1' m2 m2'
            go_upto_region 13 with (fail)
            have s3 : ((h : Int) == 3) = false := by have := hcase.out; exact beq_eq_false_iff_ne.2 (by omega)
            have s3' : decide ((h : Int) = 3) = false := by have := hcase.out; exact decide_eq_false (by omega)
            have s4 : ((h : Int) == 4) = false := by have := hcase.out; exact beq_eq_false_iff_ne.2 (by omega)
            have s4' : decide ((h : Int) = 4) = false := by have := hcase.out; exact decide_eq_false (by omega)
            have s5 : ((h : Int) == 5) = false := by have := hcase.out; exact beq_eq_false_iff_ne.2 (by omega)
            have s5' : decide ((h : Int) = 5) = false := by have := hcase.out; exact decide_eq_false (by omega)
            have lk : (L.set 0 ⟨true, true, 500, 510, 1, 9⟩).length = 6 := by rw [List.length_set]; exact hl6
            have kk' : OkT (L.set 0 ⟨true, true, 500, 510, 1, 9⟩) := okT_set hok6.out 0 ⟨⟨by decide, by decide⟩, ⟨by decide, by decide⟩, ⟨by decide, by decide⟩, ⟨by decide, by decide⟩⟩
            replace kk' := Lib.hid kk'
            clear hnx hok6 hl6
            go_wp2_with fail
            go_roundw
            case rel => exact ⟨1, _, by go_num, by omega, lk, kk', R0, B0⟩
            case measure => simp [intOf]
          · have hcase := Lib.hid h0
            clear h0
            have m1 : ((h : Int) != 1) = true := by have := hcase.out; exact bne_iff_ne.2 (by omega)
            have m1' : decide ((h : Int) = 1) = false := by have := hcase.out; exact decide_eq_false (by omega)
            have m2 : ((h : Int) != 2) = false := by have := hcase.out; simp; omega
            have m2' : decide ((h : Int) = 2) = true := by have := hcase.out; exact decide_eq_true (by omega)
            obtain ⟨x, hx⟩ : ∃ x, L[0]? = some x := ⟨_, List.getElem?_eq_getElem (by omega)⟩
            have hnx : ∀ y : Tp, (L.set 0 y)[0]? = some y := fun y => by rw [List.getElem?_set, if_pos rfl, if_pos (by omega)]
            obtain ⟨g', cap', cur, ev, -, hgl, hgh, -, -, hcs, -⟩ := hR.out.open' (by omega)
            injection ev with ev1 ev2 ev3
            injection ev1 with ev1
            injection ev1 with ev1
            subst ev1; subst ev3
            have hcs6 : cur.size = 36 := hcs
            obtain ⟨f0, f1, f2, f3, f4, f5, ⟨y0, q0⟩, ⟨y1, q1⟩, ⟨y2, q2⟩, ⟨y3, q3⟩, ⟨y4, q4⟩, ⟨y5, q5⟩⟩ := set6k 0 (.bool true) (.bool false) (.int .i64 500) (.int .i64 510) (.int .i64 1) (.int .i64 9) hgh (by omega)
            have r0 : Own fTp 31 ((((((wr.setCell ⟨gr, 0, none⟩ (.bool true)).setCell ⟨gr, 1, none⟩ (.bool false)).setCell ⟨gr, 2, none⟩ (.int .i64 500)).setCell ⟨gr, 3, none⟩ (.int .i64 510)).setCell ⟨gr, 4, none⟩ (.int .i64 1)).setCell ⟨gr, 5, none⟩ (.int .i64 9)) gr (.slice (some ⟨gr, 0, none⟩) 6 6) (L.set 0 ⟨true, false, 500, 510, 1, 9⟩) := hR.out.top6 (j := 0) hx true false 500 510 1 9
            have bb0 : Below gr w2 ((((((wr.setCell ⟨gr, 0, none⟩ (.bool true)).setCell ⟨gr, 1, none⟩ (.bool false)).setCell ⟨gr, 2, none⟩ (.int .i64 500)).setCell ⟨gr, 3, none⟩ (.int .i64 510)).setCell ⟨gr, 4, none⟩ (.int .i64 1)).setCell ⟨gr, 5, none⟩ (.int .i64 9)) := hB.out.trans (((((((set_only wr gr 0 _).trans (set_only _ gr _ _)).trans (set_only _ gr _ _)).trans (set_only _ gr _ _)).trans (set_only _ gr _ _)).trans (set_only _ gr _ _)).below (B := gr) (by omega) (fun k hk e => by omega))
            have l1 := build_two true false
            have l2 := build_longs 500 510
            have l3 := build_longs 1 9
            have l4 := build_whole true false 500 510 1 9
            obtain ⟨W0, eW0⟩ : ∃ W, ((((((wr.setCell ⟨gr, 0, none⟩ (.bool true)).setCell ⟨gr, 1, none⟩ (.bool false)).setCell ⟨gr, 2, none⟩ (.int .i64 500)).setCell ⟨gr, 3, none⟩ (.int .i64 510)).setCell ⟨gr, 4, none⟩ (.int .i64 1)).setCell ⟨gr, 5, none⟩ (.int .i64 9)) = W := ⟨_, rfl⟩
            rw [eW0] at r0 bb0
            have R0 := Lib.hid r0
            have B0 := Lib.hid bb0
            replace eW0 := Lib.hid eW0
            clear r0 bb0 hgh hcs ev2 hgl hR hB hx
            go_upto_region 11 with (fail)
            rw [eW0.out]
            clear f0 f1 f2 f3 f4 f5 y0 q0 y1 q1 y2 q2 y3 q3 y4 q4 y5 q5 eW0 l1 l2 l3 l4 hcs6 m1 m1' m2 m2'
            go_upto_region 13 with (fail)
            have s3 : ((h : Int) == 3) = false := by have := hcase.out; exact beq_eq_false_iff_ne.2 (by omega)
            have s3' : decide ((h : Int) = 3) = false := by have := hcase.out; exact decide_eq_false (by omega)
            have s4 : ((h : Int) == 4) = false := by have := hcase.out; exact beq_eq_false_iff_ne.2 (by omega)
            have s4' : decide ((h : Int) = 4) = false := by have := hcase.out; exact decide_eq_false (by omega)
            have s5 : ((h : Int) == 5) = false := by have := hcase.out; exact beq_eq_false_iff_ne.2 (by omega)
            have s5' : decide ((h : Int) = 5) = false := by have := hcase.out; exact decide_eq_false (by omega)
            have lk : (L.set 0 ⟨true, false, 500, 510, 1, 9⟩).length = 6 := by rw [List.length_set]; exact hl6
            have kk' : OkT (L.set 0 ⟨true, false, 500, 510, 1, 9⟩) := okT_set hok6.out 0 ⟨⟨by decide, by decide⟩, ⟨by decide, by decide⟩, ⟨by decide, by decide⟩, ⟨by decide, by decide⟩⟩
            replace kk' := Lib.hid kk'
            clear hnx hok6 hl6
            go_wp2_with fail
            go_roundw
            case rel => exact ⟨1, _, by go_num, by omega, lk, kk', R0, B0⟩
            case measure => simp [intOf]
          · have hcase := Lib.hid h0
            clear h0
            have m1 : ((h : Int) != 1) = true := by have := hcase.out; exact bne_iff_ne.2 (by omega)
            have m1' : decide ((h : Int) = 1) = false := by have := hcase.out; exact decide_eq_false (by omega)
            have m2 : ((h : Int) != 2) = true := by have := hcase.out; exact bne_iff_ne.2 (by omega)
            have m2' : decide ((h : Int) = 2) = false := by have := hcase.out; exact decide_eq_false (by omega)
            obtain ⟨x, hx⟩ : ∃ x, L[0]? = some x := ⟨_, List.getElem?_eq_getElem (by omega)⟩
            have hnx : ∀ y : Tp, (L.set 0 y)[0]? = some y := fun y => by rw [List.getElem?_set, if_pos rfl, if_pos (by omega)]
            obtain ⟨g', cap', cur, ev, -, hgl, hgh, -, -, hcs, -⟩ := hR.out.open' (by omega)
            injection ev with ev1 ev2 ev3
            injection ev1 with ev1
            injection ev1 with ev1
            subst ev1; subst ev3
            have hcs6 : cur.size = 36 := hcs
            obtain ⟨f0, f1, f2, f3, f4, f5, ⟨y0, q0⟩, ⟨y1, q1⟩, ⟨y2, q2⟩, ⟨y3, q3⟩, ⟨y4, q4⟩, ⟨y5, q5⟩⟩ := set6k 0 (.bool true) (.bool true) (.int .i64 500) (.int .i64 510) (.int .i64 1) (.int .i64 9) hgh (by omega)
            have r0 : Own fTp 31 ((((((wr.setCell ⟨gr, 0, none⟩ (.bool true)).setCell ⟨gr, 1, none⟩ (.bool true)).setCell ⟨gr, 2, none⟩ (.int .i64 500)).setCell ⟨gr, 3, none⟩ (.int .i64 510)).setCell ⟨gr, 4, none⟩ (.int .i64 1)).setCell ⟨gr, 5, none⟩ (.int .i64 9)) gr (.slice (some ⟨gr, 0, none⟩) 6 6) (L.set 0 ⟨true, true, 500, 510, 1, 9⟩) := hR.out.top6 (j := 0) hx true true 500 510 1 9
            have bb0 : Below gr w2 ((((((wr.setCell ⟨gr, 0, none⟩ (.bool true)).setCell ⟨gr, 1, none⟩ (.bool true)).setCell ⟨gr, 2, none⟩ (.int .i64 500)).setCell ⟨gr, 3, none⟩ (.int .i64 510)).setCell ⟨gr, 4, none⟩ (.int .i64 1)).setCell ⟨gr, 5, none⟩ (.int .i64 9)) := hB.out.trans (((((((set_only wr gr 0 _).trans (set_only _ gr _ _)).trans (set_only _ gr _ _)).trans (set_only _ gr _ _)).trans (set_only _ gr _ _)).trans (set_only _ gr _ _)).below (B := gr) (by omega) (fun k hk e => by omega))
            have l1 := build_two true true
            have l2 := build_longs 500 510
            have l3 := build_longs 1 9
            have l4 := build_whole true true 500 510 1 9
            obtain ⟨W0, eW0⟩ : ∃ W, ((((((wr.setCell ⟨gr, 0, none⟩ (.bool true)).setCell ⟨gr, 1, none⟩ (.bool true)).setCell ⟨gr, 2, none⟩ (.int .i64 500)).setCell ⟨gr, 3, none⟩ (.int .i64 510)).setCell ⟨gr, 4, none⟩ (.int .i64 1)).setCell ⟨gr, 5, none⟩ (.int .i64 9)) = W := ⟨_, rfl⟩
            rw [eW0] at r0 bb0
            have R0 := Lib.hid r0
            have B0 := Lib.hid bb0
            replace eW0 := Lib.hid eW0
            clear r0 bb0 hgh hcs ev2 hgl hR hB hx
            go_upto_region 11 with (fail)
            rw [eW0.out]
            clear f0 f1 f2 f3 f4 f5 y0 q0 y1 q1 y2 q2 y3 q3 y4 q4 y5 q5 eW0 l1 l2 l3 l4 hcs6 m1 m1' m2 m2'
            go_upto_region 13 with (fail)
            rcases (show h = 3 ∨ h = 4 ∨ h = 5 ∨ h = 0 by have := hcase.out; omega) with h0 | h0 | h0 | h0
            · have hcase := Lib.hid h0
              clear h0
              have s3 : ((h : Int) == 3) = true := by have := hcase.out; simp; omega
              have s3' : decide ((h : Int) = 3) = true := by have := hcase.out; exact decide_eq_true (by omega)
              obtain ⟨g', cap', cur, ev, -, hgl, hgh, -, -, hcs, -⟩ := R0.out.open' (by rw [List.length_set]; omega)
              injection ev with ev1 ev2 ev3
              injection ev1 with ev1
              injection ev1 with ev1
              subst ev1; subst ev3
              have hcs6 : cur.size = 36 := hcs
              obtain ⟨f0, f1, ⟨c0, q0⟩, ⟨c1, q1⟩⟩ := set2k 2 (.int .i64 (-9223372036854775808)) hgh (by omega)
              have r1 : Own fTp 31 ((W0.setCell ⟨gr, 2, none⟩ (.int .i64 (-9223372036854775808))).setCell ⟨gr, 3, none⟩ (.int .i64 9223372036854775807)) gr (.slice (some ⟨gr, 0, none⟩) 6 6) (L.set 0 ⟨true, true, (-9223372036854775808), 9223372036854775807, 1, 9⟩) := by
                have r := R0.out.pair (j := 0) (hnx _) (-9223372036854775808) 9223372036854775807
                rw [List.set_set] at r
                exact r
              have bb1 : Below gr w2 ((W0.setCell ⟨gr, 2, none⟩ (.int .i64 (-9223372036854775808))).setCell ⟨gr, 3, none⟩ (.int .i64 9223372036854775807)) := B0.out.trans (((set_only W0 gr 2 _).trans (set_only _ gr _ _)).below (B := gr) (by omega) (fun k hk e => by omega))
              have l1 := build_longs (-9223372036854775808) 9223372036854775807
              obtain ⟨W1, eW1⟩ : ∃ W, ((W0.setCell ⟨gr, 2, none⟩ (.int .i64 (-9223372036854775808))).setCell ⟨gr, 3, none⟩ (.int .i64 9223372036854775807)) = W := ⟨_, rfl⟩
              rw [eW1] at r1 bb1
              have R1 := Lib.hid r1
              have B1 := Lib.hid bb1
              replace eW1 := Lib.hid eW1
              clear r1 bb1 hgh hcs ev2 hgl R0 B0
              go_upto_region 8 with (fail)
              (try rw [eW1.out])
              clear f0 f1 c0 q0 c1 q1 eW1 l1 hcs6
              have lk : (L.set 0 ⟨true, true, (-9223372036854775808), 9223372036854775807, 1, 9⟩).length = 6 := by rw [List.length_set]; exact hl6
              have kk' : OkT (L.set 0 ⟨true, true, (-9223372036854775808), 9223372036854775807, 1, 9⟩) := okT_set hok6.out 0 ⟨⟨by decide, by decide⟩, ⟨by decide, by decide⟩, ⟨by decide, by decide⟩, ⟨by decide, by decide⟩⟩
              replace kk' := Lib.hid kk'
              clear hnx hok6 hl6
              go_wp2_with fail
              go_roundw
              case rel => exact ⟨1, _, by go_num, by omega, lk, kk', R1, B1⟩
              case measure => simp [intOf]
            · have hcase := Lib.hid h0
              clear h0
              have s3 : ((h : Int) == 3) = false := by have := hcase.out; exact beq_eq_false_iff_ne.2 (by omega)
              have s3' : decide ((h : Int) = 3) = false := by have := hcase.out; exact decide_eq_false (by omega)
              have s4 : ((h : Int) == 4) = true := by have := hcase.out; simp; omega
              have s4' : decide ((h : Int) = 4) = true := by have := hcase.out; exact decide_eq_true (by omega)
              obtain ⟨g', cap', cur, ev, -, hgl, hgh, -, -, hcs, -⟩ := R0.out.open' (by rw [List.length_set]; omega)
              injection ev with ev1 ev2 ev3
              injection ev1 with ev1
              injection ev1 with ev1
              subst ev1; subst ev3
              have hcs6 : cur.size = 36 := hcs
              obtain ⟨f0, f1, ⟨c0, q0⟩, ⟨c1, q1⟩⟩ := set2k 2 (.int .i64 0) hgh (by omega)
              have r1 : Own fTp 31 ((W0.setCell ⟨gr, 2, none⟩ (.int .i64 0)).setCell ⟨gr, 3, none⟩ (.int .i64 1000)) gr (.slice (some ⟨gr, 0, none⟩) 6 6) (L.set 0 ⟨true, true, 0, 1000, 1, 9⟩) := by
                have r := R0.out.pair (j := 0) (hnx _) 0 1000
                rw [List.set_set] at r
                exact r
              have bb1 : Below gr w2 ((W0.setCell ⟨gr, 2, none⟩ (.int .i64 0)).setCell ⟨gr, 3, none⟩ (.int .i64 1000)) := B0.out.trans (((set_only W0 gr 2 _).trans (set_only _ gr _ _)).below (B := gr) (by omega) (fun k hk e => by omega))
              have l1 := build_longs 0 1000
              obtain ⟨W1, eW1⟩ : ∃ W, ((W0.setCell ⟨gr, 2, none⟩ (.int .i64 0)).setCell ⟨gr, 3, none⟩ (.int .i64 1000)) = W := ⟨_, rfl⟩
              rw [eW1] at r1 bb1
              have R1 := Lib.hid r1
              have B1 := Lib.hid bb1
              replace eW1 := Lib.hid eW1
              clear r1 bb1 hgh hcs ev2 hgl R0 B0
              go_upto_region 8 with (fail)
              (try rw [eW1.out])
              clear f0 f1 c0 q0 c1 q1 eW1 l1 hcs6
              have lk : (L.set 0 ⟨true, true, 0, 1000, 1, 9⟩).length = 6 := by rw [List.length_set]; exact hl6
              have kk' : OkT (L.set 0 ⟨true, true, 0, 1000, 1, 9⟩) := okT_set hok6.out 0 ⟨⟨by decide, by decide⟩, ⟨by decide, by decide⟩, ⟨by decide, by decide⟩, ⟨by decide, by decide⟩⟩
              replace kk' := Lib.hid kk'
              clear hnx hok6 hl6
              go_wp2_with fail
              go_roundw
              case rel => exact ⟨1, _, by go_num, by omega, lk, kk', R1, B1⟩
              case measure => simp [intOf]
            · have hcase := Lib.hid h0
              clear h0
              have s3 : ((h : Int) == 3) = false := by have := hcase.out; exact beq_eq_false_iff_ne.2 (by omega)
              have s3' : decide ((h : Int) = 3) = false := by have := hcase.out; exact decide_eq_false (by omega)
              have s4 : ((h : Int) == 4) = false := by have := hcase.out; exact beq_eq_false_iff_ne.2 (by omega)
              have s4' : decide ((h : Int) = 4) = false := by have := hcase.out; exact decide_eq_false (by omega)
              have s5 : ((h : Int) == 5) = true := by have := hcase.out; simp; omega
              have s5' : decide ((h : Int) = 5) = true := by have := hcase.out; exact decide_eq_true (by omega)
              obtain ⟨g', cap', cur, ev, -, hgl, hgh, -, -, hcs, -⟩ := R0.out.open' (by rw [List.length_set]; omega)
              injection ev with ev1 ev2 ev3
              injection ev1 with ev1
              injection ev1 with ev1
              subst ev1; subst ev3
              have hcs6 : cur.size = 36 := hcs
              obtain ⟨f0, f1, ⟨c0, q0⟩, ⟨c1, q1⟩⟩ := set2k 2 (.int .i64 9223372036854775807) hgh (by omega)
              have r1 : Own fTp 31 ((W0.setCell ⟨gr, 2, none⟩ (.int .i64 9223372036854775807)).setCell ⟨gr, 3, none⟩ (.int .i64 (-9223372036854775808))) gr (.slice (some ⟨gr, 0, none⟩) 6 6) (L.set 0 ⟨true, true, 9223372036854775807, (-9223372036854775808), 1, 9⟩) := by
                have r := R0.out.pair (j := 0) (hnx _) 9223372036854775807 (-9223372036854775808)
                rw [List.set_set] at r
                exact r
              have bb1 : Below gr w2 ((W0.setCell ⟨gr, 2, none⟩ (.int .i64 9223372036854775807)).setCell ⟨gr, 3, none⟩ (.int .i64 (-9223372036854775808))) := B0.out.trans (((set_only W0 gr 2 _).trans (set_only _ gr _ _)).below (B := gr) (by omega) (fun k hk e => by omega))
              have l1 := build_longs 9223372036854775807 (-9223372036854775808)
              obtain ⟨W1, eW1⟩ : ∃ W, ((W0.setCell ⟨gr, 2, none⟩ (.int .i64 9223372036854775807)).setCell ⟨gr, 3, none⟩ (.int .i64 (-9223372036854775808))) = W := ⟨_, rfl⟩
              rw [eW1] at r1 bb1
              have R1 := Lib.hid r1
              have B1 := Lib.hid bb1
              replace eW1 := Lib.hid eW1
              clear r1 bb1 hgh hcs ev2 hgl R0 B0
              go_upto_region 8 with (fail)
              (try rw [eW1.out])
              clear f0 f1 c0 q0 c1 q1 eW1 l1 hcs6
              have lk : (L.set 0 ⟨true, true, 9223372036854775807, (-9223372036854775808), 1, 9⟩).length = 6 := by rw [List.length_set]; exact hl6
              have kk' : OkT (L.set 0 ⟨true, true, 9223372036854775807, (-9223372036854775808), 1, 9⟩) := okT_set hok6.out 0 ⟨⟨by decide, by decide⟩, ⟨by decide, by decide⟩, ⟨by decide, by decide⟩, ⟨by decide, by decide⟩⟩
              replace kk' := Lib.hid kk'
              clear hnx hok6 hl6
              go_wp2_with fail
              go_roundw
              case rel => exact ⟨1, _, by go_num, by omega, lk, kk', R1, B1⟩
              case measure => simp [intOf]
            · have hcase := Lib.hid h0
              clear h0
              have s3 : ((h : Int) == 3) = false := by have := hcase.out; exact beq_eq_false_iff_ne.2 (by omega)
              have s3' : decide ((h : Int) = 3) = false := by have := hcase.out; exact decide_eq_false (by omega)
              have s4 : ((h : Int) == 4) = false := by have := hcase.out; exact beq_eq_false_iff_ne.2 (by omega)
              have s4' : decide ((h : Int) = 4) = false := by have := hcase.out; exact decide_eq_false (by omega)
              have s5 : ((h : Int) == 5) = false := by have := hcase.out; exact beq_eq_false_iff_ne.2 (by omega)
              have s5' : decide ((h : Int) = 5) = false := by have := hcase.out; exact decide_eq_false (by omega)
              have lk : (L.set 0 ⟨true, true, 500, 510, 1, 9⟩).length = 6 := by rw [List.length_set]; exact hl6
              have kk' : OkT (L.set 0 ⟨true, true, 500, 510, 1, 9⟩) := okT_set hok6.out 0 ⟨⟨by decide, by decide⟩, ⟨by decide, by decide⟩, ⟨by decide, by decide⟩, ⟨by decide, by decide⟩⟩
              replace kk' := Lib.hid kk'
              clear hnx hok6 hl6
              go_wp2_with fail
              go_roundw
              case rel => exact ⟨1, _, by go_num, by omega, lk, kk', R0, B0⟩
              case measure => simp [intOf]
        · rcases (show h = 1 ∨ h = 2 ∨ (h ≠ 1 ∧ h ≠ 2 ∧ h < 6) by omega) with h0 | h0 | h0
          · have hcase := Lib.hid h0
            clear h0
            have m1 : ((h : Int) != 1) = false := by have := hcase.out; simp; omega
            have m1' : decide ((h : Int) = 1) = true := by have := hcase.out; exact decide_eq_true (by omega)
            have m2 : ((h : Int) != 2) = true := by have := hcase.out; exact bne_iff_ne.2 (by omega)
            have m2' : decide ((h : Int) = 2) = false := by have := hcase.out; exact decide_eq_false (by omega)
            obtain ⟨x, hx⟩ : ∃ x, L[1]? = some x := ⟨_, List.getElem?_eq_getElem (by omega)⟩
            have hnx : ∀ y : Tp, (L.set 1 y)[1]? = some y := fun y => by rw [List.getElem?_set, if_pos rfl, if_pos (by omega)]
            obtain ⟨g', cap', cur, ev, -, hgl, hgh, -, -, hcs, -⟩ := hR.out.open' (by omega)
            injection ev with ev1 ev2 ev3
            injection ev1 with ev1
            injection ev1 with ev1
            subst ev1; subst ev3
            have hcs6 : cur.size = 36 := hcs
            obtain ⟨f0, f1, f2, f3, f4, f5, ⟨y0, q0⟩, ⟨y1, q1⟩, ⟨y2, q2⟩, ⟨y3, q3⟩, ⟨y4, q4⟩, ⟨y5, q5⟩⟩ := set6k 6 (.bool false) (.bool true) (.int .i64 505) (.int .i64 515) (.int .i64 2) (.int .i64 8) hgh (by omega)
            have r0 : Own fTp 31 ((((((wr.setCell ⟨gr, 6, none⟩ (.bool false)).setCell ⟨gr, 7, none⟩ (.bool true)).setCell ⟨gr, 8, none⟩ (.int .i64 505)).setCell ⟨gr, 9, none⟩ (.int .i64 515)).setCell ⟨gr, 10, none⟩ (.int .i64 2)).setCell ⟨gr, 11, none⟩ (.int .i64 8)) gr (.slice (some ⟨gr, 0, none⟩) 6 6) (L.set 1 ⟨false, true, 505, 515, 2, 8⟩) := hR.out.top6 (j := 1) hx false true 505 515 2 8
            have bb0 : Below gr w2 ((((((wr.setCell ⟨gr, 6, none⟩ (.bool false)).setCell ⟨gr, 7, none⟩ (.bool true)).setCell ⟨gr, 8, none⟩ (.int .i64 505)).setCell ⟨gr, 9, none⟩ (.int .i64 515)).setCell ⟨gr, 10, none⟩ (.int .i64 2)).setCell ⟨gr, 11, none⟩ (.int .i64 8)) := hB.out.trans (((((((set_only wr gr 6 _).trans (set_only _ gr _ _)).trans (set_only _ gr _ _)).trans (set_only _ gr _ _)).trans (set_only _ gr _ _)).trans (set_only _ gr _ _)).below (B := gr) (by omega) (fun k hk e => by omega))
            have l1 := build_two false true
            have l2 := build_longs 505 515
            have l3 := build_longs 2 8
            have l4 := build_whole false true 505 515 2 8
            obtain ⟨W0, eW0⟩ : ∃ W, ((((((wr.setCell ⟨gr, 6, none⟩ (.bool false)).setCell ⟨gr, 7, none⟩ (.bool true)).setCell ⟨gr, 8, none⟩ (.int .i64 505)).setCell ⟨gr, 9, none⟩ (.int .i64 515)).setCell ⟨gr, 10, none⟩ (.int .i64 2)).setCell ⟨gr, 11, none⟩ (.int .i64 8)) = W := ⟨_, rfl⟩
            rw [eW0] at r0 bb0
            have R0 := Lib.hid r0
            have B0 := Lib.hid bb0
            replace eW0 := Lib.hid eW0
            clear r0 bb0 hgh hcs ev2 hgl hR hB hx
            go_upto_region 11 with (fail)
            rw [eW0.out]
            clear f0 f1 f2 f3 f4 f5 y0 q0 y1 q1 y2 q2 y3 q3 y4 q4 y5 q5 eW0 l1 l2 l3 l4 hcs6 m1 m1' m2 m2'
            go_upto_region 13 with (fail)
            have s3 : ((h : Int) == 3) = false := by have := hcase.out; exact beq_eq_false_iff_ne.2 (by omega)
            have s3' : decide ((h : Int) = 3) = false := by have := hcase.out; exact decide_eq_false (by omega)
            have s4 : ((h : Int) == 4) = false := by have := hcase.out; exact beq_eq_false_iff_ne.2 (by omega)
            have s4' : decide ((h : Int) = 4) = false := by have := hcase.out; exact decide_eq_false (by omega)
            have s5 : ((h : Int) == 5) = false := by have := hcase.out; exact beq_eq_false_iff_ne.2 (by omega)
            have s5' : decide ((h : Int) = 5) = false := by have := hcase.out; exact decide_eq_false (by omega)
            have lk : (L.set 1 ⟨false, true, 505, 515, 2, 8⟩).length = 6 := by rw [List.length_set]; exact hl6
            have kk' : OkT (L.set 1 ⟨false, true, 505, 515, 2, 8⟩) := okT_set hok6.out 1 ⟨⟨by decide, by decide⟩, ⟨by decide, by decide⟩, ⟨by decide, by decide⟩, ⟨by decide, by decide⟩⟩
            replace kk' := Lib.hid kk'
            clear hnx hok6 hl6
            go_wp2_with fail
            go_roundw
            case rel => exact ⟨2, _, by go_num, by omega, lk, kk', R0, B0⟩
            case measure => simp [intOf]
          · have hcase := Lib.hid h0
            clear h0
            have m1 : ((h : Int) != 1) = true := by have := hcase.out; exact bne_iff_ne.2 (by omega)
            have m1' : decide ((h : Int) = 1) = false := by have := hcase.out; exact decide_eq_false (by omega)
            have m2 : ((h : Int) != 2) = false := by have := hcase.out; simp; omega
            have m2' : decide ((h : Int) = 2) = true := by have := hcase.out; exact decide_eq_true (by omega)
            obtain ⟨x, hx⟩ : ∃ x, L[1]? = some x := ⟨_, List.getElem?_eq_getElem (by omega)⟩
            have hnx : ∀ y : Tp, (L.set 1 y)[1]? = some y := fun y => by rw [List.getElem?_set, if_pos rfl, if_pos (by omega)]
            obtain ⟨g', cap', cur, ev, -, hgl, hgh, -, -, hcs, -⟩ := hR.out.open' (by omega)
            injection ev with ev1 ev2 ev3
            injection ev1 with ev1
            injection ev1 with ev1
            subst ev1; subst ev3
            have hcs6 : cur.size = 36 := hcs
            obtain ⟨f0, f1, f2, f3, f4, f5, ⟨y0, q0⟩, ⟨y1, q1⟩, ⟨y2, q2⟩, ⟨y3, q3⟩, ⟨y4, q4⟩, ⟨y5, q5⟩⟩ := set6k 6 (.bool true) (.bool true) (.int .i64 505) (.int .i64 515) (.int .i64 2) (.int .i64 8) hgh (by omega)
            have r0 : Own fTp 31 ((((((wr.setCell ⟨gr, 6, none⟩ (.bool true)).setCell ⟨gr, 7, none⟩ (.bool true)).setCell ⟨gr, 8, none⟩ (.int .i64 505)).setCell ⟨gr, 9, none⟩ (.int .i64 515)).setCell ⟨gr, 10, none⟩ (.int .i64 2)).setCell ⟨gr, 11, none⟩ (.int .i64 8)) gr (.slice (some ⟨gr, 0, none⟩) 6 6) (L.set 1 ⟨true, true, 505, 515, 2, 8⟩) := hR.out.top6 (j := 1) hx true true 505 515 2 8
            have bb0 : Below gr w2 ((((((wr.setCell ⟨gr, 6, none⟩ (.bool true)).setCell ⟨gr, 7, none⟩ (.bool true)).setCell ⟨gr, 8, none⟩ (.int .i64 505)).setCell ⟨gr, 9, none⟩ (.int .i64 515)).setCell ⟨gr, 10, none⟩ (.int .i64 2)).setCell ⟨gr, 11, none⟩ (.int .i64 8)) := hB.out.trans (((((((set_only wr gr 6 _).trans (set_only _ gr _ _)).trans (set_only _ gr _ _)).trans (set_only _ gr _ _)).trans (set_only _ gr _ _)).trans (set_only _ gr _ _)).below (B := gr) (by omega) (fun k hk e => by omega))
            have l1 := build_two true true
            have l2 := build_longs 505 515
            have l3 := build_longs 2 8
            have l4 := build_whole true true 505 515 2 8
            obtain ⟨W0, eW0⟩ : ∃ W, ((((((wr.setCell ⟨gr, 6, none⟩ (.bool true)).setCell ⟨gr, 7, none⟩ (.bool true)).setCell ⟨gr, 8, none⟩ (.int .i64 505)).setCell ⟨gr, 9, none⟩ (.int .i64 515)).setCell ⟨gr, 10, none⟩ (.int .i64 2)).setCell ⟨gr, 11, none⟩ (.int .i64 8)) = W := ⟨_, rfl⟩
            rw [eW0] at r0 bb0
            have R0 := Lib.hid r0
            have B0 := Lib.hid bb0
            replace eW0 := Lib.hid eW0
            clear r0 bb0 hgh hcs ev2 hgl hR hB hx
            go_upto_region 11 with (fail)
            rw [eW0.out]
            clear f0 f1 f2 f3 f4 f5 y0 q0 y1 q1 y2 q2 y3 q3 y4 q4 y5 q5 eW0 l1 l2 l3 l4 hcs6 m1 m1' m2 m2'
            go_upto_region 13 with (fail)
            have s3 : ((h : Int) == 3) = false := by have := hcase.out; exact beq_eq_false_iff_ne.2 (by omega)
            have s3' : decide ((h : Int) = 3) = false := by have := hcase.out; exact decide_eq_false (by omega)
            have s4 : ((h : Int) == 4) = false := by have := hcase.out; exact beq_eq_false_iff_ne.2 (by omega)
            have s4' : decide ((h : Int) = 4) = false := by have := hcase.out; exact decide_eq_false (by omega)
            have s5 : ((h : Int) == 5) = false := by have := hcase.out; exact beq_eq_false_iff_ne.2 (by omega)
            have s5' : decide ((h : Int) = 5) = false := by have := hcase.out; exact decide_eq_false (by omega)
            have lk : (L.set 1 ⟨true, true, 505, 515, 2, 8⟩).length = 6 := by rw [List.length_set]; exact hl6
            have kk' : OkT (L.set 1 ⟨true, true, 505, 515, 2, 8⟩) := okT_set hok6.out 1 ⟨⟨by decide, by decide⟩, ⟨by decide, by decide⟩, ⟨by decide, by decide⟩, ⟨by decide, by decide⟩⟩
            replace kk' := Lib.hid kk'
            clear hnx hok6 hl6
            go_wp2_with fail
            go_roundw
            case rel => exact ⟨2, _, by go_num, by omega, lk, kk', R0, B0⟩
            case measure => simp [intOf]
          · have hcase := Lib.hid h0
            clear h0
            have m1 : ((h : Int) != 1) = true := by have := hcase.out; exact bne_iff_ne.2 (by omega)
            have m1' : decide ((h : Int) = 1) = false := by have := hcase.out; exact decide_eq_false (by omega)
            have m2 : ((h : Int) != 2) = true := by have := hcase.out; exact bne_iff_ne.2 (by omega)
            have m2' : decide ((h : Int) = 2) = false := by have := hcase.out; exact decide_eq_false (by omega)
            obtain ⟨x, hx⟩ : ∃ x, L[1]? = some x := ⟨_, List.getElem?_eq_getElem (by omega)⟩
            have hnx : ∀ y : Tp, (L.set 1 y)[1]? = some y := fun y => by rw [List.getElem?_set, if_pos rfl, if_pos (by omega)]
            obtain ⟨g', cap', cur, ev, -, hgl, hgh, -, -, hcs, -⟩ := hR.out.open' (by omega)
            injection ev with ev1 ev2 ev3
            injection ev1 with ev1
            injection ev1 with ev1
            subst ev1; subst ev3
            have hcs6 : cur.size = 36 := hcs
            obtain ⟨f0, f1, f2, f3, f4, f5, ⟨y0, q0⟩, ⟨y1, q1⟩, ⟨y2, q2⟩, ⟨y3, q3⟩, ⟨y4, q4⟩, ⟨y5, q5⟩⟩ := set6k 6 (.bool true) (.bool true) (.int .i64 505) (.int .i64 515) (.int .i64 2) (.int .i64 8) hgh (by omega)
            have r0 : Own fTp 31 ((((((wr.setCell ⟨gr, 6, none⟩ (.bool true)).setCell ⟨gr, 7, none⟩ (.bool true)).setCell ⟨gr, 8, none⟩ (.int .i64 505)).setCell ⟨gr, 9, none⟩ (.int .i64 515)).setCell ⟨gr, 10, none⟩ (.int .i64 2)).setCell ⟨gr, 11, none⟩ (.int .i64 8)) gr (.slice (some ⟨gr, 0, none⟩) 6 6) (L.set 1 ⟨true, true, 505, 515, 2, 8⟩) := hR.out.top6 (j := 1) hx true true 505 515 2 8
            have bb0 : Below gr w2 ((((((wr.setCell ⟨gr, 6, none⟩ (.bool true)).setCell ⟨gr, 7, none⟩ (.bool true)).setCell ⟨gr, 8, none⟩ (.int .i64 505)).setCell ⟨gr, 9, none⟩ (.int .i64 515)).setCell ⟨gr, 10, none⟩ (.int .i64 2)).setCell ⟨gr, 11, none⟩ (.int .i64 8)) := hB.out.trans (((((((set_only wr gr 6 _).trans (set_only _ gr _ _)).trans (set_only _ gr _ _)).trans (set_only _ gr _ _)).trans (set_only _ gr _ _)).trans (set_only _ gr _ _)).below (B := gr) (by omega) (fun k hk e => by omega))
            have l1 := build_two true true
            have l2 := build_longs 505 515
            have l3 := build_longs 2 8
            have l4 := build_whole true true 505 515 2 8
            obtain ⟨W0, eW0⟩ : ∃ W, ((((((wr.setCell ⟨gr, 6, none⟩ (.bool true)).setCell ⟨gr, 7, none⟩ (.bool true)).setCell ⟨gr, 8, none⟩ (.int .i64 505)).setCell ⟨gr, 9, none⟩ (.int .i64 515)).setCell ⟨gr, 10, none⟩ (.int .i64 2)).setCell ⟨gr, 11, none⟩ (.int .i64 8)) = W := ⟨_, rfl⟩
            rw [eW0] at r0 bb0
            have R0 := Lib.hid r0
            have B0 := Lib.hid bb0
            replace eW0 := Lib.hid eW0
            clear r0 bb0 hgh hcs ev2 hgl hR hB hx
            go_upto_region 11 with (fail)
            rw [eW0.out]
            clear f0 f1 f2 f3 f4 f5 y0 q0 y1 q1 y2 q2 y3 q3 y4 q4 y5 q5 eW0 l1 l2 l3 l4 hcs6 m1 m1' m2 m2'
            go_upto_region 13 with (fail)
            rcases (show h = 3 ∨ h = 4 ∨ h = 5 ∨ h = 0 by have := hcase.out; omega) with h0 | h0 | h0 | h0
            · have hcase := Lib.hid h0
              clear h0
              have s3 : ((h : Int) == 3) = true := by have := hcase.out; simp; omega
              have s3' : decide ((h : Int) = 3) = true := by have := hcase.out; exact decide_eq_true (by omega)
              obtain ⟨g', cap', cur, ev, -, hgl, hgh, -, -, hcs, -⟩ := R0.out.open' (by rw [List.length_set]; omega)
              injection ev with ev1 ev2 ev3
              injection ev1 with ev1
              injection ev1 with ev1
              subst ev1; subst ev3
              have hcs6 : cur.size = 36 := hcs
              obtain ⟨f0, f1, ⟨c0, q0⟩, ⟨c1, q1⟩⟩ := set2k 8 (.int .i64 (-9223372036854775808)) hgh (by omega)
              have r1 : Own fTp 31 ((W0.setCell ⟨gr, 8, none⟩ (.int .i64 (-9223372036854775808))).setCell ⟨gr, 9, none⟩ (.int .i64 9223372036854775807)) gr (.slice (some ⟨gr, 0, none⟩) 6 6) (L.set 1 ⟨true, true, (-9223372036854775808), 9223372036854775807, 2, 8⟩) := by
                have r := R0.out.pair (j := 1) (hnx _) (-9223372036854775808) 9223372036854775807
                rw [List.set_set] at r
                exact r
              have bb1 : Below gr w2 ((W0.setCell ⟨gr, 8, none⟩ (.int .i64 (-9223372036854775808))).setCell ⟨gr, 9, none⟩ (.int .i64 9223372036854775807)) := B0.out.trans (((set_only W0 gr 8 _).trans (set_only _ gr _ _)).below (B := gr) (by omega) (fun k hk e => by omega))
              have l1 := build_longs (-9223372036854775808) 9223372036854775807
              obtain ⟨W1, eW1⟩ : ∃ W, ((W0.setCell ⟨gr, 8, none⟩ (.int .i64 (-9223372036854775808))).setCell ⟨gr, 9, none⟩ (.int .i64 9223372036854775807)) = W := ⟨_, rfl⟩
              rw [eW1] at r1 bb1
              have R1 := Lib.hid r1
              have B1 := Lib.hid bb1
              replace eW1 := Lib.hid eW1
              clear r1 bb1 hgh hcs ev2 hgl R0 B0
              go_upto_region 8 with (fail)
              (try rw [eW1.out])
              clear f0 f1 c0 q0 c1 q1 eW1 l1 hcs6
              have lk : (L.set 1 ⟨true, true, (-9223372036854775808), 9223372036854775807, 2, 8⟩).length = 6 := by rw [List.length_set]; exact hl6
              have kk' : OkT (L.set 1 ⟨true, true, (-9223372036854775808), 9223372036854775807, 2, 8⟩) := okT_set hok6.out 1 ⟨⟨by decide, by decide⟩, ⟨by decide, by decide⟩, ⟨by decide, by decide⟩, ⟨by decide, by decide⟩⟩
              replace kk' := Lib.hid kk'
              clear hnx hok6 hl6
              go_wp2_with fail
              go_roundw
              case rel => exact ⟨2, _, by go_num, by omega, lk, kk', R1, B1⟩
              case measure => simp [intOf]
            · have hcase := Lib.hid h0
              clear h0
              have s3 : ((h : Int) == 3) = false := by have := hcase.out; exact beq_eq_false_iff_ne.2 (by omega)
              have s3' : decide ((h : Int) = 3) = false := by have := hcase.out; exact decide_eq_false (by omega)
              have s4 : ((h : Int) == 4) = true := by have := hcase.out; simp; omega
              have s4' : decide ((h : Int) = 4) = true := by have := hcase.out; exact decide_eq_true (by omega)
              obtain ⟨g', cap', cur, ev, -, hgl, hgh, -, -, hcs, -⟩ := R0.out.open' (by rw [List.length_set]; omega)
              injection ev with ev1 ev2 ev3
              injection ev1 with ev1
              injection ev1 with ev1
              subst ev1; subst ev3
              have hcs6 : cur.size = 36 := hcs
              obtain ⟨f0, f1, ⟨c0, q0⟩, ⟨c1, q1⟩⟩ := set2k 8 (.int .i64 0) hgh (by omega)
              have r1 : Own fTp 31 ((W0.setCell ⟨gr, 8, none⟩ (.int .i64 0)).setCell ⟨gr, 9, none⟩ (.int .i64 1000)) gr (.slice (some ⟨gr, 0, none⟩) 6 6) (L.set 1 ⟨true, true, 0, 1000, 2, 8⟩) := by
                have r := R0.out.pair (j := 1) (hnx _) 0 1000
                rw [List.set_set] at r
                exact r
              have bb1 : Below gr w2 ((W0.setCell ⟨gr, 8, none⟩ (.int .i64 0)).setCell ⟨gr, 9, none⟩ (.int .i64 1000)) := B0.out.trans (((set_only W0 gr 8 _).trans (set_only _ gr _ _)).below (B := gr) (by omega) (fun k hk e => by omega))
              have l1 := build_longs 0 1000
              obtain ⟨W1, eW1⟩ : ∃ W, ((W0.setCell ⟨gr, 8, none⟩ (.int .i64 0)).setCell ⟨gr, 9, none⟩ (.int .i64 1000)) = W := ⟨_, rfl⟩
              rw [eW1] at r1 bb1
              have R1 := Lib.hid r1
              have B1 := Lib.hid bb1
              replace eW1 := Lib.hid eW1
              clear r1 bb1 hgh hcs ev2 hgl R0 B0
              go_upto_region 8 with (fail)
              (try rw [eW1.out])
              clear f0 f1 c0 q0 c1 q1 eW1 l1 hcs6
              have lk : (L.set 1 ⟨true, true, 0, 1000, 2, 8⟩).length = 6 := by rw [List.length_set]; exact hl6
              have kk' : OkT (L.set 1 ⟨true, true, 0, 1000, 2, 8⟩) := okT_set hok6.out 1 ⟨⟨by decide, by decide⟩, ⟨by decide, by decide⟩, ⟨by decide, by decide⟩, ⟨by decide, by decide⟩⟩
              replace kk' := Lib.hid kk'
              clear hnx hok6 hl6
              go_wp2_with fail
              go_roundw
              case rel => exact ⟨2, _, by go_num, by omega, lk, kk', R1, B1⟩
              case measure => simp [intOf]
            · have hcase := Lib.hid h0
              clear h0
              have s3 : ((h : Int) == 3) = false := by have := hcase.out; exact beq_eq_false_iff_ne.2 (by omega)
              have s3' : decide ((h : Int) = 3) = false := by have := hcase.out; exact decide_eq_false (by omega)
              have s4 : ((h : Int) == 4) = false := by have := hcase.out; exact beq_eq_false_iff_ne.2 (by omega)
              have s4' : decide ((h : Int) = 4) = false := by have := hcase.out; exact decide_eq_false (by omega)
              have s5 : ((h : Int) == 5) = true := by have := hcase.out; simp; omega
              have s5' : decide ((h : Int) = 5) = true := by have := hcase.out; exact decide_eq_true (by omega)
              obtain ⟨g', cap', cur, ev, -, hgl, hgh, -, -, hcs, -⟩ := R0.out.open' (by rw [List.length_set]; omega)
              injection ev with ev1 ev2 ev3
              injection ev1 with ev1
              injection ev1 with ev1
              subst ev1; subst ev3
              have hcs6 : cur.size = 36 := hcs
              obtain ⟨f0, f1, ⟨c0, q0⟩, ⟨c1, q1⟩⟩ := set2k 8 (.int .i64 9223372036854775807) hgh (by omega)
              have r1 : Own fTp 31 ((W0.setCell ⟨gr, 8, none⟩ (.int .i64 9223372036854775807)).setCell ⟨gr, 9, none⟩ (.int .i64 (-9223372036854775808))) gr (.slice (some ⟨gr, 0, none⟩) 6 6) (L.set 1 ⟨true, true, 9223372036854775807, (-9223372036854775808), 2, 8⟩) := by
                have r := R0.out.pair (j := 1) (hnx _) 9223372036854775807 (-9223372036854775808)
                rw [List.set_set] at r
                exact r
              have bb1 : Below gr w2 ((W0.setCell ⟨gr, 8, none⟩ (.int .i64 9223372036854775807)).setCell ⟨gr, 9, none⟩ (.int .i64 (-9223372036854775808))) := B0.out.trans (((set_only W0 gr 8 _).trans (set_only _ gr _ _)).below (B := gr) (by omega) (fun k hk e => by omega))
              have l1 := build_longs 9223372036854775807 (-9223372036854775808)
              obtain ⟨W1, eW1⟩ : ∃ W, ((W0.setCell ⟨gr, 8, none⟩ (.int .i64 9223372036854775807)).setCell ⟨gr, 9, none⟩ (.int .i64 (-9223372036854775808))) = W := ⟨_, rfl⟩
              rw [eW1] at r1 bb1
              have R1 := Lib.hid r1
              have B1 := Lib.hid bb1
              replace eW1 := Lib.hid eW1
              clear r1 bb1 hgh hcs ev2 hgl R0 B0
              go_upto_region 8 with (fail)
              (try rw [eW1.out])
              clear f0 f1 c0 q0 c1 q1 eW1 l1 hcs6
              have lk : (L.set 1 ⟨true, true, 9223372036854775807, (-9223372036854775808), 2, 8⟩).length = 6 := by rw [List.length_set]; exact hl6
              have kk' : OkT (L.set 1 ⟨true, true, 9223372036854775807, (-9223372036854775808), 2, 8⟩) := okT_set hok6.out 1 ⟨⟨by decide, by decide⟩, ⟨by decide, by decide⟩, ⟨by decide, by decide⟩, ⟨by decide, by decide⟩⟩
              replace kk' := Lib.hid kk'
              clear hnx hok6 hl6
              go_wp2_with fail
              go_roundw
              case rel => exact ⟨2, _, by go_num, by omega, lk, kk', R1, B1⟩
              case measure => simp [intOf]
            · have hcase := Lib.hid h0
              clear h0
              have s3 : ((h : Int) == 3) = false := by have := hcase.out; exact beq_eq_false_iff_ne.2 (by omega)
              have s3' : decide ((h : Int) = 3) = false := by have := hcase.out; exact decide_eq_false (by omega)
              have s4 : ((h : Int) == 4) = false := by have := hcase.out; exact beq_eq_false_iff_ne.2 (by omega)
              have s4' : decide ((h : Int) = 4) = false := by have := hcase.out; exact decide_eq_false (by omega)
              have s5 : ((h : Int) == 5) = false := by have := hcase.out; exact beq_eq_false_iff_ne.2 (by omega)
              have s5' : decide ((h : Int) = 5) = false := by have := hcase.out; exact decide_eq_false (by omega)
              have lk : (L.set 1 ⟨true, true, 505, 515, 2, 8⟩).length = 6 := by rw [List.length_set]; exact hl6
              have kk' : OkT (L.set 1 ⟨true, true, 505, 515, 2, 8⟩) := okT_set hok6.out 1 ⟨⟨by decide, by decide⟩, ⟨by decide, by decide⟩, ⟨by decide, by decide⟩, ⟨by decide, by decide⟩⟩
              replace kk' := Lib.hid kk'
              clear hnx hok6 hl6
              go_wp2_with fail
              go_roundw
              case rel => exact ⟨2, _, by go_num, by omega, lk, kk', R0, B0⟩
              case measure => simp [intOf]
        · rcases (show h = 1 ∨ h = 2 ∨ (h ≠ 1 ∧ h ≠ 2 ∧ h < 6) by omega) with h0 | h0 | h0
          · have hcase := Lib.hid h0
            clear h0
            have m1 : ((h : Int) != 1) = false := by have := hcase.out; simp; omega
            have m1' : decide ((h : Int) = 1) = true := by have := hcase.out; exact decide_eq_true (by omega)
            have m2 : ((h : Int) != 2) = true := by have := hcase.out; exact bne_iff_ne.2 (by omega)
            have m2' : decide ((h : Int) = 2) = false := by have := hcase.out; exact decide_eq_false (by omega)
            obtain ⟨x, hx⟩ : ∃ x, L[2]? = some x := ⟨_, List.getElem?_eq_getElem (by omega)⟩
            have hnx : ∀ y : Tp, (L.set 2 y)[2]? = some y := fun y => by rw [List.getElem?_set, if_pos rfl, if_pos (by omega)]
            obtain ⟨g', cap', cur, ev, -, hgl, hgh, -, -, hcs, -⟩ := hR.out.open' (by omega)
            injection ev with ev1 ev2 ev3
            injection ev1 with ev1
            injection ev1 with ev1
            subst ev1; subst ev3
            have hcs6 : cur.size = 36 := hcs
            obtain ⟨f0, f1, f2, f3, f4, f5, ⟨y0, q0⟩, ⟨y1, q1⟩, ⟨y2, q2⟩, ⟨y3, q3⟩, ⟨y4, q4⟩, ⟨y5, q5⟩⟩ := set6k 12 (.bool true) (.bool true) (.int .i64 510) (.int .i64 520) (.int .i64 3) (.int .i64 7) hgh (by omega)
            have r0 : Own fTp 31 ((((((wr.setCell ⟨gr, 12, none⟩ (.bool true)).setCell ⟨gr, 13, none⟩ (.bool true)).setCell ⟨gr, 14, none⟩ (.int .i64 510)).setCell ⟨gr, 15, none⟩ (.int .i64 520)).setCell ⟨gr, 16, none⟩ (.int .i64 3)).setCell ⟨gr, 17, none⟩ (.int .i64 7)) gr (.slice (some ⟨gr, 0, none⟩) 6 6) (L.set 2 ⟨true, true, 510, 520, 3, 7⟩) := hR.out.top6 (j := 2) hx true true 510 520 3 7
            have bb0 : Below gr w2 ((((((wr.setCell ⟨gr, 12, none⟩ (.bool true)).setCell ⟨gr, 13, none⟩ (.bool true)).setCell ⟨gr, 14, none⟩ (.int .i64 510)).setCell ⟨gr, 15, none⟩ (.int .i64 520)).setCell ⟨gr, 16, none⟩ (.int .i64 3)).setCell ⟨gr, 17, none⟩ (.int .i64 7)) := hB.out.trans (((((((set_only wr gr 12 _).trans (set_only _ gr _ _)).trans (set_only _ gr _ _)).trans (set_only _ gr _ _)).trans (set_only _ gr _ _)).trans (set_only _ gr _ _)).below (B := gr) (by omega) (fun k hk e => by omega))
            have l1 := build_two true true
            have l2 := build_longs 510 520
            have l3 := build_longs 3 7
            have l4 := build_whole true true 510 520 3 7
            obtain ⟨W0, eW0⟩ : ∃ W, ((((((wr.setCell ⟨gr, 12, none⟩ (.bool true)).setCell ⟨gr, 13, none⟩ (.bool true)).setCell ⟨gr, 14, none⟩ (.int .i64 510)).setCell ⟨gr, 15, none⟩ (.int .i64 520)).setCell ⟨gr, 16, none⟩ (.int .i64 3)).setCell ⟨gr, 17, none⟩ (.int .i64 7)) = W := ⟨_, rfl⟩
            rw [eW0] at r0 bb0
            have R0 := Lib.hid r0
            have B0 := Lib.hid bb0
            replace eW0 := Lib.hid eW0
            clear r0 bb0 hgh hcs ev2 hgl hR hB hx
            go_upto_region 11 with (fail)
            rw [eW0.out]
            clear f0 f1 f2 f3 f4 f5 y0 q0 y1 q1 y2 q2 y3 q3 y4 q4 y5 q5 eW0 l1 l2 l3 l4 hcs6 m1 m1' m2 m2'
            go_upto_region 13 with (fail)
            have s3 : ((h : Int) == 3) = false := by have := hcase.out; exact beq_eq_false_iff_ne.2 (by omega)
            have s3' : decide ((h : Int) = 3) = false := by have := hcase.out; exact decide_eq_false (by omega)
            have s4 : ((h : Int) == 4) = false := by have := hcase.out; exact beq_eq_false_iff_ne.2 (by omega)
            have s4' : decide ((h : Int) = 4) = false := by have := hcase.out; exact decide_eq_false (by omega)
            have s5 : ((h : Int) == 5) = false := by have := hcase.out; exact beq_eq_false_iff_ne.2 (by omega)
            have s5' : decide ((h : Int) = 5) = false := by have := hcase.out; exact decide_eq_false (by omega)
            have lk : (L.set 2 ⟨true, true, 510, 520, 3, 7⟩).length = 6 := by rw [List.length_set]; exact hl6
            have kk' : OkT (L.set 2 ⟨true, true, 510, 520, 3, 7⟩) := okT_set hok6.out 2 ⟨⟨by decide, by decide⟩, ⟨by decide, by decide⟩, ⟨by decide, by decide⟩, ⟨by decide, by decide⟩⟩
            replace kk' := Lib.hid kk'
            clear hnx hok6 hl6
            go_wp2_with fail
            go_roundw
            case rel => exact ⟨3, _, by go_num, by omega, lk, kk', R0, B0⟩
            case measure => simp [intOf]
          · have hcase := Lib.hid h0
            clear h0
            have m1 : ((h : Int) != 1) = true := by have := hcase.out; exact bne_iff_ne.2 (by omega)
            have m1' : decide ((h : Int) = 1) = false := by have := hcase.out; exact decide_eq_false (by omega)
            have m2 : ((h : Int) != 2) = false := by have := hcase.out; simp; omega
            have m2' : decide ((h : Int) = 2) = true := by have := hcase.out; exact decide_eq_true (by omega)
            obtain ⟨x, hx⟩ : ∃ x, L[2]? = some x := ⟨_, List.getElem?_eq_getElem (by omega)⟩
            have hnx : ∀ y : Tp, (L.set 2 y)[2]? = some y := fun y => by rw [List.getElem?_set, if_pos rfl, if_pos (by omega)]
            obtain ⟨g', cap', cur, ev, -, hgl, hgh, -, -, hcs, -⟩ := hR.out.open' (by omega)
            injection ev with ev1 ev2 ev3
            injection ev1 with ev1
            injection ev1 with ev1
            subst ev1; subst ev3
            have hcs6 : cur.size = 36 := hcs
            obtain ⟨f0, f1, f2, f3, f4, f5, ⟨y0, q0⟩, ⟨y1, q1⟩, ⟨y2, q2⟩, ⟨y3, q3⟩, ⟨y4, q4⟩, ⟨y5, q5⟩⟩ := set6k 12 (.bool true) (.bool false) (.int .i64 510) (.int .i64 520) (.int .i64 3) (.int .i64 7) hgh (by omega)
            have r0 : Own fTp 31 ((((((wr.setCell ⟨gr, 12, none⟩ (.bool true)).setCell ⟨gr, 13, none⟩ (.bool false)).setCell ⟨gr, 14, none⟩ (.int .i64 510)).setCell ⟨gr, 15, none⟩ (.int .i64 520)).setCell ⟨gr, 16, none⟩ (.int .i64 3)).setCell ⟨gr, 17, none⟩ (.int .i64 7)) gr (.slice (some ⟨gr, 0, none⟩) 6 6) (L.set 2 ⟨true, false, 510, 520, 3, 7⟩) := hR.out.top6 (j := 2) hx true false 510 520 3 7
            have bb0 : Below gr w2 ((((((wr.setCell ⟨gr, 12, none⟩ (.bool true)).setCell ⟨gr, 13, none⟩ (.bool false)).setCell ⟨gr, 14, none⟩ (.int .i64 510)).setCell ⟨gr, 15, none⟩ (.int .i64 520)).setCell ⟨gr, 16, none⟩ (.int .i64 3)).setCell ⟨gr, 17, none⟩ (.int .i64 7)) := hB.out.trans (((((((set_only wr gr 12 _).trans (set_only _ gr _ _)).trans (set_only _ gr _ _)).trans (set_only _ gr _ _)).trans (set_only _ gr _ _)).trans (set_only _ gr _ _)).below (B := gr) (by omega) (fun k hk e => by omega))
            have l1 := build_two true false
            have l2 := build_longs 510 520
            have l3 := build_longs 3 7
            have l4 := build_whole true false 510 520 3 7
            obtain ⟨W0, eW0⟩ : ∃ W, ((((((wr.setCell ⟨gr, 12, none⟩ (.bool true)).setCell ⟨gr, 13, none⟩ (.bool false)).setCell ⟨gr, 14, none⟩ (.int .i64 510)).setCell ⟨gr, 15, none⟩ (.int .i64 520)).setCell ⟨gr, 16, none⟩ (.int .i64 3)).setCell ⟨gr, 17, none⟩ (.int .i64 7)) = W := ⟨_, rfl⟩
            rw [eW0] at r0 bb0
            have R0 := Lib.hid r0
            have B0 := Lib.hid bb0
            replace eW0 := Lib.hid eW0
            clear r0 bb0 hgh hcs ev2 hgl hR hB hx
            go_upto_region 11 with (fail)
            rw [eW0.out]
            clear f0 f1 f2 f3 f4 f5 y0 q0 y1 q1 y2 q2 y3 q3 y4 q4 y5 q5 eW0 l1 l2 l3 l4 hcs6 m1 m1' m2 m2'
            go_upto_region 13 with (fail)
            have s3 : ((h : Int) == 3) = false := by have := hcase.out; exact beq_eq_false_iff_ne.2 (by omega)
            have s3' : decide ((h : Int) = 3) = false := by have := hcase.out; exact decide_eq_false (by omega)
            have s4 : ((h : Int) == 4) = false := by have := hcase.out; exact beq_eq_false_iff_ne.2 (by omega)
            have s4' : decide ((h : Int) = 4) = false := by have := hcase.out; exact decide_eq_false (by omega)
            have s5 : ((h : Int) == 5) = false := by have := hcase.out; exact beq_eq_false_iff_ne.2 (by omega)
            have s5' : decide ((h : Int) = 5) = false := by have := hcase.out; exact decide_eq_false (by omega)
            have lk : (L.set 2 ⟨true, false, 510, 520, 3, 7⟩).length = 6 := by rw [List.length_set]; exact hl6
            have kk' : OkT (L.set 2 ⟨true, false, 510, 520, 3, 7⟩) := okT_set hok6.out 2 ⟨⟨by decide, by decide⟩, ⟨by decide, by decide⟩, ⟨by decide, by decide⟩, ⟨by decide, by decide⟩⟩
            replace kk' := Lib.hid kk'
            clear hnx hok6 hl6
            go_wp2_with fail
            go_roundw
            case rel => exact ⟨3, _, by go_num, by omega, lk, kk', R0, B0⟩
            case measure => simp [intOf]
          · have hcase := Lib.hid h0
            clear h0
            have m1 : ((h : Int) != 1) = true := by have := hcase.out; exact bne_iff_ne.2 (by omega)
            have m1' : decide ((h : Int) = 1) = false := by have := hcase.out; exact decide_eq_false (by omega)
            have m2 : ((h : Int) != 2) = true := by have := hcase.out; exact bne_iff_ne.2 (by omega)
            have m2' : decide ((h : Int) = 2) = false := by have := hcase.out; exact decide_eq_false (by omega)
            obtain ⟨x, hx⟩ : ∃ x, L[2]? = some x := ⟨_, List.getElem?_eq_getElem (by omega)⟩
            have hnx : ∀ y : Tp, (L.set 2 y)[2]? = some y := fun y => by rw [List.getElem?_set, if_pos rfl, if_pos (by omega)]
            obtain ⟨g', cap', cur, ev, -, hgl, hgh, -, -, hcs, -⟩ := hR.out.open' (by omega)
            injection ev with ev1 ev2 ev3
            injection ev1 with ev1
            injection ev1 with ev1
            subst ev1; subst ev3
            have hcs6 : cur.size = 36 := hcs
            obtain ⟨f0, f1, f2, f3, f4, f5, ⟨y0, q0⟩, ⟨y1, q1⟩, ⟨y2, q2⟩, ⟨y3, q3⟩, ⟨y4, q4⟩, ⟨y5, q5⟩⟩ := set6k 12 (.bool true) (.bool true) (.int .i64 510) (.int .i64 520) (.int .i64 3) (.int .i64 7) hgh (by omega)
            have r0 : Own fTp 31 ((((((wr.setCell ⟨gr, 12, none⟩ (.bool true)).setCell ⟨gr, 13, none⟩ (.bool true)).setCell ⟨gr, 14, none⟩ (.int .i64 510)).setCell ⟨gr, 15, none⟩ (.int .i64 520)).setCell ⟨gr, 16, none⟩ (.int .i64 3)).setCell ⟨gr, 17, none⟩ (.int .i64 7)) gr (.slice (some ⟨gr, 0, none⟩) 6 6) (L.set 2 ⟨true, true, 510, 520, 3, 7⟩) := hR.out.top6 (j := 2) hx true true 510 520 3 7
            have bb0 : Below gr w2 ((((((wr.setCell ⟨gr, 12, none⟩ (.bool true)).setCell ⟨gr, 13, none⟩ (.bool true)).setCell ⟨gr, 14, none⟩ (.int .i64 510)).setCell ⟨gr, 15, none⟩ (.int .i64 520)).setCell ⟨gr, 16, none⟩ (.int .i64 3)).setCell ⟨gr, 17, none⟩ (.int .i64 7)) := hB.out.trans (((((((set_only wr gr 12 _).trans (set_only _ gr _ _)).trans (set_only _ gr _ _)).trans (set_only _ gr _ _)).trans (set_only _ gr _ _)).trans (set_only _ gr _ _)).below (B := gr) (by omega) (fun k hk e => by omega))
            have l1 := build_two true true
            have l2 := build_longs 510 520
            have l3 := build_longs 3 7
            have l4 := build_whole true true 510 520 3 7
            obtain ⟨W0, eW0⟩ : ∃ W, ((((((wr.setCell ⟨gr, 12, none⟩ (.bool true)).setCell ⟨gr, 13, none⟩ (.bool true)).setCell ⟨gr, 14, none⟩ (.int .i64 510)).setCell ⟨gr, 15, none⟩ (.int .i64 520)).setCell ⟨gr, 16, none⟩ (.int .i64 3)).setCell ⟨gr, 17, none⟩ (.int .i64 7)) = W := ⟨_, rfl⟩
            rw [eW0] at r0 bb0
            have R0 := Lib.hid r0
            have B0 := Lib.hid bb0
            replace eW0 := Lib.hid eW0
            clear r0 bb0 hgh hcs ev2 hgl hR hB hx
            go_upto_region 11 with (fail)
            rw [eW0.out]
            clear f0 f1 f2 f3 f4 f5 y0 q0 y1 q1 y2 q2 y3 q3 y4 q4 y5 q5 eW0 l1 l2 l3 l4 hcs6 m1 m1' m2 m2'
            go_upto_region 13 with (fail)
            rcases (show h = 3 ∨ h = 4 ∨ h = 5 ∨ h = 0 by have := hcase.out; omega) with h0 | h0 | h0 | h0
            · have hcase := Lib.hid h0
              clear h0
              have s3 : ((h : Int) == 3) = true := by have := hcase.out; simp; omega
              have s3' : decide ((h : Int) = 3) = true := by have := hcase.out; exact decide_eq_true (by omega)
              obtain ⟨g', cap', cur, ev, -, hgl, hgh, -, -, hcs, -⟩ := R0.out.open' (by rw [List.length_set]; omega)
              injection ev with ev1 ev2 ev3
              injection ev1 with ev1
              injection ev1 with ev1
              subst ev1; subst ev3
              have hcs6 : cur.size = 36 := hcs
              obtain ⟨f0, f1, ⟨c0, q0⟩, ⟨c1, q1⟩⟩ := set2k 14 (.int .i64 (-9223372036854775808)) hgh (by omega)
              have r1 : Own fTp 31 ((W0.setCell ⟨gr, 14, none⟩ (.int .i64 (-9223372036854775808))).setCell ⟨gr, 15, none⟩ (.int .i64 9223372036854775807)) gr (.slice (some ⟨gr, 0, none⟩) 6 6) (L.set 2 ⟨true, true, (-9223372036854775808), 9223372036854775807, 3, 7⟩) := by
                have r := R0.out.pair (j := 2) (hnx _) (-9223372036854775808) 9223372036854775807
                rw [List.set_set] at r
                exact r
              have bb1 : Below gr w2 ((W0.setCell ⟨gr, 14, none⟩ (.int .i64 (-9223372036854775808))).setCell ⟨gr, 15, none⟩ (.int .i64 9223372036854775807)) := B0.out.trans (((set_only W0 gr 14 _).trans (set_only _ gr _ _)).below (B := gr) (by omega) (fun k hk e => by omega))
              have l1 := build_longs (-9223372036854775808) 9223372036854775807
              obtain ⟨W1, eW1⟩ : ∃ W, ((W0.setCell ⟨gr, 14, none⟩ (.int .i64 (-9223372036854775808))).setCell ⟨gr, 15, none⟩ (.int .i64 9223372036854775807)) = W := ⟨_, rfl⟩
              rw [eW1] at r1 bb1
              have R1 := Lib.hid r1
              have B1 := Lib.hid bb1
              replace eW1 := Lib.hid eW1
              clear r1 bb1 hgh hcs ev2 hgl R0 B0
              go_upto_region 8 with (fail)
              (try rw [eW1.out])
              clear f0 f1 c0 q0 c1 q1 eW1 l1 hcs6
              have lk : (L.set 2 ⟨true, true, (-9223372036854775808), 9223372036854775807, 3, 7⟩).length = 6 := by rw [List.length_set]; exact hl6
              have kk' : OkT (L.set 2 ⟨true, true, (-9223372036854775808), 9223372036854775807, 3, 7⟩) := okT_set hok6.out 2 ⟨⟨by decide, by decide⟩, ⟨by decide, by decide⟩, ⟨by decide, by decide⟩, ⟨by decide, by decide⟩⟩
              replace kk' := Lib.hid kk'
              clear hnx hok6 hl6
              go_wp2_with fail
              go_roundw
              case rel => exact ⟨3, _, by go_num, by omega, lk, kk', R1, B1⟩
              case measure => simp [intOf]
            · have hcase := Lib.hid h0
              clear h0
              have s3 : ((h : Int) == 3) = false := by have := hcase.out; exact beq_eq_false_iff_ne.2 (by omega)
              have s3' : decide ((h : Int) = 3) = false := by have := hcase.out; exact decide_eq_false (by omega)
              have s4 : ((h : Int) == 4) = true := by have := hcase.out; simp; omega
              have s4' : decide ((h : Int) = 4) = true := by have := hcase.out; exact decide_eq_true (by omega)
              obtain ⟨g', cap', cur, ev, -, hgl, hgh, -, -, hcs, -⟩ := R0.out.open' (by rw [List.length_set]; omega)
              injection ev with ev1 ev2 ev3
              injection ev1 with ev1
              injection ev1 with ev1
              subst ev1; subst ev3
              have hcs6 : cur.size = 36 := hcs
              obtain ⟨f0, f1, ⟨c0, q0⟩, ⟨c1, q1⟩⟩ := set2k 14 (.int .i64 0) hgh (by omega)
              have r1 : Own fTp 31 ((W0.setCell ⟨gr, 14, none⟩ (.int .i64 0)).setCell ⟨gr, 15, none⟩ (.int .i64 1000)) gr (.slice (some ⟨gr, 0, none⟩) 6 6) (L.set 2 ⟨true, true, 0, 1000, 3, 7⟩) := by
                have r := R0.out.pair (j := 2) (hnx _) 0 1000
                rw [List.set_set] at r
                exact r
              have bb1 : Below gr w2 ((W0.setCell ⟨gr, 14, none⟩ (.int .i64 0)).setCell ⟨gr, 15, none⟩ (.int .i64 1000)) := B0.out.trans (((set_only W0 gr 14 _).trans (set_only _ gr _ _)).below (B := gr) (by omega) (fun k hk e => by omega))
              have l1 := build_longs 0 1000
              obtain ⟨W1, eW1⟩ : ∃ W, ((W0.setCell ⟨gr, 14, none⟩ (.int .i64 0)).setCell ⟨gr, 15, none⟩ (.int .i64 1000)) = W := ⟨_, rfl⟩
              rw [eW1] at r1 bb1
              have R1 := Lib.hid r1
              have B1 := Lib.hid bb1
              replace eW1 := Lib.hid eW1
              clear r1 bb1 hgh hcs ev2 hgl R0 B0
              go_upto_region 8 with (fail)
              (try rw [eW1.out])
              clear f0 f1 c0 q0 c1 q1 eW1 l1 hcs6
              have lk : (L.set 2 ⟨true, true, 0, 1000, 3, 7⟩).length = 6 := by rw [List.length_set]; exact hl6
              have kk' : OkT (L.set 2 ⟨true, true, 0, 1000, 3, 7⟩) := okT_set hok6.out 2 ⟨⟨by decide, by decide⟩, ⟨by decide, by decide⟩, ⟨by decide, by decide⟩, ⟨by decide, by decide⟩⟩
              replace kk' := Lib.hid kk'
              clear hnx hok6 hl6
              go_wp2_with fail
              go_roundw
              case rel => exact ⟨3, _, by go_num, by omega, lk, kk', R1, B1⟩
              case measure => simp [intOf]
            · have hcase := Lib.hid h0
              clear h0
              have s3 : ((h : Int) == 3) = false := by have := hcase.out; exact beq_eq_false_iff_ne.2 (by omega)
              have s3' : decide ((h : Int) = 3) = false := by have := hcase.out; exact decide_eq_false (by omega)
              have s4 : ((h : Int) == 4) = false := by have := hcase.out; exact beq_eq_false_iff_ne.2 (by omega)
              have s4' : decide ((h : Int) = 4) = false := by have := hcase.out; exact decide_eq_false (by omega)
              have s5 : ((h : Int) == 5) = true := by have := hcase.out; simp; omega
              have s5' : decide ((h : Int) = 5) = true := by have := hcase.out; exact decide_eq_true (by omega)
              obtain ⟨g', cap', cur, ev, -, hgl, hgh, -, -, hcs, -⟩ := R0.out.open' (by rw [List.length_set]; omega)
              injection ev with ev1 ev2 ev3
              injection ev1 with ev1
              injection ev1 with ev1
              subst ev1; subst ev3
              have hcs6 : cur.size = 36 := hcs
              obtain ⟨f0, f1, ⟨c0, q0⟩, ⟨c1, q1⟩⟩ := set2k 14 (.int .i64 9223372036854775807) hgh (by omega)
              have r1 : Own fTp 31 ((W0.setCell ⟨gr, 14, none⟩ (.int .i64 9223372036854775807)).setCell ⟨gr, 15, none⟩ (.int .i64 (-9223372036854775808))) gr (.slice (some ⟨gr, 0, none⟩) 6 6) (L.set 2 ⟨true, true, 9223372036854775807, (-9223372036854775808), 3, 7⟩) := by
                have r := R0.out.pair (j := 2) (hnx _) 9223372036854775807 (-9223372036854775808)
                rw [List.set_set] at r
                exact r
              have bb1 : Below gr w2 ((W0.setCell ⟨gr, 14, none⟩ (.int .i64 9223372036854775807)).setCell ⟨gr, 15, none⟩ (.int .i64 (-9223372036854775808))) := B0.out.trans (((set_only W0 gr 14 _).trans (set_only _ gr _ _)).below (B := gr) (by omega) (fun k hk e => by omega))
              have l1 := build_longs 9223372036854775807 (-9223372036854775808)
              obtain ⟨W1, eW1⟩ : ∃ W, ((W0.setCell ⟨gr, 14, none⟩ (.int .i64 9223372036854775807)).setCell ⟨gr, 15, none⟩ (.int .i64 (-9223372036854775808))) = W := ⟨_, rfl⟩
              rw [eW1] at r1 bb1
              have R1 := Lib.hid r1
              have B1 := Lib.hid bb1
              replace eW1 := Lib.hid eW1
              clear r1 bb1 hgh hcs ev2 hgl R0 B0
              go_upto_region 8 with (fail)
              (try rw [eW1.out])
              clear f0 f1 c0 q0 c1 q1 eW1 l1 hcs6
              have lk : (L.set 2 ⟨true, true, 9223372036854775807, (-9223372036854775808), 3, 7⟩).length = 6 := by rw [List.length_set]; exact hl6
              have kk' : OkT (L.set 2 ⟨true, true, 9223372036854775807, (-9223372036854775808), 3, 7⟩) := okT_set hok6.out 2 ⟨⟨by decide, by decide⟩, ⟨by decide, by decide⟩, ⟨by decide, by decide⟩, ⟨by decide, by decide⟩⟩
              replace kk' := Lib.hid kk'
              clear hnx hok6 hl6
              go_wp2_with fail
              go_roundw
              case rel => exact ⟨3, _, by go_num, by omega, lk, kk', R1, B1⟩
              case measure => simp [intOf]
            · have hcase := Lib.hid h0
              clear h0
              have s3 : ((h : Int) == 3) = false := by have := hcase.out; exact beq_eq_false_iff_ne.2 (by omega)
              have s3' : decide ((h : Int) = 3) = false := by have := hcase.out; exact decide_eq_false (by omega)
              have s4 : ((h : Int) == 4) = false := by have := hcase.out; exact beq_eq_false_iff_ne.2 (by omega)
              have s4' : decide ((h : Int) = 4) = false := by have := hcase.out; exact decide_eq_false (by omega)
              have s5 : ((h : Int) == 5) = false := by have := hcase.out; exact beq_eq_false_iff_ne.2 (by omega)
              have s5' : decide ((h : Int) = 5) = false := by have := hcase.out; exact decide_eq_false (by omega)
              have lk : (L.set 2 ⟨true, true, 510, 520, 3, 7⟩).length = 6 := by rw [List.length_set]; exact hl6
              have kk' : OkT (L.set 2 ⟨true, true, 510, 520, 3, 7⟩) := okT_set hok6.out 2 ⟨⟨by decide, by decide⟩, ⟨by decide, by decide⟩, ⟨by decide, by decide⟩, ⟨by decide, by decide⟩⟩
              replace kk' := Lib.hid kk'
              clear hnx hok6 hl6
              go_wp2_with fail
              go_roundw
              case rel => exact ⟨3, _, by go_num, by omega, lk, kk', R0, B0⟩
              case measure => simp [intOf]
        · rcases (show h = 1 ∨ h = 2 ∨ (h ≠ 1 ∧ h ≠ 2 ∧ h < 6) by omega) with h0 | h0 | h0
          · have hcase := Lib.hid h0
            clear h0
            have m1 : ((h : Int) != 1) = false := by have := hcase.out; simp; omega
            have m1' : decide ((h : Int) = 1) = true := by have := hcase.out; exact decide_eq_true (by omega)
            have m2 : ((h : Int) != 2) = true := by have := hcase.out; exact bne_iff_ne.2 (by omega)
            have m2' : decide ((h : Int) = 2) = false := by have := hcase.out; exact decide_eq_false (by omega)
            obtain ⟨x, hx⟩ : ∃ x, L[3]? = some x := ⟨_, List.getElem?_eq_getElem (by omega)⟩
            have hnx : ∀ y : Tp, (L.set 3 y)[3]? = some y := fun y => by rw [List.getElem?_set, if_pos rfl, if_pos (by omega)]
            obtain ⟨g', cap', cur, ev, -, hgl, hgh, -, -, hcs, -⟩ := hR.out.open' (by omega)
            injection ev with ev1 ev2 ev3
            injection ev1 with ev1
            injection ev1 with ev1
            subst ev1; subst ev3
            have hcs6 : cur.size = 36 := hcs
            obtain ⟨f0, f1, f2, f3, f4, f5, ⟨y0, q0⟩, ⟨y1, q1⟩, ⟨y2, q2⟩, ⟨y3, q3⟩, ⟨y4, q4⟩, ⟨y5, q5⟩⟩ := set6k 18 (.bool false) (.bool true) (.int .i64 515) (.int .i64 525) (.int .i64 4) (.int .i64 6) hgh (by omega)
            have r0 : Own fTp 31 ((((((wr.setCell ⟨gr, 18, none⟩ (.bool false)).setCell ⟨gr, 19, none⟩ (.bool true)).setCell ⟨gr, 20, none⟩ (.int .i64 515)).setCell ⟨gr, 21, none⟩ (.int .i64 525)).setCell ⟨gr, 22, none⟩ (.int .i64 4)).setCell ⟨gr, 23, none⟩ (.int .i64 6)) gr (.slice (some ⟨gr, 0, none⟩) 6 6) (L.set 3 ⟨false, true, 515, 525, 4, 6⟩) := hR.out.top6 (j := 3) hx false true 515 525 4 6
            have bb0 : Below gr w2 ((((((wr.setCell ⟨gr, 18, none⟩ (.bool false)).setCell ⟨gr, 19, none⟩ (.bool true)).setCell ⟨gr, 20, none⟩ (.int .i64 515)).setCell ⟨gr, 21, none⟩ (.int .i64 525)).setCell ⟨gr, 22, none⟩ (.int .i64 4)).setCell ⟨gr, 23, none⟩ (.int .i64 6)) := hB.out.trans (((((((set_only wr gr 18 _).trans (set_only _ gr _ _)).trans (set_only _ gr _ _)).trans (set_only _ gr _ _)).trans (set_only _ gr _ _)).trans (set_only _ gr _ _)).below (B := gr) (by omega) (fun k hk e => by omega))
            have l1 := build_two false true
            have l2 := build_longs 515 525
            have l3 := build_longs 4 6
            have l4 := build_whole false true 515 525 4 6
            obtain ⟨W0, eW0⟩ : ∃ W, ((((((wr.setCell ⟨gr, 18, none⟩ (.bool false)).setCell ⟨gr, 19, none⟩ (.bool true)).setCell ⟨gr, 20, none⟩ (.int .i64 515)).setCell ⟨gr, 21, none⟩ (.int .i64 525)).setCell ⟨gr, 22, none⟩ (.int .i64 4)).setCell ⟨gr, 23, none⟩ (.int .i64 6)) = W := ⟨_, rfl⟩
            rw [eW0] at r0 bb0
            have R0 := Lib.hid r0
            have B0 := Lib.hid bb0
            replace eW0 := Lib.hid eW0
            clear r0 bb0 hgh hcs ev2 hgl hR hB hx
            go_upto_region 11 with (fail)
            rw [eW0.out]
            clear f0 f1 f2 f3 f4 f5 y0 q0 y1 q1 y2 q2 y3 q3 y4 q4 y5 q5 eW0 l1 l2 l3 l4 hcs6 m1 m1' m2 m2'
            obtain ⟨g', cap', cur, ev, -, hgl, hgh, -, -, hcs, -⟩ := R0.out.open' (by rw [List.length_set]; omega)
            injection ev with ev1 ev2 ev3
            injection ev1 with ev1
            injection ev1 with ev1
            subst ev1; subst ev3
            have hcs6 : cur.size = 36 := hcs
            obtain ⟨f0, f1, ⟨c0, q0⟩, ⟨c1, q1⟩⟩ := set2k 20 (.int .i64 (-5)) hgh (by omega)
            have r1 : Own fTp 31 ((W0.setCell ⟨gr, 20, none⟩ (.int .i64 (-5))).setCell ⟨gr, 21, none⟩ (.int .i64 35)) gr (.slice (some ⟨gr, 0, none⟩) 6 6) (L.set 3 ⟨false, true, (-5), 35, 4, 6⟩) := by
              have r := R0.out.pair (j := 3) (hnx _) (-5) 35
              rw [List.set_set] at r
              exact r
            have bb1 : Below gr w2 ((W0.setCell ⟨gr, 20, none⟩ (.int .i64 (-5))).setCell ⟨gr, 21, none⟩ (.int .i64 35)) := B0.out.trans (((set_only W0 gr 20 _).trans (set_only _ gr _ _)).below (B := gr) (by omega) (fun k hk e => by omega))
            have l1 := build_longs (-5) 35
            obtain ⟨W1, eW1⟩ : ∃ W, ((W0.setCell ⟨gr, 20, none⟩ (.int .i64 (-5))).setCell ⟨gr, 21, none⟩ (.int .i64 35)) = W := ⟨_, rfl⟩
            rw [eW1] at r1 bb1
            have R1 := Lib.hid r1
            have B1 := Lib.hid bb1
            replace eW1 := Lib.hid eW1
            clear r1 bb1 hgh hcs ev2 hgl R0 B0
            go_upto_region 13 with (fail)
            (try rw [eW1.out])
            clear f0 f1 c0 q0 c1 q1 eW1 l1 hcs6
            have s3 : ((h : Int) == 3) = false := by have := hcase.out; exact beq_eq_false_iff_ne.2 (by omega)
            have s3' : decide ((h : Int) = 3) = false := by have := hcase.out; exact decide_eq_false (by omega)
            have s4 : ((h : Int) == 4) = false := by have := hcase.out; exact beq_eq_false_iff_ne.2 (by omega)
            have s4' : decide ((h : Int) = 4) = false := by have := hcase.out; exact decide_eq_false (by omega)
            have s5 : ((h : Int) == 5) = false := by have := hcase.out; exact beq_eq_false_iff_ne.2 (by omega)
            have s5' : decide ((h : Int) = 5) = false := by have := hcase.out; exact decide_eq_false (by omega)
            have lk : (L.set 3 ⟨false, true, (-5), 35, 4, 6⟩).length = 6 := by rw [List.length_set]; exact hl6
            have kk' : OkT (L.set 3 ⟨false, true, (-5), 35, 4, 6⟩) := okT_set hok6.out 3 ⟨⟨by decide, by decide⟩, ⟨by decide, by decide⟩, ⟨by decide, by decide⟩, ⟨by decide, by decide⟩⟩
            replace kk' := Lib.hid kk'
            clear hnx hok6 hl6
            go_wp2_with fail
            go_roundw
            case rel => exact ⟨4, _, by go_num, by omega, lk, kk', R1, B1⟩
            case measure => simp [intOf]
          · have hcase := Lib.hid h0
            clear h0
            have m1 : ((h : Int) != 1) = true := by have := hcase.out; exact bne_iff_ne.2 (by omega)
            have m1' : decide ((h : Int) = 1) = false := by have := hcase.out; exact decide_eq_false (by omega)
            have m2 : ((h : Int) != 2) = false := by have := hcase.out; simp; omega
            have m2' : decide ((h : Int) = 2) = true := by have := hcase.out; exact decide_eq_true (by omega)
            obtain ⟨x, hx⟩ : ∃ x, L[3]? = some x := ⟨_, List.getElem?_eq_getElem (by omega)⟩
            have hnx : ∀ y : Tp, (L.set 3 y)[3]? = some y := fun y => by rw [List.getElem?_set, if_pos rfl, if_pos (by omega)]
            obtain ⟨g', cap', cur, ev, -, hgl, hgh, -, -, hcs, -⟩ := hR.out.open' (by omega)
            injection ev with ev1 ev2 ev3
            injection ev1 with ev1
            injection ev1 with ev1
            subst ev1; subst ev3
            have hcs6 : cur.size = 36 := hcs
            obtain ⟨f0, f1, f2, f3, f4, f5, ⟨y0, q0⟩, ⟨y1, q1⟩, ⟨y2, q2⟩, ⟨y3, q3⟩, ⟨y4, q4⟩, ⟨y5, q5⟩⟩ := set6k 18 (.bool true) (.bool true) (.int .i64 515) (.int .i64 525) (.int .i64 4) (.int .i64 6) hgh (by omega)
            have r0 : Own fTp 31 ((((((wr.setCell ⟨gr, 18, none⟩ (.bool true)).setCell ⟨gr, 19, none⟩ (.bool true)).setCell ⟨gr, 20, none⟩ (.int .i64 515)).setCell ⟨gr, 21, none⟩ (.int .i64 525)).setCell ⟨gr, 22, none⟩ (.int .i64 4)).setCell ⟨gr, 23, none⟩ (.int .i64 6)) gr (.slice (some ⟨gr, 0, none⟩) 6 6) (L.set 3 ⟨true, true, 515, 525, 4, 6⟩) := hR.out.top6 (j := 3) hx true true 515 525 4 6
            have bb0 : Below gr w2 ((((((wr.setCell ⟨gr, 18, none⟩ (.bool true)).setCell ⟨gr, 19, none⟩ (.bool true)).setCell ⟨gr, 20, none⟩ (.int .i64 515)).setCell ⟨gr, 21, none⟩ (.int .i64 525)).setCell ⟨gr, 22, none⟩ (.int .i64 4)).setCell ⟨gr, 23, none⟩ (.int .i64 6)) := hB.out.trans (((((((set_only wr gr 18 _).trans (set_only _ gr _ _)).trans (set_only _ gr _ _)).trans (set_only _ gr _ _)).trans (set_only _ gr _ _)).trans (set_only _ gr _ _)).below (B := gr) (by omega) (fun k hk e => by omega))
            have l1 := build_two true true
            have l2 := build_longs 515 525
            have l3 := build_longs 4 6
            have l4 := build_whole true true 515 525 4 6
            obtain ⟨W0, eW0⟩ : ∃ W, ((((((wr.setCell ⟨gr, 18, none⟩ (.bool true)).setCell ⟨gr, 19, none⟩ (.bool true)).setCell ⟨gr, 20, none⟩ (.int .i64 515)).setCell ⟨gr, 21, none⟩ (.int .i64 525)).setCell ⟨gr, 22, none⟩ (.int .i64 4)).setCell ⟨gr, 23, none⟩ (.int .i64 6)) = W := ⟨_, rfl⟩
            rw [eW0] at r0 bb0
            have R0 := Lib.hid r0
            have B0 := Lib.hid bb0
            replace eW0 := Lib.hid eW0
            clear r0 bb0 hgh hcs ev2 hgl hR hB hx
            go_upto_region 11 with (fail)
            rw [eW0.out]
            clear f0 f1 f2 f3 f4 f5 y0 q0 y1 q1 y2 q2 y3 q3 y4 q4 y5 q5 eW0 l1 l2 l3 l4 hcs6 m1 m1' m2 m2'
            obtain ⟨g', cap', cur, ev, -, hgl, hgh, -, -, hcs, -⟩ := R0.out.open' (by rw [List.length_set]; omega)
            injection ev with ev1 ev2 ev3
            injection ev1 with ev1
            injection ev1 with ev1
            subst ev1; subst ev3
            have hcs6 : cur.size = 36 := hcs
            obtain ⟨f0, f1, ⟨c0, q0⟩, ⟨c1, q1⟩⟩ := set2k 20 (.int .i64 (-5)) hgh (by omega)
            have r1 : Own fTp 31 ((W0.setCell ⟨gr, 20, none⟩ (.int .i64 (-5))).setCell ⟨gr, 21, none⟩ (.int .i64 35)) gr (.slice (some ⟨gr, 0, none⟩) 6 6) (L.set 3 ⟨true, true, (-5), 35, 4, 6⟩) := by
              have r := R0.out.pair (j := 3) (hnx _) (-5) 35
              rw [List.set_set] at r
              exact r
            have bb1 : Below gr w2 ((W0.setCell ⟨gr, 20, none⟩ (.int .i64 (-5))).setCell ⟨gr, 21, none⟩ (.int .i64 35)) := B0.out.trans (((set_only W0 gr 20 _).trans (set_only _ gr _ _)).below (B := gr) (by omega) (fun k hk e => by omega))
            have l1 := build_longs (-5) 35
            obtain ⟨W1, eW1⟩ : ∃ W, ((W0.setCell ⟨gr, 20, none⟩ (.int .i64 (-5))).setCell ⟨gr, 21, none⟩ (.int .i64 35)) = W := ⟨_, rfl⟩
            rw [eW1] at r1 bb1
            have R1 := Lib.hid r1
            have B1 := Lib.hid bb1
            replace eW1 := Lib.hid eW1
            clear r1 bb1 hgh hcs ev2 hgl R0 B0
            go_upto_region 13 with (fail)
            (try rw [eW1.out])
            clear f0 f1 c0 q0 c1 q1 eW1 l1 hcs6
            have s3 : ((h : Int) == 3) = false := by have := hcase.out; exact beq_eq_false_iff_ne.2 (by omega)
            have s3' : decide ((h : Int) = 3) = false := by have := hcase.out; exact decide_eq_false (by omega)
            have s4 : ((h : Int) == 4) = false := by have := hcase.out; exact beq_eq_false_iff_ne.2 (by omega)
            have s4' : decide ((h : Int) = 4) = false := by have := hcase.out; exact decide_eq_false (by omega)
            have s5 : ((h : Int) == 5) = false := by have := hcase.out; exact beq_eq_false_iff_ne.2 (by omega)
            have s5' : decide ((h : Int) = 5) = false := by have := hcase.out; exact decide_eq_false (by omega)
            have lk : (L.set 3 ⟨true, true, (-5), 35, 4, 6⟩).length = 6 := by rw [List.length_set]; exact hl6
            have kk' : OkT (L.set 3 ⟨true, true, (-5), 35, 4, 6⟩) := okT_set hok6.out 3 ⟨⟨by decide, by decide⟩, ⟨by decide, by decide⟩, ⟨by decide, by decide⟩, ⟨by decide, by decide⟩⟩
            replace kk' := Lib.hid kk'
            clear hnx hok6 hl6
            go_wp2_with fail
            go_roundw
            case rel => exact ⟨4, _, by go_num, by omega, lk, kk', R1, B1⟩
            case measure => simp [intOf]
          · have hcase := Lib.hid h0
            clear h0
            have m1 : ((h : Int) != 1) = true := by have := hcase.out; exact bne_iff_ne.2 (by omega)
            have m1' : decide ((h : Int) = 1) = false := by have := hcase.out; exact decide_eq_false (by omega)
            have m2 : ((h : Int) != 2) = true := by have := hcase.out; exact bne_iff_ne.2 (by omega)
            have m2' : decide ((h : Int) = 2) = false := by have := hcase.out; exact decide_eq_false (by omega)
            obtain ⟨x, hx⟩ : ∃ x, L[3]? = some x := ⟨_, List.getElem?_eq_getElem (by omega)⟩
            have hnx : ∀ y : Tp, (L.set 3 y)[3]? = some y := fun y => by rw [List.getElem?_set, if_pos rfl, if_pos (by omega)]
            obtain ⟨g', cap', cur, ev, -, hgl, hgh, -, -, hcs, -⟩ := hR.out.open' (by omega)
            injection ev with ev1 ev2 ev3
            injection ev1 with ev1
            injection ev1 with ev1
            subst ev1; subst ev3
            have hcs6 : cur.size = 36 := hcs
            obtain ⟨f0, f1, f2, f3, f4, f5, ⟨y0, q0⟩, ⟨y1, q1⟩, ⟨y2, q2⟩, ⟨y3, q3⟩, ⟨y4, q4⟩, ⟨y5, q5⟩⟩ := set6k 18 (.bool true) (.bool true) (.int .i64 515) (.int .i64 525) (.int .i64 4) (.int .i64 6) hgh (by omega)
            have r0 : Own fTp 31 ((((((wr.setCell ⟨gr, 18, none⟩ (.bool true)).setCell ⟨gr, 19, none⟩ (.bool true)).setCell ⟨gr, 20, none⟩ (.int .i64 515)).setCell ⟨gr, 21, none⟩ (.int .i64 525)).setCell ⟨gr, 22, none⟩ (.int .i64 4)).setCell ⟨gr, 23, none⟩ (.int .i64 6)) gr (.slice (some ⟨gr, 0, none⟩) 6 6) (L.set 3 ⟨true, true, 515, 525, 4, 6⟩) := hR.out.top6 (j := 3) hx true true 515 525 4 6
            have bb0 : Below gr w2 ((((((wr.setCell ⟨gr, 18, none⟩ (.bool true)).setCell ⟨gr, 19, none⟩ (.bool true)).setCell ⟨gr, 20, none⟩ (.int .i64 515)).setCell ⟨gr, 21, none⟩ (.int .i64 525)).setCell ⟨gr, 22, none⟩ (.int .i64 4)).setCell ⟨gr, 23, none⟩ (.int .i64 6)) := hB.out.trans (((((((set_only wr gr 18 _).trans (set_only _ gr _ _)).trans (set_only _ gr _ _)).trans (set_only _ gr _ _)).trans (set_only _ gr _ _)).trans (set_only _ gr _ _)).below (B := gr) (by omega) (fun k hk e => by omega))
            have l1 := build_two true true
            have l2 := build_longs 515 525
            have l3 := build_longs 4 6
            have l4 := build_whole true true 515 525 4 6
            obtain ⟨W0, eW0⟩ : ∃ W, ((((((wr.setCell ⟨gr, 18, none⟩ (.bool true)).setCell ⟨gr, 19, none⟩ (.bool true)).setCell ⟨gr, 20, none⟩ (.int .i64 515)).setCell ⟨gr, 21, none⟩ (.int .i64 525)).setCell ⟨gr, 22, none⟩ (.int .i64 4)).setCell ⟨gr, 23, none⟩ (.int .i64 6)) = W := ⟨_, rfl⟩
            rw [eW0] at r0 bb0
            have R0 := Lib.hid r0
            have B0 := Lib.hid bb0
            replace eW0 := Lib.hid eW0
            clear r0 bb0 hgh hcs ev2 hgl hR hB hx
            go_upto_region 11 with (fail)
            rw [eW0.out]
            clear f0 f1 f2 f3 f4 f5 y0 q0 y1 q1 y2 q2 y3 q3 y4 q4 y5 q5 eW0 l1 l2 l3 l4 hcs6 m1 m1' m2 m2'
            obtain ⟨g', cap', cur, ev, -, hgl, hgh, -, -, hcs, -⟩ := R0.out.open' (by rw [List.length_set]; omega)
            injection ev with ev1 ev2 ev3
            injection ev1 with ev1
            injection ev1 with ev1
            subst ev1; subst ev3
            have hcs6 : cur.size = 36 := hcs
            obtain ⟨f0, f1, ⟨c0, q0⟩, ⟨c1, q1⟩⟩ := set2k 20 (.int .i64 (-5)) hgh (by omega)
            have r1 : Own fTp 31 ((W0.setCell ⟨gr, 20, none⟩ (.int .i64 (-5))).setCell ⟨gr, 21, none⟩ (.int .i64 35)) gr (.slice (some ⟨gr, 0, none⟩) 6 6) (L.set 3 ⟨true, true, (-5), 35, 4, 6⟩) := by
              have r := R0.out.pair (j := 3) (hnx _) (-5) 35
              rw [List.set_set] at r
              exact r
            have bb1 : Below gr w2 ((W0.setCell ⟨gr, 20, none⟩ (.int .i64 (-5))).setCell ⟨gr, 21, none⟩ (.int .i64 35)) := B0.out.trans (((set_only W0 gr 20 _).trans (set_only _ gr _ _)).below (B := gr) (by omega) (fun k hk e => by omega))
            have l1 := build_longs (-5) 35
            obtain ⟨W1, eW1⟩ : ∃ W, ((W0.setCell ⟨gr, 20, none⟩ (.int .i64 (-5))).setCell ⟨gr, 21, none⟩ (.int .i64 35)) = W := ⟨_, rfl⟩
            rw [eW1] at r1 bb1
            have R1 := Lib.hid r1
            have B1 := Lib.hid bb1
            replace eW1 := Lib.hid eW1
            clear r1 bb1 hgh hcs ev2 hgl R0 B0
            go_upto_region 13 with (fail)
            (try rw [eW1.out])
            clear f0 f1 c0 q0 c1 q1 eW1 l1 hcs6
            rcases (show h = 3 ∨ h = 4 ∨ h = 5 ∨ h = 0 by have := hcase.out; omega) with h0 | h0 | h0 | h0
            · have hcase := Lib.hid h0
              clear h0
              have s3 : ((h : Int) == 3) = true := by have := hcase.out; simp; omega
              have s3' : decide ((h : Int) = 3) = true := by have := hcase.out; exact decide_eq_true (by omega)
              obtain ⟨g', cap', cur, ev, -, hgl, hgh, -, -, hcs, -⟩ := R1.out.open' (by rw [List.length_set]; omega)
              injection ev with ev1 ev2 ev3
              injection ev1 with ev1
              injection ev1 with ev1
              subst ev1; subst ev3
              have hcs6 : cur.size = 36 := hcs
              obtain ⟨f0, f1, ⟨c0, q0⟩, ⟨c1, q1⟩⟩ := set2k 20 (.int .i64 (-9223372036854775808)) hgh (by omega)
              have r2 : Own fTp 31 ((W1.setCell ⟨gr, 20, none⟩ (.int .i64 (-9223372036854775808))).setCell ⟨gr, 21, none⟩ (.int .i64 9223372036854775807)) gr (.slice (some ⟨gr, 0, none⟩) 6 6) (L.set 3 ⟨true, true, (-9223372036854775808), 9223372036854775807, 4, 6⟩) := by
                have r := R1.out.pair (j := 3) (hnx _) (-9223372036854775808) 9223372036854775807
                rw [List.set_set] at r
                exact r
              have bb2 : Below gr w2 ((W1.setCell ⟨gr, 20, none⟩ (.int .i64 (-9223372036854775808))).setCell ⟨gr, 21, none⟩ (.int .i64 9223372036854775807)) := B1.out.trans (((set_only W1 gr 20 _).trans (set_only _ gr _ _)).below (B := gr) (by omega) (fun k hk e => by omega))
              have l2 := build_longs (-9223372036854775808) 9223372036854775807
              obtain ⟨W2, eW2⟩ : ∃ W, ((W1.setCell ⟨gr, 20, none⟩ (.int .i64 (-9223372036854775808))).setCell ⟨gr, 21, none⟩ (.int .i64 9223372036854775807)) = W := ⟨_, rfl⟩
              rw [eW2] at r2 bb2
              have R2 := Lib.hid r2
              have B2 := Lib.hid bb2
              replace eW2 := Lib.hid eW2
              clear r2 bb2 hgh hcs ev2 hgl R1 B1
              go_upto_region 8 with (fail)
              (try rw [eW2.out])
              clear f0 f1 c0 q0 c1 q1 eW2 l2 hcs6
              have lk : (L.set 3 ⟨true, true, (-9223372036854775808), 9223372036854775807, 4, 6⟩).length = 6 := by rw [List.length_set]; exact hl6
              have kk' : OkT (L.set 3 ⟨true, true, (-9223372036854775808), 9223372036854775807, 4, 6⟩) := okT_set hok6.out 3 ⟨⟨by decide, by decide⟩, ⟨by decide, by decide⟩, ⟨by decide, by decide⟩, ⟨by decide, by decide⟩⟩
              replace kk' := Lib.hid kk'
              clear hnx hok6 hl6
              go_wp2_with fail
              go_roundw
              case rel => exact ⟨4, _, by go_num, by omega, lk, kk', R2, B2⟩
              case measure => simp [intOf]
            · have hcase := Lib.hid h0
              clear h0
              have s3 : ((h : Int) == 3) = false := by have := hcase.out; exact beq_eq_false_iff_ne.2 (by omega)
              have s3' : decide ((h : Int) = 3) = false := by have := hcase.out; exact decide_eq_false (by omega)
              have s4 : ((h : Int) == 4) = true := by have := hcase.out; simp; omega
              have s4' : decide ((h : Int) = 4) = true := by have := hcase.out; exact decide_eq_true (by omega)
              obtain ⟨g', cap', cur, ev, -, hgl, hgh, -, -, hcs, -⟩ := R1.out.open' (by rw [List.length_set]; omega)
              injection ev with ev1 ev2 ev3
              injection ev1 with ev1
              injection ev1 with ev1
              subst ev1; subst ev3
              have hcs6 : cur.size = 36 := hcs
              obtain ⟨f0, f1, ⟨c0, q0⟩, ⟨c1, q1⟩⟩ := set2k 20 (.int .i64 0) hgh (by omega)
              have r2 : Own fTp 31 ((W1.setCell ⟨gr, 20, none⟩ (.int .i64 0)).setCell ⟨gr, 21, none⟩ (.int .i64 1000)) gr (.slice (some ⟨gr, 0, none⟩) 6 6) (L.set 3 ⟨true, true, 0, 1000, 4, 6⟩) := by
                have r := R1.out.pair (j := 3) (hnx _) 0 1000
                rw [List.set_set] at r
                exact r
              have bb2 : Below gr w2 ((W1.setCell ⟨gr, 20, none⟩ (.int .i64 0)).setCell ⟨gr, 21, none⟩ (.int .i64 1000)) := B1.out.trans (((set_only W1 gr 20 _).trans (set_only _ gr _ _)).below (B := gr) (by omega) (fun k hk e => by omega))
              have l2 := build_longs 0 1000
              obtain ⟨W2, eW2⟩ : ∃ W, ((W1.setCell ⟨gr, 20, none⟩ (.int .i64 0)).setCell ⟨gr, 21, none⟩ (.int .i64 1000)) = W := ⟨_, rfl⟩
              rw [eW2] at r2 bb2
              have R2 := Lib.hid r2
              have B2 := Lib.hid bb2
              replace eW2 := Lib.hid eW2
              clear r2 bb2 hgh hcs ev2 hgl R1 B1
              go_upto_region 8 with (fail)
              (try rw [eW2.out])
              clear f0 f1 c0 q0 c1 q1 eW2 l2 hcs6
              have lk : (L.set 3 ⟨true, true, 0, 1000, 4, 6⟩).length = 6 := by rw [List.length_set]; exact hl6
              have kk' : OkT (L.set 3 ⟨true, true, 0, 1000, 4, 6⟩) := okT_set hok6.out 3 ⟨⟨by decide, by decide⟩, ⟨by decide, by decide⟩, ⟨by decide, by decide⟩, ⟨by decide, by decide⟩⟩
              replace kk' := Lib.hid kk'
              clear hnx hok6 hl6
              go_wp2_with fail
              go_roundw
              case rel => exact ⟨4, _, by go_num, by omega, lk, kk', R2, B2⟩
              case measure => simp [intOf]
            · have hcase := Lib.hid h0
              clear h0
              have s3 : ((h : Int) == 3) = false := by have := hcase.out; exact beq_eq_false_iff_ne.2 (by omega)
              have s3' : decide ((h : Int) = 3) = false := by have := hcase.out; exact decide_eq_false (by omega)
              have s4 : ((h : Int) == 4) = false := by have := hcase.out; exact beq_eq_false_iff_ne.2 (by omega)
              have s4' : decide ((h : Int) = 4) = false := by have := hcase.out; exact decide_eq_false (by omega)
              have s5 : ((h : Int) == 5) = true := by have := hcase.out; simp; omega
              have s5' : decide ((h : Int) = 5) = true := by have := hcase.out; exact decide_eq_true (by omega)
              obtain ⟨g', cap', cur, ev, -, hgl, hgh, -, -, hcs, -⟩ := R1.out.open' (by rw [List.length_set]; omega)
              injection ev with ev1 ev2 ev3
              injection ev1 with ev1
              injection ev1 with ev1
              subst ev1; subst ev3
              have hcs6 : cur.size = 36 := hcs
              obtain ⟨f0, f1, ⟨c0, q0⟩, ⟨c1, q1⟩⟩ := set2k 20 (.int .i64 9223372036854775807) hgh (by omega)
              have r2 : Own fTp 31 ((W1.setCell ⟨gr, 20, none⟩ (.int .i64 9223372036854775807)).setCell ⟨gr, 21, none⟩ (.int .i64 (-9223372036854775808))) gr (.slice (some ⟨gr, 0, none⟩) 6 6) (L.set 3 ⟨true, true, 9223372036854775807, (-9223372036854775808), 4, 6⟩) := by
                have r := R1.out.pair (j := 3) (hnx _) 9223372036854775807 (-9223372036854775808)
                rw [List.set_set] at r
                exact r
              have bb2 : Below gr w2 ((W1.setCell ⟨gr, 20, none⟩ (.int .i64 9223372036854775807)).setCell ⟨gr, 21, none⟩ (.int .i64 (-9223372036854775808))) := B1.out.trans (((set_only W1 gr 20 _).trans (set_only _ gr _ _)).below (B := gr) (by omega) (fun k hk e => by omega))
              have l2 := build_longs 9223372036854775807 (-9223372036854775808)
              obtain ⟨W2, eW2⟩ : ∃ W, ((W1.setCell ⟨gr, 20, none⟩ (.int .i64 9223372036854775807)).setCell ⟨gr, 21, none⟩ (.int .i64 (-9223372036854775808))) = W := ⟨_, rfl⟩
              rw [eW2] at r2 bb2
              have R2 := Lib.hid r2
              have B2 := Lib.hid bb2
              replace eW2 := Lib.hid eW2
              clear r2 bb2 hgh hcs ev2 hgl R1 B1
              go_upto_region 8 with (fail)
              (try rw [eW2.out])
              clear f0 f1 c0 q0 c1 q1 eW2 l2 hcs6
              have lk : (L.set 3 ⟨true, true, 9223372036854775807, (-9223372036854775808), 4, 6⟩).length = 6 := by rw [List.length_set]; exact hl6
              have kk' : OkT (L.set 3 ⟨true, true, 9223372036854775807, (-9223372036854775808), 4, 6⟩) := okT_set hok6.out 3 ⟨⟨by decide, by decide⟩, ⟨by decide, by decide⟩, ⟨by decide, by decide⟩, ⟨by decide, by decide⟩⟩
              replace kk' := Lib.hid kk'
              clear hnx hok6 hl6
              go_wp2_with fail
              go_roundw
              case rel => exact ⟨4, _, by go_num, by omega, lk, kk', R2, B2⟩
              case measure => simp [intOf]
            · have hcase := Lib.hid h0
              clear h0
              have s3 : ((h : Int) == 3) = false := by have := hcase.out; exact beq_eq_false_iff_ne.2 (by omega)
              have s3' : decide ((h : Int) = 3) = false := by have := hcase.out; exact decide_eq_false (by omega)
              have s4 : ((h : Int) == 4) = false := by have := hcase.out; exact beq_eq_false_iff_ne.2 (by omega)
              have s4' : decide ((h : Int) = 4) = false := by have := hcase.out; exact decide_eq_false (by omega)
              have s5 : ((h : Int) == 5) = false := by have := hcase.out; exact beq_eq_false_iff_ne.2 (by omega)
              have s5' : decide ((h : Int) = 5) = false := by have := hcase.out; exact decide_eq_false (by omega)
              have lk : (L.set 3 ⟨true, true, (-5), 35, 4, 6⟩).length = 6 := by rw [List.length_set]; exact hl6
              have kk' : OkT (L.set 3 ⟨true, true, (-5), 35, 4, 6⟩) := okT_set hok6.out 3 ⟨⟨by decide, by decide⟩, ⟨by decide, by decide⟩, ⟨by decide, by decide⟩, ⟨by decide, by decide⟩⟩
              replace kk' := Lib.hid kk'
              clear hnx hok6 hl6
              go_wp2_with fail
              go_roundw
              case rel => exact ⟨4, _, by go_num, by omega, lk, kk', R1, B1⟩
              case measure => simp [intOf]
        · rcases (show h = 1 ∨ h = 2 ∨ (h ≠ 1 ∧ h ≠ 2 ∧ h < 6) by omega) with h0 | h0 | h0
          · have hcase := Lib.hid h0
            clear h0
            have m1 : ((h : Int) != 1) = false := by have := hcase.out; simp; omega
            have m1' : decide ((h : Int) = 1) = true := by have := hcase.out; exact decide_eq_true (by omega)
            have m2 : ((h : Int) != 2) = true := by have := hcase.out; exact bne_iff_ne.2 (by omega)
            have m2' : decide ((h : Int) = 2) = false := by have := hcase.out; exact decide_eq_false (by omega)
            obtain ⟨x, hx⟩ : ∃ x, L[4]? = some x := ⟨_, List.getElem?_eq_getElem (by omega)⟩
            have hnx : ∀ y : Tp, (L.set 4 y)[4]? = some y := fun y => by rw [List.getElem?_set, if_pos rfl, if_pos (by omega)]
            obtain ⟨g', cap', cur, ev, -, hgl, hgh, -, -, hcs, -⟩ := hR.out.open' (by omega)
            injection ev with ev1 ev2 ev3
            injection ev1 with ev1
            injection ev1 with ev1
            subst ev1; subst ev3
            have hcs6 : cur.size = 36 := hcs
            obtain ⟨f0, f1, f2, f3, f4, f5, ⟨y0, q0⟩, ⟨y1, q1⟩, ⟨y2, q2⟩, ⟨y3, q3⟩, ⟨y4, q4⟩, ⟨y5, q5⟩⟩ := set6k 24 (.bool true) (.bool true) (.int .i64 520) (.int .i64 530) (.int .i64 5) (.int .i64 5) hgh (by omega)
            have r0 : Own fTp 31 ((((((wr.setCell ⟨gr, 24, none⟩ (.bool true)).setCell ⟨gr, 25, none⟩ (.bool true)).setCell ⟨gr, 26, none⟩ (.int .i64 520)).setCell ⟨gr, 27, none⟩ (.int .i64 530)).setCell ⟨gr, 28, none⟩ (.int .i64 5)).setCell ⟨gr, 29, none⟩ (.int .i64 5)) gr (.slice (some ⟨gr, 0, none⟩) 6 6) (L.set 4 ⟨true, true, 520, 530, 5, 5⟩) := hR.out.top6 (j := 4) hx true true 520 530 5 5
            have bb0 : Below gr w2 ((((((wr.setCell ⟨gr, 24, none⟩ (.bool true)).setCell ⟨gr, 25, none⟩ (.bool true)).setCell ⟨gr, 26, none⟩ (.int .i64 520)).setCell ⟨gr, 27, none⟩ (.int .i64 530)).setCell ⟨gr, 28, none⟩ (.int .i64 5)).setCell ⟨gr, 29, none⟩ (.int .i64 5)) := hB.out.trans (((((((set_only wr gr 24 _).trans (set_only _ gr _ _)).trans (set_only _ gr _ _)).trans (set_only _ gr _ _)).trans (set_only _ gr _ _)).trans (set_only _ gr _ _)).below (B := gr) (by omega) (fun k hk e => by omega))
            have l1 := build_two true true
            have l2 := build_longs 520 530
            have l3 := build_longs 5 5
            have l4 := build_whole true true 520 530 5 5
            obtain ⟨W0, eW0⟩ : ∃ W, ((((((wr.setCell ⟨gr, 24, none⟩ (.bool true)).setCell ⟨gr, 25, none⟩ (.bool true)).setCell ⟨gr, 26, none⟩ (.int .i64 520)).setCell ⟨gr, 27, none⟩ (.int .i64 530)).setCell ⟨gr, 28, none⟩ (.int .i64 5)).setCell ⟨gr, 29, none⟩ (.int .i64 5)) = W := ⟨_, rfl⟩
            rw [eW0] at r0 bb0
            have R0 := Lib.hid r0
            have B0 := Lib.hid bb0
            replace eW0 := Lib.hid eW0
            clear r0 bb0 hgh hcs ev2 hgl hR hB hx
            go_upto_region 11 with (fail)
            rw [eW0.out]
            clear f0 f1 f2 f3 f4 f5 y0 q0 y1 q1 y2 q2 y3 q3 y4 q4 y5 q5 eW0 l1 l2 l3 l4 hcs6 m1 m1' m2 m2'
            obtain ⟨g', cap', cur, ev, -, hgl, hgh, -, -, hcs, -⟩ := R0.out.open' (by rw [List.length_set]; omega)
            injection ev with ev1 ev2 ev3
            injection ev1 with ev1
            injection ev1 with ev1
            subst ev1; subst ev3
            have hcs6 : cur.size = 36 := hcs
            obtain ⟨f0, f1, ⟨c0, q0⟩, ⟨c1, q1⟩⟩ := set2k 26 (.int .i64 0) hgh (by omega)
            have r1 : Own fTp 31 ((W0.setCell ⟨gr, 26, none⟩ (.int .i64 0)).setCell ⟨gr, 27, none⟩ (.int .i64 40)) gr (.slice (some ⟨gr, 0, none⟩) 6 6) (L.set 4 ⟨true, true, 0, 40, 5, 5⟩) := by
              have r := R0.out.pair (j := 4) (hnx _) 0 40
              rw [List.set_set] at r
              exact r
            have bb1 : Below gr w2 ((W0.setCell ⟨gr, 26, none⟩ (.int .i64 0)).setCell ⟨gr, 27, none⟩ (.int .i64 40)) := B0.out.trans (((set_only W0 gr 26 _).trans (set_only _ gr _ _)).below (B := gr) (by omega) (fun k hk e => by omega))
            have l1 := build_longs 0 40
            obtain ⟨W1, eW1⟩ : ∃ W, ((W0.setCell ⟨gr, 26, none⟩ (.int .i64 0)).setCell ⟨gr, 27, none⟩ (.int .i64 40)) = W := ⟨_, rfl⟩
            rw [eW1] at r1 bb1
            have R1 := Lib.hid r1
            have B1 := Lib.hid bb1
            replace eW1 := Lib.hid eW1
            clear r1 bb1 hgh hcs ev2 hgl R0 B0
            go_upto_region 13 with (fail)
            (try rw [eW1.out])
            clear f0 f1 c0 q0 c1 q1 eW1 l1 hcs6
            have s3 : ((h : Int) == 3) = false := by have := hcase.out; exact beq_eq_false_iff_ne.2 (by omega)
            have s3' : decide ((h : Int) = 3) = false := by have := hcase.out; exact decide_eq_false (by omega)
            have s4 : ((h : Int) == 4) = false := by have := hcase.out; exact beq_eq_false_iff_ne.2 (by omega)
            have s4' : decide ((h : Int) = 4) = false := by have := hcase.out; exact decide_eq_false (by omega)
            have s5 : ((h : Int) == 5) = false := by have := hcase.out; exact beq_eq_false_iff_ne.2 (by omega)
            have s5' : decide ((h : Int) = 5) = false := by have := hcase.out; exact decide_eq_false (by omega)
            have lk : (L.set 4 ⟨true, true, 0, 40, 5, 5⟩).length = 6 := by rw [List.length_set]; exact hl6
            have kk' : OkT (L.set 4 ⟨true, true, 0, 40, 5, 5⟩) := okT_set hok6.out 4 ⟨⟨by decide, by decide⟩, ⟨by decide, by decide⟩, ⟨by decide, by decide⟩, ⟨by decide, by decide⟩⟩
            replace kk' := Lib.hid kk'
            clear hnx hok6 hl6
            go_wp2_with fail
            go_roundw
            case rel => exact ⟨5, _, by go_num, by omega, lk, kk', R1, B1⟩
            case measure => simp [intOf]
          · have hcase := Lib.hid h0
            clear h0
            have m1 : ((h : Int) != 1) = true := by have := hcase.out; exact bne_iff_ne.2 (by omega)
            have m1' : decide ((h : Int) = 1) = false := by have := hcase.out; exact decide_eq_false (by omega)
            have m2 : ((h : Int) != 2) = false := by have := hcase.out; simp; omega
            have m2' : decide ((h : Int) = 2) = true := by have := hcase.out; exact decide_eq_true (by omega)
            obtain ⟨x, hx⟩ : ∃ x, L[4]? = some x := ⟨_, List.getElem?_eq_getElem (by omega)⟩
            have hnx : ∀ y : Tp, (L.set 4 y)[4]? = some y := fun y => by rw [List.getElem?_set, if_pos rfl, if_pos (by omega)]
            obtain ⟨g', cap', cur, ev, -, hgl, hgh, -, -, hcs, -⟩ := hR.out.open' (by omega)
            injection ev with ev1 ev2 ev3
            injection ev1 with ev1
            injection ev1 with ev1
            subst ev1; subst ev3
            have hcs6 : cur.size = 36 := hcs
            obtain ⟨f0, f1, f2, f3, f4, f5, ⟨y0, q0⟩, ⟨y1, q1⟩, ⟨y2, q2⟩, ⟨y3, q3⟩, ⟨y4, q4⟩, ⟨y5, q5⟩⟩ := set6k 24 (.bool true) (.bool false) (.int .i64 520) (.int .i64 530) (.int .i64 5) (.int .i64 5) hgh (by omega)
            have r0 : Own fTp 31 ((((((wr.setCell ⟨gr, 24, none⟩ (.bool true)).setCell ⟨gr, 25, none⟩ (.bool false)).setCell ⟨gr, 26, none⟩ (.int .i64 520)).setCell ⟨gr, 27, none⟩ (.int .i64 530)).setCell ⟨gr, 28, none⟩ (.int .i64 5)).setCell ⟨gr, 29, none⟩ (.int .i64 5)) gr (.slice (some ⟨gr, 0, none⟩) 6 6) (L.set 4 ⟨true, false, 520, 530, 5, 5⟩) := hR.out.top6 (j := 4) hx true false 520 530 5 5
            have bb0 : Below gr w2 ((((((wr.setCell ⟨gr, 24, none⟩ (.bool true)).setCell ⟨gr, 25, none⟩ (.bool false)).setCell ⟨gr, 26, none⟩ (.int .i64 520)).setCell ⟨gr, 27, none⟩ (.int .i64 530)).setCell ⟨gr, 28, none⟩ (.int .i64 5)).setCell ⟨gr, 29, none⟩ (.int .i64 5)) := hB.out.trans (((((((set_only wr gr 24 _).trans (set_only _ gr _ _)).trans (set_only _ gr _ _)).trans (set_only _ gr _ _)).trans (set_only _ gr _ _)).trans (set_only _ gr _ _)).below (B := gr) (by omega) (fun k hk e => by omega))
            have l1 := build_two true false
            have l2 := build_longs 520 530
            have l3 := build_longs 5 5
            have l4 := build_whole true false 520 530 5 5
            obtain ⟨W0, eW0⟩ : ∃ W, ((((((wr.setCell ⟨gr, 24, none⟩ (.bool true)).setCell ⟨gr, 25, none⟩ (.bool false)).setCell ⟨gr, 26, none⟩ (.int .i64 520)).setCell ⟨gr, 27, none⟩ (.int .i64 530)).setCell ⟨gr, 28, none⟩ (.int .i64 5)).setCell ⟨gr, 29, none⟩ (.int .i64 5)) = W := ⟨_, rfl⟩
            rw [eW0] at r0 bb0
            have R0 := Lib.hid r0
            have B0 := Lib.hid bb0
            replace eW0 := Lib.hid eW0
            clear r0 bb0 hgh hcs ev2 hgl hR hB hx
            go_upto_region 11 with (fail)
            rw [eW0.out]
            clear f0 f1 f2 f3 f4 f5 y0 q0 y1 q1 y2 q2 y3 q3 y4 q4 y5 q5 eW0 l1 l2 l3 l4 hcs6 m1 m1' m2 m2'
            obtain ⟨g', cap', cur, ev, -, hgl, hgh, -, -, hcs, -⟩ := R0.out.open' (by rw [List.length_set]; omega)
            injection ev with ev1 ev2 ev3
            injection ev1 with ev1
            injection ev1 with ev1
            subst ev1; subst ev3
            have hcs6 : cur.size = 36 := hcs
            obtain ⟨f0, f1, ⟨c0, q0⟩, ⟨c1, q1⟩⟩ := set2k 26 (.int .i64 0) hgh (by omega)
            have r1 : Own fTp 31 ((W0.setCell ⟨gr, 26, none⟩ (.int .i64 0)).setCell ⟨gr, 27, none⟩ (.int .i64 40)) gr (.slice (some ⟨gr, 0, none⟩) 6 6) (L.set 4 ⟨true, false, 0, 40, 5, 5⟩) := by
              have r := R0.out.pair (j := 4) (hnx _) 0 40
              rw [List.set_set] at r
              exact r
            have bb1 : Below gr w2 ((W0.setCell ⟨gr, 26, none⟩ (.int .i64 0)).setCell ⟨gr, 27, none⟩ (.int .i64 40)) := B0.out.trans (((set_only W0 gr 26 _).trans (set_only _ gr _ _)).below (B := gr) (by omega) (fun k hk e => by omega))
            have l1 := build_longs 0 40
            obtain ⟨W1, eW1⟩ : ∃ W, ((W0.setCell ⟨gr, 26, none⟩ (.int .i64 0)).setCell ⟨gr, 27, none⟩ (.int .i64 40)) = W := ⟨_, rfl⟩
            rw [eW1] at r1 bb1
            have R1 := Lib.hid r1
            have B1 := Lib.hid bb1
            replace eW1 := Lib.hid eW1
            clear r1 bb1 hgh hcs ev2 hgl R0 B0
            go_upto_region 13 with (fail)
            (try rw [eW1.out])
            clear f0 f1 c0 q0 c1 q1 eW1 l1 hcs6
            have s3 : ((h : Int) == 3) = false := by have := hcase.out; exact beq_eq_false_iff_ne.2 (by omega)
            have s3' : decide ((h : Int) = 3) = false := by have := hcase.out; exact decide_eq_false (by omega)
            have s4 : ((h : Int) == 4) = false := by have := hcase.out; exact beq_eq_false_iff_ne.2 (by omega)
            have s4' : decide ((h : Int) = 4) = false := by have := hcase.out; exact decide_eq_false (by omega)
            have s5 : ((h : Int) == 5) = false := by have := hcase.out; exact beq_eq_false_iff_ne.2 (by omega)
            have s5' : decide ((h : Int) = 5) = false := by have := hcase.out; exact decide_eq_false (by omega)
            have lk : (L.set 4 ⟨true, false, 0, 40, 5, 5⟩).length = 6 := by rw [List.length_set]; exact hl6
            have kk' : OkT (L.set 4 ⟨true, false, 0, 40, 5, 5⟩) := okT_set hok6.out 4 ⟨⟨by decide, by decide⟩, ⟨by decide, by decide⟩, ⟨by decide, by decide⟩, ⟨by decide, by decide⟩⟩
            replace kk' := Lib.hid kk'
            clear hnx hok6 hl6
            go_wp2_with fail
            go_roundw
            case rel => exact ⟨5, _, by go_num, by omega, lk, kk', R1, B1⟩
            case measure => simp [intOf]
          · have hcase := Lib.hid h0
            clear h0
            have m1 : ((h : Int) != 1) = true := by have := hcase.out; exact bne_iff_ne.2 (by omega)
            have m1' : decide ((h : Int) = 1) = false := by have := hcase.out; exact decide_eq_false (by omega)
            have m2 : ((h : Int) != 2) = true := by have := hcase.out; exact bne_iff_ne.2 (by omega)
            have m2' : decide ((h : Int) = 2) = false := by have := hcase.out; exact decide_eq_false (by omega)
            obtain ⟨x, hx⟩ : ∃ x, L[4]? = some x := ⟨_, List.getElem?_eq_getElem (by omega)⟩
            have hnx : ∀ y : Tp, (L.set 4 y)[4]? = some y := fun y => by rw [List.getElem?_set, if_pos rfl, if_pos (by omega)]
            obtain ⟨g', cap', cur, ev, -, hgl, hgh, -, -, hcs, -⟩ := hR.out.open' (by omega)
            injection ev with ev1 ev2 ev3
            injection ev1 with ev1
            injection ev1 with ev1
            subst ev1; subst ev3
            have hcs6 : cur.size = 36 := hcs
            obtain ⟨f0, f1, f2, f3, f4, f5, ⟨y0, q0⟩, ⟨y1, q1⟩, ⟨y2, q2⟩, ⟨y3, q3⟩, ⟨y4, q4⟩, ⟨y5, q5⟩⟩ := set6k 24 (.bool true) (.bool true) (.int .i64 520) (.int .i64 530) (.int .i64 5) (.int .i64 5) hgh (by omega)
            have r0 : Own fTp 31 ((((((wr.setCell ⟨gr, 24, none⟩ (.bool true)).setCell ⟨gr, 25, none⟩ (.bool true)).setCell ⟨gr, 26, none⟩ (.int .i64 520)).setCell ⟨gr, 27, none⟩ (.int .i64 530)).setCell ⟨gr, 28, none⟩ (.int .i64 5)).setCell ⟨gr, 29, none⟩ (.int .i64 5)) gr (.slice (some ⟨gr, 0, none⟩) 6 6) (L.set 4 ⟨true, true, 520, 530, 5, 5⟩) := hR.out.top6 (j := 4) hx true true 520 530 5 5
            have bb0 : Below gr w2 ((((((wr.setCell ⟨gr, 24, none⟩ (.bool true)).setCell ⟨gr, 25, none⟩ (.bool true)).setCell ⟨gr, 26, none⟩ (.int .i64 520)).setCell ⟨gr, 27, none⟩ (.int .i64 530)).setCell ⟨gr, 28, none⟩ (.int .i64 5)).setCell ⟨gr, 29, none⟩ (.int .i64 5)) := hB.out.trans (((((((set_only wr gr 24 _).trans (set_only _ gr _ _)).trans (set_only _ gr _ _)).trans (set_only _ gr _ _)).trans (set_only _ gr _ _)).trans (set_only _ gr _ _)).below (B := gr) (by omega) (fun k hk e => by omega))
            have l1 := build_two true true
            have l2 := build_longs 520 530
            have l3 := build_longs 5 5
            have l4 := build_whole true true 520 530 5 5
            obtain ⟨W0, eW0⟩ : ∃ W, ((((((wr.setCell ⟨gr, 24, none⟩ (.bool true)).setCell ⟨gr, 25, none⟩ (.bool true)).setCell ⟨gr, 26, none⟩ (.int .i64 520)).setCell ⟨gr, 27, none⟩ (.int .i64 530)).setCell ⟨gr, 28, none⟩ (.int .i64 5)).setCell ⟨gr, 29, none⟩ (.int .i64 5)) = W := ⟨_, rfl⟩
            rw [eW0] at r0 bb0
            have R0 := Lib.hid r0
            have B0 := Lib.hid bb0
            replace eW0 := Lib.hid eW0
            clear r0 bb0 hgh hcs ev2 hgl hR hB hx
            go_upto_region 11 with (fail)
            rw [eW0.out]
            clear f0 f1 f2 f3 f4 f5 y0 q0 y1 q1 y2 q2 y3 q3 y4 q4 y5 q5 eW0 l1 l2 l3 l4 hcs6 m1 m1' m2 m2'
            obtain ⟨g', cap', cur, ev, -, hgl, hgh, -, -, hcs, -⟩ := R0.out.open' (by rw [List.length_set]; omega)
            injection ev with ev1 ev2 ev3
            injection ev1 with ev1
            injection ev1 with ev1
            subst ev1; subst ev3
            have hcs6 : cur.size = 36 := hcs
            obtain ⟨f0, f1, ⟨c0, q0⟩, ⟨c1, q1⟩⟩ := set2k 26 (.int .i64 0) hgh (by omega)
            have r1 : Own fTp 31 ((W0.setCell ⟨gr, 26, none⟩ (.int .i64 0)).setCell ⟨gr, 27, none⟩ (.int .i64 40)) gr (.slice (some ⟨gr, 0, none⟩) 6 6) (L.set 4 ⟨true, true, 0, 40, 5, 5⟩) := by
              have r := R0.out.pair (j := 4) (hnx _) 0 40
              rw [List.set_set] at r
              exact r
            have bb1 : Below gr w2 ((W0.setCell ⟨gr, 26, none⟩ (.int .i64 0)).setCell ⟨gr, 27, none⟩ (.int .i64 40)) := B0.out.trans (((set_only W0 gr 26 _).trans (set_only _ gr _ _)).below (B := gr) (by omega) (fun k hk e => by omega))
            have l1 := build_longs 0 40
            obtain ⟨W1, eW1⟩ : ∃ W, ((W0.setCell ⟨gr, 26, none⟩ (.int .i64 0)).setCell ⟨gr, 27, none⟩ (.int .i64 40)) = W := ⟨_, rfl⟩
            rw [eW1] at r1 bb1
            have R1 := Lib.hid r1
            have B1 := Lib.hid bb1
            replace eW1 := Lib.hid eW1
            clear r1 bb1 hgh hcs ev2 hgl R0 B0
            go_upto_region 13 with (fail)
            (try rw [eW1.out])
            clear f0 f1 c0 q0 c1 q1 eW1 l1 hcs6
            rcases (show h = 3 ∨ h = 4 ∨ h = 5 ∨ h = 0 by have := hcase.out; omega) with h0 | h0 | h0 | h0
            · have hcase := Lib.hid h0
              clear h0
              have s3 : ((h : Int) == 3) = true := by have := hcase.out; simp; omega
              have s3' : decide ((h : Int) = 3) = true := by have := hcase.out; exact decide_eq_true (by omega)
              obtain ⟨g', cap', cur, ev, -, hgl, hgh, -, -, hcs, -⟩ := R1.out.open' (by rw [List.length_set]; omega)
              injection ev with ev1 ev2 ev3
              injection ev1 with ev1
              injection ev1 with ev1
              subst ev1; subst ev3
              have hcs6 : cur.size = 36 := hcs
              obtain ⟨f0, f1, ⟨c0, q0⟩, ⟨c1, q1⟩⟩ := set2k 26 (.int .i64 (-9223372036854775808)) hgh (by omega)
              have r2 : Own fTp 31 ((W1.setCell ⟨gr, 26, none⟩ (.int .i64 (-9223372036854775808))).setCell ⟨gr, 27, none⟩ (.int .i64 9223372036854775807)) gr (.slice (some ⟨gr, 0, none⟩) 6 6) (L.set 4 ⟨true, true, (-9223372036854775808), 9223372036854775807, 5, 5⟩) := by
                have r := R1.out.pair (j := 4) (hnx _) (-9223372036854775808) 9223372036854775807
                rw [List.set_set] at r
                exact r
              have bb2 : Below gr w2 ((W1.setCell ⟨gr, 26, none⟩ (.int .i64 (-9223372036854775808))).setCell ⟨gr, 27, none⟩ (.int .i64 9223372036854775807)) := B1.out.trans (((set_only W1 gr 26 _).trans (set_only _ gr _ _)).below (B := gr) (by omega) (fun k hk e => by omega))
              have l2 := build_longs (-9223372036854775808) 9223372036854775807
              obtain ⟨W2, eW2⟩ : ∃ W, ((W1.setCell ⟨gr, 26, none⟩ (.int .i64 (-9223372036854775808))).setCell ⟨gr, 27, none⟩ (.int .i64 9223372036854775807)) = W := ⟨_, rfl⟩
              rw [eW2] at r2 bb2
              have R2 := Lib.hid r2
              have B2 := Lib.hid bb2
              replace eW2 := Lib.hid eW2
              clear r2 bb2 hgh hcs ev2 hgl R1 B1
              go_upto_region 8 with (fail)
              (try rw [eW2.out])
              clear f0 f1 c0 q0 c1 q1 eW2 l2 hcs6
              have lk : (L.set 4 ⟨true, true, (-9223372036854775808), 9223372036854775807, 5, 5⟩).length = 6 := by rw [List.length_set]; exact hl6
              have kk' : OkT (L.set 4 ⟨true, true, (-9223372036854775808), 9223372036854775807, 5, 5⟩) := okT_set hok6.out 4 ⟨⟨by decide, by decide⟩, ⟨by decide, by decide⟩, ⟨by decide, by decide⟩, ⟨by decide, by decide⟩⟩
              replace kk' := Lib.hid kk'
              clear hnx hok6 hl6
              go_wp2_with fail
              go_roundw
              case rel => exact ⟨5, _, by go_num, by omega, lk, kk', R2, B2⟩
              case measure => simp [intOf]
            · have hcase := Lib.hid h0
              clear h0
              have s3 : ((h : Int) == 3) = false := by have := hcase.out; exact beq_eq_false_iff_ne.2 (by omega)
              have s3' : decide ((h : Int) = 3) = false := by have := hcase.out; exact decide_eq_false (by omega)
              have s4 : ((h : Int) == 4) = true := by have := hcase.out; simp; omega
              have s4' : decide ((h : Int) = 4) = true := by have := hcase.out; exact decide_eq_true (by omega)
              obtain ⟨g', cap', cur, ev, -, hgl, hgh, -, -, hcs, -⟩ := R1.out.open' (by rw [List.length_set]; omega)
              injection ev with ev1 ev2 ev3
              injection ev1 with ev1
              injection ev1 with ev1
              subst ev1; subst ev3
              have hcs6 : cur.size = 36 := hcs
              obtain ⟨f0, f1, ⟨c0, q0⟩, ⟨c1, q1⟩⟩ := set2k 26 (.int .i64 0) hgh (by omega)
              have r2 : Own fTp 31 ((W1.setCell ⟨gr, 26, none⟩ (.int .i64 0)).setCell ⟨gr, 27, none⟩ (.int .i64 1000)) gr (.slice (some ⟨gr, 0, none⟩) 6 6) (L.set 4 ⟨true, true, 0, 1000, 5, 5⟩) := by
                have r := R1.out.pair (j := 4) (hnx _) 0 1000
                rw [List.set_set] at r
                exact r
              have bb2 : Below gr w2 ((W1.setCell ⟨gr, 26, none⟩ (.int .i64 0)).setCell ⟨gr, 27, none⟩ (.int .i64 1000)) := B1.out.trans (((set_only W1 gr 26 _).trans (set_only _ gr _ _)).below (B := gr) (by omega) (fun k hk e => by omega))
              have l2 := build_longs 0 1000
              obtain ⟨W2, eW2⟩ : ∃ W, ((W1.setCell ⟨gr, 26, none⟩ (.int .i64 0)).setCell ⟨gr, 27, none⟩ (.int .i64 1000)) = W := ⟨_, rfl⟩
              rw [eW2] at r2 bb2
              have R2 := Lib.hid r2
              have B2 := Lib.hid bb2
              replace eW2 := Lib.hid eW2
              clear r2 bb2 hgh hcs ev2 hgl R1 B1
              go_upto_region 8 with (fail)
              (try rw [eW2.out])
              clear f0 f1 c0 q0 c1 q1 eW2 l2 hcs6
              have lk : (L.set 4 ⟨true, true, 0, 1000, 5, 5⟩).length = 6 := by rw [List.length_set]; exact hl6
              have kk' : OkT (L.set 4 ⟨true, true, 0, 1000, 5, 5⟩) := okT_set hok6.out 4 ⟨⟨by decide, by decide⟩, ⟨by decide, by decide⟩, ⟨by decide, by decide⟩, ⟨by decide, by decide⟩⟩
              replace kk' := Lib.hid kk'
              clear hnx hok6 hl6
              go_wp2_with fail
              go_roundw
              case rel => exact ⟨5, _, by go_num, by omega, lk, kk', R2, B2⟩
              case measure => simp [intOf]
            · have hcase := Lib.hid h0
              clear h0
              have s3 : ((h : Int) == 3) = false := by have := hcase.out; exact beq_eq_false_iff_ne.2 (by omega)
              have s3' : decide ((h : Int) = 3) = false := by have := hcase.out; exact decide_eq_false (by omega)
              have s4 : ((h : Int) == 4) = false := by have := hcase.out; exact beq_eq_false_iff_ne.2 (by omega)
              have s4' : decide ((h : Int) = 4) = false := by have := hcase.out; exact decide_eq_false (by omega)
              have s5 : ((h : Int) == 5) = true := by have := hcase.out; simp; omega
              have s5' : decide ((h : Int) = 5) = true := by have := hcase.out; exact decide_eq_true (by omega)
              obtain ⟨g', cap', cur, ev, -, hgl, hgh, -, -, hcs, -⟩ := R1.out.open' (by rw [List.length_set]; omega)
              injection ev with ev1 ev2 ev3
              injection ev1 with ev1
              injection ev1 with ev1
              subst ev1; subst ev3
              have hcs6 : cur.size = 36 := hcs
              obtain ⟨f0, f1, ⟨c0, q0⟩, ⟨c1, q1⟩⟩ := set2k 26 (.int .i64 9223372036854775807) hgh (by omega)
              have r2 : Own fTp 31 ((W1.setCell ⟨gr, 26, none⟩ (.int .i64 9223372036854775807)).setCell ⟨gr, 27, none⟩ (.int .i64 (-9223372036854775808))) gr (.slice (some ⟨gr, 0, none⟩) 6 6) (L.set 4 ⟨true, true, 9223372036854775807, (-9223372036854775808), 5, 5⟩) := by
                have r := R1.out.pair (j := 4) (hnx _) 9223372036854775807 (-9223372036854775808)
                rw [List.set_set] at r
                exact r
              have bb2 : Below gr w2 ((W1.setCell ⟨gr, 26, none⟩ (.int .i64 9223372036854775807)).setCell ⟨gr, 27, none⟩ (.int .i64 (-9223372036854775808))) := B1.out.trans (((set_only W1 gr 26 _).trans (set_only _ gr _ _)).below (B := gr) (by omega) (fun k hk e => by omega))
              have l2 := build_longs 9223372036854775807 (-9223372036854775808)
              obtain ⟨W2, eW2⟩ : ∃ W, ((W1.setCell ⟨gr, 26, none⟩ (.int .i64 9223372036854775807)).setCell ⟨gr, 27, none⟩ (.int .i64 (-9223372036854775808))) = W := ⟨_, rfl⟩
              rw [eW2] at r2 bb2
              have R2 := Lib.hid r2
              have B2 := Lib.hid bb2
              replace eW2 := Lib.hid eW2
              clear r2 bb2 hgh hcs ev2 hgl R1 B1
              go_upto_region 8 with (fail)
              (try rw [eW2.out])
              clear f0 f1 c0 q0 c1 q1 eW2 l2 hcs6
              have lk : (L.set 4 ⟨true, true, 9223372036854775807, (-9223372036854775808), 5, 5⟩).length = 6 := by rw [List.length_set]; exact hl6
              have kk' : OkT (L.set 4 ⟨true, true, 9223372036854775807, (-9223372036854775808), 5, 5⟩) := okT_set hok6.out 4 ⟨⟨by decide, by decide⟩, ⟨by decide, by decide⟩, ⟨by decide, by decide⟩, ⟨by decide, by decide⟩⟩
              replace kk' := Lib.hid kk'
              clear hnx hok6 hl6
              go_wp2_with fail
              go_roundw
              case rel => exact ⟨5, _, by go_num, by omega, lk, kk', R2, B2⟩
              case measure => simp [intOf]
            · have hcase := Lib.hid h0
              clear h0
              have s3 : ((h : Int) == 3) = false := by have := hcase.out; exact beq_eq_false_iff_ne.2 (by omega)
              have s3' : decide ((h : Int) = 3) = false := by have := hcase.out; exact decide_eq_false (by omega)
              have s4 : ((h : Int) == 4) = false := by have := hcase.out; exact beq_eq_false_iff_ne.2 (by omega)
              have s4' : decide ((h : Int) = 4) = false := by have := hcase.out; exact decide_eq_false (by omega)
              have s5 : ((h : Int) == 5) = false := by have := hcase.out; exact beq_eq_false_iff_ne.2 (by omega)
              have s5' : decide ((h : Int) = 5) = false := by have := hcase.out; exact decide_eq_false (by omega)
              have lk : (L.set 4 ⟨true, true, 0, 40, 5, 5⟩).length = 6 := by rw [List.length_set]; exact hl6
              have kk' : OkT (L.set 4 ⟨true, true, 0, 40, 5, 5⟩) := okT_set hok6.out 4 ⟨⟨by decide, by decide⟩, ⟨by decide, by decide⟩, ⟨by decide, by decide⟩, ⟨by decide, by decide⟩⟩
              replace kk' := Lib.hid kk'
              clear hnx hok6 hl6
              go_wp2_with fail
              go_roundw
              case rel => exact ⟨5, _, by go_num, by omega, lk, kk', R1, B1⟩
              case measure => simp [intOf]
        · rcases (show h = 1 ∨ h = 2 ∨ (h ≠ 1 ∧ h ≠ 2 ∧ h < 6) by omega) with h0 | h0 | h0
          · have hcase := Lib.hid h0
            clear h0
            have m1 : ((h : Int) != 1) = false := by have := hcase.out; simp; omega
            have m1' : decide ((h : Int) = 1) = true := by have := hcase.out; exact decide_eq_true (by omega)
            have m2 : ((h : Int) != 2) = true := by have := hcase.out; exact bne_iff_ne.2 (by omega)
            have m2' : decide ((h : Int) = 2) = false := by have := hcase.out; exact decide_eq_false (by omega)
            obtain ⟨x, hx⟩ : ∃ x, L[5]? = some x := ⟨_, List.getElem?_eq_getElem (by omega)⟩
            have hnx : ∀ y : Tp, (L.set 5 y)[5]? = some y := fun y => by rw [List.getElem?_set, if_pos rfl, if_pos (by omega)]
            obtain ⟨g', cap', cur, ev, -, hgl, hgh, -, -, hcs, -⟩ := hR.out.open' (by omega)
            injection ev with ev1 ev2 ev3
            injection ev1 with ev1
            injection ev1 with ev1
            subst ev1; subst ev3
            have hcs6 : cur.size = 36 := hcs
            obtain ⟨f0, f1, f2, f3, f4, f5, ⟨y0, q0⟩, ⟨y1, q1⟩, ⟨y2, q2⟩, ⟨y3, q3⟩, ⟨y4, q4⟩, ⟨y5, q5⟩⟩ := set6k 30 (.bool false) (.bool true) (.int .i64 525) (.int .i64 535) (.int .i64 6) (.int .i64 4) hgh (by omega)
            have r0 : Own fTp 31 ((((((wr.setCell ⟨gr, 30, none⟩ (.bool false)).setCell ⟨gr, 31, none⟩ (.bool true)).setCell ⟨gr, 32, none⟩ (.int .i64 525)).setCell ⟨gr, 33, none⟩ (.int .i64 535)).setCell ⟨gr, 34, none⟩ (.int .i64 6)).setCell ⟨gr, 35, none⟩ (.int .i64 4)) gr (.slice (some ⟨gr, 0, none⟩) 6 6) (L.set 5 ⟨false, true, 525, 535, 6, 4⟩) := hR.out.top6 (j := 5) hx false true 525 535 6 4
            have bb0 : Below gr w2 ((((((wr.setCell ⟨gr, 30, none⟩ (.bool false)).setCell ⟨gr, 31, none⟩ (.bool true)).setCell ⟨gr, 32, none⟩ (.int .i64 525)).setCell ⟨gr, 33, none⟩ (.int .i64 535)).setCell ⟨gr, 34, none⟩ (.int .i64 6)).setCell ⟨gr, 35, none⟩ (.int .i64 4)) := hB.out.trans (((((((set_only wr gr 30 _).trans (set_only _ gr _ _)).trans (set_only _ gr _ _)).trans (set_only _ gr _ _)).trans (set_only _ gr _ _)).trans (set_only _ gr _ _)).below (B := gr) (by omega) (fun k hk e => by omega))
            have l1 := build_two false true
            have l2 := build_longs 525 535
            have l3 := build_longs 6 4
            have l4 := build_whole false true 525 535 6 4
            obtain ⟨W0, eW0⟩ : ∃ W, ((((((wr.setCell ⟨gr, 30, none⟩ (.bool false)).setCell ⟨gr, 31, none⟩ (.bool true)).setCell ⟨gr, 32, none⟩ (.int .i64 525)).setCell ⟨gr, 33, none⟩ (.int .i64 535)).setCell ⟨gr, 34, none⟩ (.int .i64 6)).setCell ⟨gr, 35, none⟩ (.int .i64 4)) = W := ⟨_, rfl⟩
            rw [eW0] at r0 bb0
            have R0 := Lib.hid r0
            have B0 := Lib.hid bb0
            replace eW0 := Lib.hid eW0
            clear r0 bb0 hgh hcs ev2 hgl hR hB hx
            go_upto_region 11 with (fail)
            rw [eW0.out]
            clear f0 f1 f2 f3 f4 f5 y0 q0 y1 q1 y2 q2 y3 q3 y4 q4 y5 q5 eW0 l1 l2 l3 l4 hcs6 m1 m1' m2 m2'
            obtain ⟨g', cap', cur, ev, -, hgl, hgh, -, -, hcs, -⟩ := R0.out.open' (by rw [List.length_set]; omega)
            injection ev with ev1 ev2 ev3
            injection ev1 with ev1
            injection ev1 with ev1
            subst ev1; subst ev3
            have hcs6 : cur.size = 36 := hcs
            obtain ⟨f0, f1, ⟨c0, q0⟩, ⟨c1, q1⟩⟩ := set2k 32 (.int .i64 5) hgh (by omega)
            have r1 : Own fTp 31 ((W0.setCell ⟨gr, 32, none⟩ (.int .i64 5)).setCell ⟨gr, 33, none⟩ (.int .i64 45)) gr (.slice (some ⟨gr, 0, none⟩) 6 6) (L.set 5 ⟨false, true, 5, 45, 6, 4⟩) := by
              have r := R0.out.pair (j := 5) (hnx _) 5 45
              rw [List.set_set] at r
              exact r
            have bb1 : Below gr w2 ((W0.setCell ⟨gr, 32, none⟩ (.int .i64 5)).setCell ⟨gr, 33, none⟩ (.int .i64 45)) := B0.out.trans (((set_only W0 gr 32 _).trans (set_only _ gr _ _)).below (B := gr) (by omega) (fun k hk e => by omega))
            have l1 := build_longs 5 45
            obtain ⟨W1, eW1⟩ : ∃ W, ((W0.setCell ⟨gr, 32, none⟩ (.int .i64 5)).setCell ⟨gr, 33, none⟩ (.int .i64 45)) = W := ⟨_, rfl⟩
            rw [eW1] at r1 bb1
            have R1 := Lib.hid r1
            have B1 := Lib.hid bb1
            replace eW1 := Lib.hid eW1
            clear r1 bb1 hgh hcs ev2 hgl R0 B0
            go_upto_region 13 with (fail)
            (try rw [eW1.out])
            clear f0 f1 c0 q0 c1 q1 eW1 l1 hcs6
            have s3 : ((h : Int) == 3) = false := by have := hcase.out; exact beq_eq_false_iff_ne.2 (by omega)
            have s3' : decide ((h : Int) = 3) = false := by have := hcase.out; exact decide_eq_false (by omega)
            have s4 : ((h : Int) == 4) = false := by have := hcase.out; exact beq_eq_false_iff_ne.2 (by omega)
            have s4' : decide ((h : Int) = 4) = false := by have := hcase.out; exact decide_eq_false (by omega)
            have s5 : ((h : Int) == 5) = false := by have := hcase.out; exact beq_eq_false_iff_ne.2 (by omega)
            have s5' : decide ((h : Int) = 5) = false := by have := hcase.out; exact decide_eq_false (by omega)
            have lk : (L.set 5 ⟨false, true, 5, 45, 6, 4⟩).length = 6 := by rw [List.length_set]; exact hl6
            have kk' : OkT (L.set 5 ⟨false, true, 5, 45, 6, 4⟩) := okT_set hok6.out 5 ⟨⟨by decide, by decide⟩, ⟨by decide, by decide⟩, ⟨by decide, by decide⟩, ⟨by decide, by decide⟩⟩
            replace kk' := Lib.hid kk'
            clear hnx hok6 hl6
            go_wp2_with fail
            go_roundw
            case rel => exact ⟨6, _, by go_num, by omega, lk, kk', R1, B1⟩
            case measure => simp [intOf]
          · have hcase := Lib.hid h0
            clear h0
            have m1 : ((h : Int) != 1) = true := by have := hcase.out; exact bne_iff_ne.2 (by omega)
            have m1' : decide ((h : Int) = 1) = false := by have := hcase.out; exact decide_eq_false (by omega)
            have m2 : ((h : Int) != 2) = false := by have := hcase.out; simp; omega
            have m2' : decide ((h : Int) = 2) = true := by have := hcase.out; exact decide_eq_true (by omega)
            obtain ⟨x, hx⟩ : ∃ x, L[5]? = some x := ⟨_, List.getElem?_eq_getElem (by omega)⟩
            have hnx : ∀ y : Tp, (L.set 5 y)[5]? = some y := fun y => by rw [List.getElem?_set, if_pos rfl, if_pos (by omega)]
            obtain ⟨g', cap', cur, ev, -, hgl, hgh, -, -, hcs, -⟩ := hR.out.open' (by omega)
            injection ev with ev1 ev2 ev3
            injection ev1 with ev1
            injection ev1 with ev1
            subst ev1; subst ev3
            have hcs6 : cur.size = 36 := hcs
            obtain ⟨f0, f1, f2, f3, f4, f5, ⟨y0, q0⟩, ⟨y1, q1⟩, ⟨y2, q2⟩, ⟨y3, q3⟩, ⟨y4, q4⟩, ⟨y5, q5⟩⟩ := set6k 30 (.bool true) (.bool true) (.int .i64 525) (.int .i64 535) (.int .i64 6) (.int .i64 4) hgh (by omega)
            have r0 : Own fTp 31 ((((((wr.setCell ⟨gr, 30, none⟩ (.bool true)).setCell ⟨gr, 31, none⟩ (.bool true)).setCell ⟨gr, 32, none⟩ (.int .i64 525)).setCell ⟨gr, 33, none⟩ (.int .i64 535)).setCell ⟨gr, 34, none⟩ (.int .i64 6)).setCell ⟨gr, 35, none⟩ (.int .i64 4)) gr (.slice (some ⟨gr, 0, none⟩) 6 6) (L.set 5 ⟨true, true, 525, 535, 6, 4⟩) := hR.out.top6 (j := 5) hx true true 525 535 6 4
            have bb0 : Below gr w2 ((((((wr.setCell ⟨gr, 30, none⟩ (.bool true)).setCell ⟨gr, 31, none⟩ (.bool true)).setCell ⟨gr, 32, none⟩ (.int .i64 525)).setCell ⟨gr, 33, none⟩ (.int .i64 535)).setCell ⟨gr, 34, none⟩ (.int .i64 6)).setCell ⟨gr, 35, none⟩ (.int .i64 4)) := hB.out.trans (((((((set_only wr gr 30 _).trans (set_only _ gr _ _)).trans (set_only _ gr _ _)).trans (set_only _ gr _ _)).trans (set_only _ gr _ _)).trans (set_only _ gr _ _)).below (B := gr) (by omega) (fun k hk e => by omega))
            have l1 := build_two true true
            have l2 := build_longs 525 535
            have l3 := build_longs 6 4
            have l4 := build_whole true true 525 535 6 4
            obtain ⟨W0, eW0⟩ : ∃ W, ((((((wr.setCell ⟨gr, 30, none⟩ (.bool true)).setCell ⟨gr, 31, none⟩ (.bool true)).setCell ⟨gr, 32, none⟩ (.int .i64 525)).setCell ⟨gr, 33, none⟩ (.int .i64 535)).setCell ⟨gr, 34, none⟩ (.int .i64 6)).setCell ⟨gr, 35, none⟩ (.int .i64 4)) = W := ⟨_, rfl⟩
            rw [eW0] at r0 bb0
            have R0 := Lib.hid r0
            have B0 := Lib.hid bb0
            replace eW0 := Lib.hid eW0
            clear r0 bb0 hgh hcs ev2 hgl hR hB hx
            go_upto_region 11 with (fail)
            rw [eW0.out]
            clear f0 f1 f2 f3 f4 f5 y0 q0 y1 q1 y2 q2 y3 q3 y4 q4 y5 q5 eW0 l1 l2 l3 l4 hcs6 m1 m1' m2 m2'
            obtain ⟨g', cap', cur, ev, -, hgl, hgh, -, -, hcs, -⟩ := R0.out.open' (by rw [List.length_set]; omega)
            injection ev with ev1 ev2 ev3
            injection ev1 with ev1
            injection ev1 with ev1
            subst ev1; subst ev3
            have hcs6 : cur.size = 36 := hcs
            obtain ⟨f0, f1, ⟨c0, q0⟩, ⟨c1, q1⟩⟩ := set2k 32 (.int .i64 5) hgh (by omega)
            have r1 : Own fTp 31 ((W0.setCell ⟨gr, 32, none⟩ (.int .i64 5)).setCell ⟨gr, 33, none⟩ (.int .i64 45)) gr (.slice (some ⟨gr, 0, none⟩) 6 6) (L.set 5 ⟨true, true, 5, 45, 6, 4⟩) := by
              have r := R0.out.pair (j := 5) (hnx _) 5 45
              rw [List.set_set] at r
              exact r
            have bb1 : Below gr w2 ((W0.setCell ⟨gr, 32, none⟩ (.int .i64 5)).setCell ⟨gr, 33, none⟩ (.int .i64 45)) := B0.out.trans (((set_only W0 gr 32 _).trans (set_only _ gr _ _)).below (B := gr) (by omega) (fun k hk e => by omega))
            have l1 := build_longs 5 45
            obtain ⟨W1, eW1⟩ : ∃ W, ((W0.setCell ⟨gr, 32, none⟩ (.int .i64 5)).setCell ⟨gr, 33, none⟩ (.int .i64 45)) = W := ⟨_, rfl⟩
            rw [eW1] at r1 bb1
            have R1 := Lib.hid r1
            have B1 := Lib.hid bb1
            replace eW1 := Lib.hid eW1
            clear r1 bb1 hgh hcs ev2 hgl R0 B0
            go_upto_region 13 with (fail)
            (try rw [eW1.out])
            clear f0 f1 c0 q0 c1 q1 eW1 l1 hcs6
            have s3 : ((h : Int) == 3) = false := by have := hcase.out; exact beq_eq_false_iff_ne.2 (by omega)
            have s3' : decide ((h : Int) = 3) = false := by have := hcase.out; exact decide_eq_false (by omega)
            have s4 : ((h : Int) == 4) = false := by have := hcase.out; exact beq_eq_false_iff_ne.2 (by omega)
            have s4' : decide ((h : Int) = 4) = false := by have := hcase.out; exact decide_eq_false (by omega)
            have s5 : ((h : Int) == 5) = false := by have := hcase.out; exact beq_eq_false_iff_ne.2 (by omega)
            have s5' : decide ((h : Int) = 5) = false := by have := hcase.out; exact decide_eq_false (by omega)
            have lk : (L.set 5 ⟨true, true, 5, 45, 6, 4⟩).length = 6 := by rw [List.length_set]; exact hl6
            have kk' : OkT (L.set 5 ⟨true, true, 5, 45, 6, 4⟩) := okT_set hok6.out 5 ⟨⟨by decide, by decide⟩, ⟨by decide, by decide⟩, ⟨by decide, by decide⟩, ⟨by decide, by decide⟩⟩
            replace kk' := Lib.hid kk'
            clear hnx hok6 hl6
            go_wp2_with fail
            go_roundw
            case rel => exact ⟨6, _, by go_num, by omega, lk, kk', R1, B1⟩
            case measure => simp [intOf]
          · have hcase := Lib.hid h0
            clear h0
            have m1 : ((h : Int) != 1) = true := by have := hcase.out; exact bne_iff_ne.2 (by omega)
            have m1' : decide ((h : Int) = 1) = false := by have := hcase.out; exact decide_eq_false (by omega)
            have m2 : ((h : Int) != 2) = true := by have := hcase.out; exact bne_iff_ne.2 (by omega)
            have m2' : decide ((h : Int) = 2) = false := by have := hcase.out; exact decide_eq_false (by omega)
            obtain ⟨x, hx⟩ : ∃ x, L[5]? = some x := ⟨_, List.getElem?_eq_getElem (by omega)⟩
            have hnx : ∀ y : Tp, (L.set 5 y)[5]? = some y := fun y => by rw [List.getElem?_set, if_pos rfl, if_pos (by omega)]
            obtain ⟨g', cap', cur, ev, -, hgl, hgh, -, -, hcs, -⟩ := hR.out.open' (by omega)
            injection ev with ev1 ev2 ev3
            injection ev1 with ev1
            injection ev1 with ev1
            subst ev1; subst ev3
            have hcs6 : cur.size = 36 := hcs
            obtain ⟨f0, f1, f2, f3, f4, f5, ⟨y0, q0⟩, ⟨y1, q1⟩, ⟨y2, q2⟩, ⟨y3, q3⟩, ⟨y4, q4⟩, ⟨y5, q5⟩⟩ := set6k 30 (.bool true) (.bool true) (.int .i64 525) (.int .i64 535) (.int .i64 6) (.int .i64 4) hgh (by omega)
            have r0 : Own fTp 31 ((((((wr.setCell ⟨gr, 30, none⟩ (.bool true)).setCell ⟨gr, 31, none⟩ (.bool true)).setCell ⟨gr, 32, none⟩ (.int .i64 525)).setCell ⟨gr, 33, none⟩ (.int .i64 535)).setCell ⟨gr, 34, none⟩ (.int .i64 6)).setCell ⟨gr, 35, none⟩ (.int .i64 4)) gr (.slice (some ⟨gr, 0, none⟩) 6 6) (L.set 5 ⟨true, true, 525, 535, 6, 4⟩) := hR.out.top6 (j := 5) hx true true 525 535 6 4
            have bb0 : Below gr w2 ((((((wr.setCell ⟨gr, 30, none⟩ (.bool true)).setCell ⟨gr, 31, none⟩ (.bool true)).setCell ⟨gr, 32, none⟩ (.int .i64 525)).setCell ⟨gr, 33, none⟩ (.int .i64 535)).setCell ⟨gr, 34, none⟩ (.int .i64 6)).setCell ⟨gr, 35, none⟩ (.int .i64 4)) := hB.out.trans (((((((set_only wr gr 30 _).trans (set_only _ gr _ _)).trans (set_only _ gr _ _)).trans (set_only _ gr _ _)).trans (set_only _ gr _ _)).trans (set_only _ gr _ _)).below (B := gr) (by omega) (fun k hk e => by omega))
            have l1 := build_two true true
            have l2 := build_longs 525 535
            have l3 := build_longs 6 4
            have l4 := build_whole true true 525 535 6 4
            obtain ⟨W0, eW0⟩ : ∃ W, ((((((wr.setCell ⟨gr, 30, none⟩ (.bool true)).setCell ⟨gr, 31, none⟩ (.bool true)).setCell ⟨gr, 32, none⟩ (.int .i64 525)).setCell ⟨gr, 33, none⟩ (.int .i64 535)).setCell ⟨gr, 34, none⟩ (.int .i64 6)).setCell ⟨gr, 35, none⟩ (.int .i64 4)) = W := ⟨_, rfl⟩
            rw [eW0] at r0 bb0
            have R0 := Lib.hid r0
            have B0 := Lib.hid bb0
            replace eW0 := Lib.hid eW0
            clear r0 bb0 hgh hcs ev2 hgl hR hB hx
            go_upto_region 11 with (fail)
            rw [eW0.out]
            clear f0 f1 f2 f3 f4 f5 y0 q0 y1 q1 y2 q2 y3 q3 y4 q4 y5 q5 eW0 l1 l2 l3 l4 hcs6 m1 m1' m2 m2'
            obtain ⟨g', cap', cur, ev, -, hgl, hgh, -, -, hcs, -⟩ := R0.out.open' (by rw [List.length_set]; omega)
            injection ev with ev1 ev2 ev3
            injection ev1 with ev1
            injection ev1 with ev1
            subst ev1; subst ev3
            have hcs6 : cur.size = 36 := hcs
            obtain ⟨f0, f1, ⟨c0, q0⟩, ⟨c1, q1⟩⟩ := set2k 32 (.int .i64 5) hgh (by omega)
            have r1 : Own fTp 31 ((W0.setCell ⟨gr, 32, none⟩ (.int .i64 5)).setCell ⟨gr, 33, none⟩ (.int .i64 45)) gr (.slice (some ⟨gr, 0, none⟩) 6 6) (L.set 5 ⟨true, true, 5, 45, 6, 4⟩) := by
              have r := R0.out.pair (j := 5) (hnx _) 5 45
              rw [List.set_set] at r
              exact r
            have bb1 : Below gr w2 ((W0.setCell ⟨gr, 32, none⟩ (.int .i64 5)).setCell ⟨gr, 33, none⟩ (.int .i64 45)) := B0.out.trans (((set_only W0 gr 32 _).trans (set_only _ gr _ _)).below (B := gr) (by omega) (fun k hk e => by omega))
            have l1 := build_longs 5 45
            obtain ⟨W1, eW1⟩ : ∃ W, ((W0.setCell ⟨gr, 32, none⟩ (.int .i64 5)).setCell ⟨gr, 33, none⟩ (.int .i64 45)) = W := ⟨_, rfl⟩
            rw [eW1] at r1 bb1
            have R1 := Lib.hid r1
            have B1 := Lib.hid bb1
            replace eW1 := Lib.hid eW1
            clear r1 bb1 hgh hcs ev2 hgl R0 B0
            go_upto_region 13 with (fail)
            (try rw [eW1.out])
            clear f0 f1 c0 q0 c1 q1 eW1 l1 hcs6
            rcases (show h = 3 ∨ h = 4 ∨ h = 5 ∨ h = 0 by have := hcase.out; omega) with h0 | h0 | h0 | h0
            · have hcase := Lib.hid h0
              clear h0
              have s3 : ((h : Int) == 3) = true := by have := hcase.out; simp; omega
              have s3' : decide ((h : Int) = 3) = true := by have := hcase.out; exact decide_eq_true (by omega)
              obtain ⟨g', cap', cur, ev, -, hgl, hgh, -, -, hcs, -⟩ := R1.out.open' (by rw [List.length_set]; omega)
              injection ev with ev1 ev2 ev3
              injection ev1 with ev1
              injection ev1 with ev1
              subst ev1; subst ev3
              have hcs6 : cur.size = 36 := hcs
              obtain ⟨f0, f1, ⟨c0, q0⟩, ⟨c1, q1⟩⟩ := set2k 32 (.int .i64 (-9223372036854775808)) hgh (by omega)
              have r2 : Own fTp 31 ((W1.setCell ⟨gr, 32, none⟩ (.int .i64 (-9223372036854775808))).setCell ⟨gr, 33, none⟩ (.int .i64 9223372036854775807)) gr (.slice (some ⟨gr, 0, none⟩) 6 6) (L.set 5 ⟨true, true, (-9223372036854775808), 9223372036854775807, 6, 4⟩) := by
                have r := R1.out.pair (j := 5) (hnx _) (-9223372036854775808) 9223372036854775807
                rw [List.set_set] at r
                exact r
              have bb2 : Below gr w2 ((W1.setCell ⟨gr, 32, none⟩ (.int .i64 (-9223372036854775808))).setCell ⟨gr, 33, none⟩ (.int .i64 9223372036854775807)) := B1.out.trans (((set_only W1 gr 32 _).trans (set_only _ gr _ _)).below (B := gr) (by omega) (fun k hk e => by omega))
              have l2 := build_longs (-9223372036854775808) 9223372036854775807
              obtain ⟨W2, eW2⟩ : ∃ W, ((W1.setCell ⟨gr, 32, none⟩ (.int .i64 (-9223372036854775808))).setCell ⟨gr, 33, none⟩ (.int .i64 9223372036854775807)) = W := ⟨_, rfl⟩
              rw [eW2] at r2 bb2
              have R2 := Lib.hid r2
              have B2 := Lib.hid bb2
              replace eW2 := Lib.hid eW2
              clear r2 bb2 hgh hcs ev2 hgl R1 B1
              go_upto_region 8 with (fail)
              (try rw [eW2.out])
              clear f0 f1 c0 q0 c1 q1 eW2 l2 hcs6
              have lk : (L.set 5 ⟨true, true, (-9223372036854775808), 9223372036854775807, 6, 4⟩).length = 6 := by rw [List.length_set]; exact hl6
              have kk' : OkT (L.set 5 ⟨true, true, (-9223372036854775808), 9223372036854775807, 6, 4⟩) := okT_set hok6.out 5 ⟨⟨by decide, by decide⟩, ⟨by decide, by decide⟩, ⟨by decide, by decide⟩, ⟨by decide, by decide⟩⟩
              replace kk' := Lib.hid kk'
              clear hnx hok6 hl6
              go_wp2_with fail
              go_roundw
              case rel => exact ⟨6, _, by go_num, by omega, lk, kk', R2, B2⟩
              case measure => simp [intOf]
            · have hcase := Lib.hid h0
              clear h0
              have s3 : ((h : Int) == 3) = false := by have := hcase.out; exact beq_eq_false_iff_ne.2 (by omega)
              have s3' : decide ((h : Int) = 3) = false := by have := hcase.out; exact decide_eq_false (by omega)
              have s4 : ((h : Int) == 4) = true := by have := hcase.out; simp; omega
              have s4' : decide ((h : Int) = 4) = true := by have := hcase.out; exact decide_eq_true (by omega)
              obtain ⟨g', cap', cur, ev, -, hgl, hgh, -, -, hcs, -⟩ := R1.out.open' (by rw [List.length_set]; omega)
              injection ev with ev1 ev2 ev3
              injection ev1 with ev1
              injection ev1 with ev1
              subst ev1; subst ev3
              have hcs6 : cur.size = 36 := hcs
              obtain ⟨f0, f1, ⟨c0, q0⟩, ⟨c1, q1⟩⟩ := set2k 32 (.int .i64 0) hgh (by omega)
              have r2 : Own fTp 31 ((W1.setCell ⟨gr, 32, none⟩ (.int .i64 0)).setCell ⟨gr, 33, none⟩ (.int .i64 1000)) gr (.slice (some ⟨gr, 0, none⟩) 6 6) (L.set 5 ⟨true, true, 0, 1000, 6, 4⟩) := by
                have r := R1.out.pair (j := 5) (hnx _) 0 1000
                rw [List.set_set] at r
                exact r
              have bb2 : Below gr w2 ((W1.setCell ⟨gr, 32, none⟩ (.int .i64 0)).setCell ⟨gr, 33, none⟩ (.int .i64 1000)) := B1.out.trans (((set_only W1 gr 32 _).trans (set_only _ gr _ _)).below (B := gr) (by omega) (fun k hk e => by omega))
              have l2 := build_longs 0 1000
              obtain ⟨W2, eW2⟩ : ∃ W, ((W1.setCell ⟨gr, 32, none⟩ (.int .i64 0)).setCell ⟨gr, 33, none⟩ (.int .i64 1000)) = W := ⟨_, rfl⟩
              rw [eW2] at r2 bb2
              have R2 := Lib.hid r2
              have B2 := Lib.hid bb2
              replace eW2 := Lib.hid eW2
              clear r2 bb2 hgh hcs ev2 hgl R1 B1
              go_upto_region 8 with (fail)
              (try rw [eW2.out])
              clear f0 f1 c0 q0 c1 q1 eW2 l2 hcs6
              have lk : (L.set 5 ⟨true, true, 0, 1000, 6, 4⟩).length = 6 := by rw [List.length_set]; exact hl6
              have kk' : OkT (L.set 5 ⟨true, true, 0, 1000, 6, 4⟩) := okT_set hok6.out 5 ⟨⟨by decide, by decide⟩, ⟨by decide, by decide⟩, ⟨by decide, by decide⟩, ⟨by decide, by decide⟩⟩
              replace kk' := Lib.hid kk'
              clear hnx hok6 hl6
              go_wp2_with fail
              go_roundw
              case rel => exact ⟨6, _, by go_num, by omega, lk, kk', R2, B2⟩
              case measure => simp [intOf]
            · have hcase := Lib.hid h0
              clear h0
              have s3 : ((h : Int) == 3) = false := by have := hcase.out; exact beq_eq_false_iff_ne.2 (by omega)
              have s3' : decide ((h : Int) = 3) = false := by have := hcase.out; exact decide_eq_false (by omega)
              have s4 : ((h : Int) == 4) = false := by have := hcase.out; exact beq_eq_false_iff_ne.2 (by omega)
              have s4' : decide ((h : Int) = 4) = false := by have := hcase.out; exact decide_eq_false (by omega)
              have s5 : ((h : Int) == 5) = true := by have := hcase.out; simp; omega
              have s5' : decide ((h : Int) = 5) = true := by have := hcase.out; exact decide_eq_true (by omega)
              obtain ⟨g', cap', cur, ev, -, hgl, hgh, -, -, hcs, -⟩ := R1.out.open' (by rw [List.length_set]; omega)
              injection ev with ev1 ev2 ev3
              injection ev1 with ev1
              injection ev1 with ev1
              subst ev1; subst ev3
              have hcs6 : cur.size = 36 := hcs
              obtain ⟨f0, f1, ⟨c0, q0⟩, ⟨c1, q1⟩⟩ := set2k 32 (.int .i64 9223372036854775807) hgh (by omega)
              have r2 : Own fTp 31 ((W1.setCell ⟨gr, 32, none⟩ (.int .i64 9223372036854775807)).setCell ⟨gr, 33, none⟩ (.int .i64 (-9223372036854775808))) gr (.slice (some ⟨gr, 0, none⟩) 6 6) (L.set 5 ⟨true, true, 9223372036854775807, (-9223372036854775808), 6, 4⟩) := by
                have r := R1.out.pair (j := 5) (hnx _) 9223372036854775807 (-9223372036854775808)
                rw [List.set_set] at r
                exact r
              have bb2 : Below gr w2 ((W1.setCell ⟨gr, 32, none⟩ (.int .i64 9223372036854775807)).setCell ⟨gr, 33, none⟩ (.int .i64 (-9223372036854775808))) := B1.out.trans (((set_only W1 gr 32 _).trans (set_only _ gr _ _)).below (B := gr) (by omega) (fun k hk e => by omega))
              have l2 := build_longs 9223372036854775807 (-9223372036854775808)
              obtain ⟨W2, eW2⟩ : ∃ W, ((W1.setCell ⟨gr, 32, none⟩ (.int .i64 9223372036854775807)).setCell ⟨gr, 33, none⟩ (.int .i64 (-9223372036854775808))) = W := ⟨_, rfl⟩
              rw [eW2] at r2 bb2
              have R2 := Lib.hid r2
              have B2 := Lib.hid bb2
              replace eW2 := Lib.hid eW2
              clear r2 bb2 hgh hcs ev2 hgl R1 B1
              go_upto_region 8 with (fail)
              (try rw [eW2.out])
              clear f0 f1 c0 q0 c1 q1 eW2 l2 hcs6
              have lk : (L.set 5 ⟨true, true, 9223372036854775807, (-9223372036854775808), 6, 4⟩).length = 6 := by rw [List.length_set]; exact hl6
              have kk' : OkT (L.set 5 ⟨true, true, 9223372036854775807, (-9223372036854775808), 6, 4⟩) := okT_set hok6.out 5 ⟨⟨by decide, by decide⟩, ⟨by decide, by decide⟩, ⟨by decide, by decide⟩, ⟨by decide, by decide⟩⟩
              replace kk' := Lib.hid kk'
              clear hnx hok6 hl6
              go_wp2_with fail
              go_roundw
              case rel => exact ⟨6, _, by go_num, by omega, lk, kk', R2, B2⟩
              case measure => simp [intOf]
            · have hcase := Lib.hid h0
              clear h0
              have s3 : ((h : Int) == 3) = false := by have := hcase.out; exact beq_eq_false_iff_ne.2 (by omega)
              have s3' : decide ((h : Int) = 3) = false := by have := hcase.out; exact decide_eq_false (by omega)
              have s4 : ((h : Int) == 4) = false := by have := hcase.out; exact beq_eq_false_iff_ne.2 (by omega)
              have s4' : decide ((h : Int) = 4) = false := by have := hcase.out; exact decide_eq_false (by omega)
              have s5 : ((h : Int) == 5) = false := by have := hcase.out; exact beq_eq_false_iff_ne.2 (by omega)
              have s5' : decide ((h : Int) = 5) = false := by have := hcase.out; exact decide_eq_false (by omega)
              have lk : (L.set 5 ⟨true, true, 5, 45, 6, 4⟩).length = 6 := by rw [List.length_set]; exact hl6
              have kk' : OkT (L.set 5 ⟨true, true, 5, 45, 6, 4⟩) := okT_set hok6.out 5 ⟨⟨by decide, by decide⟩, ⟨by decide, by decide⟩, ⟨by decide, by decide⟩, ⟨by decide, by decide⟩⟩
              replace kk' := Lib.hid kk'
              clear hnx hok6 hl6
              go_wp2_with fail
              go_roundw
              case rel => exact ⟨6, _, by go_num, by omega, lk, kk', R1, B1⟩
              case measure => simp [intOf]
        · have hRs := hR.out.slice
          rw [hl6] at hRs
          obtain ⟨A9, c9, e9, h9, -⟩ := hRs
          injection e9 with e91 e92 e93
          have hV : Hid (∀ W, Below wr.heap.size wr W → HV fTp W (some ⟨gr, 0, none⟩) 6 L) := Lib.hid (fun W b => by rw [e91]; exact h9.below b)
          have hBw := Lib.hid (hBW.out wr hB.out)
          have HE0 : Hid (∀ (W : World) (i s : Int), Below wr.heap.size wr W → I64 i → I64 s → Calls Try.prog 11 #[.agg #[.string (str [67, 76]), .slice (some ⟨a1, 0, none⟩) 3 3, .int .i64 5, .int .i64 0, .int .i64 1000, .int .i64 200, .int .i64 1, .int .i64 4, .int .i64 2, .int .i64 40, .slice (some ⟨a2, 0, none⟩) 3 3], .slice (some ⟨gr, 0, none⟩) 6 6, .int .i64 i, .int .i64 s] W fun e w' => e = .returned (.bool true) ∧ Below W.heap.size W w') := Lib.hid (fun W i s b hi hs => Held_any (P3 1 (some ⟨a1, 0, none⟩) (some ⟨a2, 0, none⟩)) (some ⟨gr, 0, none⟩) 6 6 L i s W (Lib.hid (hOkW.out W (below_top hBw.out b))) (Lib.hid (hV.out W b)) hok6 hi hs (by omega))
          have hP0 : Hid (∀ W, Below wr.heap.size wr W → W.heap[q]? = some (.cells #[.string (str [67, 76]), .slice (some ⟨a1, 0, none⟩) 3 3, .int .i64 5, .int .i64 0, .int .i64 1000, .int .i64 200, .int .i64 1, .int .i64 4, .int .i64 2, .int .i64 40, .slice (some ⟨a2, 0, none⟩) 3 3] 25 (0, 0))) := Lib.hid (fun W b => hblk1.out W (below_top hBw.out b))
          have Bz := Lib.hid (Below.refl wr.heap.size wr)
          clear e91 e92 e93 h9 hR hB hV hok6 hl6 hBW
          have d6 : decide ((i : Int) < 6) = false := decide_eq_false (by omega)
          have d6' : decide (i < 6) = false := decide_eq_false (by omega)
          replace h6 := Lib.hid h6
          clear hi
          rename World => wt
          go_wp2_with fail
          go_loopw [6] (fun iv wr => ∃ a : Nat, iv = .int .i64 ((a : Int) - 1) ∧ a ≤ 8 ∧ Hid (Below wt.heap.size wt wr)) (fun iv _ => (7 - intOf iv).toNat)
          case atStart => exact ⟨0, by go_num, by omega, Bz⟩
          case round =>
            clear Bz
            obtain ⟨a, rfl, ha, hBa⟩ := hrel
            by_cases hal : a < 8
            · have d1 : decide ((a : Int) - 1 < 7) = true := decide_eq_true (by omega)
              go_wp2_with fail
              go_loopw [7] (fun iv wr => ∃ s : Nat, iv = .int .i64 (s : Int) ∧ s ≤ 4 ∧ Hid (Below wt.heap.size wt wr)) (fun iv _ => (4 - intOf iv).toNat)
              case atStart => exact ⟨0, rfl, by omega, hBa⟩
              case round =>
                clear hBa
                obtain ⟨s, rfl, hs, hBs⟩ := hrel
                by_cases hsl : s < 4
                · have d2 : decide ((s : Int) < 4) = true := decide_eq_true (by omega)
                  obtain ⟨k0, k1, k2, k3, k4, k5, k6, k7, k8, k9, k10⟩ := row11 (hP0.out wr hBs.out)
                  have HC := Lib.hid (HE0.out wr ((a : Int) - 1) (s : Int) hBs.out ⟨by omega, by omega⟩ ⟨by omega, by omega⟩)
                  go_wp2_with fail
                  refine HC.out.mono ?_
                  rintro e wh ⟨rfl, bb⟩
                  have Bh := Lib.hid (below_top hBs.out bb)
                  clear k0 k1 k2 k3 k4 k5 k6 k7 k8 k9 k10 HC bb
                  go_wp2_with fail
                  go_roundw
                  case rel => exact ⟨s + 1, by go_num, by omega, Bh⟩
                  case measure => simp [intOf]; omega
                · have d2 : decide ((s : Int) < 4) = false := decide_eq_false (by omega)
                  have d2' : decide (s < 4) = false := decide_eq_false (by omega)
                  go_wp2_with fail
                  go_roundw
                  case rel => exact ⟨a + 1, by go_num, by omega, hBs⟩
                  case measure => simp [intOf]; omega
            · have d1 : decide ((a : Int) - 1 < 7) = false := decide_eq_false (by omega)
              have Bo := Lib.hid (below_top hBw.out hBa.out)
              go_wp2_with fail
              go_roundw
              case rel => exact ⟨h + 1, by go_num, by omega, Bo⟩
              case measure => simp [intOf]; omega
    · have dh : decide ((h : Int) < 6) = false := decide_eq_false (by omega)
      have HB := Lib.hid (PBest14_any none 0 0 [] 1 wr (Lib.hid (hv_nil wr none)) (Lib.hid (fun x hx => by cases hx)) (by omega) (by omega) (by omega))
      rw [show bestP [] 1 = (⟨0, 0, 0, 0, 0, 0⟩, false) from rfl, show Qt.val ⟨0, 0, 0, 0, 0, 0⟩ = .agg #[.int .i64 0, .int .i64 0, .int .i64 0, .int .i64 0, .int .i64 0, .int .i64 0] from rfl] at HB
      go_wp2_with fail
      refine HB.out.mono ?_
      clear HB
      rintro e w3 ⟨rfl, b3⟩
      have b34 := b3.alloc b3.size (.cells #[.int .i64 0, .int .i64 0, .int .i64 0, .int .i64 0, .int .i64 0, .int .i64 0] 37)
      obtain ⟨w4, e4⟩ : ∃ W, w3.alloc (.cells #[.int .i64 0, .int .i64 0, .int .i64 0, .int .i64 0, .int .i64 0, .int .i64 0] 37) = W := ⟨_, rfl⟩
      rw [e4] at b34
      have B4 := Lib.hid (below_top hBo.out b34)
      replace e4 := Lib.hid e4
      clear b3 b34
      go_upto_region 29 with (fail)
      rw [e4.out]
      clear e4
      have HQ := PQuotes_any (P3 1 (some ⟨a1, 0, none⟩) (some ⟨a2, 0, none⟩)) none 0 0 [] 0 1 w4 (Lib.hid (hOkW.out w4 B4.out)) (Lib.hid (hv_nil w4 none)) (Lib.hid (fun x hx => by cases hx)) ⟨by decide, by decide⟩ ⟨by decide, by decide⟩ (by omega)
      rw [show quotesQ (P3 1 (some ⟨a1, 0, none⟩) (some ⟨a2, 0, none⟩)) [] 0 1 = [] from by kernel_rfl] at HQ
      replace HQ : Hid (Calls Try.prog 13 #[.agg #[.string (str [67, 76]), .slice (some ⟨a1, 0, none⟩) 3 3, .int .i64 5, .int .i64 0, .int .i64 1000, .int .i64 200, .int .i64 1, .int .i64 4, .int .i64 2, .int .i64 40, .slice (some ⟨a2, 0, none⟩) 3 3], .slice none 0 0, .int .i64 0, .int .i64 1] w4 (AnsQ w4.heap.size w4 [])) := Lib.hid HQ
      obtain ⟨k0, k1, k2, k3, k4, k5, k6, k7, k8, k9, k10⟩ := row11 (hblk1.out w4 B4.out)
      have bz := build_none
      go_wp2_with fail
      refine HQ.out.mono ?_
      rintro e w5 ⟨A5, n5, c5, rfl, hv5, -, -, -, -, b5⟩
      obtain rfl : n5 = 0 := hv5.1.symm
      have B5 := Lib.hid (below_top B4.out b5)
      clear k0 k1 k2 k3 k4 k5 k6 k7 k8 k9 k10 hv5 b5 HQ
      have HA := PAll14_any P0 none 0 0 [] 0 1 w5 (Lib.hid (P0_ok w5)) (Lib.hid (hv_nil w5 none)) (Lib.hid (fun x hx => by cases hx)) ⟨by decide, by decide⟩ ⟨by decide, by decide⟩ (by omega)
      rw [show allQ P0 [] 0 1 = [] from by kernel_rfl] at HA
      replace HA : Hid (Calls Try.prog 14 #[.agg #[.string (str []), .slice none 0 0, .int .i64 0, .int .i64 0, .int .i64 0, .int .i64 0, .int .i64 0, .int .i64 0, .int .i64 0, .int .i64 0, .slice none 0 0], .slice none 0 0, .int .i64 0, .int .i64 1] w5 (AnsQ w5.heap.size w5 [])) := Lib.hid HA
      go_wp2_with fail
      refine HA.out.mono ?_
      rintro e w6 ⟨A6, n6, c6, rfl, hv6, -, -, -, -, b6⟩
      obtain rfl : n6 = 0 := hv6.1.symm
      have B6 := Lib.hid (below_top B5.out b6)
      clear hv6 b6 HA bz
      go_wp2_with fail
      refine (Known_any w6).mono ?_
      rintro e w7 ⟨rfl, b7⟩
      have B7 := Lib.hid (below_top B6.out b7)
      clear b7
      go_wp2_with fail
      go_ret
      exact ⟨rfl, below_top hB1.out B7.out⟩
end Go.Proofs.Ytdeofifidjbolaa
