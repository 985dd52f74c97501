/-
  CommandNumbers, its walk.
-/
import Derived.Test.YtdbaphmhfoajgaaCmdLaws
import Derived.Deep.RegionHeld3
import Derived.Deep.CutRange
import Derived.Deep.CutBlock
import Derived.RegionTactic
namespace Go.Proofs.Ytdbaphmhfoajgaa
open Go.RowKit
set_option linter.unusedVariables false
set_option linter.unusedSimpArgs false

theorem ns_at {W : World} {lb m : Nat} (h : W.heap[lb]? = some (.cells #[.int .i64 (-9223372036854775808), .int .i64 (-2000001), .int .i64 (-2000000), .int .i64 (-1), .int .i64 (0), .int .i64 (1), .int .i64 (2), .int .i64 (3), .int .i64 (4), .int .i64 (255), .int .i64 (256), .int .i64 (1000000), .int .i64 (1000001), .int .i64 (2000000), .int .i64 (2000001), .int .i64 (1099511627776), .int .i64 (1099511627777), .int .i64 (9223372036854775807)] 2 (0, 0))) (hm : m < 18) : ∃ v : Int, W.cell? ⟨lb, m, none⟩ = some (.int .i64 v) ∧ -9223372036854775808 ≤ v ∧ v ≤ 9223372036854775807 := by
  have h0 : m = 0 ∨ m = 1 ∨ m = 2 ∨ m = 3 ∨ m = 4 ∨ m = 5 ∨ m = 6 ∨ m = 7 ∨ m = 8 ∨ m = 9 ∨ m = 10 ∨ m = 11 ∨ m = 12 ∨ m = 13 ∨ m = 14 ∨ m = 15 ∨ m = 16 ∨ m = 17 := by omega
  rcases h0 with rfl | rfl | rfl | rfl | rfl | rfl | rfl | rfl | rfl | rfl | rfl | rfl | rfl | rfl | rfl | rfl | rfl | rfl
  · exact ⟨-9223372036854775808, by rw [Lib.cell_of_heap h]; rfl, by decide, by decide⟩
  · exact ⟨-2000001, by rw [Lib.cell_of_heap h]; rfl, by decide, by decide⟩
  · exact ⟨-2000000, by rw [Lib.cell_of_heap h]; rfl, by decide, by decide⟩
  · exact ⟨-1, by rw [Lib.cell_of_heap h]; rfl, by decide, by decide⟩
  · exact ⟨0, by rw [Lib.cell_of_heap h]; rfl, by decide, by decide⟩
  · exact ⟨1, by rw [Lib.cell_of_heap h]; rfl, by decide, by decide⟩
  · exact ⟨2, by rw [Lib.cell_of_heap h]; rfl, by decide, by decide⟩
  · exact ⟨3, by rw [Lib.cell_of_heap h]; rfl, by decide, by decide⟩
  · exact ⟨4, by rw [Lib.cell_of_heap h]; rfl, by decide, by decide⟩
  · exact ⟨255, by rw [Lib.cell_of_heap h]; rfl, by decide, by decide⟩
  · exact ⟨256, by rw [Lib.cell_of_heap h]; rfl, by decide, by decide⟩
  · exact ⟨1000000, by rw [Lib.cell_of_heap h]; rfl, by decide, by decide⟩
  · exact ⟨1000001, by rw [Lib.cell_of_heap h]; rfl, by decide, by decide⟩
  · exact ⟨2000000, by rw [Lib.cell_of_heap h]; rfl, by decide, by decide⟩
  · exact ⟨2000001, by rw [Lib.cell_of_heap h]; rfl, by decide, by decide⟩
  · exact ⟨1099511627776, by rw [Lib.cell_of_heap h]; rfl, by decide, by decide⟩
  · exact ⟨1099511627777, by rw [Lib.cell_of_heap h]; rfl, by decide, by decide⟩
  · exact ⟨9223372036854775807, by rw [Lib.cell_of_heap h]; rfl, by decide, by decide⟩
/-- Behind the copy of the good command: some right-sized command in block cb, the good one, the list of numbers. -/
structure NSy (y : C) : Prop where
  k : I64 y.k
  i : I64 y.i
  n : I64 y.n
  s : I64 y.s
  p : I64 y.p
  q : I64 y.q
  l : I64 y.l
  t : I64 y.t
  S : y.S.length ≤ 60
def NSt (w wx : World) (gb lb cb : Nat) : Prop := ∃ y : C, ((-9223372036854775808 ≤ y.k ∧ y.k ≤ 9223372036854775807) ∧ (-9223372036854775808 ≤ y.i ∧ y.i ≤ 9223372036854775807) ∧ (-9223372036854775808 ≤ y.n ∧ y.n ≤ 9223372036854775807) ∧ (-9223372036854775808 ≤ y.s ∧ y.s ≤ 9223372036854775807) ∧ (-9223372036854775808 ≤ y.p ∧ y.p ≤ 9223372036854775807) ∧ (-9223372036854775808 ≤ y.q ∧ y.q ≤ 9223372036854775807) ∧ (-9223372036854775808 ≤ y.l ∧ y.l ≤ 9223372036854775807) ∧ (-9223372036854775808 ≤ y.t ∧ y.t ≤ 9223372036854775807) ∧ y.S.length ≤ 60) ∧ wx.heap[cb]? = some (.cells y.cells 23 (0, 0)) ∧ Below w.heap.size w wx ∧ wx.heap[gb]? = some (.cells #[.int .i64 1, .int .i64 1, .int .i64 2, .int .i64 1, .int .i64 5, .int .i64 3, .int .i64 3, .int .i64 3, .string (str [195, 169])] 23 (0, 0)) ∧ wx.heap[lb]? = some (.cells #[.int .i64 (-9223372036854775808), .int .i64 (-2000001), .int .i64 (-2000000), .int .i64 (-1), .int .i64 (0), .int .i64 (1), .int .i64 (2), .int .i64 (3), .int .i64 (4), .int .i64 (255), .int .i64 (256), .int .i64 (1000000), .int .i64 (1000001), .int .i64 (2000000), .int .i64 (2000001), .int .i64 (1099511627776), .int .i64 (1099511627777), .int .i64 (9223372036854775807)] 2 (0, 0)) ∧ w.heap.size ≤ cb ∧ gb ≠ cb ∧ lb ≠ cb
theorem NSt.alloc {w wx : World} {gb lb cb : Nat} (h : NSt w wx gb lb cb) (o : Obj) : NSt w (wx.alloc o) gb lb cb := by
  obtain ⟨y, hy, hY, hB, hG, hL, hw, hg, hl⟩ := h
  refine ⟨y, hy, (heap_alloc_old _ _ (Array.getElem?_eq_some_iff.1 hY).1).trans hY, hB.alloc hB.size _, (heap_alloc_old _ _ (Array.getElem?_eq_some_iff.1 hG).1).trans hG, (heap_alloc_old _ _ (Array.getElem?_eq_some_iff.1 hL).1).trans hL, hw, hg, hl⟩
theorem Src.short {w : World} {A : Option Addr} {n cap : Nat} {l : List UInt8} (h : Src w A n cap l) (m : Nat) (hm : m ≤ n) : Src w A m cap (l.take m) :=
  ⟨h.hb.take hm, h.at', by have := h.ncap; omega, h.cmax, by have := h.nmax; omega, h.none0⟩
theorem src_one {w : World} {base b : Nat} {x : UInt8} (h : RB w base (.slice (some ⟨b, 0, none⟩) 1 1) [x]) : Src w (some ⟨b, 0, none⟩) 1 1 [x] := by
  obtain ⟨A, n, cap, e, en, S⟩ := h.src (by simp)
  injection e with e1 e2 e3
  subst e1; subst e2; subst e3
  exact S
theorem src_none (w : World) : Src w none 0 0 [] := ⟨⟨rfl, fun h => absurd h (by omega)⟩, (fun _ e => by cases e), (by omega), (by omega), (by omega), fun _ => rfl⟩
theorem wrap_in {x : Int} (h1 : -9223372036854775808 ≤ x) (h2 : x ≤ 9223372036854775807) : IntKind.i64.wrap x = x := by rw [IntKind.wrap_i64]; omega
theorem rb_one {w : World} {base b : Nat} (h : RB w base (.slice (some ⟨b, 0, none⟩) 1 1) [0]) : HB w (some ⟨b, 0, none⟩) 1 [0] := by
  obtain ⟨A, cap, e, H, -⟩ := h.holds
  injection e with e1 e2 e3
  subst e1
  exact H
theorem NSt.fld {w wx : World} {gb lb cb : Nat} (h : NSt w wx gb lb cb) (f : Nat) (v : Value) (hf : f < 8 ∧ (∃ x : Int, v = .int .i64 x ∧ -9223372036854775808 ≤ x ∧ x ≤ 9223372036854775807) ∨ f = 8 ∧ (∃ S : List UInt8, v = .string (str S) ∧ S.length ≤ 60)) : NSt w (wx.setCell ⟨cb, f, none⟩ v) gb lb cb := by
  obtain ⟨⟨k, i, n, s, p, q, l, t, S⟩, ⟨h0, h1, h2, h3, h4, h5, h6, h7, h8⟩, hY, hB, hG, hL, hw, hg, hl⟩ := h
  have hB' : Below w.heap.size w (wx.setCell ⟨cb, f, none⟩ v) := hB.setCell (p := ⟨cb, f, none⟩) (show w.heap.size ≤ cb from hw) v
  have hG' := (heap_setCell_other wx ⟨cb, f, none⟩ gb v hg).trans hG
  have hL' := (heap_setCell_other wx ⟨cb, f, none⟩ lb v hl).trans hL
  have hY' := heap_setCell_same wx cb f _ _ v hY
  rcases hf with ⟨hf, x, rfl, hx⟩ | ⟨rfl, X, rfl, hX⟩
  · have h0 : f = 0 ∨ f = 1 ∨ f = 2 ∨ f = 3 ∨ f = 4 ∨ f = 5 ∨ f = 6 ∨ f = 7 := by omega
    rcases h0 with rfl | rfl | rfl | rfl | rfl | rfl | rfl | rfl
    · exact ⟨⟨x, i, n, s, p, q, l, t, S⟩, by refine ⟨?_, ?_, ?_, ?_, ?_, ?_, ?_, ?_, ?_⟩ <;> assumption, hY', hB', hG', hL', hw, hg, hl⟩
    · exact ⟨⟨k, x, n, s, p, q, l, t, S⟩, by refine ⟨?_, ?_, ?_, ?_, ?_, ?_, ?_, ?_, ?_⟩ <;> assumption, hY', hB', hG', hL', hw, hg, hl⟩
    · exact ⟨⟨k, i, x, s, p, q, l, t, S⟩, by refine ⟨?_, ?_, ?_, ?_, ?_, ?_, ?_, ?_, ?_⟩ <;> assumption, hY', hB', hG', hL', hw, hg, hl⟩
    · exact ⟨⟨k, i, n, x, p, q, l, t, S⟩, by refine ⟨?_, ?_, ?_, ?_, ?_, ?_, ?_, ?_, ?_⟩ <;> assumption, hY', hB', hG', hL', hw, hg, hl⟩
    · exact ⟨⟨k, i, n, s, x, q, l, t, S⟩, by refine ⟨?_, ?_, ?_, ?_, ?_, ?_, ?_, ?_, ?_⟩ <;> assumption, hY', hB', hG', hL', hw, hg, hl⟩
    · exact ⟨⟨k, i, n, s, p, x, l, t, S⟩, by refine ⟨?_, ?_, ?_, ?_, ?_, ?_, ?_, ?_, ?_⟩ <;> assumption, hY', hB', hG', hL', hw, hg, hl⟩
    · exact ⟨⟨k, i, n, s, p, q, x, t, S⟩, by refine ⟨?_, ?_, ?_, ?_, ?_, ?_, ?_, ?_, ?_⟩ <;> assumption, hY', hB', hG', hL', hw, hg, hl⟩
    · exact ⟨⟨k, i, n, s, p, q, l, x, S⟩, by refine ⟨?_, ?_, ?_, ?_, ?_, ?_, ?_, ?_, ?_⟩ <;> assumption, hY', hB', hG', hL', hw, hg, hl⟩
  · exact ⟨⟨k, i, n, s, p, q, l, t, X⟩, by refine ⟨?_, ?_, ?_, ?_, ?_, ?_, ?_, ?_, ?_⟩ <;> assumption, hY', hB', hG', hL', hw, hg, hl⟩
set_option maxRecDepth 100000 in
set_option maxHeartbeats 40000000 in
theorem Numbers_walk (w : World) :
    Calls Try.prog 3 #[] w fun e w' => e = .returned (.bool true) ∧ Below w.heap.size w w' := by
  go_enter Try.func3, Try.ntmps3
  go_wp2_with fail
  obtain ⟨w0, ew⟩ : ∃ W, w.alloc (.cells #[.int .i64 1, .int .i64 1, .int .i64 2, .int .i64 1, .int .i64 5, .int .i64 3, .int .i64 3, .int .i64 3, .string { data := #[195, 169] }] 23) = W := ⟨_, rfl⟩
  obtain ⟨gb, egb⟩ : ∃ b, w.heap.size = b := ⟨_, rfl⟩
  have B0 : Hid (Below w.heap.size w w0) := Lib.hid (by rw [← ew]; exact (Below.refl _ w).alloc (Nat.le_refl _) _)
  have C0 : Hid (w0.heap[gb]? = some (.cells #[.int .i64 1, .int .i64 1, .int .i64 2, .int .i64 1, .int .i64 5, .int .i64 3, .int .i64 3, .int .i64 3, .string (str [195, 169])] 23 (0, 0))) := Lib.hid (by rw [← ew, ← egb]; exact heap_alloc_new w _)
  rw [ew, egb]
  clear ew egb
  go_loopw [2] (fun a wr => ∃ j : Nat, a = .int .i64 j ∧ j ≤ 6 ∧ Hid (Below w.heap.size w wr) ∧ Hid (wr.heap[gb]? = some (.cells #[.int .i64 1, .int .i64 1, .int .i64 2, .int .i64 1, .int .i64 5, .int .i64 3, .int .i64 3, .int .i64 3, .string (str [195, 169])] 23 (0, 0)))) (fun a _ => (6 - intOf a).toNat)
  case atStart => exact ⟨0, rfl, by omega, B0, C0⟩
  case round =>
    obtain ⟨j, rfl, hj, hB, hC⟩ := hrel
    clear B0 C0
    by_cases hlt : j < 6
    · have d1 : decide ((j : Int) < 6) = true := decide_eq_true (by omega)
      go_wp2_with fail
      go_loopw [3] (fun a wr2 => ∃ h : Nat, a = .int .i64 h ∧ h ≤ 8 ∧ Hid (Below w.heap.size w wr2) ∧ Hid (wr2.heap[gb]? = some (.cells #[.int .i64 1, .int .i64 1, .int .i64 2, .int .i64 1, .int .i64 5, .int .i64 3, .int .i64 3, .int .i64 3, .string (str [195, 169])] 23 (0, 0)))) (fun a _ => (8 - intOf a).toNat)
      case atStart => exact ⟨0, rfl, by omega, hB, hC⟩
      case round =>
        obtain ⟨h, rfl, hh, hB2, hC2⟩ := hrel
        clear hB hC
        by_cases hlt2 : h < 8
        · have d2 : decide ((h : Int) < 8) = true := decide_eq_true (by omega)
          go_wp2_with fail
          obtain ⟨w2, ew⟩ : ∃ W, wr.alloc (.cells #[.int .i64 (-9223372036854775808), .int .i64 (-2000001), .int .i64 (-2000000), .int .i64 (-1), .int .i64 (0), .int .i64 (1), .int .i64 (2), .int .i64 (3), .int .i64 (4), .int .i64 (255), .int .i64 (256), .int .i64 (1000000), .int .i64 (1000001), .int .i64 (2000000), .int .i64 (2000001), .int .i64 (1099511627776), .int .i64 (1099511627777), .int .i64 (9223372036854775807)] 2) = W := ⟨_, rfl⟩
          obtain ⟨lb, elb⟩ : ∃ b, wr.heap.size = b := ⟨_, rfl⟩
          have B2 : Hid (Below w.heap.size w w2) := Lib.hid (by rw [← ew]; exact hB2.out.alloc hB2.out.size _)
          have C2 : Hid (w2.heap[gb]? = some (.cells #[.int .i64 1, .int .i64 1, .int .i64 2, .int .i64 1, .int .i64 5, .int .i64 3, .int .i64 3, .int .i64 3, .string (str [195, 169])] 23 (0, 0))) := Lib.hid (by rw [← ew]; exact (heap_alloc_old _ _ (Array.getElem?_eq_some_iff.1 hC2.out).1).trans hC2.out)
          have L2 : Hid (w2.heap[lb]? = some (.cells #[.int .i64 (-9223372036854775808), .int .i64 (-2000001), .int .i64 (-2000000), .int .i64 (-1), .int .i64 (0), .int .i64 (1), .int .i64 (2), .int .i64 (3), .int .i64 (4), .int .i64 (255), .int .i64 (256), .int .i64 (1000000), .int .i64 (1000001), .int .i64 (2000000), .int .i64 (2000001), .int .i64 (1099511627776), .int .i64 (1099511627777), .int .i64 (9223372036854775807)] 2 (0, 0))) := Lib.hid (by rw [← ew, ← elb]; exact heap_alloc_new wr _)
          rw [ew, elb]
          clear ew elb hB2 hC2
          go_loopw [30] (fun a wr3 => ∃ m : Nat, a = .int .i64 m ∧ m ≤ 18 ∧ Hid (Below w.heap.size w wr3) ∧ Hid (wr3.heap[gb]? = some (.cells #[.int .i64 1, .int .i64 1, .int .i64 2, .int .i64 1, .int .i64 5, .int .i64 3, .int .i64 3, .int .i64 3, .string (str [195, 169])] 23 (0, 0))) ∧ Hid (wr3.heap[lb]? = some (.cells #[.int .i64 (-9223372036854775808), .int .i64 (-2000001), .int .i64 (-2000000), .int .i64 (-1), .int .i64 (0), .int .i64 (1), .int .i64 (2), .int .i64 (3), .int .i64 (4), .int .i64 (255), .int .i64 (256), .int .i64 (1000000), .int .i64 (1000001), .int .i64 (2000000), .int .i64 (2000001), .int .i64 (1099511627776), .int .i64 (1099511627777), .int .i64 (9223372036854775807)] 2 (0, 0)))) (fun a _ => (18 - intOf a).toNat)
          case atStart => exact ⟨0, rfl, by omega, B2, C2, L2⟩
          case round =>
            obtain ⟨m, rfl, hm, hB3, hC3, hL3⟩ := hrel
            clear B2 C2 L2
            by_cases hlt3 : m < 18
            · have d3 : decide ((m : Int) < 18) = true := decide_eq_true (by omega)
              obtain ⟨v, hv, v1, v2⟩ := ns_at hL3.out hlt3
              have q1 : (0 : Int) ≤ (m : Int) := by omega
              have q2 : (m : Int) < 18 := by omega
              obtain ⟨m0, m1, m2, m3, m4, m5, m6, m7, m8⟩ := cmd_at hC3.out
              go_upto_region 12 with (fail)
              obtain ⟨w5, ew⟩ : ∃ W, wr.alloc (.cells #[.int .i64 1, .int .i64 1, .int .i64 2, .int .i64 1, .int .i64 5, .int .i64 3, .int .i64 3, .int .i64 3, .string (str [195, 169])] 23) = W := ⟨_, rfl⟩
              obtain ⟨cb, ecb⟩ : ∃ b, wr.heap.size = b := ⟨_, rfl⟩
              have N5 : Hid (NSt w w5 gb lb cb) := Lib.hid (by
                refine ⟨⟨1, 1, 2, 1, 5, 3, 3, 3, [195, 169]⟩, ⟨by decide, by decide, by decide, by decide, by decide, by decide, by decide, by decide, by decide⟩, ?_, ?_, ?_, ?_, ?_, ?_, ?_⟩
                · rw [← ew, ← ecb]; exact heap_alloc_new wr _
                · rw [← ew]; exact hB3.out.alloc hB3.out.size _
                · rw [← ew]; exact (heap_alloc_old _ _ (Array.getElem?_eq_some_iff.1 hC3.out).1).trans hC3.out
                · rw [← ew]; exact (heap_alloc_old _ _ (Array.getElem?_eq_some_iff.1 hL3.out).1).trans hL3.out
                · rw [← ecb]; exact hB3.out.size
                · have := (Array.getElem?_eq_some_iff.1 hC3.out).1; omega
                · have := (Array.getElem?_eq_some_iff.1 hL3.out).1; omega)
              rw [ew, ecb]
              clear ew ecb hB3 hC3 hL3 m0 m1 m2 m3 m4 m5 m6 m7 m8 hv
              obtain ⟨⟨yk, yi, yn, ys, yp, yq, yl, yt, yS⟩, -, Y5, -⟩ := N5.out
              obtain ⟨fr0, fr1, fr2, fr3, fr4, fr5, fr6, fr7, fr8, m0, m1, m2, m3, m4, m5, m6, m7, m8⟩ := block9 Y5
              clear Y5
              go_upto_region 13 with (fail)
              have N6 := Lib.hid (N5.out.fld 0 (.int .i64 (j : Int)) (Or.inl ⟨by omega, (j : Int), rfl, by omega, by omega⟩))
              obtain ⟨w6, ew⟩ : ∃ W, w5.setCell ⟨cb, 0, none⟩ (.int .i64 (j : Int)) = W := ⟨_, rfl⟩
              rw [ew] at N6 ⊢
              clear ew N5 fr0 fr1 fr2 fr3 fr4 fr5 fr6 fr7 fr8 m0 m1 m2 m3 m4 m5 m6 m7 m8
              go_upto_block 6 with (fail)
              go_cut [6] from 38 to 73 (fun c wx => c = .pointer (some ⟨cb, 0, none⟩) ∧ Hid (NSt w wx gb lb cb))
              case first =>
                obtain ⟨⟨yk, yi, yn, ys, yp, yq, yl, yt, yS⟩, -, Y6, -⟩ := N6.out
                obtain ⟨fr0, fr1, fr2, fr3, fr4, fr5, fr6, fr7, fr8, m0, m1, m2, m3, m4, m5, m6, m7, m8⟩ := block9 Y6
                clear Y6
                have HW := fun W => Within_any v 3 W (by omega) v1 v2
                have ha := withinN_le v 3
                obtain ⟨a, ea⟩ : ∃ a, withinN v 3 = a := ⟨_, rfl⟩
                rw [ea] at ha
                simp only [ea] at HW
                clear ea
                replace HW := Lib.hid HW
                have h07 : h = 0 ∨ h = 1 ∨ h = 2 ∨ h = 3 ∨ h = 4 ∨ h = 5 ∨ h = 6 ∨ h = 7 := by omega
                clear d2 hh hlt2
                rcases h07 with rfl | rfl | rfl | rfl | rfl | rfl | rfl | rfl
                · go_wp2_with fail
                  go_meet
                  exact ⟨rfl, Lib.hid (N6.out.fld 1 _ (Or.inl ⟨by omega, v, rfl, v1, v2⟩))⟩
                · go_wp2_with fail
                  go_meet
                  exact ⟨rfl, Lib.hid (N6.out.fld 2 _ (Or.inl ⟨by omega, v, rfl, v1, v2⟩))⟩
                · go_wp2_with fail
                  go_meet
                  exact ⟨rfl, Lib.hid (N6.out.fld 3 _ (Or.inl ⟨by omega, v, rfl, v1, v2⟩))⟩
                · go_wp2_with fail
                  go_meet
                  exact ⟨rfl, Lib.hid (N6.out.fld 4 _ (Or.inl ⟨by omega, v, rfl, v1, v2⟩))⟩
                · go_wp2_with fail
                  go_meet
                  exact ⟨rfl, Lib.hid (N6.out.fld 5 _ (Or.inl ⟨by omega, v, rfl, v1, v2⟩))⟩
                · go_wp2_with fail
                  go_meet
                  exact ⟨rfl, Lib.hid (N6.out.fld 6 _ (Or.inl ⟨by omega, v, rfl, v1, v2⟩))⟩
                · go_wp2_with fail
                  go_meet
                  exact ⟨rfl, Lib.hid (N6.out.fld 7 _ (Or.inl ⟨by omega, v, rfl, v1, v2⟩))⟩
                · clear fr0 fr1 fr2 fr3 fr4 fr5 fr6 fr7 fr8 m0 m1 m2 m3 m4 m5 m6 m7 m8
                  go_wp2_with fail
                  have N7 := Lib.hid (N6.out.alloc (.cells #[.string { data := #[] }, .string { data := #[97] }, .string { data := #[255] }, .string { data := #[97, 98, 99, 100, 101, 102, 103, 104, 105, 106, 107, 108, 109] }] 9))
                  have T7 := heap_alloc_new w6 (.cells #[.string { data := #[] }, .string { data := #[97] }, .string { data := #[255] }, .string { data := #[97, 98, 99, 100, 101, 102, 103, 104, 105, 106, 107, 108, 109] }] 9)
                  obtain ⟨w7, ew⟩ : ∃ W, w6.alloc (.cells #[.string { data := #[] }, .string { data := #[97] }, .string { data := #[255] }, .string { data := #[97, 98, 99, 100, 101, 102, 103, 104, 105, 106, 107, 108, 109] }] 9) = W := ⟨_, rfl⟩
                  obtain ⟨tb, etb⟩ : ∃ b, w6.heap.size = b := ⟨_, rfl⟩
                  rw [ew, etb] at T7
                  rw [ew] at N7
                  rw [ew, etb]
                  clear ew etb N6
                  obtain ⟨⟨yk, yi, yn, ys, yp, yq, yl, yt, yS⟩, -, Y6, -⟩ := N7.out
                  obtain ⟨fr0, fr1, fr2, fr3, fr4, fr5, fr6, fr7, fr8, m0, m1, m2, m3, m4, m5, m6, m7, m8⟩ := block9 Y6
                  clear Y6
                  have c0 : w7.cell? ⟨tb, 0, none⟩ = some (.string (str [])) := by rw [Lib.cell_of_heap T7]; rfl
                  have c1 : w7.cell? ⟨tb, 1, none⟩ = some (.string (str [97])) := by rw [Lib.cell_of_heap T7]; rfl
                  have c2 : w7.cell? ⟨tb, 2, none⟩ = some (.string (str [255])) := by rw [Lib.cell_of_heap T7]; rfl
                  have c3 : w7.cell? ⟨tb, 3, none⟩ = some (.string (str [97, 98, 99, 100, 101, 102, 103, 104, 105, 106, 107, 108, 109])) := by rw [Lib.cell_of_heap T7]; rfl
                  clear T7
                  obtain ⟨X, hc, hX⟩ : ∃ X : List UInt8, w7.cell? ⟨tb, a, none⟩ = some (.string (str X)) ∧ X.length ≤ 60 := by
                    have h4 : a = 0 ∨ a = 1 ∨ a = 2 ∨ a = 3 := by omega
                    rcases h4 with rfl | rfl | rfl | rfl
                    · exact ⟨_, c0, by decide⟩
                    · exact ⟨_, c1, by decide⟩
                    · exact ⟨_, c2, by decide⟩
                    · exact ⟨_, c3, by decide⟩
                  clear c0 c1 c2 c3
                  have a1 : (0 : Int) ≤ (a : Int) := by omega
                  have a2 : (a : Int) < 4 := by omega
                  have a3 : a < 4 := by omega
                  refine (HW.out _).mono ?_
                  rintro e wq ⟨rfl, rfl⟩
                  go_wp2_with fail
                  go_meet
                  exact ⟨rfl, Lib.hid (N7.out.fld 8 _ (Or.inr ⟨rfl, X, rfl, hX⟩))⟩
              case rest =>
                obtain ⟨rfl, N7⟩ := hcut
                obtain ⟨⟨yk, yi, yn, ys, yp, yq, yl, yt, yS⟩, ⟨kb, ib, nb, sb, pb, qb, lb', tb', Sb⟩, Y7, B7, G7, L7, hwc, hgc, hlc⟩ := N7.out
                have OKy : C.Ok ⟨yk, yi, yn, ys, yp, yq, yl, yt, yS⟩ := ⟨kb, ib, nb, sb, pb, qb, lb', tb', fun _ => Nat.le_trans Sb (by omega)⟩
                clear N7
                have hp := fun W => PEncode_any ⟨yk, yi, yn, ys, yp, yq, yl, yt, yS⟩ W OKy
                have hr := fun W => REncode_any ⟨yk, yi, yn, ys, yp, yq, yl, yt, yS⟩ W OKy
                have hXl := encR_len ⟨yk, yi, yn, ys, yp, yq, yl, yt, yS⟩
                have HP := fun W => PRight_any ⟨yk, yi, yn, ys, yp, yq, yl, yt, yS⟩ W (fun _ => Nat.le_trans Sb (by omega))
                have HRR := fun W => RRight_any ⟨yk, yi, yn, ys, yp, yq, yl, yt, yS⟩ W (fun _ => Nat.le_trans Sb (by omega))
                obtain ⟨X, eX⟩ : ∃ X, encR ⟨yk, yi, yn, ys, yp, yq, yl, yt, yS⟩ = X := ⟨_, rfl⟩
                obtain ⟨E, eE⟩ : ∃ E, C.right ⟨yk, yi, yn, ys, yp, yq, yl, yt, yS⟩ = E := ⟨_, rfl⟩
                rw [eX] at hXl
                simp only [eX, eE] at hp hr HP HRR
                clear eX eE OKy
                rw [show (C.val ⟨yk, yi, yn, ys, yp, yq, yl, yt, yS⟩) = .agg #[.int .i64 yk, .int .i64 yi, .int .i64 yn, .int .i64 ys, .int .i64 yp, .int .i64 yq, .int .i64 yl, .int .i64 yt, .string (str yS)] from rfl] at hp hr HP HRR
                replace hp := Lib.hid hp
                replace hr := Lib.hid hr
                replace HP := Lib.hid HP
                replace HRR := Lib.hid HRR
                obtain ⟨j0, j1, j2, j3, j4, j5, j6, j7, j8⟩ := cmd_at Y7
                replace Y7 := Lib.hid Y7
                replace B7 := Lib.hid B7
                replace G7 := Lib.hid G7
                replace L7 := Lib.hid L7
                clear kb ib nb sb pb qb lb' tb' Sb
                go_wp2_with fail
                refine (hp.out _).mono ?_
                rintro e w8 ⟨r1, rfl, R1, b8⟩
                have C8 := Lib.hid ((b8.block cb (Array.getElem?_eq_some_iff.1 Y7.out).1).trans Y7.out)
                have G8 := Lib.hid ((b8.block gb (Array.getElem?_eq_some_iff.1 G7.out).1).trans G7.out)
                have L8 := Lib.hid ((b8.block lb (Array.getElem?_eq_some_iff.1 L7.out).1).trans L7.out)
                have B8 := Lib.hid (B7.out.trans (b8.mono B7.out.size))
                clear Y7 G7 L7 B7 b8 hp j0 j1 j2 j3 j4 j5 j6 j7 j8
                obtain ⟨A1, n1, c1, rfl, en1, S1⟩ := R1.src (by omega)
                replace en1 := Lib.hid en1
                replace S1 := Lib.hid S1
                clear R1
                obtain ⟨j0, j1, j2, j3, j4, j5, j6, j7, j8⟩ := cmd_at C8.out
                go_wp2_with fail
                refine (hr.out _).mono ?_
                rintro e w9 ⟨r2, rfl, R2, b9⟩
                have C9 := Lib.hid ((b9.block cb (Array.getElem?_eq_some_iff.1 C8.out).1).trans C8.out)
                have G9 := Lib.hid ((b9.block gb (Array.getElem?_eq_some_iff.1 G8.out).1).trans G8.out)
                have L9 := Lib.hid ((b9.block lb (Array.getElem?_eq_some_iff.1 L8.out).1).trans L8.out)
                have B9 := Lib.hid (B8.out.trans (b9.mono B8.out.size))
                replace S1 := Lib.hid (S1.out.below b9)
                clear C8 G8 L8 B8 b9 hr j0 j1 j2 j3 j4 j5 j6 j7 j8
                obtain ⟨A2, n2, c2, rfl, en2, S2⟩ := R2.src (by omega)
                replace en2 := Lib.hid en2
                replace S2 := Lib.hid S2
                clear R2
                have hof : Hid (∀ W : World, Below w9.heap.size w9 W → (fun W : World => W.cell? ⟨cb, 0, none⟩ = some (.int .i64 yk) ∧ W.cell? ⟨cb, 1, none⟩ = some (.int .i64 yi) ∧ W.cell? ⟨cb, 2, none⟩ = some (.int .i64 yn) ∧ W.cell? ⟨cb, 3, none⟩ = some (.int .i64 ys) ∧ W.cell? ⟨cb, 4, none⟩ = some (.int .i64 yp) ∧ W.cell? ⟨cb, 5, none⟩ = some (.int .i64 yq) ∧ W.cell? ⟨cb, 6, none⟩ = some (.int .i64 yl) ∧ W.cell? ⟨cb, 7, none⟩ = some (.int .i64 yt) ∧ W.cell? ⟨cb, 8, none⟩ = some (.string (str yS)) ∧ (convert 27 9 (.slice A1 n1 c1)).run Try.prog W = .ok (.string (str X)) W ∧ (convert 27 9 (.slice A2 n2 c2)).run Try.prog W = .ok (.string (str X)) W ∧ Below w9.heap.size w9 W) W) := Lib.hid (fun W b => by
                  obtain ⟨j0, j1, j2, j3, j4, j5, j6, j7, j8⟩ := cmd_at ((b.block cb (Array.getElem?_eq_some_iff.1 C9.out).1).trans C9.out)
                  exact ⟨j0, j1, j2, j3, j4, j5, j6, j7, j8, (S1.out.below b).str, (S2.out.below b).str, b⟩)
                have hz0 := hof.out _ ((Below.refl w9.heap.size w9).drew)
                (try simp only at hz0)
                have i1 : ((E : Int) != (E : Int)) = false := by simp
                obtain ⟨i0, hi0, hz00, hz01, hz02⟩ := info_parts info_u8
                go_upto_region 32 with (fail)
                refine wp_region_held_drew (S := (fun W : World => W.cell? ⟨cb, 0, none⟩ = some (.int .i64 yk) ∧ W.cell? ⟨cb, 1, none⟩ = some (.int .i64 yi) ∧ W.cell? ⟨cb, 2, none⟩ = some (.int .i64 yn) ∧ W.cell? ⟨cb, 3, none⟩ = some (.int .i64 ys) ∧ W.cell? ⟨cb, 4, none⟩ = some (.int .i64 yp) ∧ W.cell? ⟨cb, 5, none⟩ = some (.int .i64 yq) ∧ W.cell? ⟨cb, 6, none⟩ = some (.int .i64 yl) ∧ W.cell? ⟨cb, 7, none⟩ = some (.int .i64 yt) ∧ W.cell? ⟨cb, 8, none⟩ = some (.string (str yS)) ∧ (convert 27 9 (.slice A1 n1 c1)).run Try.prog W = .ok (.string (str X)) W ∧ (convert 27 9 (.slice A2 n2 c2)).run Try.prog W = .ok (.string (str X)) W ∧ Below w9.heap.size w9 W)) (by kernel_rfl) hz0 (fun hHeld => ?_)
                refine wpAnyH_take (i := 0) (v := .slice A1 n1 c1) rfl (by kernel_rfl) (by kernel_rfl) (by kernel_rfl) (fun _ _ _ h => h) (Or.inl ⟨by kernel_rfl, fun W hSw => ?_⟩) (by assumption) ?_
                · (try dsimp only at hSw)
                  go_simp
                (try simp only [Act.put, List.setIfInBounds_toArray, List.set_cons_zero, List.set_cons_succ])
                refine wpAnyH_take (i := 1) (v := .string (str X)) rfl (by kernel_rfl) (by kernel_rfl) (by kernel_rfl) (fun _ _ _ h => h) (Or.inl ⟨by kernel_rfl, fun W hSw => ?_⟩) (by assumption) ?_
                · (try dsimp only at hSw)
                  go_simp
                (try simp only [Act.put, List.setIfInBounds_toArray, List.set_cons_zero, List.set_cons_succ])
                refine wpAnyH_take (i := 2) (v := .slice A2 n2 c2) rfl (by kernel_rfl) (by kernel_rfl) (by kernel_rfl) (fun _ _ _ h => h) (Or.inl ⟨by kernel_rfl, fun W hSw => ?_⟩) (by assumption) ?_
                · (try dsimp only at hSw)
                  go_simp
                (try simp only [Act.put, List.setIfInBounds_toArray, List.set_cons_zero, List.set_cons_succ])
                refine wpAnyH_take (i := 3) (v := .string (str X)) rfl (by kernel_rfl) (by kernel_rfl) (by kernel_rfl) (fun _ _ _ h => h) (Or.inl ⟨by kernel_rfl, fun W hSw => ?_⟩) (by assumption) ?_
                · (try dsimp only at hSw)
                  go_simp
                (try simp only [Act.put, List.setIfInBounds_toArray, List.set_cons_zero, List.set_cons_succ])
                refine wpAnyH_take (i := 4) (v := .bool false) rfl (by kernel_rfl) (by kernel_rfl) (by kernel_rfl) (fun _ _ _ h => h) (Or.inl ⟨by kernel_rfl, fun W hSw => ?_⟩) (by assumption) ?_
                · (try dsimp only at hSw)
                  go_simp
                (try simp only [Act.put, List.setIfInBounds_toArray, List.set_cons_zero, List.set_cons_succ])
                refine wpAnyH_take (i := 5) (v := .bool false) rfl (by kernel_rfl) (by kernel_rfl) (by kernel_rfl) (fun _ _ _ h => h) (Or.inl ⟨by kernel_rfl, fun W hSw => ?_⟩) (by assumption) ?_
                · (try dsimp only at hSw)
                  go_simp
                (try simp only [Act.put, List.setIfInBounds_toArray, List.set_cons_zero, List.set_cons_succ])
                refine wpAnyH_take (i := 6) (v := .int .i64 E) rfl (by kernel_rfl) (by kernel_rfl) (by kernel_rfl) (fun _ _ _ h => h) (Or.inl ⟨by kernel_rfl, fun W hSw => ?_⟩) (by assumption) ?_
                · (try dsimp only at hSw)
                  go_simp
                (try simp only [Act.put, List.setIfInBounds_toArray, List.set_cons_zero, List.set_cons_succ])
                refine wpAnyH_take (i := 7) (v := .int .i64 E) rfl (by kernel_rfl) (by kernel_rfl) (by kernel_rfl) (fun _ _ _ h => h) (Or.inl ⟨by kernel_rfl, fun W hSw => ?_⟩) (by assumption) ?_
                · (try dsimp only at hSw)
                  go_simp
                (try simp only [Act.put, List.setIfInBounds_toArray, List.set_cons_zero, List.set_cons_succ])
                refine wpAnyH_take (i := 8) (v := .bool false) rfl (by kernel_rfl) (by kernel_rfl) (by kernel_rfl) (fun _ _ _ h => h) (Or.inl ⟨by kernel_rfl, fun W hSw => ?_⟩) (by assumption) ?_
                · (try dsimp only at hSw)
                  go_simp
                (try simp only [Act.put, List.setIfInBounds_toArray, List.set_cons_zero, List.set_cons_succ])
                refine wpAnyH_take (i := 9) (v := .bool false) rfl (by kernel_rfl) (by kernel_rfl) (by kernel_rfl) (fun _ _ _ h => h) (Or.inl ⟨by kernel_rfl, fun W hSw => ?_⟩) (by assumption) ?_
                · (try dsimp only at hSw)
                  go_simp
                (try simp only [Act.put, List.setIfInBounds_toArray, List.set_cons_zero, List.set_cons_succ])
                refine wpAnyH_take (i := 10) (v := .bool false) rfl (by kernel_rfl) (by kernel_rfl) (by kernel_rfl) (fun _ _ _ h => h) (Or.inl ⟨by kernel_rfl, fun W hSw => ?_⟩) (by assumption) ?_
                · (try dsimp only at hSw)
                  go_simp
                (try simp only [Act.put, List.setIfInBounds_toArray, List.set_cons_zero, List.set_cons_succ])
                refine wpAnyH_take (i := 11) (v := .agg #[.int .i64 yk, .int .i64 yi, .int .i64 yn, .int .i64 ys, .int .i64 yp, .int .i64 yq, .int .i64 yl, .int .i64 yt, .string (str yS)]) rfl (by kernel_rfl) (by kernel_rfl) (by kernel_rfl) (fun _ _ _ h => h) (Or.inl ⟨by kernel_rfl, fun W hSw => ?_⟩) (by assumption) ?_
                · (try dsimp only at hSw)
                  go_simp
                (try simp only [Act.put, List.setIfInBounds_toArray, List.set_cons_zero, List.set_cons_succ])
                refine wpAnyH_take (i := 13) (v := .agg #[.int .i64 yk, .int .i64 yi, .int .i64 yn, .int .i64 ys, .int .i64 yp, .int .i64 yq, .int .i64 yl, .int .i64 yt, .string (str yS)]) rfl (by kernel_rfl) (by kernel_rfl) (by kernel_rfl) (fun _ _ _ h => h) (Or.inl ⟨by kernel_rfl, fun W hSw => ?_⟩) (by assumption) ?_
                · (try dsimp only at hSw)
                  go_simp
                (try simp only [Act.put, List.setIfInBounds_toArray, List.set_cons_zero, List.set_cons_succ])
                refine wpAnyH_ready (rs := [12]) (by kernel_rfl) (by simp) ?_
                refine AllReadyH.cons rfl (fun K hK => ?_) AllReadyH.nil
                go_simp
                refine (HP.out _).mono ?_
                rintro e x1 ⟨rfl, v1⟩
                have D1 := ((Below.refl w9.heap.size w9).drew).trans v1
                have z1 := hof.out _ D1
                replace D1 := Lib.hid D1
                go_wp2_with fail
                refine hK.out _ _ z1 (fun hHeld1 => ?_)
                clear hK K
                (try simp only [Act.put, List.setIfInBounds_toArray, List.set_cons_zero, List.set_cons_succ])
                refine wpAnyH_ready (rs := [14]) (by kernel_rfl) (by simp) ?_
                refine AllReadyH.cons rfl (fun K hK => ?_) AllReadyH.nil
                go_simp
                refine (HRR.out _).mono ?_
                rintro e x2 ⟨rfl, v2⟩
                have D2 := D1.out.trans (v2.mono D1.out.size)
                have z2 := hof.out _ D2
                replace D2 := Lib.hid D2
                go_wp2_with fail
                refine hK.out _ _ z2 (fun hHeld2 => ?_)
                clear hK K
                (try simp only [Act.put, List.setIfInBounds_toArray, List.set_cons_zero, List.set_cons_succ])
                refine wpAnyH_take (i := 15) (v := .bool false) rfl (by kernel_rfl) (by kernel_rfl) (by kernel_rfl) (fun _ _ _ h => h) (Or.inl ⟨by kernel_rfl, fun W hSw => ?_⟩) (by assumption) ?_
                · (try dsimp only at hSw)
                  go_simp
                (try simp only [Act.put, List.setIfInBounds_toArray, List.set_cons_zero, List.set_cons_succ])
                refine wpAnyH_take (i := 16) (v := .bool false) rfl (by kernel_rfl) (by kernel_rfl) (by kernel_rfl) (fun _ _ _ h => h) (Or.inl ⟨by kernel_rfl, fun W hSw => ?_⟩) (by assumption) ?_
                · (try dsimp only at hSw)
                  go_simp
                (try simp only [Act.put, List.setIfInBounds_toArray, List.set_cons_zero, List.set_cons_succ])
                refine wpAnyH_take (i := 17) (v := .bool false) rfl (by kernel_rfl) (by kernel_rfl) (by kernel_rfl) (fun _ _ _ h => h) (Or.inl ⟨by kernel_rfl, fun W hSw => ?_⟩) (by assumption) ?_
                · (try dsimp only at hSw)
                  go_simp
                (try simp only [Act.put, List.setIfInBounds_toArray, List.set_cons_zero, List.set_cons_succ])
                refine wpAnyH_take (i := 18) (v := .slice A2 n2 c2) rfl (by kernel_rfl) (by kernel_rfl) (by kernel_rfl) (fun _ _ _ h => h) (Or.inl ⟨by kernel_rfl, fun W hSw => ?_⟩) (by assumption) ?_
                · (try dsimp only at hSw)
                  go_simp
                (try simp only [Act.put, List.setIfInBounds_toArray, List.set_cons_zero, List.set_cons_succ])
                refine wpAnyH_ready (rs := [19]) (by kernel_rfl) (by simp) ?_
                refine AllReadyH.cons rfl (fun K hK => ?_) AllReadyH.nil
                go_simp
                refine (LRead_any A2 n2 c2 X _ (Lib.hid (S2.out.below D2.out))).mono ?_
                rintro e x3 ⟨rfl, v3⟩
                have D3 := D2.out.trans (v3.mono D2.out.size)
                have z3 := hof.out _ D3
                replace D3 := Lib.hid D3
                go_wp2_with fail
                refine hK.out _ _ z3 (fun hHeld3 => ?_)
                clear hK K
                (try simp only [Act.put, List.setIfInBounds_toArray, List.set_cons_zero, List.set_cons_succ])
                refine wpAnyH_take (i := 20) (v := .bool false) rfl (by kernel_rfl) (by kernel_rfl) (by kernel_rfl) (fun _ _ _ h => h) (Or.inl ⟨by kernel_rfl, fun W hSw => ?_⟩) (by assumption) ?_
                · (try dsimp only at hSw)
                  go_simp
                (try simp only [Act.put, List.setIfInBounds_toArray, List.set_cons_zero, List.set_cons_succ])
                refine wpAnyH_take (i := 21) (v := .bool false) rfl (by kernel_rfl) (by kernel_rfl) (by kernel_rfl) (fun _ _ _ h => h) (Or.inl ⟨by kernel_rfl, fun W hSw => ?_⟩) (by assumption) ?_
                · (try dsimp only at hSw)
                  go_simp
                (try simp only [Act.put, List.setIfInBounds_toArray, List.set_cons_zero, List.set_cons_succ])
                refine wpAnyH_take (i := 22) (v := .bool false) rfl (by kernel_rfl) (by kernel_rfl) (by kernel_rfl) (fun _ _ _ h => h) (Or.inl ⟨by kernel_rfl, fun W hSw => ?_⟩) (by assumption) ?_
                · (try dsimp only at hSw)
                  go_simp
                (try simp only [Act.put, List.setIfInBounds_toArray, List.set_cons_zero, List.set_cons_succ])
                refine wpAnyH_take (i := 23) (v := .slice A2 n2 c2) rfl (by kernel_rfl) (by kernel_rfl) (by kernel_rfl) (fun _ _ _ h => h) (Or.inl ⟨by kernel_rfl, fun W hSw => ?_⟩) (by assumption) ?_
                · (try dsimp only at hSw)
                  go_simp
                (try simp only [Act.put, List.setIfInBounds_toArray, List.set_cons_zero, List.set_cons_succ])
                refine wpAnyH_take (i := 24) (v := .int .i64 n2) rfl (by kernel_rfl) (by kernel_rfl) (by kernel_rfl) (fun _ _ _ h => h) (Or.inl ⟨by kernel_rfl, fun W hSw => ?_⟩) (by assumption) ?_
                · (try dsimp only at hSw)
                  go_simp
                (try simp only [Act.put, List.setIfInBounds_toArray, List.set_cons_zero, List.set_cons_succ])
                have h09 : n2 = 0 ∨ 0 < n2 := Nat.eq_zero_or_pos n2
                rcases h09 with rfl | hn2
                · have d1 : decide ((0 : Int) < ((0 : Nat) : Int)) = false := by decide
                  refine wpAnyH_take (i := 25) (v := .bool false) rfl (by kernel_rfl) (by kernel_rfl) (by kernel_rfl) (fun _ _ _ h => h) (Or.inl ⟨by kernel_rfl, fun W hSw => ?_⟩) (by assumption) ?_
                  · (try dsimp only at hSw)
                    go_simp
                  (try simp only [Act.put, List.setIfInBounds_toArray, List.set_cons_zero, List.set_cons_succ])
                  refine wpAnyH_take (i := 26) (v := .bool false) rfl (by kernel_rfl) (by kernel_rfl) (by kernel_rfl) (fun _ _ _ h => h) (Or.inl ⟨by kernel_rfl, fun W hSw => ?_⟩) (by assumption) ?_
                  · (try dsimp only at hSw)
                    go_simp
                  (try simp only [Act.put, List.setIfInBounds_toArray, List.set_cons_zero, List.set_cons_succ])
                  refine wpAnyH_take (i := 27) (v := undef) rfl (by kernel_rfl) (by kernel_rfl) (by kernel_rfl) (fun _ _ _ h => h) (Or.inr ⟨by kernel_rfl, rfl⟩) (by assumption) ?_
                  (try simp only [Act.put, List.setIfInBounds_toArray, List.set_cons_zero, List.set_cons_succ])
                  refine wpAnyH_take (i := 28) (v := undef) rfl (by kernel_rfl) (by kernel_rfl) (by kernel_rfl) (fun _ _ _ h => h) (Or.inr ⟨by kernel_rfl, rfl⟩) (by assumption) ?_
                  (try simp only [Act.put, List.setIfInBounds_toArray, List.set_cons_zero, List.set_cons_succ])
                  refine wpAnyH_ready (rs := [29]) (by kernel_rfl) (by simp) ?_
                  refine AllReadyH.cons rfl (fun K hK => ?_) AllReadyH.nil
                  go_simp
                  refine hK.out _ _ (by assumption) (fun hHeld => ?_)
                  clear hK K
                  (try simp only [Act.put, List.setIfInBounds_toArray, List.set_cons_zero, List.set_cons_succ])
                  refine wpAnyH_take (i := 30) (v := undef) rfl (by kernel_rfl) (by kernel_rfl) (by kernel_rfl) (fun _ _ _ h => h) (Or.inr ⟨by kernel_rfl, rfl⟩) (by assumption) ?_
                  (try simp only [Act.put, List.setIfInBounds_toArray, List.set_cons_zero, List.set_cons_succ])
                  refine wpAnyH_take (i := 31) (v := undef) rfl (by kernel_rfl) (by kernel_rfl) (by kernel_rfl) (fun _ _ _ h => h) (Or.inr ⟨by kernel_rfl, rfl⟩) (by assumption) ?_
                  (try simp only [Act.put, List.setIfInBounds_toArray, List.set_cons_zero, List.set_cons_succ])
                  refine wpAnyH_ready (rs := [32]) (by kernel_rfl) (by simp) ?_
                  refine AllReadyH.cons rfl (fun K hK => ?_) AllReadyH.nil
                  go_simp
                  refine hK.out _ _ (by assumption) (fun hHeld => ?_)
                  clear hK K
                  (try simp only [Act.put, List.setIfInBounds_toArray, List.set_cons_zero, List.set_cons_succ])
                  refine wpAnyH_take (i := 33) (v := undef) rfl (by kernel_rfl) (by kernel_rfl) (by kernel_rfl) (fun _ _ _ h => h) (Or.inr ⟨by kernel_rfl, rfl⟩) (by assumption) ?_
                  (try simp only [Act.put, List.setIfInBounds_toArray, List.set_cons_zero, List.set_cons_succ])
                  refine wpAnyH_take (i := 34) (v := undef) rfl (by kernel_rfl) (by kernel_rfl) (by kernel_rfl) (fun _ _ _ h => h) (Or.inr ⟨by kernel_rfl, rfl⟩) (by assumption) ?_
                  (try simp only [Act.put, List.setIfInBounds_toArray, List.set_cons_zero, List.set_cons_succ])
                  refine wpAnyH_take (i := 36) (v := undef) rfl (by kernel_rfl) (by kernel_rfl) (by kernel_rfl) (fun _ _ _ h => h) (Or.inr ⟨by kernel_rfl, rfl⟩) (by assumption) ?_
                  (try simp only [Act.put, List.setIfInBounds_toArray, List.set_cons_zero, List.set_cons_succ])
                  refine wpAnyH_ready (rs := [35, 38]) (by kernel_rfl) (by simp) ?_
                  refine AllReadyH.cons rfl (fun K hK => ?_) (AllReadyH.cons rfl (fun K hK => ?_) AllReadyH.nil)
                  · go_simp
                    refine hK.out _ _ (by assumption) (fun hHeld => ?_)
                    clear hK K
                    (try simp only [Act.put, List.setIfInBounds_toArray, List.set_cons_zero, List.set_cons_succ])
                    refine wpAnyH_ready (rs := [37, 38]) (by kernel_rfl) (by simp) ?_
                    refine AllReadyH.cons rfl (fun K hK => ?_) (AllReadyH.cons rfl (fun K hK => ?_) AllReadyH.nil)
                    · go_simp
                      refine hK.out _ _ (by assumption) (fun hHeld => ?_)
                      clear hK K
                      (try simp only [Act.put, List.setIfInBounds_toArray, List.set_cons_zero, List.set_cons_succ])
                      refine wpAnyH_ready (rs := [38]) (by kernel_rfl) (by simp) ?_
                      refine AllReadyH.cons rfl (fun K hK => ?_) AllReadyH.nil
                      go_simp
                      refine hK.out _ _ (by assumption) (fun hHeld => ?_)
                      clear hK K
                      (try simp only [Act.put, List.setIfInBounds_toArray, List.set_cons_zero, List.set_cons_succ])
                      refine wpAnyH_ready (rs := [39]) (by kernel_rfl) (by simp) ?_
                      refine AllReadyH.cons rfl (fun K hK => ?_) AllReadyH.nil
                      go_simp
                      refine hK.out _ _ (by assumption) (fun hHeld => ?_)
                      clear hK K
                      (try simp only [Act.put, List.setIfInBounds_toArray, List.set_cons_zero, List.set_cons_succ])
                      refine wpAnyH_ready (rs := [40]) (by kernel_rfl) (by simp) ?_
                      refine AllReadyH.cons rfl (fun K hK => ?_) AllReadyH.nil
                      go_simp
                      refine hK.out _ _ (by assumption) (fun hHeld => ?_)
                      clear hK K
                      (try simp only [Act.put, List.setIfInBounds_toArray, List.set_cons_zero, List.set_cons_succ])
                      refine wpAnyH_take (i := 41) (v := undef) rfl (by kernel_rfl) (by kernel_rfl) (by kernel_rfl) (fun _ _ _ h => h) (Or.inr ⟨by kernel_rfl, rfl⟩) (by assumption) ?_
                      (try simp only [Act.put, List.setIfInBounds_toArray, List.set_cons_zero, List.set_cons_succ])
                      refine wpAnyH_take (i := 42) (v := undef) rfl (by kernel_rfl) (by kernel_rfl) (by kernel_rfl) (fun _ _ _ h => h) (Or.inr ⟨by kernel_rfl, rfl⟩) (by assumption) ?_
                      (try simp only [Act.put, List.setIfInBounds_toArray, List.set_cons_zero, List.set_cons_succ])
                      refine wpAnyH_take (i := 43) (v := .bool false) rfl (by kernel_rfl) (by kernel_rfl) (by kernel_rfl) (fun _ _ _ h => h) (Or.inl ⟨by kernel_rfl, fun W hSw => ?_⟩) (by assumption) ?_
                      · (try dsimp only at hSw)
                        go_simp
                      (try simp only [Act.put, List.setIfInBounds_toArray, List.set_cons_zero, List.set_cons_succ])
                      refine wpAnyH_take (i := 44) (v := .bool false) rfl (by kernel_rfl) (by kernel_rfl) (by kernel_rfl) (fun _ _ _ h => h) (Or.inl ⟨by kernel_rfl, fun W hSw => ?_⟩) (by assumption) ?_
                      · (try dsimp only at hSw)
                        go_simp
                      (try simp only [Act.put, List.setIfInBounds_toArray, List.set_cons_zero, List.set_cons_succ])
                      refine wpAnyH_done (by kernel_rfl) ?_ _
                      have Bn := Lib.hid (B9.out.trans (D3.out.mono B9.out.size))
                      have Gn := Lib.hid ((D3.out.block gb (Array.getElem?_eq_some_iff.1 G9.out).1).trans G9.out)
                      have Ln := Lib.hid ((D3.out.block lb (Array.getElem?_eq_some_iff.1 L9.out).1).trans L9.out)
                      clear hof hz0
                      go_wp2_with fail
                      go_roundw
                      case rel => exact ⟨m + 1, by go_num, by omega, Bn, Gn, Ln⟩
                      case measure => simp [intOf]; omega
                    · go_simp
                      refine hK.out _ _ (by assumption) (fun hHeld => ?_)
                      clear hK K
                      (try simp only [Act.put, List.setIfInBounds_toArray, List.set_cons_zero, List.set_cons_succ])
                      refine wpAnyH_ready (rs := [37]) (by kernel_rfl) (by simp) ?_
                      refine AllReadyH.cons rfl (fun K hK => ?_) AllReadyH.nil
                      go_simp
                      refine hK.out _ _ (by assumption) (fun hHeld => ?_)
                      clear hK K
                      (try simp only [Act.put, List.setIfInBounds_toArray, List.set_cons_zero, List.set_cons_succ])
                      refine wpAnyH_ready (rs := [39]) (by kernel_rfl) (by simp) ?_
                      refine AllReadyH.cons rfl (fun K hK => ?_) AllReadyH.nil
                      go_simp
                      refine hK.out _ _ (by assumption) (fun hHeld => ?_)
                      clear hK K
                      (try simp only [Act.put, List.setIfInBounds_toArray, List.set_cons_zero, List.set_cons_succ])
                      refine wpAnyH_ready (rs := [40]) (by kernel_rfl) (by simp) ?_
                      refine AllReadyH.cons rfl (fun K hK => ?_) AllReadyH.nil
                      go_simp
                      refine hK.out _ _ (by assumption) (fun hHeld => ?_)
                      clear hK K
                      (try simp only [Act.put, List.setIfInBounds_toArray, List.set_cons_zero, List.set_cons_succ])
                      refine wpAnyH_take (i := 41) (v := undef) rfl (by kernel_rfl) (by kernel_rfl) (by kernel_rfl) (fun _ _ _ h => h) (Or.inr ⟨by kernel_rfl, rfl⟩) (by assumption) ?_
                      (try simp only [Act.put, List.setIfInBounds_toArray, List.set_cons_zero, List.set_cons_succ])
                      refine wpAnyH_take (i := 42) (v := undef) rfl (by kernel_rfl) (by kernel_rfl) (by kernel_rfl) (fun _ _ _ h => h) (Or.inr ⟨by kernel_rfl, rfl⟩) (by assumption) ?_
                      (try simp only [Act.put, List.setIfInBounds_toArray, List.set_cons_zero, List.set_cons_succ])
                      refine wpAnyH_take (i := 43) (v := .bool false) rfl (by kernel_rfl) (by kernel_rfl) (by kernel_rfl) (fun _ _ _ h => h) (Or.inl ⟨by kernel_rfl, fun W hSw => ?_⟩) (by assumption) ?_
                      · (try dsimp only at hSw)
                        go_simp
                      (try simp only [Act.put, List.setIfInBounds_toArray, List.set_cons_zero, List.set_cons_succ])
                      refine wpAnyH_take (i := 44) (v := .bool false) rfl (by kernel_rfl) (by kernel_rfl) (by kernel_rfl) (fun _ _ _ h => h) (Or.inl ⟨by kernel_rfl, fun W hSw => ?_⟩) (by assumption) ?_
                      · (try dsimp only at hSw)
                        go_simp
                      (try simp only [Act.put, List.setIfInBounds_toArray, List.set_cons_zero, List.set_cons_succ])
                      refine wpAnyH_done (by kernel_rfl) ?_ _
                      have Bn := Lib.hid (B9.out.trans (D3.out.mono B9.out.size))
                      have Gn := Lib.hid ((D3.out.block gb (Array.getElem?_eq_some_iff.1 G9.out).1).trans G9.out)
                      have Ln := Lib.hid ((D3.out.block lb (Array.getElem?_eq_some_iff.1 L9.out).1).trans L9.out)
                      clear hof hz0
                      go_wp2_with fail
                      go_roundw
                      case rel => exact ⟨m + 1, by go_num, by omega, Bn, Gn, Ln⟩
                      case measure => simp [intOf]; omega
                  · go_simp
                    refine hK.out _ _ (by assumption) (fun hHeld => ?_)
                    clear hK K
                    (try simp only [Act.put, List.setIfInBounds_toArray, List.set_cons_zero, List.set_cons_succ])
                    refine wpAnyH_ready (rs := [35]) (by kernel_rfl) (by simp) ?_
                    refine AllReadyH.cons rfl (fun K hK => ?_) AllReadyH.nil
                    go_simp
                    refine hK.out _ _ (by assumption) (fun hHeld => ?_)
                    clear hK K
                    (try simp only [Act.put, List.setIfInBounds_toArray, List.set_cons_zero, List.set_cons_succ])
                    refine wpAnyH_ready (rs := [37]) (by kernel_rfl) (by simp) ?_
                    refine AllReadyH.cons rfl (fun K hK => ?_) AllReadyH.nil
                    go_simp
                    refine hK.out _ _ (by assumption) (fun hHeld => ?_)
                    clear hK K
                    (try simp only [Act.put, List.setIfInBounds_toArray, List.set_cons_zero, List.set_cons_succ])
                    refine wpAnyH_ready (rs := [39]) (by kernel_rfl) (by simp) ?_
                    refine AllReadyH.cons rfl (fun K hK => ?_) AllReadyH.nil
                    go_simp
                    refine hK.out _ _ (by assumption) (fun hHeld => ?_)
                    clear hK K
                    (try simp only [Act.put, List.setIfInBounds_toArray, List.set_cons_zero, List.set_cons_succ])
                    refine wpAnyH_ready (rs := [40]) (by kernel_rfl) (by simp) ?_
                    refine AllReadyH.cons rfl (fun K hK => ?_) AllReadyH.nil
                    go_simp
                    refine hK.out _ _ (by assumption) (fun hHeld => ?_)
                    clear hK K
                    (try simp only [Act.put, List.setIfInBounds_toArray, List.set_cons_zero, List.set_cons_succ])
                    refine wpAnyH_take (i := 41) (v := undef) rfl (by kernel_rfl) (by kernel_rfl) (by kernel_rfl) (fun _ _ _ h => h) (Or.inr ⟨by kernel_rfl, rfl⟩) (by assumption) ?_
                    (try simp only [Act.put, List.setIfInBounds_toArray, List.set_cons_zero, List.set_cons_succ])
                    refine wpAnyH_take (i := 42) (v := undef) rfl (by kernel_rfl) (by kernel_rfl) (by kernel_rfl) (fun _ _ _ h => h) (Or.inr ⟨by kernel_rfl, rfl⟩) (by assumption) ?_
                    (try simp only [Act.put, List.setIfInBounds_toArray, List.set_cons_zero, List.set_cons_succ])
                    refine wpAnyH_take (i := 43) (v := .bool false) rfl (by kernel_rfl) (by kernel_rfl) (by kernel_rfl) (fun _ _ _ h => h) (Or.inl ⟨by kernel_rfl, fun W hSw => ?_⟩) (by assumption) ?_
                    · (try dsimp only at hSw)
                      go_simp
                    (try simp only [Act.put, List.setIfInBounds_toArray, List.set_cons_zero, List.set_cons_succ])
                    refine wpAnyH_take (i := 44) (v := .bool false) rfl (by kernel_rfl) (by kernel_rfl) (by kernel_rfl) (fun _ _ _ h => h) (Or.inl ⟨by kernel_rfl, fun W hSw => ?_⟩) (by assumption) ?_
                    · (try dsimp only at hSw)
                      go_simp
                    (try simp only [Act.put, List.setIfInBounds_toArray, List.set_cons_zero, List.set_cons_succ])
                    refine wpAnyH_done (by kernel_rfl) ?_ _
                    have Bn := Lib.hid (B9.out.trans (D3.out.mono B9.out.size))
                    have Gn := Lib.hid ((D3.out.block gb (Array.getElem?_eq_some_iff.1 G9.out).1).trans G9.out)
                    have Ln := Lib.hid ((D3.out.block lb (Array.getElem?_eq_some_iff.1 L9.out).1).trans L9.out)
                    clear hof hz0
                    go_wp2_with fail
                    go_roundw
                    case rel => exact ⟨m + 1, by go_num, by omega, Bn, Gn, Ln⟩
                    case measure => simp [intOf]; omega
                · have d1 : decide ((0 : Int) < (n2 : Int)) = true := decide_eq_true (by omega)
                  obtain ⟨m2, hm2⟩ : ∃ m2, n2 = m2 + 1 := ⟨n2 - 1, by omega⟩
                  have d2 : (n2 : Int) - 1 = (m2 : Int) := by omega
                  have dw : IntKind.i64.wrap (m2 : Int) = (m2 : Int) := wrap_in (by omega) (by have := en2.out; omega)
                  have d3 : (0 : Int) ≤ (m2 : Int) := by omega
                  have d4 : (m2 : Int) ≤ (c2 : Int) := by have := S2.out.ncap; omega
                  have d5 : m2 ≤ c2 := by have := S2.out.ncap; omega
                  have d6 : n2 ≤ 300 := by have := en2.out; omega
                  have d7 : m2 ≤ n2 := by omega
                  clear hm2
                  refine wpAnyH_take (i := 25) (v := .bool true) rfl (by kernel_rfl) (by kernel_rfl) (by kernel_rfl) (fun _ _ _ h => h) (Or.inl ⟨by kernel_rfl, fun W hSw => ?_⟩) (by assumption) ?_
                  · (try dsimp only at hSw)
                    go_simp
                  (try simp only [Act.put, List.setIfInBounds_toArray, List.set_cons_zero, List.set_cons_succ])
                  refine wpAnyH_take (i := 26) (v := .bool true) rfl (by kernel_rfl) (by kernel_rfl) (by kernel_rfl) (fun _ _ _ h => h) (Or.inl ⟨by kernel_rfl, fun W hSw => ?_⟩) (by assumption) ?_
                  · (try dsimp only at hSw)
                    go_simp
                  (try simp only [Act.put, List.setIfInBounds_toArray, List.set_cons_zero, List.set_cons_succ])
                  refine wpAnyH_take (i := 27) (v := .slice A2 n2 c2) rfl (by kernel_rfl) (by kernel_rfl) (by kernel_rfl) (fun _ _ _ h => h) (Or.inl ⟨by kernel_rfl, fun W hSw => ?_⟩) (by assumption) ?_
                  · (try dsimp only at hSw)
                    go_simp
                  (try simp only [Act.put, List.setIfInBounds_toArray, List.set_cons_zero, List.set_cons_succ])
                  refine wpAnyH_take (i := 28) (v := .slice A2 n2 c2) rfl (by kernel_rfl) (by kernel_rfl) (by kernel_rfl) (fun _ _ _ h => h) (Or.inl ⟨by kernel_rfl, fun W hSw => ?_⟩) (by assumption) ?_
                  · (try dsimp only at hSw)
                    go_simp
                  (try simp only [Act.put, List.setIfInBounds_toArray, List.set_cons_zero, List.set_cons_succ])
                  refine wpAnyH_take (i := 29) (v := .int .i64 n2) rfl (by kernel_rfl) (by kernel_rfl) (by kernel_rfl) (fun _ _ _ h => h) (Or.inl ⟨by kernel_rfl, fun W hSw => ?_⟩) (by assumption) ?_
                  · (try dsimp only at hSw)
                    go_simp
                  (try simp only [Act.put, List.setIfInBounds_toArray, List.set_cons_zero, List.set_cons_succ])
                  refine wpAnyH_take (i := 30) (v := .int .i64 m2) rfl (by kernel_rfl) (by kernel_rfl) (by kernel_rfl) (fun _ _ _ h => h) (Or.inl ⟨by kernel_rfl, fun W hSw => ?_⟩) (by assumption) ?_
                  · (try dsimp only at hSw)
                    go_simp
                  (try simp only [Act.put, List.setIfInBounds_toArray, List.set_cons_zero, List.set_cons_succ])
                  refine wpAnyH_take (i := 31) (v := .slice A2 m2 c2) rfl (by kernel_rfl) (by kernel_rfl) (by kernel_rfl) (fun _ _ _ h => h) (Or.inl ⟨by kernel_rfl, fun W hSw => ?_⟩) (by assumption) ?_
                  · (try dsimp only at hSw)
                    go_simp
                  (try simp only [Act.put, List.setIfInBounds_toArray, List.set_cons_zero, List.set_cons_succ])
                  refine wpAnyH_ready (rs := [32]) (by kernel_rfl) (by simp) ?_
                  refine AllReadyH.cons rfl (fun K hK => ?_) AllReadyH.nil
                  go_simp
                  refine (LRead_any A2 m2 c2 (X.take m2) _ (Lib.hid ((S2.out.below D3.out).short m2 d7))).mono ?_
                  rintro e x4 ⟨rfl, v4⟩
                  have D4 := D3.out.trans (v4.mono D3.out.size)
                  have z4 := hof.out _ D4
                  replace D4 := Lib.hid D4
                  go_wp2_with fail
                  refine hK.out _ _ z4 (fun hHeld4 => ?_)
                  clear hK K
                  (try simp only [Act.put, List.setIfInBounds_toArray, List.set_cons_zero, List.set_cons_succ])
                  refine wpAnyH_take (i := 33) (v := .bool false) rfl (by kernel_rfl) (by kernel_rfl) (by kernel_rfl) (fun _ _ _ h => h) (Or.inl ⟨by kernel_rfl, fun W hSw => ?_⟩) (by assumption) ?_
                  · (try dsimp only at hSw)
                    go_simp
                  (try simp only [Act.put, List.setIfInBounds_toArray, List.set_cons_zero, List.set_cons_succ])
                  refine wpAnyH_take (i := 34) (v := .bool false) rfl (by kernel_rfl) (by kernel_rfl) (by kernel_rfl) (fun _ _ _ h => h) (Or.inl ⟨by kernel_rfl, fun W hSw => ?_⟩) (by assumption) ?_
                  · (try dsimp only at hSw)
                    go_simp
                  (try simp only [Act.put, List.setIfInBounds_toArray, List.set_cons_zero, List.set_cons_succ])
                  refine wpAnyH_take (i := 36) (v := .slice A2 n2 c2) rfl (by kernel_rfl) (by kernel_rfl) (by kernel_rfl) (fun _ _ _ h => h) (Or.inl ⟨by kernel_rfl, fun W hSw => ?_⟩) (by assumption) ?_
                  · (try dsimp only at hSw)
                    go_simp
                  (try simp only [Act.put, List.setIfInBounds_toArray, List.set_cons_zero, List.set_cons_succ])
                  refine wpAnyH_ready (rs := [35, 38]) (by kernel_rfl) (by simp) ?_
                  refine AllReadyH.cons rfl (fun K hK => ?_) (AllReadyH.cons rfl (fun K hK => ?_) AllReadyH.nil)
                  · go_simp
                    have P5 := rb_lit x4 w9.heap.size [] D4.out.size (by decide)
                    have D5 := D4.out.alloc D4.out.size (.cells #[] 5)
                    rw [show (.cells (List.map bc []).toArray 5 : Obj) = .cells #[] 5 from rfl, show ([] : List UInt8).length = 0 from rfl] at P5
                    obtain ⟨x5, ew⟩ : ∃ W, x4.alloc (.cells #[] 5) = W := ⟨_, rfl⟩
                    obtain ⟨b5, eb⟩ : ∃ b, x4.heap.size = b := ⟨_, rfl⟩
                    have hb5 : ∀ k, k < x4.heap.size → k ≠ b5 := fun k h e => by omega
                    rw [eb] at P5
                    rw [ew] at P5 D5
                    rw [ew, eb]
                    clear ew eb hb5
                    have z5 := hof.out _ D5
                    replace D5 := Lib.hid D5
                    replace P5 := Lib.hid P5
                    refine hK.out _ _ z5 (fun hHeld5 => ?_)
                    clear hK K
                    (try simp only [Act.put, List.setIfInBounds_toArray, List.set_cons_zero, List.set_cons_succ])
                    refine wpAnyH_ready (rs := [37, 38]) (by kernel_rfl) (by simp) ?_
                    refine AllReadyH.cons rfl (fun K hK => ?_) (AllReadyH.cons rfl (fun K hK => ?_) AllReadyH.nil)
                    · rw [if_pos (by kernel_rfl)]
                      refine wp_onto_b (.tmp 119) (.tmp 120) 27 rfl w9.heap.size i0 Try.underlying27 hi0 hz00 hz01 hz02 (Value.slice (some ⟨b5, 0, none⟩) 0 0) [] (by rfl) P5.out A2 n2 c2 X (by rfl) (S2.out.below D5.out).hb S2.out.none0 (by simp; omega) D5.out.size (fun v6 x6 P6 g6 o6 => ?_)
                      have D6 := RB.below D5.out P5.out g6
                      have z6 := hof.out _ D6
                      replace D6 := Lib.hid D6
                      replace P6 := Lib.hid P6
                      clear g6 o6
                      refine hK.out _ _ z6 (fun hHeld6 => ?_)
                      clear hK K
                      (try simp only [Act.put, List.setIfInBounds_toArray, List.set_cons_zero, List.set_cons_succ])
                      refine wpAnyH_ready (rs := [38]) (by kernel_rfl) (by simp) ?_
                      refine AllReadyH.cons rfl (fun K hK => ?_) AllReadyH.nil
                      go_simp
                      have Q7 := rb_lit x6 w9.heap.size [0] D6.out.size (by decide)
                      have D7 := D6.out.alloc D6.out.size (.cells #[.int .u8 0] 5)
                      rw [show (.cells (List.map bc [0]).toArray 5 : Obj) = .cells #[.int .u8 0] 5 from rfl, show ([0] : List UInt8).length = 1 from rfl] at Q7
                      obtain ⟨x7, ew⟩ : ∃ W, x6.alloc (.cells #[.int .u8 0] 5) = W := ⟨_, rfl⟩
                      obtain ⟨b7, eb⟩ : ∃ b, x6.heap.size = b := ⟨_, rfl⟩
                      have hb7 : ∀ k, k < x6.heap.size → k ≠ b7 := fun k h e => by omega
                      have P7 := P6.out.alloc (.cells #[.int .u8 0] 5)
                      rw [eb] at Q7
                      rw [ew] at Q7 D7
                      rw [ew] at P7
                      rw [ew, eb]
                      clear ew eb hb7
                      have z7 := hof.out _ D7
                      replace D7 := Lib.hid D7
                      replace P7 := Lib.hid P7
                      replace Q7 := Lib.hid Q7
                      refine hK.out _ _ z7 (fun hHeld7 => ?_)
                      clear hK K
                      (try simp only [Act.put, List.setIfInBounds_toArray, List.set_cons_zero, List.set_cons_succ])
                      refine wpAnyH_ready (rs := [39]) (by kernel_rfl) (by simp) ?_
                      refine AllReadyH.cons rfl (fun K hK => ?_) AllReadyH.nil
                      rw [if_pos (by kernel_rfl)]
                      refine wp_onto_b (.tmp 121) (.tmp 122) 27 rfl w9.heap.size i0 Try.underlying27 hi0 hz00 hz01 hz02 v6 ([] ++ X) (by rfl) P7.out (some ⟨b7, 0, none⟩) 1 1 [0] (by rfl) (rb_one Q7.out) (fun e => by cases e) (by simp; omega) D7.out.size (fun v8 x8 P8 g8 o8 => ?_)
                      have D8 := RB.below D7.out P7.out g8
                      have z8 := hof.out _ D8
                      replace D8 := Lib.hid D8
                      replace P8 := Lib.hid P8
                      clear g8 o8
                      refine hK.out _ _ z8 (fun hHeld8 => ?_)
                      clear hK K
                      (try simp only [Act.put, List.setIfInBounds_toArray, List.set_cons_zero, List.set_cons_succ])
                      refine wpAnyH_ready (rs := [40]) (by kernel_rfl) (by simp) ?_
                      refine AllReadyH.cons rfl (fun K hK => ?_) AllReadyH.nil
                      have hx5 : ([] ++ X ++ [0] : List UInt8).length ≤ 140737488355328 := by simp; omega
                      have P5 := P8.out
                      obtain ⟨X5, e5⟩ : ∃ l, ([] ++ X ++ [0] : List UInt8) = l := ⟨_, rfl⟩
                      rw [e5] at hx5 P5
                      obtain ⟨A5, n5, c5, rfl, en5, S5⟩ := P5.src hx5
                      replace S5 := Lib.hid S5
                      clear en5 P5 hx5 e5 P8
                      have HL := LRead_any A5 n5 c5 X5 x8 S5
                      go_simp
                      refine HL.mono ?_
                      clear HL
                      rintro e x9 ⟨rfl, v9⟩
                      have D9 := D8.out.trans (v9.mono D8.out.size)
                      have z9 := hof.out _ D9
                      replace D9 := Lib.hid D9
                      go_wp2_with fail
                      refine hK.out _ _ z9 (fun hHeld9 => ?_)
                      clear hK K
                      (try simp only [Act.put, List.setIfInBounds_toArray, List.set_cons_zero, List.set_cons_succ])
                      refine wpAnyH_take (i := 41) (v := .bool false) rfl (by kernel_rfl) (by kernel_rfl) (by kernel_rfl) (fun _ _ _ h => h) (Or.inl ⟨by kernel_rfl, fun W hSw => ?_⟩) (by assumption) ?_
                      · (try dsimp only at hSw)
                        go_simp
                      (try simp only [Act.put, List.setIfInBounds_toArray, List.set_cons_zero, List.set_cons_succ])
                      refine wpAnyH_take (i := 42) (v := .bool false) rfl (by kernel_rfl) (by kernel_rfl) (by kernel_rfl) (fun _ _ _ h => h) (Or.inl ⟨by kernel_rfl, fun W hSw => ?_⟩) (by assumption) ?_
                      · (try dsimp only at hSw)
                        go_simp
                      (try simp only [Act.put, List.setIfInBounds_toArray, List.set_cons_zero, List.set_cons_succ])
                      refine wpAnyH_take (i := 43) (v := .bool false) rfl (by kernel_rfl) (by kernel_rfl) (by kernel_rfl) (fun _ _ _ h => h) (Or.inl ⟨by kernel_rfl, fun W hSw => ?_⟩) (by assumption) ?_
                      · (try dsimp only at hSw)
                        go_simp
                      (try simp only [Act.put, List.setIfInBounds_toArray, List.set_cons_zero, List.set_cons_succ])
                      refine wpAnyH_take (i := 44) (v := .bool false) rfl (by kernel_rfl) (by kernel_rfl) (by kernel_rfl) (fun _ _ _ h => h) (Or.inl ⟨by kernel_rfl, fun W hSw => ?_⟩) (by assumption) ?_
                      · (try dsimp only at hSw)
                        go_simp
                      (try simp only [Act.put, List.setIfInBounds_toArray, List.set_cons_zero, List.set_cons_succ])
                      refine wpAnyH_done (by kernel_rfl) ?_ _
                      have Bn := Lib.hid (B9.out.trans (D9.out.mono B9.out.size))
                      have Gn := Lib.hid ((D9.out.block gb (Array.getElem?_eq_some_iff.1 G9.out).1).trans G9.out)
                      have Ln := Lib.hid ((D9.out.block lb (Array.getElem?_eq_some_iff.1 L9.out).1).trans L9.out)
                      clear hof hz0
                      go_wp2_with fail
                      go_roundw
                      case rel => exact ⟨m + 1, by go_num, by omega, Bn, Gn, Ln⟩
                      case measure => simp [intOf]; omega
                    · go_simp
                      have Q6 := rb_lit x5 w9.heap.size [0] D5.out.size (by decide)
                      have D6 := D5.out.alloc D5.out.size (.cells #[.int .u8 0] 5)
                      rw [show (.cells (List.map bc [0]).toArray 5 : Obj) = .cells #[.int .u8 0] 5 from rfl, show ([0] : List UInt8).length = 1 from rfl] at Q6
                      obtain ⟨x6, ew⟩ : ∃ W, x5.alloc (.cells #[.int .u8 0] 5) = W := ⟨_, rfl⟩
                      obtain ⟨b6, eb⟩ : ∃ b, x5.heap.size = b := ⟨_, rfl⟩
                      have hb6 : ∀ k, k < x5.heap.size → k ≠ b6 := fun k h e => by omega
                      have P6 := P5.out.alloc (.cells #[.int .u8 0] 5)
                      rw [eb] at Q6
                      rw [ew] at Q6 D6
                      rw [ew] at P6
                      have hne6 : b6 ≠ b5 := fun e => hb6 b5 (P5.out.blk rfl).2 e.symm
                      replace hne6 := Lib.hid hne6
                      rw [ew, eb]
                      clear ew eb hb6
                      have z6 := hof.out _ D6
                      replace D6 := Lib.hid D6
                      replace P6 := Lib.hid P6
                      replace Q6 := Lib.hid Q6
                      refine hK.out _ _ z6 (fun hHeld6 => ?_)
                      clear hK K
                      (try simp only [Act.put, List.setIfInBounds_toArray, List.set_cons_zero, List.set_cons_succ])
                      refine wpAnyH_ready (rs := [37]) (by kernel_rfl) (by simp) ?_
                      refine AllReadyH.cons rfl (fun K hK => ?_) AllReadyH.nil
                      rw [if_pos (by kernel_rfl)]
                      refine wp_onto_b (.tmp 119) (.tmp 120) 27 rfl w9.heap.size i0 Try.underlying27 hi0 hz00 hz01 hz02 (Value.slice (some ⟨b5, 0, none⟩) 0 0) [] (by rfl) P6.out A2 n2 c2 X (by rfl) (S2.out.below D6.out).hb S2.out.none0 (by simp; omega) D6.out.size (fun v7 x7 P7 g7 o7 => ?_)
                      have D7 := RB.below D6.out P6.out g7
                      have Q7 := Lib.hid (RB.kept Q6.out g7 (Or.inr (fun e => hne6.out (by injection e))))
                      have z7 := hof.out _ D7
                      replace D7 := Lib.hid D7
                      replace P7 := Lib.hid P7
                      clear g7 o7
                      refine hK.out _ _ z7 (fun hHeld7 => ?_)
                      clear hK K
                      (try simp only [Act.put, List.setIfInBounds_toArray, List.set_cons_zero, List.set_cons_succ])
                      refine wpAnyH_ready (rs := [39]) (by kernel_rfl) (by simp) ?_
                      refine AllReadyH.cons rfl (fun K hK => ?_) AllReadyH.nil
                      rw [if_pos (by kernel_rfl)]
                      refine wp_onto_b (.tmp 121) (.tmp 122) 27 rfl w9.heap.size i0 Try.underlying27 hi0 hz00 hz01 hz02 v7 ([] ++ X) (by rfl) P7.out (some ⟨b6, 0, none⟩) 1 1 [0] (by rfl) (rb_one Q7.out) (fun e => by cases e) (by simp; omega) D7.out.size (fun v8 x8 P8 g8 o8 => ?_)
                      have D8 := RB.below D7.out P7.out g8
                      have z8 := hof.out _ D8
                      replace D8 := Lib.hid D8
                      replace P8 := Lib.hid P8
                      clear g8 o8
                      refine hK.out _ _ z8 (fun hHeld8 => ?_)
                      clear hK K
                      (try simp only [Act.put, List.setIfInBounds_toArray, List.set_cons_zero, List.set_cons_succ])
                      refine wpAnyH_ready (rs := [40]) (by kernel_rfl) (by simp) ?_
                      refine AllReadyH.cons rfl (fun K hK => ?_) AllReadyH.nil
                      have hx5 : ([] ++ X ++ [0] : List UInt8).length ≤ 140737488355328 := by simp; omega
                      have P5 := P8.out
                      obtain ⟨X5, e5⟩ : ∃ l, ([] ++ X ++ [0] : List UInt8) = l := ⟨_, rfl⟩
                      rw [e5] at hx5 P5
                      obtain ⟨A5, n5, c5, rfl, en5, S5⟩ := P5.src hx5
                      replace S5 := Lib.hid S5
                      clear en5 P5 hx5 e5 P8
                      have HL := LRead_any A5 n5 c5 X5 x8 S5
                      go_simp
                      refine HL.mono ?_
                      clear HL
                      rintro e x9 ⟨rfl, v9⟩
                      have D9 := D8.out.trans (v9.mono D8.out.size)
                      have z9 := hof.out _ D9
                      replace D9 := Lib.hid D9
                      go_wp2_with fail
                      refine hK.out _ _ z9 (fun hHeld9 => ?_)
                      clear hK K
                      (try simp only [Act.put, List.setIfInBounds_toArray, List.set_cons_zero, List.set_cons_succ])
                      refine wpAnyH_take (i := 41) (v := .bool false) rfl (by kernel_rfl) (by kernel_rfl) (by kernel_rfl) (fun _ _ _ h => h) (Or.inl ⟨by kernel_rfl, fun W hSw => ?_⟩) (by assumption) ?_
                      · (try dsimp only at hSw)
                        go_simp
                      (try simp only [Act.put, List.setIfInBounds_toArray, List.set_cons_zero, List.set_cons_succ])
                      refine wpAnyH_take (i := 42) (v := .bool false) rfl (by kernel_rfl) (by kernel_rfl) (by kernel_rfl) (fun _ _ _ h => h) (Or.inl ⟨by kernel_rfl, fun W hSw => ?_⟩) (by assumption) ?_
                      · (try dsimp only at hSw)
                        go_simp
                      (try simp only [Act.put, List.setIfInBounds_toArray, List.set_cons_zero, List.set_cons_succ])
                      refine wpAnyH_take (i := 43) (v := .bool false) rfl (by kernel_rfl) (by kernel_rfl) (by kernel_rfl) (fun _ _ _ h => h) (Or.inl ⟨by kernel_rfl, fun W hSw => ?_⟩) (by assumption) ?_
                      · (try dsimp only at hSw)
                        go_simp
                      (try simp only [Act.put, List.setIfInBounds_toArray, List.set_cons_zero, List.set_cons_succ])
                      refine wpAnyH_take (i := 44) (v := .bool false) rfl (by kernel_rfl) (by kernel_rfl) (by kernel_rfl) (fun _ _ _ h => h) (Or.inl ⟨by kernel_rfl, fun W hSw => ?_⟩) (by assumption) ?_
                      · (try dsimp only at hSw)
                        go_simp
                      (try simp only [Act.put, List.setIfInBounds_toArray, List.set_cons_zero, List.set_cons_succ])
                      refine wpAnyH_done (by kernel_rfl) ?_ _
                      have Bn := Lib.hid (B9.out.trans (D9.out.mono B9.out.size))
                      have Gn := Lib.hid ((D9.out.block gb (Array.getElem?_eq_some_iff.1 G9.out).1).trans G9.out)
                      have Ln := Lib.hid ((D9.out.block lb (Array.getElem?_eq_some_iff.1 L9.out).1).trans L9.out)
                      clear hof hz0
                      go_wp2_with fail
                      go_roundw
                      case rel => exact ⟨m + 1, by go_num, by omega, Bn, Gn, Ln⟩
                      case measure => simp [intOf]; omega
                  · go_simp
                    have Q5 := rb_lit x4 w9.heap.size [0] D4.out.size (by decide)
                    have D5 := D4.out.alloc D4.out.size (.cells #[.int .u8 0] 5)
                    rw [show (.cells (List.map bc [0]).toArray 5 : Obj) = .cells #[.int .u8 0] 5 from rfl, show ([0] : List UInt8).length = 1 from rfl] at Q5
                    obtain ⟨x5, ew⟩ : ∃ W, x4.alloc (.cells #[.int .u8 0] 5) = W := ⟨_, rfl⟩
                    obtain ⟨b5, eb⟩ : ∃ b, x4.heap.size = b := ⟨_, rfl⟩
                    have hb5 : ∀ k, k < x4.heap.size → k ≠ b5 := fun k h e => by omega
                    rw [eb] at Q5
                    rw [ew] at Q5 D5
                    rw [ew, eb]
                    clear ew eb hb5
                    have z5 := hof.out _ D5
                    replace D5 := Lib.hid D5
                    replace Q5 := Lib.hid Q5
                    refine hK.out _ _ z5 (fun hHeld5 => ?_)
                    clear hK K
                    (try simp only [Act.put, List.setIfInBounds_toArray, List.set_cons_zero, List.set_cons_succ])
                    refine wpAnyH_ready (rs := [35]) (by kernel_rfl) (by simp) ?_
                    refine AllReadyH.cons rfl (fun K hK => ?_) AllReadyH.nil
                    go_simp
                    have P6 := rb_lit x5 w9.heap.size [] D5.out.size (by decide)
                    have D6 := D5.out.alloc D5.out.size (.cells #[] 5)
                    rw [show (.cells (List.map bc []).toArray 5 : Obj) = .cells #[] 5 from rfl, show ([] : List UInt8).length = 0 from rfl] at P6
                    obtain ⟨x6, ew⟩ : ∃ W, x5.alloc (.cells #[] 5) = W := ⟨_, rfl⟩
                    obtain ⟨b6, eb⟩ : ∃ b, x5.heap.size = b := ⟨_, rfl⟩
                    have hb6 : ∀ k, k < x5.heap.size → k ≠ b6 := fun k h e => by omega
                    have Q6 := Q5.out.alloc (.cells #[] 5)
                    rw [eb] at P6
                    rw [ew] at P6 D6
                    rw [ew] at Q6
                    have hne6 : b6 ≠ b5 := fun e => hb6 b5 (Q5.out.blk rfl).2 e.symm
                    replace hne6 := Lib.hid hne6
                    rw [ew, eb]
                    clear ew eb hb6
                    have z6 := hof.out _ D6
                    replace D6 := Lib.hid D6
                    replace P6 := Lib.hid P6
                    replace Q6 := Lib.hid Q6
                    refine hK.out _ _ z6 (fun hHeld6 => ?_)
                    clear hK K
                    (try simp only [Act.put, List.setIfInBounds_toArray, List.set_cons_zero, List.set_cons_succ])
                    refine wpAnyH_ready (rs := [37]) (by kernel_rfl) (by simp) ?_
                    refine AllReadyH.cons rfl (fun K hK => ?_) AllReadyH.nil
                    rw [if_pos (by kernel_rfl)]
                    refine wp_onto_b (.tmp 119) (.tmp 120) 27 rfl w9.heap.size i0 Try.underlying27 hi0 hz00 hz01 hz02 (Value.slice (some ⟨b6, 0, none⟩) 0 0) [] (by rfl) P6.out A2 n2 c2 X (by rfl) (S2.out.below D6.out).hb S2.out.none0 (by simp; omega) D6.out.size (fun v7 x7 P7 g7 o7 => ?_)
                    have D7 := RB.below D6.out P6.out g7
                    have Q7 := Lib.hid (RB.kept Q6.out g7 (Or.inr (fun e => hne6.out (by injection e with e; exact e.symm))))
                    have z7 := hof.out _ D7
                    replace D7 := Lib.hid D7
                    replace P7 := Lib.hid P7
                    clear g7 o7
                    refine hK.out _ _ z7 (fun hHeld7 => ?_)
                    clear hK K
                    (try simp only [Act.put, List.setIfInBounds_toArray, List.set_cons_zero, List.set_cons_succ])
                    refine wpAnyH_ready (rs := [39]) (by kernel_rfl) (by simp) ?_
                    refine AllReadyH.cons rfl (fun K hK => ?_) AllReadyH.nil
                    rw [if_pos (by kernel_rfl)]
                    refine wp_onto_b (.tmp 121) (.tmp 122) 27 rfl w9.heap.size i0 Try.underlying27 hi0 hz00 hz01 hz02 v7 ([] ++ X) (by rfl) P7.out (some ⟨b5, 0, none⟩) 1 1 [0] (by rfl) (rb_one Q7.out) (fun e => by cases e) (by simp; omega) D7.out.size (fun v8 x8 P8 g8 o8 => ?_)
                    have D8 := RB.below D7.out P7.out g8
                    have z8 := hof.out _ D8
                    replace D8 := Lib.hid D8
                    replace P8 := Lib.hid P8
                    clear g8 o8
                    refine hK.out _ _ z8 (fun hHeld8 => ?_)
                    clear hK K
                    (try simp only [Act.put, List.setIfInBounds_toArray, List.set_cons_zero, List.set_cons_succ])
                    refine wpAnyH_ready (rs := [40]) (by kernel_rfl) (by simp) ?_
                    refine AllReadyH.cons rfl (fun K hK => ?_) AllReadyH.nil
                    have hx5 : ([] ++ X ++ [0] : List UInt8).length ≤ 140737488355328 := by simp; omega
                    have P5 := P8.out
                    obtain ⟨X5, e5⟩ : ∃ l, ([] ++ X ++ [0] : List UInt8) = l := ⟨_, rfl⟩
                    rw [e5] at hx5 P5
                    obtain ⟨A5, n5, c5, rfl, en5, S5⟩ := P5.src hx5
                    replace S5 := Lib.hid S5
                    clear en5 P5 hx5 e5 P8
                    have HL := LRead_any A5 n5 c5 X5 x8 S5
                    go_simp
                    refine HL.mono ?_
                    clear HL
                    rintro e x9 ⟨rfl, v9⟩
                    have D9 := D8.out.trans (v9.mono D8.out.size)
                    have z9 := hof.out _ D9
                    replace D9 := Lib.hid D9
                    go_wp2_with fail
                    refine hK.out _ _ z9 (fun hHeld9 => ?_)
                    clear hK K
                    (try simp only [Act.put, List.setIfInBounds_toArray, List.set_cons_zero, List.set_cons_succ])
                    refine wpAnyH_take (i := 41) (v := .bool false) rfl (by kernel_rfl) (by kernel_rfl) (by kernel_rfl) (fun _ _ _ h => h) (Or.inl ⟨by kernel_rfl, fun W hSw => ?_⟩) (by assumption) ?_
                    · (try dsimp only at hSw)
                      go_simp
                    (try simp only [Act.put, List.setIfInBounds_toArray, List.set_cons_zero, List.set_cons_succ])
                    refine wpAnyH_take (i := 42) (v := .bool false) rfl (by kernel_rfl) (by kernel_rfl) (by kernel_rfl) (fun _ _ _ h => h) (Or.inl ⟨by kernel_rfl, fun W hSw => ?_⟩) (by assumption) ?_
                    · (try dsimp only at hSw)
                      go_simp
                    (try simp only [Act.put, List.setIfInBounds_toArray, List.set_cons_zero, List.set_cons_succ])
                    refine wpAnyH_take (i := 43) (v := .bool false) rfl (by kernel_rfl) (by kernel_rfl) (by kernel_rfl) (fun _ _ _ h => h) (Or.inl ⟨by kernel_rfl, fun W hSw => ?_⟩) (by assumption) ?_
                    · (try dsimp only at hSw)
                      go_simp
                    (try simp only [Act.put, List.setIfInBounds_toArray, List.set_cons_zero, List.set_cons_succ])
                    refine wpAnyH_take (i := 44) (v := .bool false) rfl (by kernel_rfl) (by kernel_rfl) (by kernel_rfl) (fun _ _ _ h => h) (Or.inl ⟨by kernel_rfl, fun W hSw => ?_⟩) (by assumption) ?_
                    · (try dsimp only at hSw)
                      go_simp
                    (try simp only [Act.put, List.setIfInBounds_toArray, List.set_cons_zero, List.set_cons_succ])
                    refine wpAnyH_done (by kernel_rfl) ?_ _
                    have Bn := Lib.hid (B9.out.trans (D9.out.mono B9.out.size))
                    have Gn := Lib.hid ((D9.out.block gb (Array.getElem?_eq_some_iff.1 G9.out).1).trans G9.out)
                    have Ln := Lib.hid ((D9.out.block lb (Array.getElem?_eq_some_iff.1 L9.out).1).trans L9.out)
                    clear hof hz0
                    go_wp2_with fail
                    go_roundw
                    case rel => exact ⟨m + 1, by go_num, by omega, Bn, Gn, Ln⟩
                    case measure => simp [intOf]; omega
            · have d3 : decide ((m : Int) < 18) = false := decide_eq_false (by omega)
              go_wp2_with fail
              go_roundw
              case rel => exact ⟨h + 1, by go_num, by omega, hB3, hC3⟩
              case measure => simp [intOf]; omega
        · have d2 : decide ((h : Int) < 8) = false := decide_eq_false (by omega)
          go_wp2_with fail
          go_roundw
          case rel => exact ⟨j + 1, by go_num, by omega, hB2, hC2⟩
          case measure => simp [intOf]; omega
    · have d1 : decide ((j : Int) < 6) = false := decide_eq_false (by omega)
      obtain ⟨m0, m1, m2, m3, m4, m5, m6, m7, m8⟩ := cmd_at hC.out
      go_wp2_with fail
      have nil0 := str_none
      obtain ⟨y0, ey⟩ : ∃ W, wr = W := ⟨_, rfl⟩
      have B00 := hB
      have Kgb := hC
      rw [ey] at B00 Kgb ⊢
      clear hB hC m0 m1 m2 m3 m4 m5 m6 m7 m8 ey
      refine (VCut_any 3 4 _).mono ?_
      rintro e y1 ⟨rfl, b1⟩
      have B1 := Lib.hid (B00.out.trans (b1.mono B00.out.size))
      replace Kgb := Lib.hid ((b1.block gb (Array.getElem?_eq_some_iff.1 Kgb.out).1).trans Kgb.out)
      clear B00 b1
      go_wp2_with fail
      refine (Of_cut 3 4 _).mono ?_
      rintro e y2 ⟨rfl, b2⟩
      have B2 := Lib.hid (B1.out.trans (b2.mono B1.out.size))
      replace Kgb := Lib.hid ((b2.block gb (Array.getElem?_eq_some_iff.1 Kgb.out).1).trans Kgb.out)
      clear B1 b2
      go_upto_region 36 with (fail)
      obtain ⟨y3, ew⟩ : ∃ W, y2.alloc (.cells #[.int .i64 3, .int .i64 3, .int .i64 0, .int .i64 0, .int .i64 0, .int .i64 4, .int .i64 0, .int .i64 0, .string (str [])] 23) = W := ⟨_, rfl⟩
      obtain ⟨ab, eb⟩ : ∃ b, y2.heap.size = b := ⟨_, rfl⟩
      have b3 : Below y2.heap.size y2 y3 := by rw [← ew]; exact (Below.refl _ y2).alloc (Nat.le_refl _) _
      have Kab : Hid (y3.heap[ab]? = some (.cells #[.int .i64 3, .int .i64 3, .int .i64 0, .int .i64 0, .int .i64 0, .int .i64 4, .int .i64 0, .int .i64 0, .string (str [])] 23 (0, 0))) := Lib.hid (by rw [← ew, ← eb]; exact heap_alloc_new y2 _)
      rw [ew, eb]
      clear ew eb
      have B3 := Lib.hid (B2.out.trans (b3.mono B2.out.size))
      replace Kgb := Lib.hid ((b3.block gb (Array.getElem?_eq_some_iff.1 Kgb.out).1).trans Kgb.out)
      clear B2 b3
      go_wp2_with fail
      refine (Change_any 3 5 4 _).mono ?_
      rintro e y4 ⟨rfl, b4⟩
      have B4 := Lib.hid (B3.out.trans (b4.mono B3.out.size))
      replace Kgb := Lib.hid ((b4.block gb (Array.getElem?_eq_some_iff.1 Kgb.out).1).trans Kgb.out)
      replace Kab := Lib.hid ((b4.block ab (Array.getElem?_eq_some_iff.1 Kab.out).1).trans Kab.out)
      clear B3 b4
      go_wp2_with fail
      refine (Of_change 3 5 4 _).mono ?_
      rintro e y5 ⟨rfl, b5⟩
      have B5 := Lib.hid (B4.out.trans (b5.mono B4.out.size))
      replace Kgb := Lib.hid ((b5.block gb (Array.getElem?_eq_some_iff.1 Kgb.out).1).trans Kgb.out)
      replace Kab := Lib.hid ((b5.block ab (Array.getElem?_eq_some_iff.1 Kab.out).1).trans Kab.out)
      clear B4 b5
      go_upto_region 37 with (fail)
      obtain ⟨y6, ew⟩ : ∃ W, y5.alloc (.cells #[.int .i64 4, .int .i64 3, .int .i64 0, .int .i64 0, .int .i64 5, .int .i64 4, .int .i64 0, .int .i64 0, .string (str [])] 23) = W := ⟨_, rfl⟩
      obtain ⟨bb, eb⟩ : ∃ b, y5.heap.size = b := ⟨_, rfl⟩
      have b6 : Below y5.heap.size y5 y6 := by rw [← ew]; exact (Below.refl _ y5).alloc (Nat.le_refl _) _
      have Kbb : Hid (y6.heap[bb]? = some (.cells #[.int .i64 4, .int .i64 3, .int .i64 0, .int .i64 0, .int .i64 5, .int .i64 4, .int .i64 0, .int .i64 0, .string (str [])] 23 (0, 0))) := Lib.hid (by rw [← ew, ← eb]; exact heap_alloc_new y5 _)
      rw [ew, eb]
      clear ew eb
      have B6 := Lib.hid (B5.out.trans (b6.mono B5.out.size))
      replace Kgb := Lib.hid ((b6.block gb (Array.getElem?_eq_some_iff.1 Kgb.out).1).trans Kgb.out)
      replace Kab := Lib.hid ((b6.block ab (Array.getElem?_eq_some_iff.1 Kab.out).1).trans Kab.out)
      clear B5 b6
      obtain ⟨m0, m1, m2, m3, m4, m5, m6, m7, m8⟩ := cmd_at Kgb.out
      go_wp2_with fail
      clear m0 m1 m2 m3 m4 m5 m6 m7 m8
      refine (LOrder_any 1 1 2 1 5 3 3 3 [195, 169] _).mono ?_
      rintro e y7 ⟨rfl, b7⟩
      have B7 := Lib.hid (B6.out.trans (b7.mono B6.out.size))
      replace Kgb := Lib.hid ((b7.block gb (Array.getElem?_eq_some_iff.1 Kgb.out).1).trans Kgb.out)
      replace Kab := Lib.hid ((b7.block ab (Array.getElem?_eq_some_iff.1 Kab.out).1).trans Kab.out)
      replace Kbb := Lib.hid ((b7.block bb (Array.getElem?_eq_some_iff.1 Kbb.out).1).trans Kbb.out)
      clear B6 b7
      go_wp2_with fail
      refine (Order_any 1 2 1 5 3 3 3 [195, 169] _ (by decide)).mono ?_
      rintro e y8 ⟨rfl, b8⟩
      have B8 := Lib.hid (B7.out.trans (b8.mono B7.out.size))
      replace Kgb := Lib.hid ((b8.block gb (Array.getElem?_eq_some_iff.1 Kgb.out).1).trans Kgb.out)
      replace Kab := Lib.hid ((b8.block ab (Array.getElem?_eq_some_iff.1 Kab.out).1).trans Kab.out)
      replace Kbb := Lib.hid ((b8.block bb (Array.getElem?_eq_some_iff.1 Kbb.out).1).trans Kbb.out)
      clear B7 b8
      go_wp2_with fail
      refine (Of_order 1 2 1 5 3 3 3 [195, 169] _ (by decide)).mono ?_
      rintro e y9 ⟨rfl, b9⟩
      have B9 := Lib.hid (B8.out.trans (b9.mono B8.out.size))
      replace Kgb := Lib.hid ((b9.block gb (Array.getElem?_eq_some_iff.1 Kgb.out).1).trans Kgb.out)
      replace Kab := Lib.hid ((b9.block ab (Array.getElem?_eq_some_iff.1 Kab.out).1).trans Kab.out)
      replace Kbb := Lib.hid ((b9.block bb (Array.getElem?_eq_some_iff.1 Kbb.out).1).trans Kbb.out)
      clear B8 b9
      go_upto_region 38 with (fail)
      obtain ⟨y10, ew⟩ : ∃ W, y9.alloc (.cells #[.int .i64 1, .int .i64 1, .int .i64 2, .int .i64 1, .int .i64 5, .int .i64 3, .int .i64 3, .int .i64 3, .string (str [195, 169])] 23) = W := ⟨_, rfl⟩
      obtain ⟨ob, eb⟩ : ∃ b, y9.heap.size = b := ⟨_, rfl⟩
      have b10 : Below y9.heap.size y9 y10 := by rw [← ew]; exact (Below.refl _ y9).alloc (Nat.le_refl _) _
      have Kob : Hid (y10.heap[ob]? = some (.cells #[.int .i64 1, .int .i64 1, .int .i64 2, .int .i64 1, .int .i64 5, .int .i64 3, .int .i64 3, .int .i64 3, .string (str [195, 169])] 23 (0, 0))) := Lib.hid (by rw [← ew, ← eb]; exact heap_alloc_new y9 _)
      rw [ew, eb]
      clear ew eb
      have B10 := Lib.hid (B9.out.trans (b10.mono B9.out.size))
      replace Kgb := Lib.hid ((b10.block gb (Array.getElem?_eq_some_iff.1 Kgb.out).1).trans Kgb.out)
      replace Kab := Lib.hid ((b10.block ab (Array.getElem?_eq_some_iff.1 Kab.out).1).trans Kab.out)
      replace Kbb := Lib.hid ((b10.block bb (Array.getElem?_eq_some_iff.1 Kbb.out).1).trans Kbb.out)
      clear B9 b10
      go_wp2_with fail
      refine (Of_none _).mono ?_
      rintro e y11 ⟨rfl, b11⟩
      have B11 := Lib.hid (B10.out.trans (b11.mono B10.out.size))
      replace Kgb := Lib.hid ((b11.block gb (Array.getElem?_eq_some_iff.1 Kgb.out).1).trans Kgb.out)
      replace Kab := Lib.hid ((b11.block ab (Array.getElem?_eq_some_iff.1 Kab.out).1).trans Kab.out)
      replace Kbb := Lib.hid ((b11.block bb (Array.getElem?_eq_some_iff.1 Kbb.out).1).trans Kbb.out)
      replace Kob := Lib.hid ((b11.block ob (Array.getElem?_eq_some_iff.1 Kob.out).1).trans Kob.out)
      clear B10 b11
      go_upto_region 39 with (fail)
      obtain ⟨y12, ew⟩ : ∃ W, y11.alloc (.cells #[.int .i64 0, .int .i64 0, .int .i64 0, .int .i64 0, .int .i64 0, .int .i64 0, .int .i64 0, .int .i64 0, .string (str [])] 23) = W := ⟨_, rfl⟩
      obtain ⟨zb, eb⟩ : ∃ b, y11.heap.size = b := ⟨_, rfl⟩
      have b12 : Below y11.heap.size y11 y12 := by rw [← ew]; exact (Below.refl _ y11).alloc (Nat.le_refl _) _
      have Kzb : Hid (y12.heap[zb]? = some (.cells #[.int .i64 0, .int .i64 0, .int .i64 0, .int .i64 0, .int .i64 0, .int .i64 0, .int .i64 0, .int .i64 0, .string (str [])] 23 (0, 0))) := Lib.hid (by rw [← ew, ← eb]; exact heap_alloc_new y11 _)
      rw [ew, eb]
      clear ew eb
      have B12 := Lib.hid (B11.out.trans (b12.mono B11.out.size))
      replace Kgb := Lib.hid ((b12.block gb (Array.getElem?_eq_some_iff.1 Kgb.out).1).trans Kgb.out)
      replace Kab := Lib.hid ((b12.block ab (Array.getElem?_eq_some_iff.1 Kab.out).1).trans Kab.out)
      replace Kbb := Lib.hid ((b12.block bb (Array.getElem?_eq_some_iff.1 Kbb.out).1).trans Kbb.out)
      replace Kob := Lib.hid ((b12.block ob (Array.getElem?_eq_some_iff.1 Kob.out).1).trans Kob.out)
      clear B11 b12
      clear Kzb
      have hof : Hid (∀ W : World, Below y12.heap.size y12 W → (fun W : World => W.cell? ⟨ab, 0, none⟩ = some (.int .i64 3) ∧ W.cell? ⟨ab, 1, none⟩ = some (.int .i64 3) ∧ W.cell? ⟨ab, 2, none⟩ = some (.int .i64 0) ∧ W.cell? ⟨ab, 3, none⟩ = some (.int .i64 0) ∧ W.cell? ⟨ab, 4, none⟩ = some (.int .i64 0) ∧ W.cell? ⟨ab, 5, none⟩ = some (.int .i64 4) ∧ W.cell? ⟨ab, 6, none⟩ = some (.int .i64 0) ∧ W.cell? ⟨ab, 7, none⟩ = some (.int .i64 0) ∧ W.cell? ⟨ab, 8, none⟩ = some (.string (str [])) ∧ W.cell? ⟨bb, 0, none⟩ = some (.int .i64 4) ∧ W.cell? ⟨bb, 1, none⟩ = some (.int .i64 3) ∧ W.cell? ⟨bb, 2, none⟩ = some (.int .i64 0) ∧ W.cell? ⟨bb, 3, none⟩ = some (.int .i64 0) ∧ W.cell? ⟨bb, 4, none⟩ = some (.int .i64 5) ∧ W.cell? ⟨bb, 5, none⟩ = some (.int .i64 4) ∧ W.cell? ⟨bb, 6, none⟩ = some (.int .i64 0) ∧ W.cell? ⟨bb, 7, none⟩ = some (.int .i64 0) ∧ W.cell? ⟨bb, 8, none⟩ = some (.string (str [])) ∧ W.cell? ⟨ob, 0, none⟩ = some (.int .i64 1) ∧ W.cell? ⟨ob, 1, none⟩ = some (.int .i64 1) ∧ W.cell? ⟨ob, 2, none⟩ = some (.int .i64 2) ∧ W.cell? ⟨ob, 3, none⟩ = some (.int .i64 1) ∧ W.cell? ⟨ob, 4, none⟩ = some (.int .i64 5) ∧ W.cell? ⟨ob, 5, none⟩ = some (.int .i64 3) ∧ W.cell? ⟨ob, 6, none⟩ = some (.int .i64 3) ∧ W.cell? ⟨ob, 7, none⟩ = some (.int .i64 3) ∧ W.cell? ⟨ob, 8, none⟩ = some (.string (str [195, 169])) ∧ W.cell? ⟨gb, 0, none⟩ = some (.int .i64 1) ∧ W.cell? ⟨gb, 1, none⟩ = some (.int .i64 1) ∧ W.cell? ⟨gb, 2, none⟩ = some (.int .i64 2) ∧ W.cell? ⟨gb, 3, none⟩ = some (.int .i64 1) ∧ W.cell? ⟨gb, 4, none⟩ = some (.int .i64 5) ∧ W.cell? ⟨gb, 5, none⟩ = some (.int .i64 3) ∧ W.cell? ⟨gb, 6, none⟩ = some (.int .i64 3) ∧ W.cell? ⟨gb, 7, none⟩ = some (.int .i64 3) ∧ W.cell? ⟨gb, 8, none⟩ = some (.string (str [195, 169]))) W) := Lib.hid (fun W b => by
        obtain ⟨a0, a1, a2, a3, a4, a5, a6, a7, a8⟩ := cmd_at ((b.block ab (Array.getElem?_eq_some_iff.1 Kab.out).1).trans Kab.out)
        obtain ⟨b0, b1, b2, b3, b4, b5, b6, b7, b8⟩ := cmd_at ((b.block bb (Array.getElem?_eq_some_iff.1 Kbb.out).1).trans Kbb.out)
        obtain ⟨o0, o1, o2, o3, o4, o5, o6, o7, o8⟩ := cmd_at ((b.block ob (Array.getElem?_eq_some_iff.1 Kob.out).1).trans Kob.out)
        obtain ⟨g0, g1, g2, g3, g4, g5, g6, g7, g8⟩ := cmd_at ((b.block gb (Array.getElem?_eq_some_iff.1 Kgb.out).1).trans Kgb.out)
        exact ⟨a0, a1, a2, a3, a4, a5, a6, a7, a8, b0, b1, b2, b3, b4, b5, b6, b7, b8, o0, o1, o2, o3, o4, o5, o6, o7, o8, g0, g1, g2, g3, g4, g5, g6, g7, g8⟩)
      have hz0 := hof.out _ ((Below.refl y12.heap.size y12).drew)
      (try simp only at hz0)
      refine wp_region_held_drew (S := (fun W : World => W.cell? ⟨ab, 0, none⟩ = some (.int .i64 3) ∧ W.cell? ⟨ab, 1, none⟩ = some (.int .i64 3) ∧ W.cell? ⟨ab, 2, none⟩ = some (.int .i64 0) ∧ W.cell? ⟨ab, 3, none⟩ = some (.int .i64 0) ∧ W.cell? ⟨ab, 4, none⟩ = some (.int .i64 0) ∧ W.cell? ⟨ab, 5, none⟩ = some (.int .i64 4) ∧ W.cell? ⟨ab, 6, none⟩ = some (.int .i64 0) ∧ W.cell? ⟨ab, 7, none⟩ = some (.int .i64 0) ∧ W.cell? ⟨ab, 8, none⟩ = some (.string (str [])) ∧ W.cell? ⟨bb, 0, none⟩ = some (.int .i64 4) ∧ W.cell? ⟨bb, 1, none⟩ = some (.int .i64 3) ∧ W.cell? ⟨bb, 2, none⟩ = some (.int .i64 0) ∧ W.cell? ⟨bb, 3, none⟩ = some (.int .i64 0) ∧ W.cell? ⟨bb, 4, none⟩ = some (.int .i64 5) ∧ W.cell? ⟨bb, 5, none⟩ = some (.int .i64 4) ∧ W.cell? ⟨bb, 6, none⟩ = some (.int .i64 0) ∧ W.cell? ⟨bb, 7, none⟩ = some (.int .i64 0) ∧ W.cell? ⟨bb, 8, none⟩ = some (.string (str [])) ∧ W.cell? ⟨ob, 0, none⟩ = some (.int .i64 1) ∧ W.cell? ⟨ob, 1, none⟩ = some (.int .i64 1) ∧ W.cell? ⟨ob, 2, none⟩ = some (.int .i64 2) ∧ W.cell? ⟨ob, 3, none⟩ = some (.int .i64 1) ∧ W.cell? ⟨ob, 4, none⟩ = some (.int .i64 5) ∧ W.cell? ⟨ob, 5, none⟩ = some (.int .i64 3) ∧ W.cell? ⟨ob, 6, none⟩ = some (.int .i64 3) ∧ W.cell? ⟨ob, 7, none⟩ = some (.int .i64 3) ∧ W.cell? ⟨ob, 8, none⟩ = some (.string (str [195, 169])) ∧ W.cell? ⟨gb, 0, none⟩ = some (.int .i64 1) ∧ W.cell? ⟨gb, 1, none⟩ = some (.int .i64 1) ∧ W.cell? ⟨gb, 2, none⟩ = some (.int .i64 2) ∧ W.cell? ⟨gb, 3, none⟩ = some (.int .i64 1) ∧ W.cell? ⟨gb, 4, none⟩ = some (.int .i64 5) ∧ W.cell? ⟨gb, 5, none⟩ = some (.int .i64 3) ∧ W.cell? ⟨gb, 6, none⟩ = some (.int .i64 3) ∧ W.cell? ⟨gb, 7, none⟩ = some (.int .i64 3) ∧ W.cell? ⟨gb, 8, none⟩ = some (.string (str [195, 169])))) (by kernel_rfl) hz0 (fun hHeld => ?_)
      refine wpAnyH_ready (rs := [0]) (by kernel_rfl) (by simp) ?_
      refine AllReadyH.cons rfl (fun K hK => ?_) AllReadyH.nil
      go_simp
      refine (LRead_any none 0 0 [] _ (Lib.hid (src_none _))).mono ?_
      rintro e x21 ⟨rfl, v21⟩
      have D21 := ((Below.refl y12.heap.size y12).drew).trans v21
      have z21 := hof.out _ D21
      replace D21 := Lib.hid D21
      go_wp2_with fail
      refine hK.out _ _ z21 (fun hHeld21 => ?_)
      clear hK K
      (try simp only [Act.put, List.setIfInBounds_toArray, List.set_cons_zero, List.set_cons_succ])
      refine wpAnyH_take (i := 1) (v := .bool true) rfl (by kernel_rfl) (by kernel_rfl) (by kernel_rfl) (fun _ _ _ h => h) (Or.inl ⟨by kernel_rfl, fun W hSw => ?_⟩) (by assumption) ?_
      · (try dsimp only at hSw)
        go_simp
      (try simp only [Act.put, List.setIfInBounds_toArray, List.set_cons_zero, List.set_cons_succ])
      refine wpAnyH_ready (rs := [2]) (by kernel_rfl) (by simp) ?_
      refine AllReadyH.cons rfl (fun K hK => ?_) AllReadyH.nil
      go_simp
      have Q22 := rb_lit x21 y12.heap.size [0] D21.out.size (by decide)
      have D22 := D21.out.alloc D21.out.size (.cells #[.int .u8 0] 5)
      rw [show (.cells (List.map bc [0]).toArray 5 : Obj) = .cells #[.int .u8 0] 5 from rfl, show ([0] : List UInt8).length = 1 from rfl] at Q22
      obtain ⟨x22, ew⟩ : ∃ W, x21.alloc (.cells #[.int .u8 0] 5) = W := ⟨_, rfl⟩
      obtain ⟨c22, eb⟩ : ∃ b, x21.heap.size = b := ⟨_, rfl⟩
      rw [eb] at Q22
      rw [ew] at Q22 D22
      rw [ew, eb]
      clear ew eb
      have z22 := hof.out _ D22
      replace D22 := Lib.hid D22
      replace Q22 := Lib.hid (src_one Q22)
      refine hK.out _ _ z22 (fun hHeld22 => ?_)
      clear hK K
      (try simp only [Act.put, List.setIfInBounds_toArray, List.set_cons_zero, List.set_cons_succ])
      refine wpAnyH_ready (rs := [3]) (by kernel_rfl) (by simp) ?_
      refine AllReadyH.cons rfl (fun K hK => ?_) AllReadyH.nil
      go_simp
      refine (LRead_any _ _ _ _ _ Q22).mono ?_
      rintro e x23 ⟨rfl, v23⟩
      have D23 := D22.out.trans (v23.mono D22.out.size)
      have z23 := hof.out _ D23
      replace D23 := Lib.hid D23
      go_wp2_with fail
      refine hK.out _ _ z23 (fun hHeld23 => ?_)
      clear hK K
      (try simp only [Act.put, List.setIfInBounds_toArray, List.set_cons_zero, List.set_cons_succ])
      refine wpAnyH_take (i := 4) (v := .bool true) rfl (by kernel_rfl) (by kernel_rfl) (by kernel_rfl) (fun _ _ _ h => h) (Or.inl ⟨by kernel_rfl, fun W hSw => ?_⟩) (by assumption) ?_
      · (try dsimp only at hSw)
        go_simp
      (try simp only [Act.put, List.setIfInBounds_toArray, List.set_cons_zero, List.set_cons_succ])
      refine wpAnyH_take (i := 5) (v := .bool true) rfl (by kernel_rfl) (by kernel_rfl) (by kernel_rfl) (fun _ _ _ h => h) (Or.inl ⟨by kernel_rfl, fun W hSw => ?_⟩) (by assumption) ?_
      · (try dsimp only at hSw)
        go_simp
      (try simp only [Act.put, List.setIfInBounds_toArray, List.set_cons_zero, List.set_cons_succ])
      refine wpAnyH_ready (rs := [6]) (by kernel_rfl) (by simp) ?_
      refine AllReadyH.cons rfl (fun K hK => ?_) AllReadyH.nil
      go_simp
      have Q24 := rb_lit x23 y12.heap.size [2] D23.out.size (by decide)
      have D24 := D23.out.alloc D23.out.size (.cells #[.int .u8 2] 5)
      rw [show (.cells (List.map bc [2]).toArray 5 : Obj) = .cells #[.int .u8 2] 5 from rfl, show ([2] : List UInt8).length = 1 from rfl] at Q24
      obtain ⟨x24, ew⟩ : ∃ W, x23.alloc (.cells #[.int .u8 2] 5) = W := ⟨_, rfl⟩
      obtain ⟨c24, eb⟩ : ∃ b, x23.heap.size = b := ⟨_, rfl⟩
      rw [eb] at Q24
      rw [ew] at Q24 D24
      rw [ew, eb]
      clear ew eb
      have z24 := hof.out _ D24
      replace D24 := Lib.hid D24
      replace Q24 := Lib.hid (src_one Q24)
      refine hK.out _ _ z24 (fun hHeld24 => ?_)
      clear hK K
      (try simp only [Act.put, List.setIfInBounds_toArray, List.set_cons_zero, List.set_cons_succ])
      refine wpAnyH_ready (rs := [7]) (by kernel_rfl) (by simp) ?_
      refine AllReadyH.cons rfl (fun K hK => ?_) AllReadyH.nil
      go_simp
      refine (LRead_any _ _ _ _ _ Q24).mono ?_
      rintro e x25 ⟨rfl, v25⟩
      have D25 := D24.out.trans (v25.mono D24.out.size)
      have z25 := hof.out _ D25
      replace D25 := Lib.hid D25
      go_wp2_with fail
      refine hK.out _ _ z25 (fun hHeld25 => ?_)
      clear hK K
      (try simp only [Act.put, List.setIfInBounds_toArray, List.set_cons_zero, List.set_cons_succ])
      refine wpAnyH_take (i := 8) (v := .bool true) rfl (by kernel_rfl) (by kernel_rfl) (by kernel_rfl) (fun _ _ _ h => h) (Or.inl ⟨by kernel_rfl, fun W hSw => ?_⟩) (by assumption) ?_
      · (try dsimp only at hSw)
        go_simp
      (try simp only [Act.put, List.setIfInBounds_toArray, List.set_cons_zero, List.set_cons_succ])
      refine wpAnyH_take (i := 9) (v := .bool true) rfl (by kernel_rfl) (by kernel_rfl) (by kernel_rfl) (fun _ _ _ h => h) (Or.inl ⟨by kernel_rfl, fun W hSw => ?_⟩) (by assumption) ?_
      · (try dsimp only at hSw)
        go_simp
      (try simp only [Act.put, List.setIfInBounds_toArray, List.set_cons_zero, List.set_cons_succ])
      refine wpAnyH_take (i := 10) (v := .agg #[.int .i64 3, .int .i64 3, .int .i64 0, .int .i64 0, .int .i64 0, .int .i64 4, .int .i64 0, .int .i64 0, .string (str [])]) rfl (by kernel_rfl) (by kernel_rfl) (by kernel_rfl) (fun _ _ _ h => h) (Or.inl ⟨by kernel_rfl, fun W hSw => ?_⟩) (by assumption) ?_
      · (try dsimp only at hSw)
        go_simp
      (try simp only [Act.put, List.setIfInBounds_toArray, List.set_cons_zero, List.set_cons_succ])
      refine wpAnyH_take (i := 11) (v := .agg #[.int .i64 3, .int .i64 3, .int .i64 0, .int .i64 0, .int .i64 0, .int .i64 4, .int .i64 0, .int .i64 0, .string { data := #[] }]) rfl (by kernel_rfl) (by kernel_rfl) (by kernel_rfl) (fun _ _ _ h => h) (Or.inl ⟨by kernel_rfl, fun W hSw => ?_⟩) (by assumption) ?_
      · (try dsimp only at hSw)
        go_simp
      (try simp only [Act.put, List.setIfInBounds_toArray, List.set_cons_zero, List.set_cons_succ])
      refine wpAnyH_take (i := 12) (v := .bool true) rfl (by kernel_rfl) (by kernel_rfl) (by kernel_rfl) (fun _ _ _ h => h) (Or.inl ⟨by kernel_rfl, fun W hSw => ?_⟩) (by assumption) ?_
      · (try dsimp only at hSw)
        go_simp
      (try simp only [Act.put, List.setIfInBounds_toArray, List.set_cons_zero, List.set_cons_succ])
      refine wpAnyH_take (i := 13) (v := .bool true) rfl (by kernel_rfl) (by kernel_rfl) (by kernel_rfl) (fun _ _ _ h => h) (Or.inl ⟨by kernel_rfl, fun W hSw => ?_⟩) (by assumption) ?_
      · (try dsimp only at hSw)
        go_simp
      (try simp only [Act.put, List.setIfInBounds_toArray, List.set_cons_zero, List.set_cons_succ])
      refine wpAnyH_take (i := 14) (v := .bool true) rfl (by kernel_rfl) (by kernel_rfl) (by kernel_rfl) (fun _ _ _ h => h) (Or.inl ⟨by kernel_rfl, fun W hSw => ?_⟩) (by assumption) ?_
      · (try dsimp only at hSw)
        go_simp
      (try simp only [Act.put, List.setIfInBounds_toArray, List.set_cons_zero, List.set_cons_succ])
      refine wpAnyH_take (i := 15) (v := .bool true) rfl (by kernel_rfl) (by kernel_rfl) (by kernel_rfl) (fun _ _ _ h => h) (Or.inl ⟨by kernel_rfl, fun W hSw => ?_⟩) (by assumption) ?_
      · (try dsimp only at hSw)
        go_simp
      (try simp only [Act.put, List.setIfInBounds_toArray, List.set_cons_zero, List.set_cons_succ])
      refine wpAnyH_take (i := 16) (v := .bool true) rfl (by kernel_rfl) (by kernel_rfl) (by kernel_rfl) (fun _ _ _ h => h) (Or.inl ⟨by kernel_rfl, fun W hSw => ?_⟩) (by assumption) ?_
      · (try dsimp only at hSw)
        go_simp
      (try simp only [Act.put, List.setIfInBounds_toArray, List.set_cons_zero, List.set_cons_succ])
      refine wpAnyH_take (i := 17) (v := .bool true) rfl (by kernel_rfl) (by kernel_rfl) (by kernel_rfl) (fun _ _ _ h => h) (Or.inl ⟨by kernel_rfl, fun W hSw => ?_⟩) (by assumption) ?_
      · (try dsimp only at hSw)
        go_simp
      (try simp only [Act.put, List.setIfInBounds_toArray, List.set_cons_zero, List.set_cons_succ])
      refine wpAnyH_take (i := 18) (v := .agg #[.int .i64 4, .int .i64 3, .int .i64 0, .int .i64 0, .int .i64 5, .int .i64 4, .int .i64 0, .int .i64 0, .string (str [])]) rfl (by kernel_rfl) (by kernel_rfl) (by kernel_rfl) (fun _ _ _ h => h) (Or.inl ⟨by kernel_rfl, fun W hSw => ?_⟩) (by assumption) ?_
      · (try dsimp only at hSw)
        go_simp
      (try simp only [Act.put, List.setIfInBounds_toArray, List.set_cons_zero, List.set_cons_succ])
      refine wpAnyH_take (i := 19) (v := .agg #[.int .i64 4, .int .i64 3, .int .i64 0, .int .i64 0, .int .i64 5, .int .i64 4, .int .i64 0, .int .i64 0, .string { data := #[] }]) rfl (by kernel_rfl) (by kernel_rfl) (by kernel_rfl) (fun _ _ _ h => h) (Or.inl ⟨by kernel_rfl, fun W hSw => ?_⟩) (by assumption) ?_
      · (try dsimp only at hSw)
        go_simp
      (try simp only [Act.put, List.setIfInBounds_toArray, List.set_cons_zero, List.set_cons_succ])
      refine wpAnyH_take (i := 20) (v := .bool true) rfl (by kernel_rfl) (by kernel_rfl) (by kernel_rfl) (fun _ _ _ h => h) (Or.inl ⟨by kernel_rfl, fun W hSw => ?_⟩) (by assumption) ?_
      · (try dsimp only at hSw)
        go_simp
      (try simp only [Act.put, List.setIfInBounds_toArray, List.set_cons_zero, List.set_cons_succ])
      refine wpAnyH_take (i := 21) (v := .bool true) rfl (by kernel_rfl) (by kernel_rfl) (by kernel_rfl) (fun _ _ _ h => h) (Or.inl ⟨by kernel_rfl, fun W hSw => ?_⟩) (by assumption) ?_
      · (try dsimp only at hSw)
        go_simp
      (try simp only [Act.put, List.setIfInBounds_toArray, List.set_cons_zero, List.set_cons_succ])
      refine wpAnyH_take (i := 22) (v := .bool true) rfl (by kernel_rfl) (by kernel_rfl) (by kernel_rfl) (fun _ _ _ h => h) (Or.inl ⟨by kernel_rfl, fun W hSw => ?_⟩) (by assumption) ?_
      · (try dsimp only at hSw)
        go_simp
      (try simp only [Act.put, List.setIfInBounds_toArray, List.set_cons_zero, List.set_cons_succ])
      refine wpAnyH_take (i := 23) (v := .bool true) rfl (by kernel_rfl) (by kernel_rfl) (by kernel_rfl) (fun _ _ _ h => h) (Or.inl ⟨by kernel_rfl, fun W hSw => ?_⟩) (by assumption) ?_
      · (try dsimp only at hSw)
        go_simp
      (try simp only [Act.put, List.setIfInBounds_toArray, List.set_cons_zero, List.set_cons_succ])
      refine wpAnyH_take (i := 24) (v := .bool true) rfl (by kernel_rfl) (by kernel_rfl) (by kernel_rfl) (fun _ _ _ h => h) (Or.inl ⟨by kernel_rfl, fun W hSw => ?_⟩) (by assumption) ?_
      · (try dsimp only at hSw)
        go_simp
      (try simp only [Act.put, List.setIfInBounds_toArray, List.set_cons_zero, List.set_cons_succ])
      refine wpAnyH_take (i := 25) (v := .bool true) rfl (by kernel_rfl) (by kernel_rfl) (by kernel_rfl) (fun _ _ _ h => h) (Or.inl ⟨by kernel_rfl, fun W hSw => ?_⟩) (by assumption) ?_
      · (try dsimp only at hSw)
        go_simp
      (try simp only [Act.put, List.setIfInBounds_toArray, List.set_cons_zero, List.set_cons_succ])
      refine wpAnyH_take (i := 26) (v := .agg #[.int .i64 1, .int .i64 1, .int .i64 2, .int .i64 1, .int .i64 5, .int .i64 3, .int .i64 3, .int .i64 3, .string (str [195, 169])]) rfl (by kernel_rfl) (by kernel_rfl) (by kernel_rfl) (fun _ _ _ h => h) (Or.inl ⟨by kernel_rfl, fun W hSw => ?_⟩) (by assumption) ?_
      · (try dsimp only at hSw)
        go_simp
      (try simp only [Act.put, List.setIfInBounds_toArray, List.set_cons_zero, List.set_cons_succ])
      refine wpAnyH_take (i := 27) (v := .agg #[.int .i64 1, .int .i64 1, .int .i64 2, .int .i64 1, .int .i64 5, .int .i64 3, .int .i64 3, .int .i64 3, .string (str [195, 169])]) rfl (by kernel_rfl) (by kernel_rfl) (by kernel_rfl) (fun _ _ _ h => h) (Or.inl ⟨by kernel_rfl, fun W hSw => ?_⟩) (by assumption) ?_
      · (try dsimp only at hSw)
        go_simp
      (try simp only [Act.put, List.setIfInBounds_toArray, List.set_cons_zero, List.set_cons_succ])
      refine wpAnyH_take (i := 28) (v := .bool true) rfl (by kernel_rfl) (by kernel_rfl) (by kernel_rfl) (fun _ _ _ h => h) (Or.inl ⟨by kernel_rfl, fun W hSw => ?_⟩) (by assumption) ?_
      · (try dsimp only at hSw)
        go_simp
      (try simp only [Act.put, List.setIfInBounds_toArray, List.set_cons_zero, List.set_cons_succ])
      refine wpAnyH_take (i := 29) (v := .bool true) rfl (by kernel_rfl) (by kernel_rfl) (by kernel_rfl) (fun _ _ _ h => h) (Or.inl ⟨by kernel_rfl, fun W hSw => ?_⟩) (by assumption) ?_
      · (try dsimp only at hSw)
        go_simp
      (try simp only [Act.put, List.setIfInBounds_toArray, List.set_cons_zero, List.set_cons_succ])
      refine wpAnyH_take (i := 30) (v := .bool true) rfl (by kernel_rfl) (by kernel_rfl) (by kernel_rfl) (fun _ _ _ h => h) (Or.inl ⟨by kernel_rfl, fun W hSw => ?_⟩) (by assumption) ?_
      · (try dsimp only at hSw)
        go_simp
      (try simp only [Act.put, List.setIfInBounds_toArray, List.set_cons_zero, List.set_cons_succ])
      refine wpAnyH_take (i := 31) (v := .bool true) rfl (by kernel_rfl) (by kernel_rfl) (by kernel_rfl) (fun _ _ _ h => h) (Or.inl ⟨by kernel_rfl, fun W hSw => ?_⟩) (by assumption) ?_
      · (try dsimp only at hSw)
        go_simp
      (try simp only [Act.put, List.setIfInBounds_toArray, List.set_cons_zero, List.set_cons_succ])
      refine wpAnyH_take (i := 32) (v := .bool true) rfl (by kernel_rfl) (by kernel_rfl) (by kernel_rfl) (fun _ _ _ h => h) (Or.inl ⟨by kernel_rfl, fun W hSw => ?_⟩) (by assumption) ?_
      · (try dsimp only at hSw)
        go_simp
      (try simp only [Act.put, List.setIfInBounds_toArray, List.set_cons_zero, List.set_cons_succ])
      refine wpAnyH_take (i := 33) (v := .bool true) rfl (by kernel_rfl) (by kernel_rfl) (by kernel_rfl) (fun _ _ _ h => h) (Or.inl ⟨by kernel_rfl, fun W hSw => ?_⟩) (by assumption) ?_
      · (try dsimp only at hSw)
        go_simp
      (try simp only [Act.put, List.setIfInBounds_toArray, List.set_cons_zero, List.set_cons_succ])
      refine wpAnyH_take (i := 34) (v := .bool false) rfl (by kernel_rfl) (by kernel_rfl) (by kernel_rfl) (fun _ _ _ h => h) (Or.inl ⟨by kernel_rfl, fun W hSw => ?_⟩) (by assumption) ?_
      · (try dsimp only at hSw)
        go_simp
      (try simp only [Act.put, List.setIfInBounds_toArray, List.set_cons_zero, List.set_cons_succ])
      refine wpAnyH_take (i := 35) (v := .bool true) rfl (by kernel_rfl) (by kernel_rfl) (by kernel_rfl) (fun _ _ _ h => h) (Or.inl ⟨by kernel_rfl, fun W hSw => ?_⟩) (by assumption) ?_
      · (try dsimp only at hSw)
        go_simp
      (try simp only [Act.put, List.setIfInBounds_toArray, List.set_cons_zero, List.set_cons_succ])
      refine wpAnyH_take (i := 36) (v := .bool true) rfl (by kernel_rfl) (by kernel_rfl) (by kernel_rfl) (fun _ _ _ h => h) (Or.inl ⟨by kernel_rfl, fun W hSw => ?_⟩) (by assumption) ?_
      · (try dsimp only at hSw)
        go_simp
      (try simp only [Act.put, List.setIfInBounds_toArray, List.set_cons_zero, List.set_cons_succ])
      refine wpAnyH_take (i := 37) (v := .bool true) rfl (by kernel_rfl) (by kernel_rfl) (by kernel_rfl) (fun _ _ _ h => h) (Or.inl ⟨by kernel_rfl, fun W hSw => ?_⟩) (by assumption) ?_
      · (try dsimp only at hSw)
        go_simp
      (try simp only [Act.put, List.setIfInBounds_toArray, List.set_cons_zero, List.set_cons_succ])
      refine wpAnyH_take (i := 38) (v := .agg #[.int .i64 1, .int .i64 1, .int .i64 2, .int .i64 1, .int .i64 5, .int .i64 3, .int .i64 3, .int .i64 3, .string (str [195, 169])]) rfl (by kernel_rfl) (by kernel_rfl) (by kernel_rfl) (fun _ _ _ h => h) (Or.inl ⟨by kernel_rfl, fun W hSw => ?_⟩) (by assumption) ?_
      · (try dsimp only at hSw)
        go_simp
      (try simp only [Act.put, List.setIfInBounds_toArray, List.set_cons_zero, List.set_cons_succ])
      refine wpAnyH_take (i := 42) (v := .agg #[.int .i64 1, .int .i64 1, .int .i64 2, .int .i64 1, .int .i64 5, .int .i64 3, .int .i64 3, .int .i64 3, .string (str [195, 169])]) rfl (by kernel_rfl) (by kernel_rfl) (by kernel_rfl) (fun _ _ _ h => h) (Or.inl ⟨by kernel_rfl, fun W hSw => ?_⟩) (by assumption) ?_
      · (try dsimp only at hSw)
        go_simp
      (try simp only [Act.put, List.setIfInBounds_toArray, List.set_cons_zero, List.set_cons_succ])
      refine wpAnyH_ready (rs := [39]) (by kernel_rfl) (by simp) ?_
      refine AllReadyH.cons rfl (fun K hK => ?_) AllReadyH.nil
      go_simp
      refine (LOrder_any 1 1 2 1 5 3 3 3 [195, 169] _).mono ?_
      rintro e x26 ⟨rfl, v26⟩
      have D26 := D25.out.trans (v26.mono D25.out.size)
      have z26 := hof.out _ D26
      replace D26 := Lib.hid D26
      go_wp2_with fail
      refine hK.out _ _ z26 (fun hHeld26 => ?_)
      clear hK K
      (try simp only [Act.put, List.setIfInBounds_toArray, List.set_cons_zero, List.set_cons_succ])
      refine wpAnyH_ready (rs := [40]) (by kernel_rfl) (by simp) ?_
      refine AllReadyH.cons rfl (fun K hK => ?_) AllReadyH.nil
      go_simp
      refine (Order_any 1 2 1 5 3 3 3 [195, 169] _ (by decide)).mono ?_
      rintro e x27 ⟨rfl, v27⟩
      have D27 := D26.out.trans (v27.mono D26.out.size)
      have z27 := hof.out _ D27
      replace D27 := Lib.hid D27
      go_wp2_with fail
      refine hK.out _ _ z27 (fun hHeld27 => ?_)
      clear hK K
      (try simp only [Act.put, List.setIfInBounds_toArray, List.set_cons_zero, List.set_cons_succ])
      refine wpAnyH_ready (rs := [41]) (by kernel_rfl) (by simp) ?_
      refine AllReadyH.cons rfl (fun K hK => ?_) AllReadyH.nil
      go_simp
      refine (Must_any 1 2 1 5 3 3 3 [195, 169] _ (by decide)).mono ?_
      rintro e x28 ⟨rfl, v28⟩
      have D28 := D27.out.trans (v28.mono D27.out.size)
      have z28 := hof.out _ D28
      replace D28 := Lib.hid D28
      go_wp2_with fail
      refine hK.out _ _ z28 (fun hHeld28 => ?_)
      clear hK K
      (try simp only [Act.put, List.setIfInBounds_toArray, List.set_cons_zero, List.set_cons_succ])
      refine wpAnyH_ready (rs := [43]) (by kernel_rfl) (by simp) ?_
      refine AllReadyH.cons rfl (fun K hK => ?_) AllReadyH.nil
      go_simp
      refine (LOrder_any 1 1 2 1 5 3 3 3 [195, 169] _).mono ?_
      rintro e x29 ⟨rfl, v29⟩
      have D29 := D28.out.trans (v29.mono D28.out.size)
      have z29 := hof.out _ D29
      replace D29 := Lib.hid D29
      go_wp2_with fail
      refine hK.out _ _ z29 (fun hHeld29 => ?_)
      clear hK K
      (try simp only [Act.put, List.setIfInBounds_toArray, List.set_cons_zero, List.set_cons_succ])
      refine wpAnyH_take (i := 44) (v := .bool true) rfl (by kernel_rfl) (by kernel_rfl) (by kernel_rfl) (fun _ _ _ h => h) (Or.inl ⟨by kernel_rfl, fun W hSw => ?_⟩) (by assumption) ?_
      · (try dsimp only at hSw)
        go_simp
      (try simp only [Act.put, List.setIfInBounds_toArray, List.set_cons_zero, List.set_cons_succ])
      refine wpAnyH_take (i := 45) (v := .bool true) rfl (by kernel_rfl) (by kernel_rfl) (by kernel_rfl) (fun _ _ _ h => h) (Or.inl ⟨by kernel_rfl, fun W hSw => ?_⟩) (by assumption) ?_
      · (try dsimp only at hSw)
        go_simp
      (try simp only [Act.put, List.setIfInBounds_toArray, List.set_cons_zero, List.set_cons_succ])
      refine wpAnyH_take (i := 46) (v := .bool true) rfl (by kernel_rfl) (by kernel_rfl) (by kernel_rfl) (fun _ _ _ h => h) (Or.inl ⟨by kernel_rfl, fun W hSw => ?_⟩) (by assumption) ?_
      · (try dsimp only at hSw)
        go_simp
      (try simp only [Act.put, List.setIfInBounds_toArray, List.set_cons_zero, List.set_cons_succ])
      refine wpAnyH_ready (rs := [47]) (by kernel_rfl) (by simp) ?_
      refine AllReadyH.cons rfl (fun K hK => ?_) AllReadyH.nil
      go_simp
      refine (LKnown_any _).mono ?_
      rintro e x30 ⟨rfl, v30⟩
      have D30 := D29.out.trans (v30.mono D29.out.size)
      have z30 := hof.out _ D30
      replace D30 := Lib.hid D30
      go_wp2_with fail
      refine hK.out _ _ z30 (fun hHeld30 => ?_)
      clear hK K
      (try simp only [Act.put, List.setIfInBounds_toArray, List.set_cons_zero, List.set_cons_succ])
      refine wpAnyH_take (i := 48) (v := .bool true) rfl (by kernel_rfl) (by kernel_rfl) (by kernel_rfl) (fun _ _ _ h => h) (Or.inl ⟨by kernel_rfl, fun W hSw => ?_⟩) (by assumption) ?_
      · (try dsimp only at hSw)
        go_simp
      (try simp only [Act.put, List.setIfInBounds_toArray, List.set_cons_zero, List.set_cons_succ])
      (try simp only [List.getElem_toArray, List.getElem_cons_succ, List.getElem_cons_zero, Act.put, List.setIfInBounds_toArray, List.set_cons_zero, List.set_cons_succ])
      refine wpAnyH_take (i := 49) (v := .bool true) rfl (by kernel_rfl) (by kernel_rfl) (by kernel_rfl) (fun _ _ _ h => h) (Or.inl ⟨by kernel_rfl, fun W hSw => ?_⟩) (by assumption) ?_
      · (try dsimp only at hSw)
        go_simp
      (try simp only [Act.put, List.setIfInBounds_toArray, List.set_cons_zero, List.set_cons_succ])
      (try simp only [List.getElem_toArray, List.getElem_cons_succ, List.getElem_cons_zero, Act.put, List.setIfInBounds_toArray, List.set_cons_zero, List.set_cons_succ])
      refine wpAnyH_done (by kernel_rfl) ?_ _
      have Bn := Lib.hid (B12.out.trans (D30.out.mono B12.out.size))
      clear hof hz0
      go_wp2_with fail
      go_ret
      exact ⟨by kernel_rfl, Bn.out⟩
end Go.Proofs.Ytdbaphmhfoajgaa
