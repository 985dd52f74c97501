/-
  ReportNumbers, its walk.
-/
import Derived.Test.YtjhfgajhmenboaaDoorRepLaw
import Derived.Test.YtjhfgajhmenboaaDoorRepAllP
import Derived.Test.YtjhfgajhmenboaaDoorRepTextR
import Derived.Test.YtjhfgajhmenboaaDoorRepEncR
import Derived.Laws.BitsAllLaws
import Derived.Deep.RegionHeld3
import Derived.Deep.CutRange
import Derived.Deep.CutBlock
import Derived.RegionTactic
namespace Go.Proofs.YtjhfgajhmenboaaDoor
open Go.RowKit
set_option linter.unusedVariables false
set_option linter.unusedSimpArgs false

theorem ns_at {W : World} {lb m : Nat} (h : W.heap[lb]? = some (.cells #[.int .i64 (-1), .int .i64 0, .int .i64 1, .int .i64 2, .int .i64 3, .int .i64 254, .int .i64 255, .int .i64 256] 3 (0, 0))) (hm : m < 8) : ∃ v : Int, W.cell? ⟨lb, m, none⟩ = some (.int .i64 v) ∧ -9223372036854775808 ≤ v ∧ v ≤ 9223372036854775807 := by
  have h0 : m = 0 ∨ m = 1 ∨ m = 2 ∨ m = 3 ∨ m = 4 ∨ m = 5 ∨ m = 6 ∨ m = 7 := by omega
  rcases h0 with rfl | rfl | rfl | rfl | rfl | rfl | rfl | rfl
  · exact ⟨-1, by rw [Lib.cell_of_heap h]; rfl, by decide, by decide⟩
  · exact ⟨0, by rw [Lib.cell_of_heap h]; rfl, by decide, by decide⟩
  · exact ⟨1, by rw [Lib.cell_of_heap h]; rfl, by decide, by decide⟩
  · exact ⟨2, by rw [Lib.cell_of_heap h]; rfl, by decide, by decide⟩
  · exact ⟨3, by rw [Lib.cell_of_heap h]; rfl, by decide, by decide⟩
  · exact ⟨254, by rw [Lib.cell_of_heap h]; rfl, by decide, by decide⟩
  · exact ⟨255, by rw [Lib.cell_of_heap h]; rfl, by decide, by decide⟩
  · exact ⟨256, by rw [Lib.cell_of_heap h]; rfl, by decide, by decide⟩
/-- Some report in block cb, the list of numbers in lb. -/
def NSt (w wx : World) (lb cb : Nat) : Prop := ∃ y : Q, y.Ok ∧ wx.heap[cb]? = some (.cells y.cells 25 (0, 0)) ∧ Below w.heap.size w wx ∧ wx.heap[lb]? = some (.cells #[.int .i64 (-1), .int .i64 0, .int .i64 1, .int .i64 2, .int .i64 3, .int .i64 254, .int .i64 255, .int .i64 256] 3 (0, 0)) ∧ w.heap.size ≤ cb ∧ lb ≠ cb
theorem NSt.fld {w wx : World} {lb cb : Nat} (h : NSt w wx lb cb) (f : Nat) (x : Int) (hf : f = 2 ∨ f = 3 ∨ f = 7) (hx : I64 x) : NSt w (wx.setCell ⟨cb, f, none⟩ (.int .i64 x)) lb cb := by
  obtain ⟨⟨k, i, n, s, p, q, l, y⟩, ⟨h0, h1, h2, h3, h4, h5, h6, h7⟩, hY, hB, hL, hw, hl⟩ := h
  have hB' : Below w.heap.size w (wx.setCell ⟨cb, f, none⟩ (.int .i64 x)) := hB.setCell (p := ⟨cb, f, none⟩) (show w.heap.size ≤ cb from hw) _
  have hL' := (heap_setCell_other wx ⟨cb, f, none⟩ lb (.int .i64 x) hl).trans hL
  have hY' := heap_setCell_same wx cb f _ _ (.int .i64 x) hY
  rcases hf with rfl | rfl | rfl
  · exact ⟨⟨k, i, x, s, p, q, l, y⟩, ⟨h0, h1, hx, h3, h4, h5, h6, h7⟩, hY', hB', hL', hw, hl⟩
  · exact ⟨⟨k, i, n, x, p, q, l, y⟩, ⟨h0, h1, h2, hx, h4, h5, h6, h7⟩, hY', hB', hL', hw, hl⟩
  · exact ⟨⟨k, i, n, s, p, q, l, x⟩, ⟨h0, h1, h2, h3, h4, h5, h6, hx⟩, hY', hB', hL', hw, hl⟩
theorem src_none (w : World) : Src w none 0 0 [] := ⟨⟨rfl, fun h => absurd h (by omega)⟩, (fun _ e => by cases e), (by omega), (by omega), (by omega), fun _ => rfl⟩
theorem wrap_in {x : Int} (h1 : -9223372036854775808 ≤ x) (h2 : x ≤ 9223372036854775807) : IntKind.i64.wrap x = x := by rw [IntKind.wrap_i64]; omega
theorem rb_one {w : World} {base b : Nat} (h : RB w base (.slice (some ⟨b, 0, none⟩) 1 1) [0]) : HB w (some ⟨b, 0, none⟩) 1 [0] := by
  obtain ⟨A, cap, e, H, -⟩ := h.holds
  injection e with e1 e2 e3
  subst e1
  exact H
theorem Src.behind {w : World} {b o n cap : Nat} {l : List UInt8} (h : Src w (some ⟨b, o, none⟩) n cap l) (hn : 1 ≤ n) : Src w (some ⟨b, o + 1, none⟩) (n - 1) (cap - 1) (l.drop 1) := by
  have hb := h.hb.drop (k := 1) hn
  rw [WideShapes.add_plain] at hb
  exact ⟨hb, fun ad e => by injection e with e; subst e; exact ⟨(h.at' _ rfl).1, rfl⟩, by have := h.ncap; omega, by have := h.cmax; omega, by have := h.nmax; omega, fun e => by cases e⟩
theorem encR_two (r : Q) : (encR r).length = 0 ∨ (encR r).length = 36 := by
  unfold encR
  split
  · exact Or.inr (encQ_len r)
  · exact Or.inl rfl
theorem ok_new {kd v : Int} (h1 : -1 ≤ kd) (h2 : kd < 8) (v1 : -9223372036854775808 ≤ v) (v2 : v ≤ 9223372036854775807) : (Q.mk kd (-7) 0 0 (-9223372036854775808) 9223372036854775807 v 0).Ok := by
  constructor <;> constructor <;> simp only <;> omega
theorem readL_nil : readL [] = ([], 0) := rdFrom_end (by simp)
theorem allQ_zero : allQ [zeroQ] = [] := by
  rw [allQ, frQ_no (by decide)]
  rfl
theorem hr_zero {w : World} {b : Nat} (h : w.heap[b]? = some (.cells #[.int .i64 0, .int .i64 0, .int .i64 0, .int .i64 0, .int .i64 0, .int .i64 0, .int .i64 0, .int .i64 0] 25 (0, 0))) : HR w (some ⟨b, 0, none⟩) 1 [zeroQ] := by
  obtain ⟨j0, j1, j2, j3, j4, j5, j6, j7⟩ := rep_at h
  refine ⟨rfl, fun k hk => ?_⟩
  obtain rfl : k = 0 := by omega
  exact ⟨b, 0, rfl, j0, j1, j2, j3, j4, j5, j6, j7⟩
set_option maxRecDepth 100000 in
set_option maxHeartbeats 40000000 in
theorem Numbers_walk (w : World) (hT : Hid (Tab w)) :
    Calls Tryd.prog 3 #[] w fun e w' => e = .returned (.bool true) ∧ Below w.heap.size w w' := by
  go_enter Tryd.func3, Tryd.ntmps3
  have B0 : Hid (Below w.heap.size w w) := Lib.hid (Below.refl _ _)
  go_wp2_with fail
  go_loopw [1] (fun a wr => ∃ kd : Int, a = .int .i64 kd ∧ -1 ≤ kd ∧ kd ≤ 8 ∧ Hid (Below w.heap.size w wr)) (fun a _ => (8 - intOf a).toNat)
  case atStart => exact ⟨-1, rfl, by omega, by omega, B0⟩
  case round =>
    obtain ⟨kd, rfl, hk1, hk2, hB⟩ := hrel
    clear B0
    by_cases hlt : kd < 8
    · have d1 : decide (kd < 8) = true := decide_eq_true hlt
      have dk : IntKind.i64.wrap (kd + 1) = kd + 1 := wrap_in (by omega) (by omega)
      go_wp2_with fail
      obtain ⟨w2, ew⟩ : ∃ W, wr.alloc (.cells #[.int .i64 (-1), .int .i64 0, .int .i64 1, .int .i64 2, .int .i64 3, .int .i64 254, .int .i64 255, .int .i64 256] 3) = W := ⟨_, rfl⟩
      obtain ⟨lb, elb⟩ : ∃ b, wr.heap.size = b := ⟨_, rfl⟩
      have B2 : Hid (Below w.heap.size w w2) := Lib.hid (by rw [← ew]; exact hB.out.alloc hB.out.size _)
      have L2 : Hid (w2.heap[lb]? = some (.cells #[.int .i64 (-1), .int .i64 0, .int .i64 1, .int .i64 2, .int .i64 3, .int .i64 254, .int .i64 255, .int .i64 256] 3 (0, 0))) := Lib.hid (by rw [← ew, ← elb]; exact heap_alloc_new wr _)
      rw [ew, elb]
      clear ew elb hB
      go_loopw [18] (fun a wr3 => ∃ m : Nat, a = .int .i64 m ∧ m ≤ 8 ∧ Hid (Below w.heap.size w wr3) ∧ Hid (wr3.heap[lb]? = some (.cells #[.int .i64 (-1), .int .i64 0, .int .i64 1, .int .i64 2, .int .i64 3, .int .i64 254, .int .i64 255, .int .i64 256] 3 (0, 0)))) (fun a _ => (8 - intOf a).toNat)
      case atStart => exact ⟨0, rfl, by omega, B2, L2⟩
      case round =>
        obtain ⟨m, rfl, hm, hB3, hL3⟩ := hrel
        clear B2 L2
        by_cases hlt3 : m < 8
        · have d3 : decide ((m : Int) < 8) = true := decide_eq_true (by omega)
          obtain ⟨v, hv, v1, v2⟩ := ns_at hL3.out hlt3
          have q1 : (0 : Int) ≤ (m : Int) := by omega
          have q2 : (m : Int) < 8 := by omega
          go_wp2_with fail
          clear hv
          go_loopw [4] (fun a wr4 => ∃ how : Nat, a = .int .i64 how ∧ how ≤ 3 ∧ Hid (Below w.heap.size w wr4) ∧ Hid (wr4.heap[lb]? = some (.cells #[.int .i64 (-1), .int .i64 0, .int .i64 1, .int .i64 2, .int .i64 3, .int .i64 254, .int .i64 255, .int .i64 256] 3 (0, 0)))) (fun a _ => (3 - intOf a).toNat)
          case atStart => exact ⟨0, rfl, by omega, hB3, hL3⟩
          case round =>
            obtain ⟨how, rfl, hh, hB4, hL4⟩ := hrel
            clear hB3 hL3
            by_cases hlt4 : how < 3
            · have d5 : decide ((how : Int) < 3) = true := decide_eq_true (by omega)
              go_upto_region 11 with (fail)
              obtain ⟨w5, ew⟩ : ∃ W, wr.alloc (.cells #[.int .i64 kd, .int .i64 (-7), .int .i64 0, .int .i64 0, .int .i64 (-9223372036854775808), .int .i64 9223372036854775807, .int .i64 v, .int .i64 0] 25) = W := ⟨_, rfl⟩
              obtain ⟨cb, ecb⟩ : ∃ b, wr.heap.size = b := ⟨_, rfl⟩
              have N5 : Hid (NSt w w5 lb cb) := Lib.hid (by
                refine ⟨⟨kd, -7, 0, 0, -9223372036854775808, 9223372036854775807, v, 0⟩, ?_, ?_, ?_, ?_, ?_, ?_⟩
                · exact ok_new (by omega) (by omega) v1 v2
                · rw [← ew, ← ecb]; exact heap_alloc_new wr _
                · rw [← ew]; exact hB4.out.alloc hB4.out.size _
                · rw [← ew]; exact (heap_alloc_old _ _ (Array.getElem?_eq_some_iff.1 hL4.out).1).trans hL4.out
                · rw [← ecb]; exact hB4.out.size
                · have := (Array.getElem?_eq_some_iff.1 hL4.out).1; omega)
              rw [ew, ecb]
              clear ew ecb hB4 hL4
              go_upto_block 6 with (fail)
              go_cut [5] from 30 to 41 (fun c wx => c = .pointer (some ⟨cb, 0, none⟩) ∧ Hid (NSt w wx lb cb))
              case first =>
                obtain ⟨⟨yk, yi, yn, ys, yp, yq, yl, yy⟩, -, Y6, -⟩ := N5.out
                obtain ⟨fr0, fr1, fr2, fr3, fr4, fr5, fr6, fr7, m0, m1, m2, m3, m4, m5, m6, m7⟩ := block8 Y6
                clear Y6
                have h02 : how = 0 ∨ how = 1 ∨ how = 2 := by omega
                clear d5 hh hlt4
                rcases h02 with rfl | rfl | rfl
                · go_wp2_with fail
                  go_meet
                  exact ⟨rfl, Lib.hid (N5.out.fld 2 _ (by omega) ⟨v1, v2⟩)⟩
                · go_wp2_with fail
                  go_meet
                  exact ⟨rfl, Lib.hid (N5.out.fld 3 _ (by omega) ⟨v1, v2⟩)⟩
                · go_wp2_with fail
                  go_meet
                  exact ⟨rfl, Lib.hid (N5.out.fld 7 _ (by omega) ⟨v1, v2⟩)⟩
              case rest =>
                obtain ⟨rfl, N7⟩ := hcut
                obtain ⟨⟨yk, yi, yn, ys, yp, yq, yl, yy⟩, OKy, Y7, B7, L7, hwc, hlc⟩ := N7.out
                clear N7
                have hp := fun W => PEncode_any (Q.mk yk yi yn ys yp yq yl yy) W OKy
                have hr := fun W => REncode_any (Q.mk yk yi yn ys yp yq yl yy) W OKy
                have hXl := encR_two (Q.mk yk yi yn ys yp yq yl yy)
                have HP := fun W (t : Tab W) => PText_any (Q.mk yk yi yn ys yp yq yl yy) W OKy (Lib.hid t)
                have HRR := fun W => RText_any (Q.mk yk yi yn ys yp yq yl yy) W OKy
                obtain ⟨X, eX⟩ : ∃ X, encR (Q.mk yk yi yn ys yp yq yl yy) = X := ⟨_, rfl⟩
                obtain ⟨E, eE⟩ : ∃ E, encE (Q.mk yk yi yn ys yp yq yl yy) = E := ⟨_, rfl⟩
                obtain ⟨TX, eT⟩ : ∃ T, textQ (Q.mk yk yi yn ys yp yq yl yy) = T := ⟨_, rfl⟩
                rw [eX] at hXl
                simp only [eX, eE] at hp hr
                simp only [eT] at HP HRR
                clear eX eE eT OKy
                rw [show (Q.mk yk yi yn ys yp yq yl yy).val = .agg #[.int .i64 yk, .int .i64 yi, .int .i64 yn, .int .i64 ys, .int .i64 yp, .int .i64 yq, .int .i64 yl, .int .i64 yy] from rfl] at hp hr HP HRR
                replace hp := Lib.hid hp
                replace hr := Lib.hid hr
                replace HP := Lib.hid HP
                replace HRR := Lib.hid HRR
                obtain ⟨j0, j1, j2, j3, j4, j5, j6, j7⟩ := rep_at Y7
                replace Y7 := Lib.hid Y7
                replace B7 := Lib.hid B7
                replace L7 := Lib.hid L7
                have hXs : X.length ≤ 36 := by omega
                replace hXl := Lib.hid hXl
                go_wp2_with fail
                refine (hp.out _).mono ?_
                rintro e w8 ⟨r1, rfl, R1, b8⟩
                have C8 := Lib.hid ((b8.block cb (Array.getElem?_eq_some_iff.1 Y7.out).1).trans Y7.out)
                have L8 := Lib.hid ((b8.block lb (Array.getElem?_eq_some_iff.1 L7.out).1).trans L7.out)
                have B8 := Lib.hid (B7.out.trans (b8.mono B7.out.size))
                clear Y7 L7 B7 b8 hp j0 j1 j2 j3 j4 j5 j6 j7
                obtain ⟨A1, n1, c1, rfl, en1, S1⟩ := R1.src (by omega)
                replace en1 := Lib.hid en1
                replace S1 := Lib.hid S1
                clear R1
                obtain ⟨j0, j1, j2, j3, j4, j5, j6, j7⟩ := rep_at C8.out
                go_wp2_with fail
                refine (hr.out _).mono ?_
                rintro e w9 ⟨r2, rfl, R2, b9⟩
                have C9 := Lib.hid ((b9.block cb (Array.getElem?_eq_some_iff.1 C8.out).1).trans C8.out)
                have L9 := Lib.hid ((b9.block lb (Array.getElem?_eq_some_iff.1 L8.out).1).trans L8.out)
                have B9 := Lib.hid (B8.out.trans (b9.mono B8.out.size))
                replace S1 := Lib.hid (S1.out.below b9)
                clear C8 L8 B8 b9 hr j0 j1 j2 j3 j4 j5 j6 j7
                obtain ⟨A2, n2, c2, rfl, en2, S2⟩ := R2.src (by omega)
                replace en2 := Lib.hid en2
                replace S2 := Lib.hid S2
                clear R2
                have T9 := Lib.hid (hT.out.below B9.out)
                have hof : Hid (∀ W : World, Below w9.heap.size w9 W → (fun W : World => W.cell? ⟨cb, 0, none⟩ = some (.int .i64 yk) ∧ W.cell? ⟨cb, 1, none⟩ = some (.int .i64 yi) ∧ W.cell? ⟨cb, 2, none⟩ = some (.int .i64 yn) ∧ W.cell? ⟨cb, 3, none⟩ = some (.int .i64 ys) ∧ W.cell? ⟨cb, 4, none⟩ = some (.int .i64 yp) ∧ W.cell? ⟨cb, 5, none⟩ = some (.int .i64 yq) ∧ W.cell? ⟨cb, 6, none⟩ = some (.int .i64 yl) ∧ W.cell? ⟨cb, 7, none⟩ = some (.int .i64 yy) ∧ (convert 26 9 (.slice A1 n1 c1)).run Tryd.prog W = .ok (.string (str X)) W ∧ (convert 26 9 (.slice A2 n2 c2)).run Tryd.prog W = .ok (.string (str X)) W ∧ Below w9.heap.size w9 W) W) := Lib.hid (fun W b => by
                  obtain ⟨j0, j1, j2, j3, j4, j5, j6, j7⟩ := rep_at ((b.block cb (Array.getElem?_eq_some_iff.1 C9.out).1).trans C9.out)
                  exact ⟨j0, j1, j2, j3, j4, j5, j6, j7, (S1.out.below b).str, (S2.out.below b).str, b⟩)
                have hz0 := hof.out _ ((Below.refl w9.heap.size w9).drew)
                (try simp only at hz0)
                have i1 : ((E : Int) != (E : Int)) = false := by simp
                have hn2 : n2 ≤ 1000000 := by have := en2.out; omega
                obtain ⟨i0, hi0, hz00, hz01, hz02⟩ := info_parts info_u8
                go_upto_region 20 with (fail)
                refine wp_region_held_drew (S := (fun W : World => W.cell? ⟨cb, 0, none⟩ = some (.int .i64 yk) ∧ W.cell? ⟨cb, 1, none⟩ = some (.int .i64 yi) ∧ W.cell? ⟨cb, 2, none⟩ = some (.int .i64 yn) ∧ W.cell? ⟨cb, 3, none⟩ = some (.int .i64 ys) ∧ W.cell? ⟨cb, 4, none⟩ = some (.int .i64 yp) ∧ W.cell? ⟨cb, 5, none⟩ = some (.int .i64 yq) ∧ W.cell? ⟨cb, 6, none⟩ = some (.int .i64 yl) ∧ W.cell? ⟨cb, 7, none⟩ = some (.int .i64 yy) ∧ (convert 26 9 (.slice A1 n1 c1)).run Tryd.prog W = .ok (.string (str X)) W ∧ (convert 26 9 (.slice A2 n2 c2)).run Tryd.prog W = .ok (.string (str X)) W ∧ Below w9.heap.size w9 W)) (by kernel_rfl) hz0 (fun hHeld => ?_)
                refine wpAnyH_take (i := 0) (v := .slice A1 n1 c1) rfl (by kernel_rfl) (by kernel_rfl) (by kernel_rfl) (fun _ _ _ h => h) (Or.inl ⟨by kernel_rfl, fun W hSw => ?_⟩) (by assumption) ?_
                · (try dsimp only at hSw)
                  go_simp
                (try simp only [Act.put, List.setIfInBounds_toArray, List.set_cons_zero, List.set_cons_succ])
                refine wpAnyH_take (i := 1) (v := .string (str X)) rfl (by kernel_rfl) (by kernel_rfl) (by kernel_rfl) (fun _ _ _ h => h) (Or.inl ⟨by kernel_rfl, fun W hSw => ?_⟩) (by assumption) ?_
                · (try dsimp only at hSw)
                  go_simp
                (try simp only [Act.put, List.setIfInBounds_toArray, List.set_cons_zero, List.set_cons_succ])
                refine wpAnyH_take (i := 2) (v := .slice A2 n2 c2) rfl (by kernel_rfl) (by kernel_rfl) (by kernel_rfl) (fun _ _ _ h => h) (Or.inl ⟨by kernel_rfl, fun W hSw => ?_⟩) (by assumption) ?_
                · (try dsimp only at hSw)
                  go_simp
                (try simp only [Act.put, List.setIfInBounds_toArray, List.set_cons_zero, List.set_cons_succ])
                refine wpAnyH_take (i := 3) (v := .string (str X)) rfl (by kernel_rfl) (by kernel_rfl) (by kernel_rfl) (fun _ _ _ h => h) (Or.inl ⟨by kernel_rfl, fun W hSw => ?_⟩) (by assumption) ?_
                · (try dsimp only at hSw)
                  go_simp
                (try simp only [Act.put, List.setIfInBounds_toArray, List.set_cons_zero, List.set_cons_succ])
                refine wpAnyH_take (i := 4) (v := .bool false) rfl (by kernel_rfl) (by kernel_rfl) (by kernel_rfl) (fun _ _ _ h => h) (Or.inl ⟨by kernel_rfl, fun W hSw => ?_⟩) (by assumption) ?_
                · (try dsimp only at hSw)
                  go_simp
                (try simp only [Act.put, List.setIfInBounds_toArray, List.set_cons_zero, List.set_cons_succ])
                refine wpAnyH_take (i := 5) (v := .bool false) rfl (by kernel_rfl) (by kernel_rfl) (by kernel_rfl) (fun _ _ _ h => h) (Or.inl ⟨by kernel_rfl, fun W hSw => ?_⟩) (by assumption) ?_
                · (try dsimp only at hSw)
                  go_simp
                (try simp only [Act.put, List.setIfInBounds_toArray, List.set_cons_zero, List.set_cons_succ])
                refine wpAnyH_take (i := 6) (v := .int .i64 E) rfl (by kernel_rfl) (by kernel_rfl) (by kernel_rfl) (fun _ _ _ h => h) (Or.inl ⟨by kernel_rfl, fun W hSw => ?_⟩) (by assumption) ?_
                · (try dsimp only at hSw)
                  go_simp
                (try simp only [Act.put, List.setIfInBounds_toArray, List.set_cons_zero, List.set_cons_succ])
                refine wpAnyH_take (i := 7) (v := .int .i64 E) rfl (by kernel_rfl) (by kernel_rfl) (by kernel_rfl) (fun _ _ _ h => h) (Or.inl ⟨by kernel_rfl, fun W hSw => ?_⟩) (by assumption) ?_
                · (try dsimp only at hSw)
                  go_simp
                (try simp only [Act.put, List.setIfInBounds_toArray, List.set_cons_zero, List.set_cons_succ])
                refine wpAnyH_take (i := 8) (v := .bool false) rfl (by kernel_rfl) (by kernel_rfl) (by kernel_rfl) (fun _ _ _ h => h) (Or.inl ⟨by kernel_rfl, fun W hSw => ?_⟩) (by assumption) ?_
                · (try dsimp only at hSw)
                  go_simp
                (try simp only [Act.put, List.setIfInBounds_toArray, List.set_cons_zero, List.set_cons_succ])
                refine wpAnyH_take (i := 9) (v := .bool false) rfl (by kernel_rfl) (by kernel_rfl) (by kernel_rfl) (fun _ _ _ h => h) (Or.inl ⟨by kernel_rfl, fun W hSw => ?_⟩) (by assumption) ?_
                · (try dsimp only at hSw)
                  go_simp
                (try simp only [Act.put, List.setIfInBounds_toArray, List.set_cons_zero, List.set_cons_succ])
                refine wpAnyH_take (i := 10) (v := .bool false) rfl (by kernel_rfl) (by kernel_rfl) (by kernel_rfl) (fun _ _ _ h => h) (Or.inl ⟨by kernel_rfl, fun W hSw => ?_⟩) (by assumption) ?_
                · (try dsimp only at hSw)
                  go_simp
                (try simp only [Act.put, List.setIfInBounds_toArray, List.set_cons_zero, List.set_cons_succ])
                refine wpAnyH_take (i := 11) (v := .agg #[.int .i64 yk, .int .i64 yi, .int .i64 yn, .int .i64 ys, .int .i64 yp, .int .i64 yq, .int .i64 yl, .int .i64 yy]) rfl (by kernel_rfl) (by kernel_rfl) (by kernel_rfl) (fun _ _ _ h => h) (Or.inl ⟨by kernel_rfl, fun W hSw => ?_⟩) (by assumption) ?_
                · (try dsimp only at hSw)
                  go_simp
                (try simp only [Act.put, List.setIfInBounds_toArray, List.set_cons_zero, List.set_cons_succ])
                refine wpAnyH_take (i := 13) (v := .agg #[.int .i64 yk, .int .i64 yi, .int .i64 yn, .int .i64 ys, .int .i64 yp, .int .i64 yq, .int .i64 yl, .int .i64 yy]) rfl (by kernel_rfl) (by kernel_rfl) (by kernel_rfl) (fun _ _ _ h => h) (Or.inl ⟨by kernel_rfl, fun W hSw => ?_⟩) (by assumption) ?_
                · (try dsimp only at hSw)
                  go_simp
                (try simp only [Act.put, List.setIfInBounds_toArray, List.set_cons_zero, List.set_cons_succ])
                refine wpAnyH_ready (rs := [12]) (by kernel_rfl) (by simp) ?_
                refine AllReadyH.cons rfl (fun K hK => ?_) AllReadyH.nil
                go_simp
                refine ((HP.out _ (T9.out.below ((Below.refl w9.heap.size w9).drew)))).mono ?_
                rintro e x1 ⟨rfl, v1⟩
                have D1 := ((Below.refl w9.heap.size w9).drew).trans v1
                have z1 := hof.out _ D1
                replace D1 := Lib.hid D1
                go_wp2_with fail
                refine hK.out _ _ z1 (fun hHeld1 => ?_)
                clear hK K
                (try simp only [Act.put, List.setIfInBounds_toArray, List.set_cons_zero, List.set_cons_succ])
                refine wpAnyH_ready (rs := [14]) (by kernel_rfl) (by simp) ?_
                refine AllReadyH.cons rfl (fun K hK => ?_) AllReadyH.nil
                go_simp
                refine (HRR.out _).mono ?_
                rintro e x2 ⟨rfl, v2⟩
                have D2 := D1.out.trans (v2.mono D1.out.size)
                have z2 := hof.out _ D2
                replace D2 := Lib.hid D2
                go_wp2_with fail
                refine hK.out _ _ z2 (fun hHeld2 => ?_)
                clear hK K
                (try simp only [Act.put, List.setIfInBounds_toArray, List.set_cons_zero, List.set_cons_succ])
                refine wpAnyH_take (i := 15) (v := .bool false) rfl (by kernel_rfl) (by kernel_rfl) (by kernel_rfl) (fun _ _ _ h => h) (Or.inl ⟨by kernel_rfl, fun W hSw => ?_⟩) (by assumption) ?_
                · (try dsimp only at hSw)
                  go_simp
                (try simp only [Act.put, List.setIfInBounds_toArray, List.set_cons_zero, List.set_cons_succ])
                refine wpAnyH_take (i := 16) (v := .bool false) rfl (by kernel_rfl) (by kernel_rfl) (by kernel_rfl) (fun _ _ _ h => h) (Or.inl ⟨by kernel_rfl, fun W hSw => ?_⟩) (by assumption) ?_
                · (try dsimp only at hSw)
                  go_simp
                (try simp only [Act.put, List.setIfInBounds_toArray, List.set_cons_zero, List.set_cons_succ])
                refine wpAnyH_take (i := 17) (v := .bool false) rfl (by kernel_rfl) (by kernel_rfl) (by kernel_rfl) (fun _ _ _ h => h) (Or.inl ⟨by kernel_rfl, fun W hSw => ?_⟩) (by assumption) ?_
                · (try dsimp only at hSw)
                  go_simp
                (try simp only [Act.put, List.setIfInBounds_toArray, List.set_cons_zero, List.set_cons_succ])
                refine wpAnyH_take (i := 18) (v := .slice A2 n2 c2) rfl (by kernel_rfl) (by kernel_rfl) (by kernel_rfl) (fun _ _ _ h => h) (Or.inl ⟨by kernel_rfl, fun W hSw => ?_⟩) (by assumption) ?_
                · (try dsimp only at hSw)
                  go_simp
                (try simp only [Act.put, List.setIfInBounds_toArray, List.set_cons_zero, List.set_cons_succ])
                refine wpAnyH_ready (rs := [19]) (by kernel_rfl) (by simp) ?_
                refine AllReadyH.cons rfl (fun K hK => ?_) AllReadyH.nil
                go_simp
                refine (LRead_any A2 n2 c2 X _ hn2 (Lib.hid (S2.out.below D2.out))).mono ?_
                rintro e x3 ⟨rfl, v3⟩
                have D3 := D2.out.trans (v3.mono D2.out.size)
                have z3 := hof.out _ D3
                replace D3 := Lib.hid D3
                go_wp2_with fail
                refine hK.out _ _ z3 (fun hHeld3 => ?_)
                clear hK K
                (try simp only [Act.put, List.setIfInBounds_toArray, List.set_cons_zero, List.set_cons_succ])
                refine wpAnyH_take (i := 20) (v := .bool false) rfl (by kernel_rfl) (by kernel_rfl) (by kernel_rfl) (fun _ _ _ h => h) (Or.inl ⟨by kernel_rfl, fun W hSw => ?_⟩) (by assumption) ?_
                · (try dsimp only at hSw)
                  go_simp
                (try simp only [Act.put, List.setIfInBounds_toArray, List.set_cons_zero, List.set_cons_succ])
                refine wpAnyH_take (i := 21) (v := .bool false) rfl (by kernel_rfl) (by kernel_rfl) (by kernel_rfl) (fun _ _ _ h => h) (Or.inl ⟨by kernel_rfl, fun W hSw => ?_⟩) (by assumption) ?_
                · (try dsimp only at hSw)
                  go_simp
                (try simp only [Act.put, List.setIfInBounds_toArray, List.set_cons_zero, List.set_cons_succ])
                refine wpAnyH_take (i := 22) (v := .bool false) rfl (by kernel_rfl) (by kernel_rfl) (by kernel_rfl) (fun _ _ _ h => h) (Or.inl ⟨by kernel_rfl, fun W hSw => ?_⟩) (by assumption) ?_
                · (try dsimp only at hSw)
                  go_simp
                (try simp only [Act.put, List.setIfInBounds_toArray, List.set_cons_zero, List.set_cons_succ])
                refine wpAnyH_take (i := 23) (v := .slice A2 n2 c2) rfl (by kernel_rfl) (by kernel_rfl) (by kernel_rfl) (fun _ _ _ h => h) (Or.inl ⟨by kernel_rfl, fun W hSw => ?_⟩) (by assumption) ?_
                · (try dsimp only at hSw)
                  go_simp
                (try simp only [Act.put, List.setIfInBounds_toArray, List.set_cons_zero, List.set_cons_succ])
                refine wpAnyH_take (i := 24) (v := .int .i64 n2) rfl (by kernel_rfl) (by kernel_rfl) (by kernel_rfl) (fun _ _ _ h => h) (Or.inl ⟨by kernel_rfl, fun W hSw => ?_⟩) (by assumption) ?_
                · (try dsimp only at hSw)
                  go_simp
                (try simp only [Act.put, List.setIfInBounds_toArray, List.set_cons_zero, List.set_cons_succ])
                have h09 : n2 = 0 ∨ n2 = 36 := by rcases hXl.out with h | h <;> (have := en2.out; omega)
                rcases h09 with rfl | rfl
                · have d1 : decide ((0 : Int) < ((0 : Nat) : Int)) = false := by decide
                  refine wpAnyH_take (i := 25) (v := .bool false) rfl (by kernel_rfl) (by kernel_rfl) (by kernel_rfl) (fun _ _ _ h => h) (Or.inl ⟨by kernel_rfl, fun W hSw => ?_⟩) (by assumption) ?_
                  · (try dsimp only at hSw)
                    go_simp
                  (try simp only [Act.put, List.setIfInBounds_toArray, List.set_cons_zero, List.set_cons_succ])
                  refine wpAnyH_take (i := 26) (v := .bool false) rfl (by kernel_rfl) (by kernel_rfl) (by kernel_rfl) (fun _ _ _ h => h) (Or.inl ⟨by kernel_rfl, fun W hSw => ?_⟩) (by assumption) ?_
                  · (try dsimp only at hSw)
                    go_simp
                  (try simp only [Act.put, List.setIfInBounds_toArray, List.set_cons_zero, List.set_cons_succ])
                  refine wpAnyH_take (i := 27) (v := undef) rfl (by kernel_rfl) (by kernel_rfl) (by kernel_rfl) (fun _ _ _ h => h) (Or.inr ⟨by kernel_rfl, rfl⟩) (by assumption) ?_
                  (try simp only [Act.put, List.setIfInBounds_toArray, List.set_cons_zero, List.set_cons_succ])
                  refine wpAnyH_take (i := 28) (v := undef) rfl (by kernel_rfl) (by kernel_rfl) (by kernel_rfl) (fun _ _ _ h => h) (Or.inr ⟨by kernel_rfl, rfl⟩) (by assumption) ?_
                  (try simp only [Act.put, List.setIfInBounds_toArray, List.set_cons_zero, List.set_cons_succ])
                  refine wpAnyH_ready (rs := [29]) (by kernel_rfl) (by simp) ?_
                  refine AllReadyH.cons rfl (fun K hK => ?_) AllReadyH.nil
                  go_simp
                  refine hK.out _ _ (by assumption) (fun hHeld => ?_)
                  clear hK K
                  (try simp only [Act.put, List.setIfInBounds_toArray, List.set_cons_zero, List.set_cons_succ])
                  refine wpAnyH_take (i := 30) (v := undef) rfl (by kernel_rfl) (by kernel_rfl) (by kernel_rfl) (fun _ _ _ h => h) (Or.inr ⟨by kernel_rfl, rfl⟩) (by assumption) ?_
                  (try simp only [Act.put, List.setIfInBounds_toArray, List.set_cons_zero, List.set_cons_succ])
                  refine wpAnyH_take (i := 31) (v := undef) rfl (by kernel_rfl) (by kernel_rfl) (by kernel_rfl) (fun _ _ _ h => h) (Or.inr ⟨by kernel_rfl, rfl⟩) (by assumption) ?_
                  (try simp only [Act.put, List.setIfInBounds_toArray, List.set_cons_zero, List.set_cons_succ])
                  refine wpAnyH_take (i := 33) (v := undef) rfl (by kernel_rfl) (by kernel_rfl) (by kernel_rfl) (fun _ _ _ h => h) (Or.inr ⟨by kernel_rfl, rfl⟩) (by assumption) ?_
                  (try simp only [Act.put, List.setIfInBounds_toArray, List.set_cons_zero, List.set_cons_succ])
                  refine wpAnyH_ready (rs := [32, 35]) (by kernel_rfl) (by simp) ?_
                  refine AllReadyH.cons rfl (fun K hK => ?_) (AllReadyH.cons rfl (fun K hK => ?_) AllReadyH.nil)
                  · go_simp
                    refine hK.out _ _ (by assumption) (fun hHeld => ?_)
                    clear hK K
                    (try simp only [Act.put, List.setIfInBounds_toArray, List.set_cons_zero, List.set_cons_succ])
                    refine wpAnyH_ready (rs := [34, 35]) (by kernel_rfl) (by simp) ?_
                    refine AllReadyH.cons rfl (fun K hK => ?_) (AllReadyH.cons rfl (fun K hK => ?_) AllReadyH.nil)
                    · go_simp
                      refine hK.out _ _ (by assumption) (fun hHeld => ?_)
                      clear hK K
                      (try simp only [Act.put, List.setIfInBounds_toArray, List.set_cons_zero, List.set_cons_succ])
                      refine wpAnyH_ready (rs := [35]) (by kernel_rfl) (by simp) ?_
                      refine AllReadyH.cons rfl (fun K hK => ?_) AllReadyH.nil
                      go_simp
                      refine hK.out _ _ (by assumption) (fun hHeld => ?_)
                      clear hK K
                      (try simp only [Act.put, List.setIfInBounds_toArray, List.set_cons_zero, List.set_cons_succ])
                      refine wpAnyH_ready (rs := [36]) (by kernel_rfl) (by simp) ?_
                      refine AllReadyH.cons rfl (fun K hK => ?_) AllReadyH.nil
                      go_simp
                      refine hK.out _ _ (by assumption) (fun hHeld => ?_)
                      clear hK K
                      (try simp only [Act.put, List.setIfInBounds_toArray, List.set_cons_zero, List.set_cons_succ])
                      refine wpAnyH_ready (rs := [37]) (by kernel_rfl) (by simp) ?_
                      refine AllReadyH.cons rfl (fun K hK => ?_) AllReadyH.nil
                      go_simp
                      refine hK.out _ _ (by assumption) (fun hHeld => ?_)
                      clear hK K
                      (try simp only [Act.put, List.setIfInBounds_toArray, List.set_cons_zero, List.set_cons_succ])
                      refine wpAnyH_take (i := 38) (v := undef) rfl (by kernel_rfl) (by kernel_rfl) (by kernel_rfl) (fun _ _ _ h => h) (Or.inr ⟨by kernel_rfl, rfl⟩) (by assumption) ?_
                      (try simp only [Act.put, List.setIfInBounds_toArray, List.set_cons_zero, List.set_cons_succ])
                      refine wpAnyH_take (i := 39) (v := undef) rfl (by kernel_rfl) (by kernel_rfl) (by kernel_rfl) (fun _ _ _ h => h) (Or.inr ⟨by kernel_rfl, rfl⟩) (by assumption) ?_
                      (try simp only [Act.put, List.setIfInBounds_toArray, List.set_cons_zero, List.set_cons_succ])
                      refine wpAnyH_take (i := 40) (v := .bool false) rfl (by kernel_rfl) (by kernel_rfl) (by kernel_rfl) (fun _ _ _ h => h) (Or.inl ⟨by kernel_rfl, fun W hSw => ?_⟩) (by assumption) ?_
                      · (try dsimp only at hSw)
                        go_simp
                      (try simp only [Act.put, List.setIfInBounds_toArray, List.set_cons_zero, List.set_cons_succ])
                      refine wpAnyH_take (i := 41) (v := .bool false) rfl (by kernel_rfl) (by kernel_rfl) (by kernel_rfl) (fun _ _ _ h => h) (Or.inl ⟨by kernel_rfl, fun W hSw => ?_⟩) (by assumption) ?_
                      · (try dsimp only at hSw)
                        go_simp
                      (try simp only [Act.put, List.setIfInBounds_toArray, List.set_cons_zero, List.set_cons_succ])
                      refine wpAnyH_done (by kernel_rfl) ?_ _
                      have Bn := Lib.hid (B9.out.trans (D3.out.mono B9.out.size))
                      have Ln := Lib.hid ((D3.out.block lb (Array.getElem?_eq_some_iff.1 L9.out).1).trans L9.out)
                      clear hof hz0
                      go_wp2_with fail
                      go_roundw
                      case rel => exact ⟨how + 1, by go_num, by omega, Bn, Ln⟩
                      case measure => simp [intOf]; omega
                    · go_simp
                      refine hK.out _ _ (by assumption) (fun hHeld => ?_)
                      clear hK K
                      (try simp only [Act.put, List.setIfInBounds_toArray, List.set_cons_zero, List.set_cons_succ])
                      refine wpAnyH_ready (rs := [34]) (by kernel_rfl) (by simp) ?_
                      refine AllReadyH.cons rfl (fun K hK => ?_) AllReadyH.nil
                      go_simp
                      refine hK.out _ _ (by assumption) (fun hHeld => ?_)
                      clear hK K
                      (try simp only [Act.put, List.setIfInBounds_toArray, List.set_cons_zero, List.set_cons_succ])
                      refine wpAnyH_ready (rs := [36]) (by kernel_rfl) (by simp) ?_
                      refine AllReadyH.cons rfl (fun K hK => ?_) AllReadyH.nil
                      go_simp
                      refine hK.out _ _ (by assumption) (fun hHeld => ?_)
                      clear hK K
                      (try simp only [Act.put, List.setIfInBounds_toArray, List.set_cons_zero, List.set_cons_succ])
                      refine wpAnyH_ready (rs := [37]) (by kernel_rfl) (by simp) ?_
                      refine AllReadyH.cons rfl (fun K hK => ?_) AllReadyH.nil
                      go_simp
                      refine hK.out _ _ (by assumption) (fun hHeld => ?_)
                      clear hK K
                      (try simp only [Act.put, List.setIfInBounds_toArray, List.set_cons_zero, List.set_cons_succ])
                      refine wpAnyH_take (i := 38) (v := undef) rfl (by kernel_rfl) (by kernel_rfl) (by kernel_rfl) (fun _ _ _ h => h) (Or.inr ⟨by kernel_rfl, rfl⟩) (by assumption) ?_
                      (try simp only [Act.put, List.setIfInBounds_toArray, List.set_cons_zero, List.set_cons_succ])
                      refine wpAnyH_take (i := 39) (v := undef) rfl (by kernel_rfl) (by kernel_rfl) (by kernel_rfl) (fun _ _ _ h => h) (Or.inr ⟨by kernel_rfl, rfl⟩) (by assumption) ?_
                      (try simp only [Act.put, List.setIfInBounds_toArray, List.set_cons_zero, List.set_cons_succ])
                      refine wpAnyH_take (i := 40) (v := .bool false) rfl (by kernel_rfl) (by kernel_rfl) (by kernel_rfl) (fun _ _ _ h => h) (Or.inl ⟨by kernel_rfl, fun W hSw => ?_⟩) (by assumption) ?_
                      · (try dsimp only at hSw)
                        go_simp
                      (try simp only [Act.put, List.setIfInBounds_toArray, List.set_cons_zero, List.set_cons_succ])
                      refine wpAnyH_take (i := 41) (v := .bool false) rfl (by kernel_rfl) (by kernel_rfl) (by kernel_rfl) (fun _ _ _ h => h) (Or.inl ⟨by kernel_rfl, fun W hSw => ?_⟩) (by assumption) ?_
                      · (try dsimp only at hSw)
                        go_simp
                      (try simp only [Act.put, List.setIfInBounds_toArray, List.set_cons_zero, List.set_cons_succ])
                      refine wpAnyH_done (by kernel_rfl) ?_ _
                      have Bn := Lib.hid (B9.out.trans (D3.out.mono B9.out.size))
                      have Ln := Lib.hid ((D3.out.block lb (Array.getElem?_eq_some_iff.1 L9.out).1).trans L9.out)
                      clear hof hz0
                      go_wp2_with fail
                      go_roundw
                      case rel => exact ⟨how + 1, by go_num, by omega, Bn, Ln⟩
                      case measure => simp [intOf]; omega
                  · go_simp
                    refine hK.out _ _ (by assumption) (fun hHeld => ?_)
                    clear hK K
                    (try simp only [Act.put, List.setIfInBounds_toArray, List.set_cons_zero, List.set_cons_succ])
                    refine wpAnyH_ready (rs := [32]) (by kernel_rfl) (by simp) ?_
                    refine AllReadyH.cons rfl (fun K hK => ?_) AllReadyH.nil
                    go_simp
                    refine hK.out _ _ (by assumption) (fun hHeld => ?_)
                    clear hK K
                    (try simp only [Act.put, List.setIfInBounds_toArray, List.set_cons_zero, List.set_cons_succ])
                    refine wpAnyH_ready (rs := [34]) (by kernel_rfl) (by simp) ?_
                    refine AllReadyH.cons rfl (fun K hK => ?_) AllReadyH.nil
                    go_simp
                    refine hK.out _ _ (by assumption) (fun hHeld => ?_)
                    clear hK K
                    (try simp only [Act.put, List.setIfInBounds_toArray, List.set_cons_zero, List.set_cons_succ])
                    refine wpAnyH_ready (rs := [36]) (by kernel_rfl) (by simp) ?_
                    refine AllReadyH.cons rfl (fun K hK => ?_) AllReadyH.nil
                    go_simp
                    refine hK.out _ _ (by assumption) (fun hHeld => ?_)
                    clear hK K
                    (try simp only [Act.put, List.setIfInBounds_toArray, List.set_cons_zero, List.set_cons_succ])
                    refine wpAnyH_ready (rs := [37]) (by kernel_rfl) (by simp) ?_
                    refine AllReadyH.cons rfl (fun K hK => ?_) AllReadyH.nil
                    go_simp
                    refine hK.out _ _ (by assumption) (fun hHeld => ?_)
                    clear hK K
                    (try simp only [Act.put, List.setIfInBounds_toArray, List.set_cons_zero, List.set_cons_succ])
                    refine wpAnyH_take (i := 38) (v := undef) rfl (by kernel_rfl) (by kernel_rfl) (by kernel_rfl) (fun _ _ _ h => h) (Or.inr ⟨by kernel_rfl, rfl⟩) (by assumption) ?_
                    (try simp only [Act.put, List.setIfInBounds_toArray, List.set_cons_zero, List.set_cons_succ])
                    refine wpAnyH_take (i := 39) (v := undef) rfl (by kernel_rfl) (by kernel_rfl) (by kernel_rfl) (fun _ _ _ h => h) (Or.inr ⟨by kernel_rfl, rfl⟩) (by assumption) ?_
                    (try simp only [Act.put, List.setIfInBounds_toArray, List.set_cons_zero, List.set_cons_succ])
                    refine wpAnyH_take (i := 40) (v := .bool false) rfl (by kernel_rfl) (by kernel_rfl) (by kernel_rfl) (fun _ _ _ h => h) (Or.inl ⟨by kernel_rfl, fun W hSw => ?_⟩) (by assumption) ?_
                    · (try dsimp only at hSw)
                      go_simp
                    (try simp only [Act.put, List.setIfInBounds_toArray, List.set_cons_zero, List.set_cons_succ])
                    refine wpAnyH_take (i := 41) (v := .bool false) rfl (by kernel_rfl) (by kernel_rfl) (by kernel_rfl) (fun _ _ _ h => h) (Or.inl ⟨by kernel_rfl, fun W hSw => ?_⟩) (by assumption) ?_
                    · (try dsimp only at hSw)
                      go_simp
                    (try simp only [Act.put, List.setIfInBounds_toArray, List.set_cons_zero, List.set_cons_succ])
                    refine wpAnyH_done (by kernel_rfl) ?_ _
                    have Bn := Lib.hid (B9.out.trans (D3.out.mono B9.out.size))
                    have Ln := Lib.hid ((D3.out.block lb (Array.getElem?_eq_some_iff.1 L9.out).1).trans L9.out)
                    clear hof hz0
                    go_wp2_with fail
                    go_roundw
                    case rel => exact ⟨how + 1, by go_num, by omega, Bn, Ln⟩
                    case measure => simp [intOf]; omega
                · have d1 : decide ((0 : Int) < ((36 : Nat) : Int)) = true := by decide
                  obtain ⟨b2, o2, rfl, -⟩ := S2.out.hb.2 (by omega)
                  have hc2 : 36 ≤ c2 := S2.out.ncap
                  have d4 : (36 : Int) ≤ (c2 : Int) := by omega
                  have d5 : (1 : Int) ≤ (c2 : Int) := by omega
                  have dn : ¬ c2 = 1 := by omega
                  have dc : (c2 : Int) - 1 = ((c2 - 1 : Nat) : Int) := by omega
                  refine wpAnyH_take (i := 25) (v := .bool true) rfl (by kernel_rfl) (by kernel_rfl) (by kernel_rfl) (fun _ _ _ h => h) (Or.inl ⟨by kernel_rfl, fun W hSw => ?_⟩) (by assumption) ?_
                  · (try dsimp only at hSw)
                    go_simp
                  (try simp only [Act.put, List.setIfInBounds_toArray, List.set_cons_zero, List.set_cons_succ])
                  refine wpAnyH_take (i := 26) (v := .bool true) rfl (by kernel_rfl) (by kernel_rfl) (by kernel_rfl) (fun _ _ _ h => h) (Or.inl ⟨by kernel_rfl, fun W hSw => ?_⟩) (by assumption) ?_
                  · (try dsimp only at hSw)
                    go_simp
                  (try simp only [Act.put, List.setIfInBounds_toArray, List.set_cons_zero, List.set_cons_succ])
                  refine wpAnyH_take (i := 27) (v := .slice (some ⟨b2, o2, none⟩) 36 c2) rfl (by kernel_rfl) (by kernel_rfl) (by kernel_rfl) (fun _ _ _ h => h) (Or.inl ⟨by kernel_rfl, fun W hSw => ?_⟩) (by assumption) ?_
                  · (try dsimp only at hSw)
                    go_simp
                  (try simp only [Act.put, List.setIfInBounds_toArray, List.set_cons_zero, List.set_cons_succ])
                  refine wpAnyH_take (i := 28) (v := .slice (some ⟨b2, o2 + 1, none⟩) 35 (c2 - 1)) rfl (by kernel_rfl) (by kernel_rfl) (by kernel_rfl) (fun _ _ _ h => h) (Or.inl ⟨by kernel_rfl, fun W hSw => ?_⟩) (by assumption) ?_
                  · (try dsimp only at hSw)
                    go_simp
                  (try simp only [Act.put, List.setIfInBounds_toArray, List.set_cons_zero, List.set_cons_succ])
                  refine wpAnyH_ready (rs := [29]) (by kernel_rfl) (by simp) ?_
                  refine AllReadyH.cons rfl (fun K hK => ?_) AllReadyH.nil
                  go_simp
                  refine (LRead_any (some ⟨b2, o2 + 1, none⟩) 35 (c2 - 1) (X.drop 1) _ (by omega) (Lib.hid ((S2.out.below D3.out).behind (by omega)))).mono ?_
                  rintro e x4 ⟨rfl, v4⟩
                  have D4 := D3.out.trans (v4.mono D3.out.size)
                  have z4 := hof.out _ D4
                  replace D4 := Lib.hid D4
                  go_wp2_with fail
                  refine hK.out _ _ z4 (fun hHeld4 => ?_)
                  clear hK K
                  (try simp only [Act.put, List.setIfInBounds_toArray, List.set_cons_zero, List.set_cons_succ])
                  refine wpAnyH_take (i := 30) (v := .bool false) rfl (by kernel_rfl) (by kernel_rfl) (by kernel_rfl) (fun _ _ _ h => h) (Or.inl ⟨by kernel_rfl, fun W hSw => ?_⟩) (by assumption) ?_
                  · (try dsimp only at hSw)
                    go_simp
                  (try simp only [Act.put, List.setIfInBounds_toArray, List.set_cons_zero, List.set_cons_succ])
                  refine wpAnyH_take (i := 31) (v := .bool false) rfl (by kernel_rfl) (by kernel_rfl) (by kernel_rfl) (fun _ _ _ h => h) (Or.inl ⟨by kernel_rfl, fun W hSw => ?_⟩) (by assumption) ?_
                  · (try dsimp only at hSw)
                    go_simp
                  (try simp only [Act.put, List.setIfInBounds_toArray, List.set_cons_zero, List.set_cons_succ])
                  refine wpAnyH_take (i := 33) (v := .slice (some ⟨b2, o2, none⟩) 36 c2) rfl (by kernel_rfl) (by kernel_rfl) (by kernel_rfl) (fun _ _ _ h => h) (Or.inl ⟨by kernel_rfl, fun W hSw => ?_⟩) (by assumption) ?_
                  · (try dsimp only at hSw)
                    go_simp
                  (try simp only [Act.put, List.setIfInBounds_toArray, List.set_cons_zero, List.set_cons_succ])
                  refine wpAnyH_ready (rs := [32, 35]) (by kernel_rfl) (by simp) ?_
                  refine AllReadyH.cons rfl (fun K hK => ?_) (AllReadyH.cons rfl (fun K hK => ?_) AllReadyH.nil)
                  · go_simp
                    have P5 := rb_lit x4 w9.heap.size [] D4.out.size (by decide)
                    have D5 := D4.out.alloc D4.out.size (.cells #[] 5)
                    rw [show (.cells (List.map bc []).toArray 5 : Obj) = .cells #[] 5 from rfl, show ([] : List UInt8).length = 0 from rfl] at P5
                    obtain ⟨x5, ew⟩ : ∃ W, x4.alloc (.cells #[] 5) = W := ⟨_, rfl⟩
                    obtain ⟨b5, eb⟩ : ∃ b, x4.heap.size = b := ⟨_, rfl⟩
                    have hb5 : ∀ k, k < x4.heap.size → k ≠ b5 := fun k h e => by omega
                    rw [eb] at P5
                    rw [ew] at P5 D5
                    rw [ew, eb]
                    clear ew eb hb5
                    have z5 := hof.out _ D5
                    replace D5 := Lib.hid D5
                    replace P5 := Lib.hid P5
                    refine hK.out _ _ z5 (fun hHeld5 => ?_)
                    clear hK K
                    (try simp only [Act.put, List.setIfInBounds_toArray, List.set_cons_zero, List.set_cons_succ])
                    refine wpAnyH_ready (rs := [34, 35]) (by kernel_rfl) (by simp) ?_
                    refine AllReadyH.cons rfl (fun K hK => ?_) (AllReadyH.cons rfl (fun K hK => ?_) AllReadyH.nil)
                    · rw [if_pos (by kernel_rfl)]
                      refine wp_onto_b (.tmp 84) (.tmp 85) 26 rfl w9.heap.size i0 Tryd.underlying26 hi0 hz00 hz01 hz02 (Value.slice (some ⟨b5, 0, none⟩) 0 0) [] (by rfl) P5.out (some ⟨b2, o2, none⟩) 36 c2 X (by rfl) (S2.out.below D5.out).hb S2.out.none0 (by simp <;> omega) D5.out.size (fun v6 x6 P6 g6 o6 => ?_)
                      have D6 := RB.below D5.out P5.out g6
                      have z6 := hof.out _ D6
                      replace D6 := Lib.hid D6
                      replace P6 := Lib.hid P6
                      clear g6 o6
                      refine hK.out _ _ z6 (fun hHeld6 => ?_)
                      clear hK K
                      (try simp only [Act.put, List.setIfInBounds_toArray, List.set_cons_zero, List.set_cons_succ])
                      refine wpAnyH_ready (rs := [35]) (by kernel_rfl) (by simp) ?_
                      refine AllReadyH.cons rfl (fun K hK => ?_) AllReadyH.nil
                      go_simp
                      have Q7 := rb_lit x6 w9.heap.size [0] D6.out.size (by decide)
                      have D7 := D6.out.alloc D6.out.size (.cells #[.int .u8 0] 5)
                      rw [show (.cells (List.map bc [0]).toArray 5 : Obj) = .cells #[.int .u8 0] 5 from rfl, show ([0] : List UInt8).length = 1 from rfl] at Q7
                      obtain ⟨x7, ew⟩ : ∃ W, x6.alloc (.cells #[.int .u8 0] 5) = W := ⟨_, rfl⟩
                      obtain ⟨b7, eb⟩ : ∃ b, x6.heap.size = b := ⟨_, rfl⟩
                      have hb7 : ∀ k, k < x6.heap.size → k ≠ b7 := fun k h e => by omega
                      have P7 := P6.out.alloc (.cells #[.int .u8 0] 5)
                      rw [eb] at Q7
                      rw [ew] at Q7 D7
                      rw [ew] at P7
                      rw [ew, eb]
                      clear ew eb hb7
                      have z7 := hof.out _ D7
                      replace D7 := Lib.hid D7
                      replace P7 := Lib.hid P7
                      replace Q7 := Lib.hid Q7
                      refine hK.out _ _ z7 (fun hHeld7 => ?_)
                      clear hK K
                      (try simp only [Act.put, List.setIfInBounds_toArray, List.set_cons_zero, List.set_cons_succ])
                      refine wpAnyH_ready (rs := [36]) (by kernel_rfl) (by simp) ?_
                      refine AllReadyH.cons rfl (fun K hK => ?_) AllReadyH.nil
                      rw [if_pos (by kernel_rfl)]
                      refine wp_onto_b (.tmp 86) (.tmp 87) 26 rfl w9.heap.size i0 Tryd.underlying26 hi0 hz00 hz01 hz02 v6 ([] ++ X) (by rfl) P7.out (some ⟨b7, 0, none⟩) 1 1 [0] (by rfl) (rb_one Q7.out) (fun e => by cases e) (by simp <;> omega) D7.out.size (fun v8 x8 P8 g8 o8 => ?_)
                      have D8 := RB.below D7.out P7.out g8
                      have z8 := hof.out _ D8
                      replace D8 := Lib.hid D8
                      replace P8 := Lib.hid P8
                      clear g8 o8
                      refine hK.out _ _ z8 (fun hHeld8 => ?_)
                      clear hK K
                      (try simp only [Act.put, List.setIfInBounds_toArray, List.set_cons_zero, List.set_cons_succ])
                      refine wpAnyH_ready (rs := [37]) (by kernel_rfl) (by simp) ?_
                      refine AllReadyH.cons rfl (fun K hK => ?_) AllReadyH.nil
                      have hx5 : ([] ++ X ++ [0] : List UInt8).length ≤ 1000000 := by simp; omega
                      have P5 := P8.out
                      obtain ⟨X5, e5⟩ : ∃ l, ([] ++ X ++ [0] : List UInt8) = l := ⟨_, rfl⟩
                      rw [e5] at hx5 P5
                      obtain ⟨A5, n5, c5, rfl, en5, S5⟩ := P5.src (by omega)
                      replace S5 := Lib.hid S5
                      have HL := LRead_any A5 n5 c5 X5 x8 (by omega) S5
                      clear en5 P5 hx5 e5 P8
                      go_simp
                      refine HL.mono ?_
                      clear HL
                      rintro e x9 ⟨rfl, v9⟩
                      have D9 := D8.out.trans (v9.mono D8.out.size)
                      have z9 := hof.out _ D9
                      replace D9 := Lib.hid D9
                      go_wp2_with fail
                      refine hK.out _ _ z9 (fun hHeld9 => ?_)
                      clear hK K
                      (try simp only [Act.put, List.setIfInBounds_toArray, List.set_cons_zero, List.set_cons_succ])
                      refine wpAnyH_take (i := 38) (v := .bool false) rfl (by kernel_rfl) (by kernel_rfl) (by kernel_rfl) (fun _ _ _ h => h) (Or.inl ⟨by kernel_rfl, fun W hSw => ?_⟩) (by assumption) ?_
                      · (try dsimp only at hSw)
                        go_simp
                      (try simp only [Act.put, List.setIfInBounds_toArray, List.set_cons_zero, List.set_cons_succ])
                      refine wpAnyH_take (i := 39) (v := .bool false) rfl (by kernel_rfl) (by kernel_rfl) (by kernel_rfl) (fun _ _ _ h => h) (Or.inl ⟨by kernel_rfl, fun W hSw => ?_⟩) (by assumption) ?_
                      · (try dsimp only at hSw)
                        go_simp
                      (try simp only [Act.put, List.setIfInBounds_toArray, List.set_cons_zero, List.set_cons_succ])
                      refine wpAnyH_take (i := 40) (v := .bool false) rfl (by kernel_rfl) (by kernel_rfl) (by kernel_rfl) (fun _ _ _ h => h) (Or.inl ⟨by kernel_rfl, fun W hSw => ?_⟩) (by assumption) ?_
                      · (try dsimp only at hSw)
                        go_simp
                      (try simp only [Act.put, List.setIfInBounds_toArray, List.set_cons_zero, List.set_cons_succ])
                      refine wpAnyH_take (i := 41) (v := .bool false) rfl (by kernel_rfl) (by kernel_rfl) (by kernel_rfl) (fun _ _ _ h => h) (Or.inl ⟨by kernel_rfl, fun W hSw => ?_⟩) (by assumption) ?_
                      · (try dsimp only at hSw)
                        go_simp
                      (try simp only [Act.put, List.setIfInBounds_toArray, List.set_cons_zero, List.set_cons_succ])
                      refine wpAnyH_done (by kernel_rfl) ?_ _
                      have Bn := Lib.hid (B9.out.trans (D9.out.mono B9.out.size))
                      have Ln := Lib.hid ((D9.out.block lb (Array.getElem?_eq_some_iff.1 L9.out).1).trans L9.out)
                      clear hof hz0
                      go_wp2_with fail
                      go_roundw
                      case rel => exact ⟨how + 1, by go_num, by omega, Bn, Ln⟩
                      case measure => simp [intOf]; omega
                    · go_simp
                      have Q6 := rb_lit x5 w9.heap.size [0] D5.out.size (by decide)
                      have D6 := D5.out.alloc D5.out.size (.cells #[.int .u8 0] 5)
                      rw [show (.cells (List.map bc [0]).toArray 5 : Obj) = .cells #[.int .u8 0] 5 from rfl, show ([0] : List UInt8).length = 1 from rfl] at Q6
                      obtain ⟨x6, ew⟩ : ∃ W, x5.alloc (.cells #[.int .u8 0] 5) = W := ⟨_, rfl⟩
                      obtain ⟨b6, eb⟩ : ∃ b, x5.heap.size = b := ⟨_, rfl⟩
                      have hb6 : ∀ k, k < x5.heap.size → k ≠ b6 := fun k h e => by omega
                      have P6 := P5.out.alloc (.cells #[.int .u8 0] 5)
                      rw [eb] at Q6
                      rw [ew] at Q6 D6
                      rw [ew] at P6
                      have hne6 : b6 ≠ b5 := fun e => hb6 b5 (P5.out.blk rfl).2 e.symm
                      replace hne6 := Lib.hid hne6
                      rw [ew, eb]
                      clear ew eb hb6
                      have z6 := hof.out _ D6
                      replace D6 := Lib.hid D6
                      replace P6 := Lib.hid P6
                      replace Q6 := Lib.hid Q6
                      refine hK.out _ _ z6 (fun hHeld6 => ?_)
                      clear hK K
                      (try simp only [Act.put, List.setIfInBounds_toArray, List.set_cons_zero, List.set_cons_succ])
                      refine wpAnyH_ready (rs := [34]) (by kernel_rfl) (by simp) ?_
                      refine AllReadyH.cons rfl (fun K hK => ?_) AllReadyH.nil
                      rw [if_pos (by kernel_rfl)]
                      refine wp_onto_b (.tmp 84) (.tmp 85) 26 rfl w9.heap.size i0 Tryd.underlying26 hi0 hz00 hz01 hz02 (Value.slice (some ⟨b5, 0, none⟩) 0 0) [] (by rfl) P6.out (some ⟨b2, o2, none⟩) 36 c2 X (by rfl) (S2.out.below D6.out).hb S2.out.none0 (by simp <;> omega) D6.out.size (fun v7 x7 P7 g7 o7 => ?_)
                      have D7 := RB.below D6.out P6.out g7
                      have Q7 := Lib.hid (RB.kept Q6.out g7 (Or.inr (fun e => hne6.out (by injection e))))
                      have z7 := hof.out _ D7
                      replace D7 := Lib.hid D7
                      replace P7 := Lib.hid P7
                      clear g7 o7
                      refine hK.out _ _ z7 (fun hHeld7 => ?_)
                      clear hK K
                      (try simp only [Act.put, List.setIfInBounds_toArray, List.set_cons_zero, List.set_cons_succ])
                      refine wpAnyH_ready (rs := [36]) (by kernel_rfl) (by simp) ?_
                      refine AllReadyH.cons rfl (fun K hK => ?_) AllReadyH.nil
                      rw [if_pos (by kernel_rfl)]
                      refine wp_onto_b (.tmp 86) (.tmp 87) 26 rfl w9.heap.size i0 Tryd.underlying26 hi0 hz00 hz01 hz02 v7 ([] ++ X) (by rfl) P7.out (some ⟨b6, 0, none⟩) 1 1 [0] (by rfl) (rb_one Q7.out) (fun e => by cases e) (by simp <;> omega) D7.out.size (fun v8 x8 P8 g8 o8 => ?_)
                      have D8 := RB.below D7.out P7.out g8
                      have z8 := hof.out _ D8
                      replace D8 := Lib.hid D8
                      replace P8 := Lib.hid P8
                      clear g8 o8
                      refine hK.out _ _ z8 (fun hHeld8 => ?_)
                      clear hK K
                      (try simp only [Act.put, List.setIfInBounds_toArray, List.set_cons_zero, List.set_cons_succ])
                      refine wpAnyH_ready (rs := [37]) (by kernel_rfl) (by simp) ?_
                      refine AllReadyH.cons rfl (fun K hK => ?_) AllReadyH.nil
                      have hx5 : ([] ++ X ++ [0] : List UInt8).length ≤ 1000000 := by simp; omega
                      have P5 := P8.out
                      obtain ⟨X5, e5⟩ : ∃ l, ([] ++ X ++ [0] : List UInt8) = l := ⟨_, rfl⟩
                      rw [e5] at hx5 P5
                      obtain ⟨A5, n5, c5, rfl, en5, S5⟩ := P5.src (by omega)
                      replace S5 := Lib.hid S5
                      have HL := LRead_any A5 n5 c5 X5 x8 (by omega) S5
                      clear en5 P5 hx5 e5 P8
                      go_simp
                      refine HL.mono ?_
                      clear HL
                      rintro e x9 ⟨rfl, v9⟩
                      have D9 := D8.out.trans (v9.mono D8.out.size)
                      have z9 := hof.out _ D9
                      replace D9 := Lib.hid D9
                      go_wp2_with fail
                      refine hK.out _ _ z9 (fun hHeld9 => ?_)
                      clear hK K
                      (try simp only [Act.put, List.setIfInBounds_toArray, List.set_cons_zero, List.set_cons_succ])
                      refine wpAnyH_take (i := 38) (v := .bool false) rfl (by kernel_rfl) (by kernel_rfl) (by kernel_rfl) (fun _ _ _ h => h) (Or.inl ⟨by kernel_rfl, fun W hSw => ?_⟩) (by assumption) ?_
                      · (try dsimp only at hSw)
                        go_simp
                      (try simp only [Act.put, List.setIfInBounds_toArray, List.set_cons_zero, List.set_cons_succ])
                      refine wpAnyH_take (i := 39) (v := .bool false) rfl (by kernel_rfl) (by kernel_rfl) (by kernel_rfl) (fun _ _ _ h => h) (Or.inl ⟨by kernel_rfl, fun W hSw => ?_⟩) (by assumption) ?_
                      · (try dsimp only at hSw)
                        go_simp
                      (try simp only [Act.put, List.setIfInBounds_toArray, List.set_cons_zero, List.set_cons_succ])
                      refine wpAnyH_take (i := 40) (v := .bool false) rfl (by kernel_rfl) (by kernel_rfl) (by kernel_rfl) (fun _ _ _ h => h) (Or.inl ⟨by kernel_rfl, fun W hSw => ?_⟩) (by assumption) ?_
                      · (try dsimp only at hSw)
                        go_simp
                      (try simp only [Act.put, List.setIfInBounds_toArray, List.set_cons_zero, List.set_cons_succ])
                      refine wpAnyH_take (i := 41) (v := .bool false) rfl (by kernel_rfl) (by kernel_rfl) (by kernel_rfl) (fun _ _ _ h => h) (Or.inl ⟨by kernel_rfl, fun W hSw => ?_⟩) (by assumption) ?_
                      · (try dsimp only at hSw)
                        go_simp
                      (try simp only [Act.put, List.setIfInBounds_toArray, List.set_cons_zero, List.set_cons_succ])
                      refine wpAnyH_done (by kernel_rfl) ?_ _
                      have Bn := Lib.hid (B9.out.trans (D9.out.mono B9.out.size))
                      have Ln := Lib.hid ((D9.out.block lb (Array.getElem?_eq_some_iff.1 L9.out).1).trans L9.out)
                      clear hof hz0
                      go_wp2_with fail
                      go_roundw
                      case rel => exact ⟨how + 1, by go_num, by omega, Bn, Ln⟩
                      case measure => simp [intOf]; omega
                  · go_simp
                    have Q5 := rb_lit x4 w9.heap.size [0] D4.out.size (by decide)
                    have D5 := D4.out.alloc D4.out.size (.cells #[.int .u8 0] 5)
                    rw [show (.cells (List.map bc [0]).toArray 5 : Obj) = .cells #[.int .u8 0] 5 from rfl, show ([0] : List UInt8).length = 1 from rfl] at Q5
                    obtain ⟨x5, ew⟩ : ∃ W, x4.alloc (.cells #[.int .u8 0] 5) = W := ⟨_, rfl⟩
                    obtain ⟨b5, eb⟩ : ∃ b, x4.heap.size = b := ⟨_, rfl⟩
                    have hb5 : ∀ k, k < x4.heap.size → k ≠ b5 := fun k h e => by omega
                    rw [eb] at Q5
                    rw [ew] at Q5 D5
                    rw [ew, eb]
                    clear ew eb hb5
                    have z5 := hof.out _ D5
                    replace D5 := Lib.hid D5
                    replace Q5 := Lib.hid Q5
                    refine hK.out _ _ z5 (fun hHeld5 => ?_)
                    clear hK K
                    (try simp only [Act.put, List.setIfInBounds_toArray, List.set_cons_zero, List.set_cons_succ])
                    refine wpAnyH_ready (rs := [32]) (by kernel_rfl) (by simp) ?_
                    refine AllReadyH.cons rfl (fun K hK => ?_) AllReadyH.nil
                    go_simp
                    have P6 := rb_lit x5 w9.heap.size [] D5.out.size (by decide)
                    have D6 := D5.out.alloc D5.out.size (.cells #[] 5)
                    rw [show (.cells (List.map bc []).toArray 5 : Obj) = .cells #[] 5 from rfl, show ([] : List UInt8).length = 0 from rfl] at P6
                    obtain ⟨x6, ew⟩ : ∃ W, x5.alloc (.cells #[] 5) = W := ⟨_, rfl⟩
                    obtain ⟨b6, eb⟩ : ∃ b, x5.heap.size = b := ⟨_, rfl⟩
                    have hb6 : ∀ k, k < x5.heap.size → k ≠ b6 := fun k h e => by omega
                    have Q6 := Q5.out.alloc (.cells #[] 5)
                    rw [eb] at P6
                    rw [ew] at P6 D6
                    rw [ew] at Q6
                    have hne6 : b6 ≠ b5 := fun e => hb6 b5 (Q5.out.blk rfl).2 e.symm
                    replace hne6 := Lib.hid hne6
                    rw [ew, eb]
                    clear ew eb hb6
                    have z6 := hof.out _ D6
                    replace D6 := Lib.hid D6
                    replace P6 := Lib.hid P6
                    replace Q6 := Lib.hid Q6
                    refine hK.out _ _ z6 (fun hHeld6 => ?_)
                    clear hK K
                    (try simp only [Act.put, List.setIfInBounds_toArray, List.set_cons_zero, List.set_cons_succ])
                    refine wpAnyH_ready (rs := [34]) (by kernel_rfl) (by simp) ?_
                    refine AllReadyH.cons rfl (fun K hK => ?_) AllReadyH.nil
                    rw [if_pos (by kernel_rfl)]
                    refine wp_onto_b (.tmp 84) (.tmp 85) 26 rfl w9.heap.size i0 Tryd.underlying26 hi0 hz00 hz01 hz02 (Value.slice (some ⟨b6, 0, none⟩) 0 0) [] (by rfl) P6.out (some ⟨b2, o2, none⟩) 36 c2 X (by rfl) (S2.out.below D6.out).hb S2.out.none0 (by simp <;> omega) D6.out.size (fun v7 x7 P7 g7 o7 => ?_)
                    have D7 := RB.below D6.out P6.out g7
                    have Q7 := Lib.hid (RB.kept Q6.out g7 (Or.inr (fun e => hne6.out (by injection e with e; exact e.symm))))
                    have z7 := hof.out _ D7
                    replace D7 := Lib.hid D7
                    replace P7 := Lib.hid P7
                    clear g7 o7
                    refine hK.out _ _ z7 (fun hHeld7 => ?_)
                    clear hK K
                    (try simp only [Act.put, List.setIfInBounds_toArray, List.set_cons_zero, List.set_cons_succ])
                    refine wpAnyH_ready (rs := [36]) (by kernel_rfl) (by simp) ?_
                    refine AllReadyH.cons rfl (fun K hK => ?_) AllReadyH.nil
                    rw [if_pos (by kernel_rfl)]
                    refine wp_onto_b (.tmp 86) (.tmp 87) 26 rfl w9.heap.size i0 Tryd.underlying26 hi0 hz00 hz01 hz02 v7 ([] ++ X) (by rfl) P7.out (some ⟨b5, 0, none⟩) 1 1 [0] (by rfl) (rb_one Q7.out) (fun e => by cases e) (by simp <;> omega) D7.out.size (fun v8 x8 P8 g8 o8 => ?_)
                    have D8 := RB.below D7.out P7.out g8
                    have z8 := hof.out _ D8
                    replace D8 := Lib.hid D8
                    replace P8 := Lib.hid P8
                    clear g8 o8
                    refine hK.out _ _ z8 (fun hHeld8 => ?_)
                    clear hK K
                    (try simp only [Act.put, List.setIfInBounds_toArray, List.set_cons_zero, List.set_cons_succ])
                    refine wpAnyH_ready (rs := [37]) (by kernel_rfl) (by simp) ?_
                    refine AllReadyH.cons rfl (fun K hK => ?_) AllReadyH.nil
                    have hx5 : ([] ++ X ++ [0] : List UInt8).length ≤ 1000000 := by simp; omega
                    have P5 := P8.out
                    obtain ⟨X5, e5⟩ : ∃ l, ([] ++ X ++ [0] : List UInt8) = l := ⟨_, rfl⟩
                    rw [e5] at hx5 P5
                    obtain ⟨A5, n5, c5, rfl, en5, S5⟩ := P5.src (by omega)
                    replace S5 := Lib.hid S5
                    have HL := LRead_any A5 n5 c5 X5 x8 (by omega) S5
                    clear en5 P5 hx5 e5 P8
                    go_simp
                    refine HL.mono ?_
                    clear HL
                    rintro e x9 ⟨rfl, v9⟩
                    have D9 := D8.out.trans (v9.mono D8.out.size)
                    have z9 := hof.out _ D9
                    replace D9 := Lib.hid D9
                    go_wp2_with fail
                    refine hK.out _ _ z9 (fun hHeld9 => ?_)
                    clear hK K
                    (try simp only [Act.put, List.setIfInBounds_toArray, List.set_cons_zero, List.set_cons_succ])
                    refine wpAnyH_take (i := 38) (v := .bool false) rfl (by kernel_rfl) (by kernel_rfl) (by kernel_rfl) (fun _ _ _ h => h) (Or.inl ⟨by kernel_rfl, fun W hSw => ?_⟩) (by assumption) ?_
                    · (try dsimp only at hSw)
                      go_simp
                    (try simp only [Act.put, List.setIfInBounds_toArray, List.set_cons_zero, List.set_cons_succ])
                    refine wpAnyH_take (i := 39) (v := .bool false) rfl (by kernel_rfl) (by kernel_rfl) (by kernel_rfl) (fun _ _ _ h => h) (Or.inl ⟨by kernel_rfl, fun W hSw => ?_⟩) (by assumption) ?_
                    · (try dsimp only at hSw)
                      go_simp
                    (try simp only [Act.put, List.setIfInBounds_toArray, List.set_cons_zero, List.set_cons_succ])
                    refine wpAnyH_take (i := 40) (v := .bool false) rfl (by kernel_rfl) (by kernel_rfl) (by kernel_rfl) (fun _ _ _ h => h) (Or.inl ⟨by kernel_rfl, fun W hSw => ?_⟩) (by assumption) ?_
                    · (try dsimp only at hSw)
                      go_simp
                    (try simp only [Act.put, List.setIfInBounds_toArray, List.set_cons_zero, List.set_cons_succ])
                    refine wpAnyH_take (i := 41) (v := .bool false) rfl (by kernel_rfl) (by kernel_rfl) (by kernel_rfl) (fun _ _ _ h => h) (Or.inl ⟨by kernel_rfl, fun W hSw => ?_⟩) (by assumption) ?_
                    · (try dsimp only at hSw)
                      go_simp
                    (try simp only [Act.put, List.setIfInBounds_toArray, List.set_cons_zero, List.set_cons_succ])
                    refine wpAnyH_done (by kernel_rfl) ?_ _
                    have Bn := Lib.hid (B9.out.trans (D9.out.mono B9.out.size))
                    have Ln := Lib.hid ((D9.out.block lb (Array.getElem?_eq_some_iff.1 L9.out).1).trans L9.out)
                    clear hof hz0
                    go_wp2_with fail
                    go_roundw
                    case rel => exact ⟨how + 1, by go_num, by omega, Bn, Ln⟩
                    case measure => simp [intOf]; omega
            · have d5 : decide ((how : Int) < 3) = false := decide_eq_false (by omega)
              go_wp2_with fail
              go_roundw
              case rel => exact ⟨m + 1, by go_num, by omega, hB4, hL4⟩
              case measure => simp [intOf]; omega
        · have d3 : decide ((m : Int) < 8) = false := decide_eq_false (by omega)
          go_wp2_with fail
          go_roundw
          case rel => exact ⟨kd + 1, by go_num, by omega, by omega, hB3⟩
          case measure => simp [intOf]; omega
    · have d1 : decide (kd < 8) = false := decide_eq_false hlt
      have hN := PRead_all none 0 0 [] wr (by omega) (by omega) (by omega) (fun _ => rfl) (Lib.hid (src_none wr).hb)
      rw [readL_nil] at hN
      replace hN := Lib.hid hN
      go_wp2_with fail
      refine hN.out.mono ?_
      rintro e y1 ⟨v1, rfl, R1, b1⟩
      have B1 := Lib.hid (hB.out.trans (b1.mono hB.out.size))
      obtain ⟨An, nn, cn, rfl, -, -, -, -, en⟩ := R1.slice
      obtain rfl : nn = 0 := by simpa using en.symm
      clear hN b1 hB R1 en
      obtain ⟨y2, ey⟩ : ∃ W, y1.alloc (.cells #[.int .i64 0, .int .i64 0, .int .i64 0, .int .i64 0, .int .i64 0, .int .i64 0, .int .i64 0, .int .i64 0] 25) = W := ⟨_, rfl⟩
      obtain ⟨zb, ezb⟩ : ∃ b, y1.heap.size = b := ⟨_, rfl⟩
      have B2 : Hid (Below w.heap.size w y2) := Lib.hid (by rw [← ey]; exact B1.out.alloc B1.out.size _)
      have Z2 : Hid (y2.heap[zb]? = some (.cells #[.int .i64 0, .int .i64 0, .int .i64 0, .int .i64 0, .int .i64 0, .int .i64 0, .int .i64 0, .int .i64 0] 25 (0, 0))) := Lib.hid (by rw [← ey, ← ezb]; exact heap_alloc_new y1 _)
      have hA := PAll_any (some ⟨zb, 0, none⟩) 1 1 [zeroQ] y2 (by omega) (by omega) (by omega) (Lib.hid (hr_zero Z2.out)) (Lib.hid (fun r hr => by
        obtain rfl := List.mem_singleton.1 hr
        constructor <;> (constructor <;> decide)))
      rw [allQ_zero] at hA
      replace hA := Lib.hid hA
      go_wp2_with fail
      clear ey ezb Z2
      refine hA.out.mono ?_
      rintro e y3 ⟨v3, rfl, R3, b3⟩
      have B3 := Lib.hid (B2.out.trans (b3.mono B2.out.size))
      obtain ⟨A3, n3, c3, rfl, en3, -⟩ := R3.src (by simp)
      obtain rfl : n3 = 0 := by simpa using en3
      clear hA b3 B2 R3 en3
      go_wp2_with fail
      refine (Known_any _ (Lib.hid (hT.out.below B3.out))).mono ?_
      rintro e y4 ⟨rfl, b4⟩
      have B4 := Lib.hid (B3.out.trans (b4.mono B3.out.size))
      go_wp2_with fail
      go_ret
      exact ⟨rfl, B4.out⟩
end Go.Proofs.YtjhfgajhmenboaaDoor
