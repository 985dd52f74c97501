/-
  Contract: Best, of cornhillref9.
-/
import Derived.Test.YtlknlicokacoiaaRLad
import Derived.Test.YtlknlicokacoiaaBkReads
namespace Go.Proofs.Ytlknlicokacoiaa
open Go.RowKit
set_option linter.unusedVariables false
set_option linter.unusedSimpArgs false

theorem build_noRLevel : ∀ W : World, (Instr.build 72 #[]).run Try.prog W = .ok (.agg #[.int .i64 0, .int .i64 0, .int .i64 0]) W := fun W => by kernel_rfl
set_option maxRecDepth 100000 in
set_option maxHeartbeats 2000000 in
theorem RBest_any (B d : Nat) (v : Value) (L : List Or) (s : Int) (w : World) (hR : Hid (Rm B d v L w)) (hn : L.length ≤ 100000) (hF : Hid (∀ x ∈ L, 1 ≤ x.n ∧ x.n ≤ 1000000)) :
    Calls Try.prog 29 #[.pointer (some ⟨d, 0, none⟩), .int .i64 s] w fun e w' => e = .returned (.tuple #[(bestO L s).1.val, .bool (bestO L s).2]) ∧ Below w.heap.size w w' := by
  obtain ⟨g, eg⟩ : ∃ g, w.heap.size = g := ⟨_, rfl⟩
  obtain ⟨W0, eW0⟩ : ∃ W, w.alloc (.cells #[.int .i64 0, .int .i64 0, .int .i64 0] 72) = W := ⟨_, rfl⟩
  have hg : W0.heap[g]? = some (.cells #[.int .i64 0, .int .i64 0, .int .i64 0] 72 (0, 0)) := by rw [← eW0, ← eg]; exact heap_alloc_new w _
  have b0 : Below w.heap.size w W0 := by rw [← eW0]; exact (Below.refl _ w).alloc (Nat.le_refl _) _
  have hR0 := Lib.hid (hR.out.below b0)
  have hle : Hid (w.heap.size ≤ g) := Lib.hid (by omega)
  have HL := Lib.hid (RLadder_any B d v L s W0 hR0 hn hF)
  have hbn := build_noRLevel
  have hgl : Hid (g < W0.heap.size) := Lib.hid (Array.getElem?_eq_some_iff.1 hg).1
  have hgh := Lib.hid hg
  have hb0 := Lib.hid b0
  obtain ⟨P, eP⟩ : ∃ P, bestO L s = P := ⟨_, rfl⟩
  rw [eP]
  replace eP := Lib.hid eP
  replace eW0 := Lib.hid eW0
  replace eg := Lib.hid eg
  clear hg b0
  go_enter Try.func29, Try.ntmps29
  go_upto_region 1 with (fail)
  rw [eW0.out, eg.out]
  go_wp2_with fail
  refine HL.out.mono ?_
  rintro e w1 ⟨v', rfl, O1, b1⟩
  have hg1 : w1.heap[g]? = some (.cells #[.int .i64 0, .int .i64 0, .int .i64 0] 72 (0, 0)) := (b1.block g hgl.out).trans hgh.out
  have B1 : Below w.heap.size w w1 := hb0.out.trans (b1.mono hb0.out.size)
  obtain ⟨⟨y0, y1, y2⟩, u0, u1, u2⟩ := row3 hg1
  have fin : Hid (∀ x : Lv, (((w1.setCell ⟨g, 0, none⟩ (.int .i64 x.p)).setCell ⟨g, 1, none⟩ (.int .i64 x.n)).setCell ⟨g, 2, none⟩ (.int .i64 x.c)).heap[g]? = some (.cells x.cells 72 (0, 0)) ∧
      Below w.heap.size w (((w1.setCell ⟨g, 0, none⟩ (.int .i64 x.p)).setCell ⟨g, 1, none⟩ (.int .i64 x.n)).setCell ⟨g, 2, none⟩ (.int .i64 x.c))) := Lib.hid (fun x =>
    ⟨set3 _ _ _ hg1, ((B1.setCell (p := ⟨g, 0, none⟩) hle.out _).setCell (p := ⟨g, 1, none⟩) hle.out _).setCell (p := ⟨g, 2, none⟩) hle.out _⟩)
  obtain ⟨A, cap, rfl, hv, h1, h2, -, -⟩ := O1.slice
  obtain ⟨l, el⟩ : ∃ l, ladO L s = l := ⟨_, rfl⟩
  rw [el] at hv h1 O1 ⊢
  cases l with
  | nil =>
    have hP : Hid (P = (zeroL, false)) := Lib.hid (by rw [← eP.out]; exact bestO_nil el)
    have fz := Lib.hid (fin.out zeroL)
    simp only [zeroL] at fz
    replace el := Lib.hid el
    replace O1 := Lib.hid O1
    replace hv := Lib.hid hv
    replace hg1 := Lib.hid hg1
    replace B1 := Lib.hid B1
    clear fin h1
    simp only [List.length_nil]
    go_wp2_with fail
    refine bodyPost_ret (results_cell_row_tmp rfl _ _ g 72 _ (0, 0) _ rfl fz.out.1 rfl rfl rfl) rfl ?_
    rw [hP.out]
    exact ⟨rfl, fz.out.2⟩
  | cons x l =>
    have hP : Hid (P = (x, true)) := Lib.hid (by rw [← eP.out]; exact bestO_cons el)
    have fz := Lib.hid (fin.out x)
    obtain ⟨gv, off, rfl, d0, d1, d2⟩ := hv.atL (j := 0) (x := x) rfl
    obtain ⟨n, en⟩ : ∃ n, (x :: l).length = n := ⟨_, rfl⟩
    have hn1 : 1 ≤ n := by rw [← en]; simp
    rw [en] at h1 ⊢
    obtain ⟨xp, xn, xc⟩ := x
    simp only [Nat.zero_mul, Nat.add_zero] at d0 d1 d2 fz
    have k0 : ((n : Int) == 0) = false := by simp; omega
    have k1 : ¬ (n : Int) = 0 := by omega
    have k2 : 0 < n := hn1
    have k3 : (0 : Int) < (n : Int) := by omega
    replace el := Lib.hid el
    replace en := Lib.hid en
    replace O1 := Lib.hid O1
    replace hv := Lib.hid hv
    replace hg1 := Lib.hid hg1
    replace B1 := Lib.hid B1
    clear fin
    go_wp2_with fail
    refine bodyPost_ret (results_cell_row_tmp rfl _ _ g 72 _ (0, 0) _ rfl fz.out.1 rfl rfl rfl) rfl ?_
    rw [hP.out]
    exact ⟨rfl, fz.out.2⟩
end Go.Proofs.Ytlknlicokacoiaa
