/-
  Contract: band, of the program.
-/
import Derived.Test.YtpfgmebajefjaaaRdOne
namespace Go.Proofs.Ytpfgmebajefjaaa
open Go.RowKit
set_option linter.unusedVariables false
set_option linter.unusedSimpArgs false

set_option maxRecDepth 100000 in
set_option maxHeartbeats 1600000 in
theorem Bands_any (p : PD) (i j : Int) (w : World) (h : Hid (p.Ok w)) (hw : -9223372036854775807 ≤ p.wide) :
    Calls Try.prog 22 #[p.val, .agg #[.int .i64 i, .int .i64 j]] w fun e w' => e = .returned (.tuple #[.int .i64 (if i = j then p.low else -p.wide), .int .i64 (if i = j then p.high else p.wide)]) ∧ Below w.heap.size w w' := by
  have l1 := h.out.l1
  have m1 := h.out.m1
  have l2 := h.out.l2
  have m2 := h.out.m2
  have hco := h.out.code
  obtain ⟨ti1, ti2⟩ := h.out.tick
  obtain ⟨lo1, lo2⟩ := h.out.low
  obtain ⟨hg1, hg2⟩ := h.out.high
  obtain ⟨wi1, wi2⟩ := h.out.wide
  obtain ⟨ru1, ru2⟩ := h.out.rule
  obtain ⟨to1, to2⟩ := h.out.top
  obtain ⟨le1, le2⟩ := h.out.least
  obtain ⟨pa1, pa2⟩ := h.out.part
  have HO1 : Hid (∀ W, Below w.heap.size w W → Nums W p.A1 p.n1 p.Q) := Lib.hid (fun W b => h.out.months.below b)
  have HO2 : Hid (∀ W, Below w.heap.size w W → Nums W p.A2 p.n2 p.R) := Lib.hid (fun W b => h.out.settle.below b)
  clear h
  obtain ⟨x, hx⟩ : ∃ x, (if i = j then p.low else -p.wide) = x := ⟨_, rfl⟩
  obtain ⟨y, hy⟩ : ∃ x, (if i = j then p.high else p.wide) = x := ⟨_, rfl⟩
  rw [hx, hy]
  obtain ⟨code, A1, n1, c1, tick, low, high, wide, rule, top, least, part, A2, n2, c2, Q, R⟩ := p
  simp only at l1 m1 l2 m2 hco ti1 ti2 lo1 lo2 hg1 hg2 wi1 wi2 ru1 ru2 to1 to2 le1 le2 pa1 pa2 HO1 HO2 hw hx hy
  replace hx := Lib.hid hx
  replace hy := Lib.hid hy
  show Calls Try.prog 22 #[.agg #[.string (str code), .slice A1 n1 c1, .int .i64 tick, .int .i64 low, .int .i64 high, .int .i64 wide, .int .i64 rule, .int .i64 top, .int .i64 least, .int .i64 part, .slice A2 n2 c2], .agg #[.int .i64 i, .int .i64 j]] w _
  obtain ⟨W0, eW0⟩ : ∃ W0, w.alloc (.cells #[.string (str code), .slice A1 n1 c1, .int .i64 tick, .int .i64 low, .int .i64 high, .int .i64 wide, .int .i64 rule, .int .i64 top, .int .i64 least, .int .i64 part, .slice A2 n2 c2] 25) = W0 := ⟨_, rfl⟩
  obtain ⟨pb, epb⟩ : ∃ pb, w.heap.size = pb := ⟨_, rfl⟩
  have hblk0 : W0.heap[pb]? = some (.cells #[.string (str code), .slice A1 n1 c1, .int .i64 tick, .int .i64 low, .int .i64 high, .int .i64 wide, .int .i64 rule, .int .i64 top, .int .i64 least, .int .i64 part, .slice A2 n2 c2] 25 (0, 0)) := by
    rw [← eW0, ← epb]; exact heap_alloc_new w _
  have hB0 : Below w.heap.size w W0 := by rw [← eW0]; exact (Below.refl _ w).alloc (Nat.le_refl _) _
  have hpb0 : pb < W0.heap.size := (Array.getElem?_eq_some_iff.1 hblk0).1
  have kk : ∀ W : World, W.heap[pb]? = some (.cells #[.string (str code), .slice A1 n1 c1, .int .i64 tick, .int .i64 low, .int .i64 high, .int .i64 wide, .int .i64 rule, .int .i64 top, .int .i64 least, .int .i64 part, .slice A2 n2 c2] 25 (0, 0)) → W.cell? ⟨pb, 0, none⟩ = some (.string (str code)) ∧ W.cell? ⟨pb, 1, none⟩ = some (.slice A1 n1 c1) ∧ W.cell? ⟨pb, 2, none⟩ = some (.int .i64 tick) ∧ W.cell? ⟨pb, 3, none⟩ = some (.int .i64 low) ∧ W.cell? ⟨pb, 4, none⟩ = some (.int .i64 high) ∧ W.cell? ⟨pb, 5, none⟩ = some (.int .i64 wide) ∧ W.cell? ⟨pb, 6, none⟩ = some (.int .i64 rule) ∧ W.cell? ⟨pb, 7, none⟩ = some (.int .i64 top) ∧ W.cell? ⟨pb, 8, none⟩ = some (.int .i64 least) ∧ W.cell? ⟨pb, 9, none⟩ = some (.int .i64 part) ∧ W.cell? ⟨pb, 10, none⟩ = some (.slice A2 n2 c2) := by
    intro W hb
    refine ⟨?_, ?_, ?_, ?_, ?_, ?_, ?_, ?_, ?_, ?_, ?_⟩ <;> (rw [Lib.cell_of_heap hb]; rfl)
  replace kk := Lib.hid kk
  replace eW0 := Lib.hid eW0
  replace epb := Lib.hid epb
  have a0 : (w.alloc (.cells #[.string (str code), .slice A1 n1 c1, .int .i64 tick, .int .i64 low, .int .i64 high, .int .i64 wide, .int .i64 rule, .int .i64 top, .int .i64 least, .int .i64 part, .slice A2 n2 c2] 25)).cell? ⟨w.heap.size, 0, none⟩ = some (.string (str code)) := by
    rw [eW0.out, epb.out]; exact (kk.out W0 hblk0).1
  have a1 : (w.alloc (.cells #[.string (str code), .slice A1 n1 c1, .int .i64 tick, .int .i64 low, .int .i64 high, .int .i64 wide, .int .i64 rule, .int .i64 top, .int .i64 least, .int .i64 part, .slice A2 n2 c2] 25)).cell? ⟨w.heap.size, 1, none⟩ = some (.slice A1 n1 c1) := by
    rw [eW0.out, epb.out]; exact (kk.out W0 hblk0).2.1
  have a2 : (w.alloc (.cells #[.string (str code), .slice A1 n1 c1, .int .i64 tick, .int .i64 low, .int .i64 high, .int .i64 wide, .int .i64 rule, .int .i64 top, .int .i64 least, .int .i64 part, .slice A2 n2 c2] 25)).cell? ⟨w.heap.size, 2, none⟩ = some (.int .i64 tick) := by
    rw [eW0.out, epb.out]; exact (kk.out W0 hblk0).2.2.1
  have a3 : (w.alloc (.cells #[.string (str code), .slice A1 n1 c1, .int .i64 tick, .int .i64 low, .int .i64 high, .int .i64 wide, .int .i64 rule, .int .i64 top, .int .i64 least, .int .i64 part, .slice A2 n2 c2] 25)).cell? ⟨w.heap.size, 3, none⟩ = some (.int .i64 low) := by
    rw [eW0.out, epb.out]; exact (kk.out W0 hblk0).2.2.2.1
  have a4 : (w.alloc (.cells #[.string (str code), .slice A1 n1 c1, .int .i64 tick, .int .i64 low, .int .i64 high, .int .i64 wide, .int .i64 rule, .int .i64 top, .int .i64 least, .int .i64 part, .slice A2 n2 c2] 25)).cell? ⟨w.heap.size, 4, none⟩ = some (.int .i64 high) := by
    rw [eW0.out, epb.out]; exact (kk.out W0 hblk0).2.2.2.2.1
  have a5 : (w.alloc (.cells #[.string (str code), .slice A1 n1 c1, .int .i64 tick, .int .i64 low, .int .i64 high, .int .i64 wide, .int .i64 rule, .int .i64 top, .int .i64 least, .int .i64 part, .slice A2 n2 c2] 25)).cell? ⟨w.heap.size, 5, none⟩ = some (.int .i64 wide) := by
    rw [eW0.out, epb.out]; exact (kk.out W0 hblk0).2.2.2.2.2.1
  have a6 : (w.alloc (.cells #[.string (str code), .slice A1 n1 c1, .int .i64 tick, .int .i64 low, .int .i64 high, .int .i64 wide, .int .i64 rule, .int .i64 top, .int .i64 least, .int .i64 part, .slice A2 n2 c2] 25)).cell? ⟨w.heap.size, 6, none⟩ = some (.int .i64 rule) := by
    rw [eW0.out, epb.out]; exact (kk.out W0 hblk0).2.2.2.2.2.2.1
  have a7 : (w.alloc (.cells #[.string (str code), .slice A1 n1 c1, .int .i64 tick, .int .i64 low, .int .i64 high, .int .i64 wide, .int .i64 rule, .int .i64 top, .int .i64 least, .int .i64 part, .slice A2 n2 c2] 25)).cell? ⟨w.heap.size, 7, none⟩ = some (.int .i64 top) := by
    rw [eW0.out, epb.out]; exact (kk.out W0 hblk0).2.2.2.2.2.2.2.1
  have a8 : (w.alloc (.cells #[.string (str code), .slice A1 n1 c1, .int .i64 tick, .int .i64 low, .int .i64 high, .int .i64 wide, .int .i64 rule, .int .i64 top, .int .i64 least, .int .i64 part, .slice A2 n2 c2] 25)).cell? ⟨w.heap.size, 8, none⟩ = some (.int .i64 least) := by
    rw [eW0.out, epb.out]; exact (kk.out W0 hblk0).2.2.2.2.2.2.2.2.1
  have a9 : (w.alloc (.cells #[.string (str code), .slice A1 n1 c1, .int .i64 tick, .int .i64 low, .int .i64 high, .int .i64 wide, .int .i64 rule, .int .i64 top, .int .i64 least, .int .i64 part, .slice A2 n2 c2] 25)).cell? ⟨w.heap.size, 9, none⟩ = some (.int .i64 part) := by
    rw [eW0.out, epb.out]; exact (kk.out W0 hblk0).2.2.2.2.2.2.2.2.2.1
  have a10 : (w.alloc (.cells #[.string (str code), .slice A1 n1 c1, .int .i64 tick, .int .i64 low, .int .i64 high, .int .i64 wide, .int .i64 rule, .int .i64 top, .int .i64 least, .int .i64 part, .slice A2 n2 c2] 25)).cell? ⟨w.heap.size, 10, none⟩ = some (.slice A2 n2 c2) := by
    rw [eW0.out, epb.out]; exact (kk.out W0 hblk0).2.2.2.2.2.2.2.2.2.2
  go_enter Try.func22, Try.ntmps22
  go_wp2_with fail
  have hs0 : W0.heap.size = pb + 1 := by rw [← eW0.out, World.size_alloc, epb.out]
  rw [eW0.out]
  rw [epb.out]
  clear a0 a1 a2 a3 a4 a5 a6 a7 a8 a9 a10 eW0
  obtain ⟨k0, k1, k2, k3, k4, k5, k6, k7, k8, k9, k10⟩ := kk.out W0 hblk0
  obtain ⟨W1, eW1⟩ : ∃ W, W0.alloc (.cells #[.int .i64 i, .int .i64 j] 45) = W := ⟨_, rfl⟩
  rw [eW1]
  have hq1 : W1.heap[pb + 1]? = some (.cells #[.int .i64 i, .int .i64 j] 45 (0, 0)) := by rw [← eW1, ← hs0]; exact heap_alloc_new W0 _
  have hblk1 : W1.heap[pb]? = some (.cells #[.string (str code), .slice A1 n1 c1, .int .i64 tick, .int .i64 low, .int .i64 high, .int .i64 wide, .int .i64 rule, .int .i64 top, .int .i64 least, .int .i64 part, .slice A2 n2 c2] 25 (0, 0)) := by rw [← eW1]; exact (heap_alloc_old _ _ hpb0).trans hblk0
  have hB1 : Below w.heap.size w W1 := by rw [← eW1]; exact hB0.alloc hB0.size _
  have hpb1 : pb < W1.heap.size := (Array.getElem?_eq_some_iff.1 hblk1).1
  have hqb1 : pb + 1 < W1.heap.size := (Array.getElem?_eq_some_iff.1 hq1).1
  have hpl : w.heap.size ≤ pb := by rw [epb.out]; exact Nat.le_refl _
  clear eW1 k0 k1 k2 k3 k4 k5 k6 k7 k8 k9 k10 hblk0 hpb0 hB0
  have HP := PSpread_any i j W1
  by_cases c : i = j
  · have hx2 := hx.out
    have hy2 := hy.out
    rw [if_pos c] at hx2 hy2
    rw [show (i != j) = false from by simp; exact c] at HP
    refine HP.mono ?_
    replace hx2 := Lib.hid hx2
    replace hy2 := Lib.hid hy2
    clear HP c hx hy
    rintro e w2 ⟨rfl, b2⟩
    have hblk2 : w2.heap[pb]? = _ := (b2.block pb hpb1).trans hblk1
    have hq2 : w2.heap[pb + 1]? = _ := (b2.block (pb + 1) hqb1).trans hq1
    have hB2 := hB1.trans (b2.mono hB1.size)
    have hpb2 : pb < w2.heap.size := (Array.getElem?_eq_some_iff.1 hblk2).1
    have hqb2 : pb + 1 < w2.heap.size := (Array.getElem?_eq_some_iff.1 hq2).1
    clear hblk1 hq1 hB1 hpb1 hqb1 b2
    obtain ⟨k0, k1, k2, k3, k4, k5, k6, k7, k8, k9, k10⟩ := kk.out w2 hblk2
    obtain ⟨s0, s1, z0, z1, -, -⟩ := pair_facts hq2
    have HB := Lib.hid hB2
    go_wp2_with fail
    go_quiet (fail)
    go_wp2_with fail
    go_ret2
    exact ⟨by rw [← hx2.out, ← hy2.out]; rfl, below_drewN HB.out _⟩
  · have hx2 := hx.out
    have hy2 := hy.out
    rw [if_neg c] at hx2 hy2
    rw [show (i != j) = true from by simp; exact c] at HP
    refine HP.mono ?_
    replace hx2 := Lib.hid hx2
    replace hy2 := Lib.hid hy2
    clear HP c hx hy
    rintro e w2 ⟨rfl, b2⟩
    have hblk2 : w2.heap[pb]? = _ := (b2.block pb hpb1).trans hblk1
    have hq2 : w2.heap[pb + 1]? = _ := (b2.block (pb + 1) hqb1).trans hq1
    have hB2 := hB1.trans (b2.mono hB1.size)
    have hpb2 : pb < w2.heap.size := (Array.getElem?_eq_some_iff.1 hblk2).1
    have hqb2 : pb + 1 < w2.heap.size := (Array.getElem?_eq_some_iff.1 hq2).1
    clear hblk1 hq1 hB1 hpb1 hqb1 b2
    obtain ⟨k0, k1, k2, k3, k4, k5, k6, k7, k8, k9, k10⟩ := kk.out w2 hblk2
    obtain ⟨s0, s1, z0, z1, -, -⟩ := pair_facts hq2
    have HB := Lib.hid hB2
    have r1 : -9223372036854775808 ≤ -wide := by omega
    have r2 : -wide ≤ 9223372036854775807 := by omega
    go_wp2_with fail
    go_quiet (fail)
    go_wp2_with fail
    go_ret2
    exact ⟨by rw [← hx2.out, ← hy2.out]; rfl, below_drewN HB.out _⟩
end Go.Proofs.Ytpfgmebajefjaaa
