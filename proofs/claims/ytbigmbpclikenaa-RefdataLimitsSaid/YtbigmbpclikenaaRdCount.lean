/-
  Contracts: Count, instrument, of the program.
-/
import Derived.Test.YtbigmbpclikenaaRdInst
import Derived.Laws.ResultCell
namespace Go.Proofs.Ytbigmbpclikenaa
open Go.RowKit
set_option linter.unusedVariables false
set_option linter.unusedSimpArgs false

set_option maxRecDepth 100000 in
set_option maxHeartbeats 1600000 in
theorem PCount_any (p : PD) (w : World) (h : Hid (p.Ok w)) :
    Calls Try.prog 21 #[p.val] w fun e w' => e = .returned (.int .i64 (cntL p)) ∧ Below w.heap.size w w' := by
  have HC : Hid (∀ W, Below w.heap.size w W → Calls Try.prog 45 #[p.val] W _) := Lib.hid (fun W b => Instruments_any p W (Lib.hid (h.out.below b)))
  obtain ⟨c0, hc0⟩ : ∃ e, cntL p = e := ⟨_, rfl⟩
  have h21 := cntL_le p
  rw [hc0] at HC h21 ⊢
  clear hc0
  have l1 := h.out.l1
  have m1 := h.out.m1
  have l2 := h.out.l2
  have m2 := h.out.m2
  have hco := h.out.code
  obtain ⟨ti1, ti2⟩ := h.out.tick
  obtain ⟨lo1, lo2⟩ := h.out.low
  obtain ⟨hg1, hg2⟩ := h.out.high
  obtain ⟨wi1, wi2⟩ := h.out.wide
  obtain ⟨ru1, ru2⟩ := h.out.rule
  obtain ⟨to1, to2⟩ := h.out.top
  obtain ⟨le1, le2⟩ := h.out.least
  obtain ⟨pa1, pa2⟩ := h.out.part
  have HO1 : Hid (∀ W, Below w.heap.size w W → Nums W p.A1 p.n1 p.Q) := Lib.hid (fun W b => h.out.months.below b)
  have HO2 : Hid (∀ W, Below w.heap.size w W → Nums W p.A2 p.n2 p.R) := Lib.hid (fun W b => h.out.settle.below b)
  clear h
  obtain ⟨K, hK⟩ : ∃ K : World → Ending → World → Prop, (fun W e w' => (∃ A c, e = .returned (.slice A c0 c) ∧ c0 ≤ c ∧ c ≤ 21 ∧ Pairs w' A c0 (fun k => (legsL p k).1) (fun k => (legsL p k).2.1)) ∧ Below W.heap.size W w') = K := ⟨_, rfl⟩
  have hK2 : ∀ W e w', K W e w' → (∃ A c, e = .returned (.slice A c0 c) ∧ c0 ≤ c ∧ c ≤ 21) ∧ Below W.heap.size W w' := fun W e w' g => by
    rw [← hK] at g
    obtain ⟨⟨A, c, g1, g2, g3, _⟩, g5⟩ := g
    exact ⟨⟨A, c, g1, g2, g3⟩, g5⟩
  replace HC : Hid (∀ W, Below w.heap.size w W → Calls Try.prog 45 #[p.val] W (K W)) := Lib.hid (fun W b => by rw [← hK]; exact HC.out W b)
  replace hK2 := Lib.hid hK2
  clear hK
  obtain ⟨code, A1, n1, c1, tick, low, high, wide, rule, top, least, part, A2, n2, c2, Q, R⟩ := p
  simp only at l1 m1 l2 m2 hco ti1 ti2 lo1 lo2 hg1 hg2 wi1 wi2 ru1 ru2 to1 to2 le1 le2 pa1 pa2 HO1 HO2 
  replace HC : Hid (∀ W, Below w.heap.size w W → Calls Try.prog 45 #[.agg #[.string (str code), .slice A1 n1 c1, .int .i64 tick, .int .i64 low, .int .i64 high, .int .i64 wide, .int .i64 rule, .int .i64 top, .int .i64 least, .int .i64 part, .slice A2 n2 c2]] W (K W)) := HC
  show Calls Try.prog 21 #[.agg #[.string (str code), .slice A1 n1 c1, .int .i64 tick, .int .i64 low, .int .i64 high, .int .i64 wide, .int .i64 rule, .int .i64 top, .int .i64 least, .int .i64 part, .slice A2 n2 c2]] w _
  obtain ⟨W0, eW0⟩ : ∃ W0, w.alloc (.cells #[.string (str code), .slice A1 n1 c1, .int .i64 tick, .int .i64 low, .int .i64 high, .int .i64 wide, .int .i64 rule, .int .i64 top, .int .i64 least, .int .i64 part, .slice A2 n2 c2] 25) = W0 := ⟨_, rfl⟩
  obtain ⟨pb, epb⟩ : ∃ pb, w.heap.size = pb := ⟨_, rfl⟩
  have hblk0 : W0.heap[pb]? = some (.cells #[.string (str code), .slice A1 n1 c1, .int .i64 tick, .int .i64 low, .int .i64 high, .int .i64 wide, .int .i64 rule, .int .i64 top, .int .i64 least, .int .i64 part, .slice A2 n2 c2] 25 (0, 0)) := by
    rw [← eW0, ← epb]; exact heap_alloc_new w _
  have hB0 : Below w.heap.size w W0 := by rw [← eW0]; exact (Below.refl _ w).alloc (Nat.le_refl _) _
  have hpb0 : pb < W0.heap.size := (Array.getElem?_eq_some_iff.1 hblk0).1
  have kk : ∀ W : World, W.heap[pb]? = some (.cells #[.string (str code), .slice A1 n1 c1, .int .i64 tick, .int .i64 low, .int .i64 high, .int .i64 wide, .int .i64 rule, .int .i64 top, .int .i64 least, .int .i64 part, .slice A2 n2 c2] 25 (0, 0)) → W.cell? ⟨pb, 0, none⟩ = some (.string (str code)) ∧ W.cell? ⟨pb, 1, none⟩ = some (.slice A1 n1 c1) ∧ W.cell? ⟨pb, 2, none⟩ = some (.int .i64 tick) ∧ W.cell? ⟨pb, 3, none⟩ = some (.int .i64 low) ∧ W.cell? ⟨pb, 4, none⟩ = some (.int .i64 high) ∧ W.cell? ⟨pb, 5, none⟩ = some (.int .i64 wide) ∧ W.cell? ⟨pb, 6, none⟩ = some (.int .i64 rule) ∧ W.cell? ⟨pb, 7, none⟩ = some (.int .i64 top) ∧ W.cell? ⟨pb, 8, none⟩ = some (.int .i64 least) ∧ W.cell? ⟨pb, 9, none⟩ = some (.int .i64 part) ∧ W.cell? ⟨pb, 10, none⟩ = some (.slice A2 n2 c2) := by
    intro W hb
    refine ⟨?_, ?_, ?_, ?_, ?_, ?_, ?_, ?_, ?_, ?_, ?_⟩ <;> (rw [Lib.cell_of_heap hb]; rfl)
  replace kk := Lib.hid kk
  replace eW0 := Lib.hid eW0
  replace epb := Lib.hid epb
  have a0 : (w.alloc (.cells #[.string (str code), .slice A1 n1 c1, .int .i64 tick, .int .i64 low, .int .i64 high, .int .i64 wide, .int .i64 rule, .int .i64 top, .int .i64 least, .int .i64 part, .slice A2 n2 c2] 25)).cell? ⟨w.heap.size, 0, none⟩ = some (.string (str code)) := by
    rw [eW0.out, epb.out]; exact (kk.out W0 hblk0).1
  have a1 : (w.alloc (.cells #[.string (str code), .slice A1 n1 c1, .int .i64 tick, .int .i64 low, .int .i64 high, .int .i64 wide, .int .i64 rule, .int .i64 top, .int .i64 least, .int .i64 part, .slice A2 n2 c2] 25)).cell? ⟨w.heap.size, 1, none⟩ = some (.slice A1 n1 c1) := by
    rw [eW0.out, epb.out]; exact (kk.out W0 hblk0).2.1
  have a2 : (w.alloc (.cells #[.string (str code), .slice A1 n1 c1, .int .i64 tick, .int .i64 low, .int .i64 high, .int .i64 wide, .int .i64 rule, .int .i64 top, .int .i64 least, .int .i64 part, .slice A2 n2 c2] 25)).cell? ⟨w.heap.size, 2, none⟩ = some (.int .i64 tick) := by
    rw [eW0.out, epb.out]; exact (kk.out W0 hblk0).2.2.1
  have a3 : (w.alloc (.cells #[.string (str code), .slice A1 n1 c1, .int .i64 tick, .int .i64 low, .int .i64 high, .int .i64 wide, .int .i64 rule, .int .i64 top, .int .i64 least, .int .i64 part, .slice A2 n2 c2] 25)).cell? ⟨w.heap.size, 3, none⟩ = some (.int .i64 low) := by
    rw [eW0.out, epb.out]; exact (kk.out W0 hblk0).2.2.2.1
  have a4 : (w.alloc (.cells #[.string (str code), .slice A1 n1 c1, .int .i64 tick, .int .i64 low, .int .i64 high, .int .i64 wide, .int .i64 rule, .int .i64 top, .int .i64 least, .int .i64 part, .slice A2 n2 c2] 25)).cell? ⟨w.heap.size, 4, none⟩ = some (.int .i64 high) := by
    rw [eW0.out, epb.out]; exact (kk.out W0 hblk0).2.2.2.2.1
  have a5 : (w.alloc (.cells #[.string (str code), .slice A1 n1 c1, .int .i64 tick, .int .i64 low, .int .i64 high, .int .i64 wide, .int .i64 rule, .int .i64 top, .int .i64 least, .int .i64 part, .slice A2 n2 c2] 25)).cell? ⟨w.heap.size, 5, none⟩ = some (.int .i64 wide) := by
    rw [eW0.out, epb.out]; exact (kk.out W0 hblk0).2.2.2.2.2.1
  have a6 : (w.alloc (.cells #[.string (str code), .slice A1 n1 c1, .int .i64 tick, .int .i64 low, .int .i64 high, .int .i64 wide, .int .i64 rule, .int .i64 top, .int .i64 least, .int .i64 part, .slice A2 n2 c2] 25)).cell? ⟨w.heap.size, 6, none⟩ = some (.int .i64 rule) := by
    rw [eW0.out, epb.out]; exact (kk.out W0 hblk0).2.2.2.2.2.2.1
  have a7 : (w.alloc (.cells #[.string (str code), .slice A1 n1 c1, .int .i64 tick, .int .i64 low, .int .i64 high, .int .i64 wide, .int .i64 rule, .int .i64 top, .int .i64 least, .int .i64 part, .slice A2 n2 c2] 25)).cell? ⟨w.heap.size, 7, none⟩ = some (.int .i64 top) := by
    rw [eW0.out, epb.out]; exact (kk.out W0 hblk0).2.2.2.2.2.2.2.1
  have a8 : (w.alloc (.cells #[.string (str code), .slice A1 n1 c1, .int .i64 tick, .int .i64 low, .int .i64 high, .int .i64 wide, .int .i64 rule, .int .i64 top, .int .i64 least, .int .i64 part, .slice A2 n2 c2] 25)).cell? ⟨w.heap.size, 8, none⟩ = some (.int .i64 least) := by
    rw [eW0.out, epb.out]; exact (kk.out W0 hblk0).2.2.2.2.2.2.2.2.1
  have a9 : (w.alloc (.cells #[.string (str code), .slice A1 n1 c1, .int .i64 tick, .int .i64 low, .int .i64 high, .int .i64 wide, .int .i64 rule, .int .i64 top, .int .i64 least, .int .i64 part, .slice A2 n2 c2] 25)).cell? ⟨w.heap.size, 9, none⟩ = some (.int .i64 part) := by
    rw [eW0.out, epb.out]; exact (kk.out W0 hblk0).2.2.2.2.2.2.2.2.2.1
  have a10 : (w.alloc (.cells #[.string (str code), .slice A1 n1 c1, .int .i64 tick, .int .i64 low, .int .i64 high, .int .i64 wide, .int .i64 rule, .int .i64 top, .int .i64 least, .int .i64 part, .slice A2 n2 c2] 25)).cell? ⟨w.heap.size, 10, none⟩ = some (.slice A2 n2 c2) := by
    rw [eW0.out, epb.out]; exact (kk.out W0 hblk0).2.2.2.2.2.2.2.2.2.2
  go_enter Try.func21, Try.ntmps21
  go_wp2_with fail
  rw [eW0.out]
  rw [epb.out]
  clear a0 a1 a2 a3 a4 a5 a6 a7 a8 a9 a10 eW0
  obtain ⟨k0, k1, k2, k3, k4, k5, k6, k7, k8, k9, k10⟩ := kk.out W0 hblk0
  refine (HC.out W0 hB0).mono ?_
  intro e w1 hk
  obtain ⟨⟨A, c, rfl, hc1, hc2⟩, b1⟩ := hK2.out _ _ _ hk
  have HB := Lib.hid (hB0.trans (b1.mono hB0.size))
  clear hk b1 k0 k1 k2 k3 k4 k5 k6 k7 k8 k9 k10 hblk0 hpb0 hB0
  go_wp2_with fail
  go_ret
  exact ⟨rfl, HB.out⟩
end Go.Proofs.Ytbigmbpclikenaa
