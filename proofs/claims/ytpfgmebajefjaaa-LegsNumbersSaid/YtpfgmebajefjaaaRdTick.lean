/-
  Contract: onTick, of the program.
-/
import Derived.Test.YtpfgmebajefjaaaRdLeaf
namespace Go.Proofs.Ytpfgmebajefjaaa
open Go.RowKit
set_option linter.unusedVariables false
set_option linter.unusedSimpArgs false

def otB (p : PD) : Bool := decide (1 ≤ p.tick ∧ p.tick ≤ 1000 ∧ (∀ i, i < p.n2 → (p.R i).tmod p.tick = 0) ∧ p.low.tmod p.tick = 0 ∧ p.high.tmod p.tick = 0 ∧ p.wide.tmod p.tick = 0)
set_option maxRecDepth 100000 in
set_option maxHeartbeats 1600000 in
theorem OnTick_any (p : PD) (w : World) (h : Hid (p.Ok w)) :
    Calls Try.prog 30 #[p.val] w fun e w' => e = .returned (.bool (otB p)) ∧ Below w.heap.size w w' := by
  have l1 := h.out.l1
  have m1 := h.out.m1
  have l2 := h.out.l2
  have m2 := h.out.m2
  have hco := h.out.code
  obtain ⟨ti1, ti2⟩ := h.out.tick
  obtain ⟨lo1, lo2⟩ := h.out.low
  obtain ⟨hg1, hg2⟩ := h.out.high
  obtain ⟨wi1, wi2⟩ := h.out.wide
  obtain ⟨ru1, ru2⟩ := h.out.rule
  obtain ⟨to1, to2⟩ := h.out.top
  obtain ⟨le1, le2⟩ := h.out.least
  obtain ⟨pa1, pa2⟩ := h.out.part
  have HO1 : Hid (∀ W, Below w.heap.size w W → Nums W p.A1 p.n1 p.Q) := Lib.hid (fun W b => h.out.months.below b)
  have HO2 : Hid (∀ W, Below w.heap.size w W → Nums W p.A2 p.n2 p.R) := Lib.hid (fun W b => h.out.settle.below b)
  obtain ⟨v, hv⟩ : ∃ v, otB p = v := ⟨_, rfl⟩
  rw [hv]
  unfold otB at hv
  clear h
  obtain ⟨code, A1, n1, c1, tick, low, high, wide, rule, top, least, part, A2, n2, c2, Q, R⟩ := p
  simp only at l1 m1 l2 m2 hco ti1 ti2 lo1 lo2 hg1 hg2 wi1 wi2 ru1 ru2 to1 to2 le1 le2 pa1 pa2 HO1 HO2 hv
  replace hv := Lib.hid hv
  show Calls Try.prog 30 #[.agg #[.string (str code), .slice A1 n1 c1, .int .i64 tick, .int .i64 low, .int .i64 high, .int .i64 wide, .int .i64 rule, .int .i64 top, .int .i64 least, .int .i64 part, .slice A2 n2 c2]] w _
  obtain ⟨W0, eW0⟩ : ∃ W0, w.alloc (.cells #[.string (str code), .slice A1 n1 c1, .int .i64 tick, .int .i64 low, .int .i64 high, .int .i64 wide, .int .i64 rule, .int .i64 top, .int .i64 least, .int .i64 part, .slice A2 n2 c2] 25) = W0 := ⟨_, rfl⟩
  obtain ⟨pb, epb⟩ : ∃ pb, w.heap.size = pb := ⟨_, rfl⟩
  have hblk0 : W0.heap[pb]? = some (.cells #[.string (str code), .slice A1 n1 c1, .int .i64 tick, .int .i64 low, .int .i64 high, .int .i64 wide, .int .i64 rule, .int .i64 top, .int .i64 least, .int .i64 part, .slice A2 n2 c2] 25 (0, 0)) := by
    rw [← eW0, ← epb]; exact heap_alloc_new w _
  have hB0 : Below w.heap.size w W0 := by rw [← eW0]; exact (Below.refl _ w).alloc (Nat.le_refl _) _
  have hpb0 : pb < W0.heap.size := (Array.getElem?_eq_some_iff.1 hblk0).1
  have kk : ∀ W : World, W.heap[pb]? = some (.cells #[.string (str code), .slice A1 n1 c1, .int .i64 tick, .int .i64 low, .int .i64 high, .int .i64 wide, .int .i64 rule, .int .i64 top, .int .i64 least, .int .i64 part, .slice A2 n2 c2] 25 (0, 0)) → W.cell? ⟨pb, 0, none⟩ = some (.string (str code)) ∧ W.cell? ⟨pb, 1, none⟩ = some (.slice A1 n1 c1) ∧ W.cell? ⟨pb, 2, none⟩ = some (.int .i64 tick) ∧ W.cell? ⟨pb, 3, none⟩ = some (.int .i64 low) ∧ W.cell? ⟨pb, 4, none⟩ = some (.int .i64 high) ∧ W.cell? ⟨pb, 5, none⟩ = some (.int .i64 wide) ∧ W.cell? ⟨pb, 6, none⟩ = some (.int .i64 rule) ∧ W.cell? ⟨pb, 7, none⟩ = some (.int .i64 top) ∧ W.cell? ⟨pb, 8, none⟩ = some (.int .i64 least) ∧ W.cell? ⟨pb, 9, none⟩ = some (.int .i64 part) ∧ W.cell? ⟨pb, 10, none⟩ = some (.slice A2 n2 c2) := by
    intro W hb
    refine ⟨?_, ?_, ?_, ?_, ?_, ?_, ?_, ?_, ?_, ?_, ?_⟩ <;> (rw [Lib.cell_of_heap hb]; rfl)
  replace kk := Lib.hid kk
  replace eW0 := Lib.hid eW0
  replace epb := Lib.hid epb
  have a0 : (w.alloc (.cells #[.string (str code), .slice A1 n1 c1, .int .i64 tick, .int .i64 low, .int .i64 high, .int .i64 wide, .int .i64 rule, .int .i64 top, .int .i64 least, .int .i64 part, .slice A2 n2 c2] 25)).cell? ⟨w.heap.size, 0, none⟩ = some (.string (str code)) := by
    rw [eW0.out, epb.out]; exact (kk.out W0 hblk0).1
  have a1 : (w.alloc (.cells #[.string (str code), .slice A1 n1 c1, .int .i64 tick, .int .i64 low, .int .i64 high, .int .i64 wide, .int .i64 rule, .int .i64 top, .int .i64 least, .int .i64 part, .slice A2 n2 c2] 25)).cell? ⟨w.heap.size, 1, none⟩ = some (.slice A1 n1 c1) := by
    rw [eW0.out, epb.out]; exact (kk.out W0 hblk0).2.1
  have a2 : (w.alloc (.cells #[.string (str code), .slice A1 n1 c1, .int .i64 tick, .int .i64 low, .int .i64 high, .int .i64 wide, .int .i64 rule, .int .i64 top, .int .i64 least, .int .i64 part, .slice A2 n2 c2] 25)).cell? ⟨w.heap.size, 2, none⟩ = some (.int .i64 tick) := by
    rw [eW0.out, epb.out]; exact (kk.out W0 hblk0).2.2.1
  have a3 : (w.alloc (.cells #[.string (str code), .slice A1 n1 c1, .int .i64 tick, .int .i64 low, .int .i64 high, .int .i64 wide, .int .i64 rule, .int .i64 top, .int .i64 least, .int .i64 part, .slice A2 n2 c2] 25)).cell? ⟨w.heap.size, 3, none⟩ = some (.int .i64 low) := by
    rw [eW0.out, epb.out]; exact (kk.out W0 hblk0).2.2.2.1
  have a4 : (w.alloc (.cells #[.string (str code), .slice A1 n1 c1, .int .i64 tick, .int .i64 low, .int .i64 high, .int .i64 wide, .int .i64 rule, .int .i64 top, .int .i64 least, .int .i64 part, .slice A2 n2 c2] 25)).cell? ⟨w.heap.size, 4, none⟩ = some (.int .i64 high) := by
    rw [eW0.out, epb.out]; exact (kk.out W0 hblk0).2.2.2.2.1
  have a5 : (w.alloc (.cells #[.string (str code), .slice A1 n1 c1, .int .i64 tick, .int .i64 low, .int .i64 high, .int .i64 wide, .int .i64 rule, .int .i64 top, .int .i64 least, .int .i64 part, .slice A2 n2 c2] 25)).cell? ⟨w.heap.size, 5, none⟩ = some (.int .i64 wide) := by
    rw [eW0.out, epb.out]; exact (kk.out W0 hblk0).2.2.2.2.2.1
  have a6 : (w.alloc (.cells #[.string (str code), .slice A1 n1 c1, .int .i64 tick, .int .i64 low, .int .i64 high, .int .i64 wide, .int .i64 rule, .int .i64 top, .int .i64 least, .int .i64 part, .slice A2 n2 c2] 25)).cell? ⟨w.heap.size, 6, none⟩ = some (.int .i64 rule) := by
    rw [eW0.out, epb.out]; exact (kk.out W0 hblk0).2.2.2.2.2.2.1
  have a7 : (w.alloc (.cells #[.string (str code), .slice A1 n1 c1, .int .i64 tick, .int .i64 low, .int .i64 high, .int .i64 wide, .int .i64 rule, .int .i64 top, .int .i64 least, .int .i64 part, .slice A2 n2 c2] 25)).cell? ⟨w.heap.size, 7, none⟩ = some (.int .i64 top) := by
    rw [eW0.out, epb.out]; exact (kk.out W0 hblk0).2.2.2.2.2.2.2.1
  have a8 : (w.alloc (.cells #[.string (str code), .slice A1 n1 c1, .int .i64 tick, .int .i64 low, .int .i64 high, .int .i64 wide, .int .i64 rule, .int .i64 top, .int .i64 least, .int .i64 part, .slice A2 n2 c2] 25)).cell? ⟨w.heap.size, 8, none⟩ = some (.int .i64 least) := by
    rw [eW0.out, epb.out]; exact (kk.out W0 hblk0).2.2.2.2.2.2.2.2.1
  have a9 : (w.alloc (.cells #[.string (str code), .slice A1 n1 c1, .int .i64 tick, .int .i64 low, .int .i64 high, .int .i64 wide, .int .i64 rule, .int .i64 top, .int .i64 least, .int .i64 part, .slice A2 n2 c2] 25)).cell? ⟨w.heap.size, 9, none⟩ = some (.int .i64 part) := by
    rw [eW0.out, epb.out]; exact (kk.out W0 hblk0).2.2.2.2.2.2.2.2.2.1
  have a10 : (w.alloc (.cells #[.string (str code), .slice A1 n1 c1, .int .i64 tick, .int .i64 low, .int .i64 high, .int .i64 wide, .int .i64 rule, .int .i64 top, .int .i64 least, .int .i64 part, .slice A2 n2 c2] 25)).cell? ⟨w.heap.size, 10, none⟩ = some (.slice A2 n2 c2) := by
    rw [eW0.out, epb.out]; exact (kk.out W0 hblk0).2.2.2.2.2.2.2.2.2.2
  go_enter Try.func30, Try.ntmps30
  go_wp2_with fail
  rw [eW0.out]
  rw [epb.out]
  clear a0 a1 a2 a3 a4 a5 a6 a7 a8 a9 a10 eW0
  obtain ⟨k0, k1, k2, k3, k4, k5, k6, k7, k8, k9, k10⟩ := kk.out W0 hblk0
  by_cases q1 : 1 ≤ tick ∧ tick ≤ 1000
  · have HI := Inside_any tick 1 1000 W0
    rw [show insB tick 1 1000 = true from decide_eq_true q1] at HI
    obtain ⟨t1, t2⟩ := q1
    refine HI.mono ?_
    clear HI
    rintro e w' ⟨rfl, rfl⟩
    have HO := Lib.hid (HO2.out W0 hB0)
    go_wp2_with fail
    go_loopw [12] (fun i wr => ∃ k : Nat, i = .int .i64 k ∧ k ≤ n2 ∧ Hid (∀ j, j < k → (R j).tmod tick = 0) ∧ wr = W0) (fun i _ => n2 - (intOf i).toNat)
    case atStart => exact ⟨0, rfl, by omega, Lib.hid (fun j h => absurd h (by omega)), rfl⟩
    case round =>
      obtain ⟨k, rfl, hk, hall, rfl⟩ := hrel
      by_cases hlt : k < n2
      · have e1 : decide ((k : Int) < (n2 : Int)) = true := decide_eq_true (by omega)
        have e2 : (k : Int) < (n2 : Int) := by omega
        obtain ⟨mb, mo, rfl, hc, hr1, hr2⟩ := HO.out k hlt
        have HM := Mult_any (R k) tick wr ⟨hr1, hr2⟩ ⟨ti1, ti2⟩
        rw [multB_tmod t1] at HM
        by_cases x0 : (R k).tmod tick = 0
        · rw [decide_eq_true x0] at HM
          have hnx := Lib.hid (show ∀ j, j < k + 1 → (R j).tmod tick = 0 from fun j hj => by
            by_cases e : j = k
            · subst e; exact x0
            · exact hall.out j (by omega))
          clear x0 hall
          replace HM := Lib.hid HM
          go_wp2_with fail
          refine HM.out.mono ?_
          clear HM
          rintro e w' ⟨rfl, rfl⟩
          go_wp2_with fail
          go_roundw
          case rel => exact ⟨k + 1, by go_num, by omega, hnx, by first | rfl | trivial⟩
          case measure => simp [intOf]; omega
        · rw [decide_eq_false x0] at HM
          have hv2 := Lib.hid (show v = false from by rw [← hv.out]; exact decide_eq_false (fun h => x0 (h.2.2.1 k hlt)))
          clear x0 hall
          replace HM := Lib.hid HM
          go_wp2_with fail
          refine HM.out.mono ?_
          clear HM
          rintro e w' ⟨rfl, rfl⟩
          go_wp2_with fail
          go_ret
          exact ⟨by rw [hv2.out]; rfl, hB0⟩
      · obtain rfl : n2 = k := by omega
        have e1 : decide ((n2 : Int) < (n2 : Int)) = false := decide_eq_false (by omega)
        have M1 := Mult_any low tick wr ⟨lo1, lo2⟩ ⟨ti1, ti2⟩
        rw [multB_tmod t1] at M1
        have M2 := Mult_any high tick wr ⟨hg1, hg2⟩ ⟨ti1, ti2⟩
        rw [multB_tmod t1] at M2
        have M3 := Mult_any wide tick wr ⟨wi1, wi2⟩ ⟨ti1, ti2⟩
        rw [multB_tmod t1] at M3
        replace M1 := Lib.hid M1
        replace M2 := Lib.hid M2
        replace M3 := Lib.hid M3
        go_wp2_with fail
        by_cases y1 : low.tmod tick = 0
        · rw [decide_eq_true y1] at M1
          refine M1.out.mono ?_
          rintro e w' ⟨rfl, rfl⟩
          clear M1
          go_wp2_with fail
          by_cases y2 : high.tmod tick = 0
          · rw [decide_eq_true y2] at M2
            refine M2.out.mono ?_
            rintro e w' ⟨rfl, rfl⟩
            clear M2
            go_wp2_with fail
            by_cases y3 : wide.tmod tick = 0
            · rw [decide_eq_true y3] at M3
              refine M3.out.mono ?_
              rintro e w' ⟨rfl, rfl⟩
              clear M3
              have hv2 := Lib.hid (show v = true from by rw [← hv.out]; exact decide_eq_true ⟨t1, t2, hall.out, y1, y2, y3⟩)
              clear hall y1 y2 y3
              go_wp2_with fail
              go_ret
              exact ⟨by rw [hv2.out]; rfl, hB0⟩
            · rw [decide_eq_false y3] at M3
              refine M3.out.mono ?_
              rintro e w' ⟨rfl, rfl⟩
              clear M3
              have hv2 := Lib.hid (show v = false from by rw [← hv.out]; exact decide_eq_false (fun h => y3 h.2.2.2.2.2))
              clear hall y1 y2 y3
              go_wp2_with fail
              go_ret
              exact ⟨by rw [hv2.out]; rfl, hB0⟩
          · rw [decide_eq_false y2] at M2
            refine M2.out.mono ?_
            rintro e w' ⟨rfl, rfl⟩
            clear M2
            have hv2 := Lib.hid (show v = false from by rw [← hv.out]; exact decide_eq_false (fun h => y2 h.2.2.2.2.1))
            clear hall y1 y2
            go_wp2_with fail
            go_ret
            exact ⟨by rw [hv2.out]; rfl, hB0⟩
        · rw [decide_eq_false y1] at M1
          refine M1.out.mono ?_
          rintro e w' ⟨rfl, rfl⟩
          clear M1
          have hv2 := Lib.hid (show v = false from by rw [← hv.out]; exact decide_eq_false (fun h => y1 h.2.2.2.1))
          clear hall y1
          go_wp2_with fail
          go_ret
          exact ⟨by rw [hv2.out]; rfl, hB0⟩
  · have HI := Inside_any tick 1 1000 W0
    rw [show insB tick 1 1000 = false from decide_eq_false q1] at HI
    refine HI.mono ?_
    clear HI
    rintro e w' ⟨rfl, rfl⟩
    have hv2 := Lib.hid (show v = false from by rw [← hv.out]; exact decide_eq_false (fun h => q1 ⟨h.1, h.2.1⟩))
    clear q1
    go_wp2_with fail
    go_ret
    exact ⟨by rw [hv2.out]; rfl, hB0⟩
end Go.Proofs.Ytpfgmebajefjaaa
