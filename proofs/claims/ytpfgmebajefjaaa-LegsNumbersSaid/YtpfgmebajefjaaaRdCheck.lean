/-
  Contract: Check, of the program.
-/
import Derived.Test.YtpfgmebajefjaaaRdTick
import Derived.Test.YtpfgmebajefjaaaRdBand
import Derived.Test.YtpfgmebajefjaaaRefCheck
import Derived.Test.YtpfgmebajefjaaaSymCode
namespace Go.Proofs.Ytpfgmebajefjaaa
open Go.RowKit
set_option linter.unusedVariables false
set_option linter.unusedSimpArgs false

/-- What Check answers, in the program's own stages. -/
theorem chk_eq (p : PD) : chk p = if prodB p.code = false then 12 else if rmB p.n1 p.Q = false then 1 else if otB p = false then 22 else if rbB p = false then 23 else if rsB p = false then 1 else if p.rule < 1 ∨ 3 < p.rule then 31 else if shB p = false then 24 else 0 := by
  obtain ⟨e1, e2, e3, e4, e5, e6, e7, e8, e9, T0, T1, T2, T3, T4, T5, T6, T7, T8, T9⟩ := chk_chain p
  cases a0 : prodB p.code
  · rw [if_pos rfl]; exact T0.1 a0
  rw [if_neg (by decide), T0.2 a0]
  cases a1 : rmB p.n1 p.Q
  · rw [if_pos rfl]
    have hh := of_decide_eq_false a1
    by_cases c : p.n1 < 2 ∨ 6 < p.n1
    · exact T1.1 c
    · rw [T1.2 c]
      exact T2.1 (fun g => hh ⟨by omega, by omega, g⟩)
  have h1 := of_decide_eq_true a1
  rw [if_neg (by decide), T1.2 (by omega), T2.2 h1.2.2]
  cases a2 : otB p
  · rw [if_pos rfl]
    have hh := of_decide_eq_false a2
    by_cases c : p.tick < 1 ∨ 1000 < p.tick ∨ p.low.tmod p.tick ≠ 0 ∨ p.high.tmod p.tick ≠ 0 ∨ p.wide.tmod p.tick ≠ 0
    · exact T3.1 c
    · rw [T3.2 c]
      exact T4.1 (fun g => hh ⟨by omega, by omega, g, by omega, by omega, by omega⟩)
  have h2 := of_decide_eq_true a2
  rw [if_neg (by decide), T3.2 (by omega), T4.2 h2.2.2.1]
  cases a3 : rbB p
  · rw [if_pos rfl]
    have hh := of_decide_eq_false a3
    exact T5.1 (Decidable.byContradiction hh)
  have h3 := of_decide_eq_true a3
  rw [if_neg (by decide), T5.2 h3]
  cases a4 : rsB p
  · rw [if_pos rfl]
    have hh := of_decide_eq_false a4
    by_cases c : p.n2 ≠ p.n1
    · exact T6.1 c
    · rw [T6.2 c]
      exact T7.1 (fun g => hh ⟨by omega, g⟩)
  have h4 := of_decide_eq_true a4
  rw [if_neg (by decide), T6.2 (by omega), T7.2 h4.2]
  by_cases c5 : p.rule < 1 ∨ 3 < p.rule
  · rw [if_pos c5]; exact T8.1 c5
  rw [if_neg c5, T8.2 c5]
  cases a6 : shB p
  · rw [if_pos rfl]
    have hh := of_decide_eq_false a6
    exact T9.1 (by omega)
  · rw [if_neg (by decide)]
    have hh := of_decide_eq_true a6
    exact T9.2 (by omega)
set_option maxRecDepth 100000 in
set_option maxHeartbeats 1600000 in
theorem PCheck_any (p : PD) (w : World) (h : Hid (p.Ok w)) :
    Calls Try.prog 17 #[p.val] w fun e w' => e = .returned (.int .i64 (chk p)) ∧ Below w.heap.size w w' := by
  obtain ⟨ot, eot⟩ : ∃ v, otB p = v := ⟨_, rfl⟩
  have Hot : Hid (∀ W, Below w.heap.size w W → Calls Try.prog 30 #[p.val] W fun e w' => e = .returned (.bool ot) ∧ Below W.heap.size W w') := Lib.hid (fun W b => by rw [← eot]; exact OnTick_any p W (Lib.hid (h.out.below b)))
  obtain ⟨rb, erb⟩ : ∃ v, rbB p = v := ⟨_, rfl⟩
  have Hrb : Hid (∀ W, Below w.heap.size w W → Calls Try.prog 31 #[p.val] W fun e w' => e = .returned (.bool rb) ∧ Below W.heap.size W w') := Lib.hid (fun W b => by rw [← erb]; exact RightBand_any p W (Lib.hid (h.out.below b)))
  obtain ⟨rs, ers⟩ : ∃ v, rsB p = v := ⟨_, rfl⟩
  have Hrs : Hid (∀ W, Below w.heap.size w W → Calls Try.prog 32 #[p.val] W fun e w' => e = .returned (.bool rs) ∧ Below W.heap.size W w') := Lib.hid (fun W b => by rw [← ers]; exact RightSettle_any p W (Lib.hid (h.out.below b)))
  obtain ⟨sh, esh⟩ : ∃ v, shB p = v := ⟨_, rfl⟩
  have Hsh : Hid (∀ W, Below w.heap.size w W → Calls Try.prog 33 #[p.val] W fun e w' => e = .returned (.bool sh) ∧ Below W.heap.size W w') := Lib.hid (fun W b => by rw [← esh]; exact RightSharing_any p W (Lib.hid (h.out.below b)))
  obtain ⟨v, hv⟩ : ∃ v, chk p = v := ⟨_, rfl⟩
  rw [hv]
  rw [chk_eq, eot, erb, ers, esh] at hv
  clear eot erb ers esh
  have l1 := h.out.l1
  have m1 := h.out.m1
  have l2 := h.out.l2
  have m2 := h.out.m2
  have hco := h.out.code
  obtain ⟨ti1, ti2⟩ := h.out.tick
  obtain ⟨lo1, lo2⟩ := h.out.low
  obtain ⟨hg1, hg2⟩ := h.out.high
  obtain ⟨wi1, wi2⟩ := h.out.wide
  obtain ⟨ru1, ru2⟩ := h.out.rule
  obtain ⟨to1, to2⟩ := h.out.top
  obtain ⟨le1, le2⟩ := h.out.least
  obtain ⟨pa1, pa2⟩ := h.out.part
  have HO1 : Hid (∀ W, Below w.heap.size w W → Nums W p.A1 p.n1 p.Q) := Lib.hid (fun W b => h.out.months.below b)
  have HO2 : Hid (∀ W, Below w.heap.size w W → Nums W p.A2 p.n2 p.R) := Lib.hid (fun W b => h.out.settle.below b)
  clear h
  obtain ⟨code, A1, n1, c1, tick, low, high, wide, rule, top, least, part, A2, n2, c2, Q, R⟩ := p
  simp only at l1 m1 l2 m2 hco ti1 ti2 lo1 lo2 hg1 hg2 wi1 wi2 ru1 ru2 to1 to2 le1 le2 pa1 pa2 HO1 HO2 hv
  replace hv := Lib.hid hv
  replace Hot : Hid (∀ W, Below w.heap.size w W → Calls Try.prog 30 #[.agg #[.string (str code), .slice A1 n1 c1, .int .i64 tick, .int .i64 low, .int .i64 high, .int .i64 wide, .int .i64 rule, .int .i64 top, .int .i64 least, .int .i64 part, .slice A2 n2 c2]] W fun e w' => e = .returned (.bool ot) ∧ Below W.heap.size W w') := Hot
  replace Hrb : Hid (∀ W, Below w.heap.size w W → Calls Try.prog 31 #[.agg #[.string (str code), .slice A1 n1 c1, .int .i64 tick, .int .i64 low, .int .i64 high, .int .i64 wide, .int .i64 rule, .int .i64 top, .int .i64 least, .int .i64 part, .slice A2 n2 c2]] W fun e w' => e = .returned (.bool rb) ∧ Below W.heap.size W w') := Hrb
  replace Hrs : Hid (∀ W, Below w.heap.size w W → Calls Try.prog 32 #[.agg #[.string (str code), .slice A1 n1 c1, .int .i64 tick, .int .i64 low, .int .i64 high, .int .i64 wide, .int .i64 rule, .int .i64 top, .int .i64 least, .int .i64 part, .slice A2 n2 c2]] W fun e w' => e = .returned (.bool rs) ∧ Below W.heap.size W w') := Hrs
  replace Hsh : Hid (∀ W, Below w.heap.size w W → Calls Try.prog 33 #[.agg #[.string (str code), .slice A1 n1 c1, .int .i64 tick, .int .i64 low, .int .i64 high, .int .i64 wide, .int .i64 rule, .int .i64 top, .int .i64 least, .int .i64 part, .slice A2 n2 c2]] W fun e w' => e = .returned (.bool sh) ∧ Below W.heap.size W w') := Hsh
  show Calls Try.prog 17 #[.agg #[.string (str code), .slice A1 n1 c1, .int .i64 tick, .int .i64 low, .int .i64 high, .int .i64 wide, .int .i64 rule, .int .i64 top, .int .i64 least, .int .i64 part, .slice A2 n2 c2]] w _
  obtain ⟨W0, eW0⟩ : ∃ W0, w.alloc (.cells #[.string (str code), .slice A1 n1 c1, .int .i64 tick, .int .i64 low, .int .i64 high, .int .i64 wide, .int .i64 rule, .int .i64 top, .int .i64 least, .int .i64 part, .slice A2 n2 c2] 25) = W0 := ⟨_, rfl⟩
  obtain ⟨pb, epb⟩ : ∃ pb, w.heap.size = pb := ⟨_, rfl⟩
  have hblk0 : W0.heap[pb]? = some (.cells #[.string (str code), .slice A1 n1 c1, .int .i64 tick, .int .i64 low, .int .i64 high, .int .i64 wide, .int .i64 rule, .int .i64 top, .int .i64 least, .int .i64 part, .slice A2 n2 c2] 25 (0, 0)) := by
    rw [← eW0, ← epb]; exact heap_alloc_new w _
  have hB0 : Below w.heap.size w W0 := by rw [← eW0]; exact (Below.refl _ w).alloc (Nat.le_refl _) _
  have hpb0 : pb < W0.heap.size := (Array.getElem?_eq_some_iff.1 hblk0).1
  have kk : ∀ W : World, W.heap[pb]? = some (.cells #[.string (str code), .slice A1 n1 c1, .int .i64 tick, .int .i64 low, .int .i64 high, .int .i64 wide, .int .i64 rule, .int .i64 top, .int .i64 least, .int .i64 part, .slice A2 n2 c2] 25 (0, 0)) → W.cell? ⟨pb, 0, none⟩ = some (.string (str code)) ∧ W.cell? ⟨pb, 1, none⟩ = some (.slice A1 n1 c1) ∧ W.cell? ⟨pb, 2, none⟩ = some (.int .i64 tick) ∧ W.cell? ⟨pb, 3, none⟩ = some (.int .i64 low) ∧ W.cell? ⟨pb, 4, none⟩ = some (.int .i64 high) ∧ W.cell? ⟨pb, 5, none⟩ = some (.int .i64 wide) ∧ W.cell? ⟨pb, 6, none⟩ = some (.int .i64 rule) ∧ W.cell? ⟨pb, 7, none⟩ = some (.int .i64 top) ∧ W.cell? ⟨pb, 8, none⟩ = some (.int .i64 least) ∧ W.cell? ⟨pb, 9, none⟩ = some (.int .i64 part) ∧ W.cell? ⟨pb, 10, none⟩ = some (.slice A2 n2 c2) := by
    intro W hb
    refine ⟨?_, ?_, ?_, ?_, ?_, ?_, ?_, ?_, ?_, ?_, ?_⟩ <;> (rw [Lib.cell_of_heap hb]; rfl)
  replace kk := Lib.hid kk
  replace eW0 := Lib.hid eW0
  replace epb := Lib.hid epb
  have a0 : (w.alloc (.cells #[.string (str code), .slice A1 n1 c1, .int .i64 tick, .int .i64 low, .int .i64 high, .int .i64 wide, .int .i64 rule, .int .i64 top, .int .i64 least, .int .i64 part, .slice A2 n2 c2] 25)).cell? ⟨w.heap.size, 0, none⟩ = some (.string (str code)) := by
    rw [eW0.out, epb.out]; exact (kk.out W0 hblk0).1
  have a1 : (w.alloc (.cells #[.string (str code), .slice A1 n1 c1, .int .i64 tick, .int .i64 low, .int .i64 high, .int .i64 wide, .int .i64 rule, .int .i64 top, .int .i64 least, .int .i64 part, .slice A2 n2 c2] 25)).cell? ⟨w.heap.size, 1, none⟩ = some (.slice A1 n1 c1) := by
    rw [eW0.out, epb.out]; exact (kk.out W0 hblk0).2.1
  have a2 : (w.alloc (.cells #[.string (str code), .slice A1 n1 c1, .int .i64 tick, .int .i64 low, .int .i64 high, .int .i64 wide, .int .i64 rule, .int .i64 top, .int .i64 least, .int .i64 part, .slice A2 n2 c2] 25)).cell? ⟨w.heap.size, 2, none⟩ = some (.int .i64 tick) := by
    rw [eW0.out, epb.out]; exact (kk.out W0 hblk0).2.2.1
  have a3 : (w.alloc (.cells #[.string (str code), .slice A1 n1 c1, .int .i64 tick, .int .i64 low, .int .i64 high, .int .i64 wide, .int .i64 rule, .int .i64 top, .int .i64 least, .int .i64 part, .slice A2 n2 c2] 25)).cell? ⟨w.heap.size, 3, none⟩ = some (.int .i64 low) := by
    rw [eW0.out, epb.out]; exact (kk.out W0 hblk0).2.2.2.1
  have a4 : (w.alloc (.cells #[.string (str code), .slice A1 n1 c1, .int .i64 tick, .int .i64 low, .int .i64 high, .int .i64 wide, .int .i64 rule, .int .i64 top, .int .i64 least, .int .i64 part, .slice A2 n2 c2] 25)).cell? ⟨w.heap.size, 4, none⟩ = some (.int .i64 high) := by
    rw [eW0.out, epb.out]; exact (kk.out W0 hblk0).2.2.2.2.1
  have a5 : (w.alloc (.cells #[.string (str code), .slice A1 n1 c1, .int .i64 tick, .int .i64 low, .int .i64 high, .int .i64 wide, .int .i64 rule, .int .i64 top, .int .i64 least, .int .i64 part, .slice A2 n2 c2] 25)).cell? ⟨w.heap.size, 5, none⟩ = some (.int .i64 wide) := by
    rw [eW0.out, epb.out]; exact (kk.out W0 hblk0).2.2.2.2.2.1
  have a6 : (w.alloc (.cells #[.string (str code), .slice A1 n1 c1, .int .i64 tick, .int .i64 low, .int .i64 high, .int .i64 wide, .int .i64 rule, .int .i64 top, .int .i64 least, .int .i64 part, .slice A2 n2 c2] 25)).cell? ⟨w.heap.size, 6, none⟩ = some (.int .i64 rule) := by
    rw [eW0.out, epb.out]; exact (kk.out W0 hblk0).2.2.2.2.2.2.1
  have a7 : (w.alloc (.cells #[.string (str code), .slice A1 n1 c1, .int .i64 tick, .int .i64 low, .int .i64 high, .int .i64 wide, .int .i64 rule, .int .i64 top, .int .i64 least, .int .i64 part, .slice A2 n2 c2] 25)).cell? ⟨w.heap.size, 7, none⟩ = some (.int .i64 top) := by
    rw [eW0.out, epb.out]; exact (kk.out W0 hblk0).2.2.2.2.2.2.2.1
  have a8 : (w.alloc (.cells #[.string (str code), .slice A1 n1 c1, .int .i64 tick, .int .i64 low, .int .i64 high, .int .i64 wide, .int .i64 rule, .int .i64 top, .int .i64 least, .int .i64 part, .slice A2 n2 c2] 25)).cell? ⟨w.heap.size, 8, none⟩ = some (.int .i64 least) := by
    rw [eW0.out, epb.out]; exact (kk.out W0 hblk0).2.2.2.2.2.2.2.2.1
  have a9 : (w.alloc (.cells #[.string (str code), .slice A1 n1 c1, .int .i64 tick, .int .i64 low, .int .i64 high, .int .i64 wide, .int .i64 rule, .int .i64 top, .int .i64 least, .int .i64 part, .slice A2 n2 c2] 25)).cell? ⟨w.heap.size, 9, none⟩ = some (.int .i64 part) := by
    rw [eW0.out, epb.out]; exact (kk.out W0 hblk0).2.2.2.2.2.2.2.2.2.1
  have a10 : (w.alloc (.cells #[.string (str code), .slice A1 n1 c1, .int .i64 tick, .int .i64 low, .int .i64 high, .int .i64 wide, .int .i64 rule, .int .i64 top, .int .i64 least, .int .i64 part, .slice A2 n2 c2] 25)).cell? ⟨w.heap.size, 10, none⟩ = some (.slice A2 n2 c2) := by
    rw [eW0.out, epb.out]; exact (kk.out W0 hblk0).2.2.2.2.2.2.2.2.2.2
  go_enter Try.func17, Try.ntmps17
  go_wp2_with fail
  rw [eW0.out]
  rw [epb.out]
  clear a0 a1 a2 a3 a4 a5 a6 a7 a8 a9 a10 eW0
  obtain ⟨k0, k1, k2, k3, k4, k5, k6, k7, k8, k9, k10⟩ := kk.out W0 hblk0
  have HX := Product_any code W0
  cases q : prodB code
  case true =>
    replace hv := hv.out
    rw [q] at HX hv
    rw [if_neg (by decide)] at hv
    replace hv := Lib.hid hv
    refine HX.mono ?_
    clear HX
    rintro e w1 ⟨rfl, b1⟩
    have hblk1 : w1.heap[pb]? = _ := (b1.block pb hpb0).trans hblk0
    have hB1 := hB0.trans (b1.mono hB0.size)
    have hpb1 : pb < w1.heap.size := (Array.getElem?_eq_some_iff.1 hblk1).1
    clear k0 k1 k2 k3 k4 k5 k6 k7 k8 k9 k10
    obtain ⟨k0, k1, k2, k3, k4, k5, k6, k7, k8, k9, k10⟩ := kk.out w1 hblk1
    clear hblk0 hpb0 hB0 b1
    go_wp2_with fail
    have HX := RightMonths_any A1 n1 c1 Q w1 (Lib.hid (HO1.out w1 hB1)) l1 m1
    cases q : rmB n1 Q
    case true =>
      replace hv := hv.out
      rw [q] at HX hv
      rw [if_neg (by decide)] at hv
      replace hv := Lib.hid hv
      refine HX.mono ?_
      clear HX
      rintro e w' ⟨rfl, rfl⟩
      go_wp2_with fail
      have HX := Hot.out w1 hB1
      cases ot
      case true =>
        replace hv := hv.out
        rw [if_neg (by decide)] at hv
        replace hv := Lib.hid hv
        refine HX.mono ?_
        clear HX
        rintro e w2 ⟨rfl, b2⟩
        have hblk2 : w2.heap[pb]? = _ := (b2.block pb hpb1).trans hblk1
        have hB2 := hB1.trans (b2.mono hB1.size)
        have hpb2 : pb < w2.heap.size := (Array.getElem?_eq_some_iff.1 hblk2).1
        clear k0 k1 k2 k3 k4 k5 k6 k7 k8 k9 k10
        obtain ⟨k0, k1, k2, k3, k4, k5, k6, k7, k8, k9, k10⟩ := kk.out w2 hblk2
        clear hblk1 hpb1 hB1 b2
        go_wp2_with fail
        have HX := Hrb.out w2 hB2
        cases rb
        case true =>
          replace hv := hv.out
          rw [if_neg (by decide)] at hv
          replace hv := Lib.hid hv
          refine HX.mono ?_
          clear HX
          rintro e w3 ⟨rfl, b3⟩
          have hblk3 : w3.heap[pb]? = _ := (b3.block pb hpb2).trans hblk2
          have hB3 := hB2.trans (b3.mono hB2.size)
          have hpb3 : pb < w3.heap.size := (Array.getElem?_eq_some_iff.1 hblk3).1
          clear k0 k1 k2 k3 k4 k5 k6 k7 k8 k9 k10
          obtain ⟨k0, k1, k2, k3, k4, k5, k6, k7, k8, k9, k10⟩ := kk.out w3 hblk3
          clear hblk2 hpb2 hB2 b3
          go_wp2_with fail
          have HX := Hrs.out w3 hB3
          cases rs
          case true =>
            replace hv := hv.out
            rw [if_neg (by decide)] at hv
            replace hv := Lib.hid hv
            refine HX.mono ?_
            clear HX
            rintro e w4 ⟨rfl, b4⟩
            have hblk4 : w4.heap[pb]? = _ := (b4.block pb hpb3).trans hblk3
            have hB4 := hB3.trans (b4.mono hB3.size)
            have hpb4 : pb < w4.heap.size := (Array.getElem?_eq_some_iff.1 hblk4).1
            clear k0 k1 k2 k3 k4 k5 k6 k7 k8 k9 k10
            obtain ⟨k0, k1, k2, k3, k4, k5, k6, k7, k8, k9, k10⟩ := kk.out w4 hblk4
            clear hblk3 hpb3 hB3 b4
            by_cases q : ¬ rule < 1
            · have d1 : decide (rule < 1) = false := decide_eq_false q
              by_cases q2 : ¬ (3 : Int) < rule
              · have d2 : decide ((3 : Int) < rule) = false := decide_eq_false q2
                replace hv := hv.out
                rw [if_neg (by omega)] at hv
                replace hv := Lib.hid hv
                clear q q2
                go_wp2_with fail
                have HX := Hsh.out w4 hB4
                cases sh
                case true =>
                  replace hv := hv.out
                  rw [if_neg (by decide)] at hv
                  replace hv := Lib.hid hv
                  refine HX.mono ?_
                  clear HX
                  rintro e w5 ⟨rfl, b5⟩
                  have hblk5 : w5.heap[pb]? = _ := (b5.block pb hpb4).trans hblk4
                  have hB5 := hB4.trans (b5.mono hB4.size)
                  have hpb5 : pb < w5.heap.size := (Array.getElem?_eq_some_iff.1 hblk5).1
                  clear k0 k1 k2 k3 k4 k5 k6 k7 k8 k9 k10
                  obtain ⟨k0, k1, k2, k3, k4, k5, k6, k7, k8, k9, k10⟩ := kk.out w5 hblk5
                  clear hblk4 hpb4 hB4 b5
                  replace hv := Lib.hid hv.out.symm
                  clear hblk5 hpb5
                  go_wp2_with fail
                  go_ret
                  exact ⟨by rw [hv.out]; rfl, hB5⟩
                case false =>
                  replace hv := hv.out
                  rw [if_pos rfl] at hv
                  replace hv := Lib.hid hv
                  refine HX.mono ?_
                  clear HX
                  rintro e w5 ⟨rfl, b5⟩
                  have hblk5 : w5.heap[pb]? = _ := (b5.block pb hpb4).trans hblk4
                  have hB5 := hB4.trans (b5.mono hB4.size)
                  have hpb5 : pb < w5.heap.size := (Array.getElem?_eq_some_iff.1 hblk5).1
                  clear k0 k1 k2 k3 k4 k5 k6 k7 k8 k9 k10
                  obtain ⟨k0, k1, k2, k3, k4, k5, k6, k7, k8, k9, k10⟩ := kk.out w5 hblk5
                  clear hblk4 hpb4 hB4 b5
                  replace hv := Lib.hid hv.out.symm
                  clear hblk5 hpb5
                  go_wp2_with fail
                  go_ret
                  exact ⟨by rw [hv.out]; rfl, hB5⟩
              · have d2 : decide ((3 : Int) < rule) = true := decide_eq_true (Decidable.byContradiction q2)
                replace hv := hv.out
                rw [if_pos (.inr (Decidable.byContradiction q2))] at hv
                clear q q2
                replace hv := Lib.hid hv.symm
                clear hblk4 hpb4
                go_wp2_with fail
                go_ret
                exact ⟨by rw [hv.out]; rfl, hB4⟩
            · have d1 : decide (rule < 1) = true := decide_eq_true (Decidable.byContradiction q)
              replace hv := hv.out
              rw [if_pos (.inl (Decidable.byContradiction q))] at hv
              clear q
              replace hv := Lib.hid hv.symm
              clear hblk4 hpb4
              go_wp2_with fail
              go_ret
              exact ⟨by rw [hv.out]; rfl, hB4⟩
          case false =>
            replace hv := hv.out
            rw [if_pos rfl] at hv
            replace hv := Lib.hid hv
            refine HX.mono ?_
            clear HX
            rintro e w4 ⟨rfl, b4⟩
            have hblk4 : w4.heap[pb]? = _ := (b4.block pb hpb3).trans hblk3
            have hB4 := hB3.trans (b4.mono hB3.size)
            have hpb4 : pb < w4.heap.size := (Array.getElem?_eq_some_iff.1 hblk4).1
            clear k0 k1 k2 k3 k4 k5 k6 k7 k8 k9 k10
            obtain ⟨k0, k1, k2, k3, k4, k5, k6, k7, k8, k9, k10⟩ := kk.out w4 hblk4
            clear hblk3 hpb3 hB3 b4
            replace hv := Lib.hid hv.out.symm
            clear hblk4 hpb4
            go_wp2_with fail
            go_ret
            exact ⟨by rw [hv.out]; rfl, hB4⟩
        case false =>
          replace hv := hv.out
          rw [if_pos rfl] at hv
          replace hv := Lib.hid hv
          refine HX.mono ?_
          clear HX
          rintro e w3 ⟨rfl, b3⟩
          have hblk3 : w3.heap[pb]? = _ := (b3.block pb hpb2).trans hblk2
          have hB3 := hB2.trans (b3.mono hB2.size)
          have hpb3 : pb < w3.heap.size := (Array.getElem?_eq_some_iff.1 hblk3).1
          clear k0 k1 k2 k3 k4 k5 k6 k7 k8 k9 k10
          obtain ⟨k0, k1, k2, k3, k4, k5, k6, k7, k8, k9, k10⟩ := kk.out w3 hblk3
          clear hblk2 hpb2 hB2 b3
          replace hv := Lib.hid hv.out.symm
          clear hblk3 hpb3
          go_wp2_with fail
          go_ret
          exact ⟨by rw [hv.out]; rfl, hB3⟩
      case false =>
        replace hv := hv.out
        rw [if_pos rfl] at hv
        replace hv := Lib.hid hv
        refine HX.mono ?_
        clear HX
        rintro e w2 ⟨rfl, b2⟩
        have hblk2 : w2.heap[pb]? = _ := (b2.block pb hpb1).trans hblk1
        have hB2 := hB1.trans (b2.mono hB1.size)
        have hpb2 : pb < w2.heap.size := (Array.getElem?_eq_some_iff.1 hblk2).1
        clear k0 k1 k2 k3 k4 k5 k6 k7 k8 k9 k10
        obtain ⟨k0, k1, k2, k3, k4, k5, k6, k7, k8, k9, k10⟩ := kk.out w2 hblk2
        clear hblk1 hpb1 hB1 b2
        replace hv := Lib.hid hv.out.symm
        clear hblk2 hpb2
        go_wp2_with fail
        go_ret
        exact ⟨by rw [hv.out]; rfl, hB2⟩
    case false =>
      replace hv := hv.out
      rw [q] at HX hv
      rw [if_pos rfl] at hv
      replace hv := Lib.hid hv
      refine HX.mono ?_
      clear HX
      rintro e w' ⟨rfl, rfl⟩
      replace hv := Lib.hid hv.out.symm
      clear hblk1 hpb1
      go_wp2_with fail
      go_ret
      exact ⟨by rw [hv.out]; rfl, hB1⟩
  case false =>
    replace hv := hv.out
    rw [q] at HX hv
    rw [if_pos rfl] at hv
    replace hv := Lib.hid hv
    refine HX.mono ?_
    clear HX
    rintro e w1 ⟨rfl, b1⟩
    have hblk1 : w1.heap[pb]? = _ := (b1.block pb hpb0).trans hblk0
    have hB1 := hB0.trans (b1.mono hB0.size)
    have hpb1 : pb < w1.heap.size := (Array.getElem?_eq_some_iff.1 hblk1).1
    clear k0 k1 k2 k3 k4 k5 k6 k7 k8 k9 k10
    obtain ⟨k0, k1, k2, k3, k4, k5, k6, k7, k8, k9, k10⟩ := kk.out w1 hblk1
    clear hblk0 hpb0 hB0 b1
    replace hv := Lib.hid hv.out.symm
    clear hblk1 hpb1
    go_wp2_with fail
    go_ret
    exact ⟨by rw [hv.out]; rfl, hB1⟩
end Go.Proofs.Ytpfgmebajefjaaa
