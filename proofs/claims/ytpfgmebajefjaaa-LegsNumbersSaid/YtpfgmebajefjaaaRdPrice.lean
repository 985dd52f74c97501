/-
  Contract: Price, of the program.
-/
import Derived.Test.YtpfgmebajefjaaaRdBand2
import Derived.Test.YtpfgmebajefjaaaRefPrice
namespace Go.Proofs.Ytpfgmebajefjaaa
open Go.RowKit
set_option linter.unusedVariables false
set_option linter.unusedSimpArgs false

theorem price_eq {p : PD} {inst x : Int} (hz : chk p = 0) (h0 : 0 ≤ inst) (h : inst < cntL p) : priceL p inst x =
    if multB x p.tick = false then 22 else if insB x (if (legsL p inst).1 = (legsL p inst).2.1 then p.low else -p.wide) (if (legsL p inst).1 = (legsL p inst).2.1 then p.high else p.wide) = false then 23 else 0 := by
  have ht := (chk_facts hz).2.2.2.2.1
  unfold priceL
  rw [if_neg (by omega), if_neg (by omega), multB_tmod ht, legs_spread h0 h]
  by_cases c1 : x.tmod p.tick = 0
  · rw [if_neg (show ¬ (x.tmod p.tick ≠ 0) from fun h => h c1), decide_eq_true c1, if_neg (show ¬ true = false by decide)]
    by_cases c : (legsL p inst).1 = (legsL p inst).2.1
    · rw [if_pos c, if_pos c, show ((legsL p inst).1 != (legsL p inst).2.1) = false from by simp; exact c]
      rw [if_neg (show ¬ false = true by decide)]
      by_cases c2 : x < p.low ∨ p.high < x
      · rw [if_pos c2, show insB x p.low p.high = false from decide_eq_false (by omega), if_pos rfl]
      · rw [if_neg c2, show insB x p.low p.high = true from decide_eq_true (by omega), if_neg (by decide)]
    · rw [if_neg c, if_neg c, show ((legsL p inst).1 != (legsL p inst).2.1) = true from by simp; exact c]
      rw [if_pos rfl]
      by_cases c2 : x < -p.wide ∨ p.wide < x
      · rw [if_pos c2, show insB x (-p.wide) p.wide = false from decide_eq_false (by omega), if_pos rfl]
      · rw [if_neg c2, show insB x (-p.wide) p.wide = true from decide_eq_true (by omega), if_neg (by decide)]
  · rw [if_pos c1, decide_eq_false c1, if_pos rfl]
set_option maxRecDepth 100000 in
set_option maxHeartbeats 1600000 in
theorem PPrice_any (p : PD) (inst x0 : Int) (w : World) (h : Hid (p.Ok w)) (hi : I64 inst) (hx : I64 x0) :
    Calls Try.prog 15 #[p.val, .int .i64 inst, .int .i64 x0] w fun e w' => e = .returned (.int .i64 (priceL p inst x0)) ∧ Below w.heap.size w w' := by
  have HI : Hid (∀ W, Below w.heap.size w W → Calls Try.prog 20 #[p.val, .int .i64 inst] W fun e w' => e = .returned (.tuple #[.agg #[.int .i64 (legsL p inst).1, .int .i64 (legsL p inst).2.1], .bool (decide (0 ≤ inst ∧ inst < cntL p))]) ∧ Below W.heap.size W w') := Lib.hid (fun W b => Instrument_any p inst W (Lib.hid (h.out.below b)) hi)
  have HBd : chk p = 0 → ∀ W, Below w.heap.size w W → Calls Try.prog 22 #[p.val, .agg #[.int .i64 (legsL p inst).1, .int .i64 (legsL p inst).2.1]] W _ := fun g W b => Bands_any p (legsL p inst).1 (legsL p inst).2.1 W (Lib.hid (h.out.below b)) (by have := (chk_facts g).2.2.2.2.2.2.2.2.2.1; omega)
  have rp : chk p = 0 → decide (0 ≤ inst ∧ inst < (cntL p : Int)) = true → priceL p inst x0 = _ := fun g e => price_eq g (of_decide_eq_true e).1 (of_decide_eq_true e).2
  have rn : chk p = 0 → decide (0 ≤ inst ∧ inst < (cntL p : Int)) = false → priceL p inst x0 = 20 := fun g e => by
    have := of_decide_eq_false e
    unfold priceL; rw [if_neg (by omega), if_pos (by omega)]
  have rz : chk p ≠ 0 → priceL p inst x0 = 1 := fun g => by unfold priceL; rw [if_pos g]
  obtain ⟨m, hm⟩ : ∃ m, priceL p inst x0 = m := ⟨_, rfl⟩
  rw [hm] at rp rn rz ⊢
  obtain ⟨⟨x, y, z⟩, hL⟩ : ∃ l, legsL p inst = l := ⟨_, rfl⟩
  rw [hL] at HI HBd rp
  simp only at HI HBd rp
  obtain ⟨lo, hlo⟩ : ∃ l, (if x = y then p.low else -p.wide) = l := ⟨_, rfl⟩
  obtain ⟨hg, hhg⟩ : ∃ l, (if x = y then p.high else p.wide) = l := ⟨_, rfl⟩
  rw [hlo, hhg] at HBd rp
  obtain ⟨v, hv⟩ : ∃ v, decide (0 ≤ inst ∧ inst < (cntL p : Int)) = v := ⟨_, rfl⟩
  rw [hv] at HI rp rn
  obtain ⟨e0, h0⟩ : ∃ e, chk p = e := ⟨_, rfl⟩
  rw [h0] at HBd rp rn rz
  have HC : Hid (∀ W, Below w.heap.size w W → Calls Try.prog 17 #[p.val] W fun e w' => e = .returned (.int .i64 e0) ∧ Below W.heap.size W w') := Lib.hid (fun W b => by rw [← h0]; exact PCheck_any p W (Lib.hid (h.out.below b)))
  replace HBd := Lib.hid HBd
  replace rp := Lib.hid rp
  replace rn := Lib.hid rn
  replace rz := Lib.hid rz
  clear hL hv hm h0 hlo hhg
  obtain ⟨hi1, hi2⟩ := hi
  obtain ⟨hx1, hx2⟩ := hx
  have l1 := h.out.l1
  have m1 := h.out.m1
  have l2 := h.out.l2
  have m2 := h.out.m2
  have hco := h.out.code
  obtain ⟨ti1, ti2⟩ := h.out.tick
  obtain ⟨lo1, lo2⟩ := h.out.low
  obtain ⟨hg1, hg2⟩ := h.out.high
  obtain ⟨wi1, wi2⟩ := h.out.wide
  obtain ⟨ru1, ru2⟩ := h.out.rule
  obtain ⟨to1, to2⟩ := h.out.top
  obtain ⟨le1, le2⟩ := h.out.least
  obtain ⟨pa1, pa2⟩ := h.out.part
  have HO1 : Hid (∀ W, Below w.heap.size w W → Nums W p.A1 p.n1 p.Q) := Lib.hid (fun W b => h.out.months.below b)
  have HO2 : Hid (∀ W, Below w.heap.size w W → Nums W p.A2 p.n2 p.R) := Lib.hid (fun W b => h.out.settle.below b)
  clear h
  obtain ⟨code, A1, n1, c1, tick, low, high, wide, rule, top, least, part, A2, n2, c2, Q, R⟩ := p
  simp only at l1 m1 l2 m2 hco ti1 ti2 lo1 lo2 hg1 hg2 wi1 wi2 ru1 ru2 to1 to2 le1 le2 pa1 pa2 HO1 HO2 rp
  replace HBd : Hid (e0 = 0 → ∀ W, Below w.heap.size w W → Calls Try.prog 22 #[.agg #[.string (str code), .slice A1 n1 c1, .int .i64 tick, .int .i64 low, .int .i64 high, .int .i64 wide, .int .i64 rule, .int .i64 top, .int .i64 least, .int .i64 part, .slice A2 n2 c2], .agg #[.int .i64 x, .int .i64 y]] W fun e w' => e = .returned (.tuple #[.int .i64 lo, .int .i64 hg]) ∧ Below W.heap.size W w') := HBd
  replace HC : Hid (∀ W, Below w.heap.size w W → Calls Try.prog 17 #[.agg #[.string (str code), .slice A1 n1 c1, .int .i64 tick, .int .i64 low, .int .i64 high, .int .i64 wide, .int .i64 rule, .int .i64 top, .int .i64 least, .int .i64 part, .slice A2 n2 c2]] W fun e w' => e = .returned (.int .i64 e0) ∧ Below W.heap.size W w') := HC
  replace HI : Hid (∀ W, Below w.heap.size w W → Calls Try.prog 20 #[.agg #[.string (str code), .slice A1 n1 c1, .int .i64 tick, .int .i64 low, .int .i64 high, .int .i64 wide, .int .i64 rule, .int .i64 top, .int .i64 least, .int .i64 part, .slice A2 n2 c2], .int .i64 inst] W fun e w' => e = .returned (.tuple #[.agg #[.int .i64 x, .int .i64 y], .bool v]) ∧ Below W.heap.size W w') := HI
  show Calls Try.prog 15 #[.agg #[.string (str code), .slice A1 n1 c1, .int .i64 tick, .int .i64 low, .int .i64 high, .int .i64 wide, .int .i64 rule, .int .i64 top, .int .i64 least, .int .i64 part, .slice A2 n2 c2], .int .i64 inst, .int .i64 x0] w _
  obtain ⟨W0, eW0⟩ : ∃ W0, w.alloc (.cells #[.string (str code), .slice A1 n1 c1, .int .i64 tick, .int .i64 low, .int .i64 high, .int .i64 wide, .int .i64 rule, .int .i64 top, .int .i64 least, .int .i64 part, .slice A2 n2 c2] 25) = W0 := ⟨_, rfl⟩
  obtain ⟨pb, epb⟩ : ∃ pb, w.heap.size = pb := ⟨_, rfl⟩
  have hblk0 : W0.heap[pb]? = some (.cells #[.string (str code), .slice A1 n1 c1, .int .i64 tick, .int .i64 low, .int .i64 high, .int .i64 wide, .int .i64 rule, .int .i64 top, .int .i64 least, .int .i64 part, .slice A2 n2 c2] 25 (0, 0)) := by
    rw [← eW0, ← epb]; exact heap_alloc_new w _
  have hB0 : Below w.heap.size w W0 := by rw [← eW0]; exact (Below.refl _ w).alloc (Nat.le_refl _) _
  have hpb0 : pb < W0.heap.size := (Array.getElem?_eq_some_iff.1 hblk0).1
  have kk : ∀ W : World, W.heap[pb]? = some (.cells #[.string (str code), .slice A1 n1 c1, .int .i64 tick, .int .i64 low, .int .i64 high, .int .i64 wide, .int .i64 rule, .int .i64 top, .int .i64 least, .int .i64 part, .slice A2 n2 c2] 25 (0, 0)) → W.cell? ⟨pb, 0, none⟩ = some (.string (str code)) ∧ W.cell? ⟨pb, 1, none⟩ = some (.slice A1 n1 c1) ∧ W.cell? ⟨pb, 2, none⟩ = some (.int .i64 tick) ∧ W.cell? ⟨pb, 3, none⟩ = some (.int .i64 low) ∧ W.cell? ⟨pb, 4, none⟩ = some (.int .i64 high) ∧ W.cell? ⟨pb, 5, none⟩ = some (.int .i64 wide) ∧ W.cell? ⟨pb, 6, none⟩ = some (.int .i64 rule) ∧ W.cell? ⟨pb, 7, none⟩ = some (.int .i64 top) ∧ W.cell? ⟨pb, 8, none⟩ = some (.int .i64 least) ∧ W.cell? ⟨pb, 9, none⟩ = some (.int .i64 part) ∧ W.cell? ⟨pb, 10, none⟩ = some (.slice A2 n2 c2) := by
    intro W hb
    refine ⟨?_, ?_, ?_, ?_, ?_, ?_, ?_, ?_, ?_, ?_, ?_⟩ <;> (rw [Lib.cell_of_heap hb]; rfl)
  replace kk := Lib.hid kk
  replace eW0 := Lib.hid eW0
  replace epb := Lib.hid epb
  have a0 : (w.alloc (.cells #[.string (str code), .slice A1 n1 c1, .int .i64 tick, .int .i64 low, .int .i64 high, .int .i64 wide, .int .i64 rule, .int .i64 top, .int .i64 least, .int .i64 part, .slice A2 n2 c2] 25)).cell? ⟨w.heap.size, 0, none⟩ = some (.string (str code)) := by
    rw [eW0.out, epb.out]; exact (kk.out W0 hblk0).1
  have a1 : (w.alloc (.cells #[.string (str code), .slice A1 n1 c1, .int .i64 tick, .int .i64 low, .int .i64 high, .int .i64 wide, .int .i64 rule, .int .i64 top, .int .i64 least, .int .i64 part, .slice A2 n2 c2] 25)).cell? ⟨w.heap.size, 1, none⟩ = some (.slice A1 n1 c1) := by
    rw [eW0.out, epb.out]; exact (kk.out W0 hblk0).2.1
  have a2 : (w.alloc (.cells #[.string (str code), .slice A1 n1 c1, .int .i64 tick, .int .i64 low, .int .i64 high, .int .i64 wide, .int .i64 rule, .int .i64 top, .int .i64 least, .int .i64 part, .slice A2 n2 c2] 25)).cell? ⟨w.heap.size, 2, none⟩ = some (.int .i64 tick) := by
    rw [eW0.out, epb.out]; exact (kk.out W0 hblk0).2.2.1
  have a3 : (w.alloc (.cells #[.string (str code), .slice A1 n1 c1, .int .i64 tick, .int .i64 low, .int .i64 high, .int .i64 wide, .int .i64 rule, .int .i64 top, .int .i64 least, .int .i64 part, .slice A2 n2 c2] 25)).cell? ⟨w.heap.size, 3, none⟩ = some (.int .i64 low) := by
    rw [eW0.out, epb.out]; exact (kk.out W0 hblk0).2.2.2.1
  have a4 : (w.alloc (.cells #[.string (str code), .slice A1 n1 c1, .int .i64 tick, .int .i64 low, .int .i64 high, .int .i64 wide, .int .i64 rule, .int .i64 top, .int .i64 least, .int .i64 part, .slice A2 n2 c2] 25)).cell? ⟨w.heap.size, 4, none⟩ = some (.int .i64 high) := by
    rw [eW0.out, epb.out]; exact (kk.out W0 hblk0).2.2.2.2.1
  have a5 : (w.alloc (.cells #[.string (str code), .slice A1 n1 c1, .int .i64 tick, .int .i64 low, .int .i64 high, .int .i64 wide, .int .i64 rule, .int .i64 top, .int .i64 least, .int .i64 part, .slice A2 n2 c2] 25)).cell? ⟨w.heap.size, 5, none⟩ = some (.int .i64 wide) := by
    rw [eW0.out, epb.out]; exact (kk.out W0 hblk0).2.2.2.2.2.1
  have a6 : (w.alloc (.cells #[.string (str code), .slice A1 n1 c1, .int .i64 tick, .int .i64 low, .int .i64 high, .int .i64 wide, .int .i64 rule, .int .i64 top, .int .i64 least, .int .i64 part, .slice A2 n2 c2] 25)).cell? ⟨w.heap.size, 6, none⟩ = some (.int .i64 rule) := by
    rw [eW0.out, epb.out]; exact (kk.out W0 hblk0).2.2.2.2.2.2.1
  have a7 : (w.alloc (.cells #[.string (str code), .slice A1 n1 c1, .int .i64 tick, .int .i64 low, .int .i64 high, .int .i64 wide, .int .i64 rule, .int .i64 top, .int .i64 least, .int .i64 part, .slice A2 n2 c2] 25)).cell? ⟨w.heap.size, 7, none⟩ = some (.int .i64 top) := by
    rw [eW0.out, epb.out]; exact (kk.out W0 hblk0).2.2.2.2.2.2.2.1
  have a8 : (w.alloc (.cells #[.string (str code), .slice A1 n1 c1, .int .i64 tick, .int .i64 low, .int .i64 high, .int .i64 wide, .int .i64 rule, .int .i64 top, .int .i64 least, .int .i64 part, .slice A2 n2 c2] 25)).cell? ⟨w.heap.size, 8, none⟩ = some (.int .i64 least) := by
    rw [eW0.out, epb.out]; exact (kk.out W0 hblk0).2.2.2.2.2.2.2.2.1
  have a9 : (w.alloc (.cells #[.string (str code), .slice A1 n1 c1, .int .i64 tick, .int .i64 low, .int .i64 high, .int .i64 wide, .int .i64 rule, .int .i64 top, .int .i64 least, .int .i64 part, .slice A2 n2 c2] 25)).cell? ⟨w.heap.size, 9, none⟩ = some (.int .i64 part) := by
    rw [eW0.out, epb.out]; exact (kk.out W0 hblk0).2.2.2.2.2.2.2.2.2.1
  have a10 : (w.alloc (.cells #[.string (str code), .slice A1 n1 c1, .int .i64 tick, .int .i64 low, .int .i64 high, .int .i64 wide, .int .i64 rule, .int .i64 top, .int .i64 least, .int .i64 part, .slice A2 n2 c2] 25)).cell? ⟨w.heap.size, 10, none⟩ = some (.slice A2 n2 c2) := by
    rw [eW0.out, epb.out]; exact (kk.out W0 hblk0).2.2.2.2.2.2.2.2.2.2
  go_enter Try.func15, Try.ntmps15
  go_wp2_with fail
  rw [eW0.out]
  rw [epb.out]
  clear a0 a1 a2 a3 a4 a5 a6 a7 a8 a9 a10 eW0
  obtain ⟨k0, k1, k2, k3, k4, k5, k6, k7, k8, k9, k10⟩ := kk.out W0 hblk0
  refine (HC.out W0 hB0).mono ?_
  rintro e w9 ⟨rfl, b9⟩
  have hB9 := hB0.trans (b9.mono hB0.size)
  have hblk9 : w9.heap[pb]? = _ := (b9.block pb hpb0).trans hblk0
  have hpb9 : pb < w9.heap.size := (Array.getElem?_eq_some_iff.1 hblk9).1
  clear k0 k1 k2 k3 k4 k5 k6 k7 k8 k9 k10 hblk0 hpb0 hB0 HC b9
  by_cases q0 : e0 = 0
  case neg =>
    have f0 : ((e0 : Int) != 0) = true := by simp; omega
    have r5 := Lib.hid (rz.out q0)
    clear q0 rz rp rn HBd hblk9 hpb9
    go_wp2_with fail
    go_ret
    exact ⟨by rw [r5.out]; rfl, hB9⟩
  subst q0
  have f0 : (((0 : Nat) : Int) != 0) = false := by decide
  obtain ⟨k0, k1, k2, k3, k4, k5, k6, k7, k8, k9, k10⟩ := kk.out w9 hblk9
  go_wp2_with fail
  refine (HI.out w9 hB9).mono ?_
  rintro e w1 ⟨rfl, b1⟩
  have hB1 := hB9.trans (b1.mono hB9.size)
  have HB1 := Lib.hid hB1
  have hblk1 : w1.heap[pb]? = _ := (b1.block pb hpb9).trans hblk9
  have hpb1 : pb < w1.heap.size := (Array.getElem?_eq_some_iff.1 hblk1).1
  obtain ⟨q, eq⟩ : ∃ q, w1.heap.size = q := ⟨_, rfl⟩
  clear b1 k0 k1 k2 k3 k4 k5 k6 k7 k8 k9 k10 hblk9 hpb9 hB9 hB1 HI
  obtain ⟨W2, eW2⟩ : ∃ W, w1.alloc (.cells #[.int .i64 x, .int .i64 y] 45) = W := ⟨_, rfl⟩
  have hq2 : W2.heap[q]? = some (.cells #[.int .i64 x, .int .i64 y] 45 (0, 0)) := by rw [← eW2, ← eq]; exact heap_alloc_new w1 _
  have HB2 := Lib.hid (show Below w.heap.size w W2 from by rw [← eW2]; exact HB1.out.alloc HB1.out.size _)
  obtain ⟨s0, s1, z0, z1, -, -⟩ := pair_facts hq2
  replace eW2 := Lib.hid eW2
  have hblk2 : W2.heap[pb]? = some (.cells #[.string (str code), .slice A1 n1 c1, .int .i64 tick, .int .i64 low, .int .i64 high, .int .i64 wide, .int .i64 rule, .int .i64 top, .int .i64 least, .int .i64 part, .slice A2 n2 c2] 25 (0, 0)) := by rw [← eW2.out]; exact (heap_alloc_old _ _ hpb1).trans hblk1
  clear hblk1 hpb1
  obtain ⟨k0, k1, k2, k3, k4, k5, k6, k7, k8, k9, k10⟩ := kk.out W2 hblk2
  cases v
  · have r5 := Lib.hid (rn.out (by first | rfl | trivial) (by first | rfl | trivial))
    clear rp rn rz HBd
    go_wp2_with fail
    rw [eW2.out]
    go_ret
    exact ⟨by rw [r5.out]; rfl, HB2.out⟩
  · have HM := Lib.hid (HBd.out (by first | rfl | trivial) W2 HB2.out)
    have r5 := rp.out (by first | rfl | trivial) (by first | rfl | trivial)
    clear rp rn rz HBd
    obtain ⟨ml, eml⟩ : ∃ b, multB x0 tick = b := ⟨_, rfl⟩
    obtain ⟨il, eil⟩ : ∃ b, insB x0 lo hg = b := ⟨_, rfl⟩
    rw [eml, eil] at r5
    replace r5 := Lib.hid r5
    replace eml := Lib.hid eml
    replace eil := Lib.hid eil
    go_upto_region 6 with (fail)
    rw [eW2.out]
    go_wp2_with fail
    refine HM.out.mono ?_
    rintro e w3 ⟨rfl, b3⟩
    have hblk3 : w3.heap[pb]? = _ := (b3.block pb (Array.getElem?_eq_some_iff.1 hblk2).1).trans hblk2
    have HB3 := Lib.hid (HB2.out.trans (b3.mono HB2.out.size))
    clear b3 HM k0 k1 k2 k3 k4 k5 k6 k7 k8 k9 k10 s0 s1 z0 z1 hblk2 hq2
    obtain ⟨k0, k1, k2, k3, k4, k5, k6, k7, k8, k9, k10⟩ := kk.out w3 hblk3
    go_wp2_with fail
    have HU := Mult_any x0 tick w3 ⟨hx1, hx2⟩ ⟨ti1, ti2⟩
    rw [eml.out] at HU
    refine HU.mono ?_
    clear HU
    rintro e w' ⟨rfl, rfl⟩
    cases ml
    · have r6 := r5.out
      rw [if_pos rfl] at r6
      replace r6 := Lib.hid r6
      clear r5 hblk3
      go_wp2_with fail
      go_ret
      exact ⟨by rw [r6.out]; rfl, HB3.out⟩
    · have r6 := r5.out
      rw [if_neg (by decide)] at r6
      replace r6 := Lib.hid r6
      clear r5 hblk3
      go_wp2_with fail
      have HU := Inside_any x0 lo hg w3
      rw [eil.out] at HU
      refine HU.mono ?_
      clear HU
      rintro e w' ⟨rfl, rfl⟩
      cases il
      · have r7 := Lib.hid (r6.out.trans (if_pos rfl))
        clear r6
        go_wp2_with fail
        go_ret
        exact ⟨by rw [r7.out]; rfl, HB3.out⟩
      · have r7 := Lib.hid (r6.out.trans (if_neg (by decide)))
        clear r6
        go_wp2_with fail
        go_ret
        exact ⟨by rw [r7.out]; rfl, HB3.out⟩
end Go.Proofs.Ytpfgmebajefjaaa
