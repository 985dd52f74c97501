/-
  Contracts: shift and Prices, of the program.
-/
import Derived.Test.YtpfgmebajefjaaaLe
import Derived.Test.YtpfgmebajefjaaaRdLegs
namespace Go.Proofs.Ytpfgmebajefjaaa
open Go.RowKit
set_option linter.unusedVariables false
set_option linter.unusedSimpArgs false

set_option maxRecDepth 100000 in
set_option maxHeartbeats 1600000 in
theorem Shift_any (p : PD) (x : Int) (w : World) (h1 : -1000000 ≤ p.low) (h0 : p.low < p.high) (h2 : p.high ≤ 1000000) (h3 : -3000000 ≤ x) (h4 : x ≤ 3000000) :
    Calls Try.prog 18 #[p.val, .int .i64 x] w fun e w' => e = .returned (.int .i64 (shiftB p.low p.high x)) ∧ Below w.heap.size w w' := by
  have r1 : p.high < x → shiftB p.low p.high x = p.high - x := fun g => by unfold shiftB; rw [if_pos g]
  have r2 : ¬ p.high < x → x < p.low → shiftB p.low p.high x = p.low - x := fun g g2 => by unfold shiftB; rw [if_neg g, if_pos g2]
  have r3 : ¬ p.high < x → ¬ x < p.low → shiftB p.low p.high x = 0 := fun g g2 => by unfold shiftB; rw [if_neg g, if_neg g2]
  obtain ⟨u, hu⟩ : ∃ u, shiftB p.low p.high x = u := ⟨_, rfl⟩
  rw [hu] at r1 r2 r3 ⊢
  clear hu
  obtain ⟨code, A1, n1, c1, tick, low, high, wide, rule, top, least, part, A2, n2, c2, Q, R⟩ := p
  simp only at h1 h0 h2 r1 r2 r3
  show Calls Try.prog 18 #[.agg #[.string (str code), .slice A1 n1 c1, .int .i64 tick, .int .i64 low, .int .i64 high, .int .i64 wide, .int .i64 rule, .int .i64 top, .int .i64 least, .int .i64 part, .slice A2 n2 c2], .int .i64 x] w _
  obtain ⟨W0, eW0⟩ : ∃ W0, w.alloc (.cells #[.string (str code), .slice A1 n1 c1, .int .i64 tick, .int .i64 low, .int .i64 high, .int .i64 wide, .int .i64 rule, .int .i64 top, .int .i64 least, .int .i64 part, .slice A2 n2 c2] 25) = W0 := ⟨_, rfl⟩
  obtain ⟨pb, epb⟩ : ∃ pb, w.heap.size = pb := ⟨_, rfl⟩
  have hblk0 : Hid (W0.heap[pb]? = some (.cells #[.string (str code), .slice A1 n1 c1, .int .i64 tick, .int .i64 low, .int .i64 high, .int .i64 wide, .int .i64 rule, .int .i64 top, .int .i64 least, .int .i64 part, .slice A2 n2 c2] 25 (0, 0))) := Lib.hid (by rw [← eW0, ← epb]; exact heap_alloc_new w _)
  have hB0 : Hid (Below w.heap.size w W0) := Lib.hid (by rw [← eW0]; exact (Below.refl _ w).alloc (Nat.le_refl _) _)
  replace eW0 := Lib.hid eW0
  replace epb := Lib.hid epb
  go_enter Try.func18, Try.ntmps18
  obtain ⟨k0, k1, k2, k3, k4, k5, k6, k7, k8, k9, k10⟩ := row11 hblk0.out
  go_upto_region 1 with (fail)
  rw [eW0.out, epb.out]
  clear eW0 epb
  by_cases q1 : high < x
  · obtain rfl := r1 q1
    clear r1 r2 r3
    have f1 : decide (x > high) = true := decide_eq_true q1
    have f2 : decide (high < x) = true := decide_eq_true q1
    go_wp2_with fail
    go_ret
    exact ⟨rfl, hB0.out⟩
  · by_cases q2 : x < low
    · obtain rfl := r2 q1 q2
      clear r1 r2 r3
      have f1 : decide (x > high) = false := decide_eq_false q1
      have f2 : decide (high < x) = false := decide_eq_false q1
      have f3 : decide (x < low) = true := decide_eq_true q2
      go_wp2_with fail
      go_ret
      exact ⟨rfl, hB0.out⟩
    · obtain rfl := r3 q1 q2
      clear r1 r2 r3
      have f1 : decide (x > high) = false := decide_eq_false q1
      have f2 : decide (high < x) = false := decide_eq_false q1
      have f3 : decide (x < low) = false := decide_eq_false q2
      go_wp2_with fail
      go_ret
      exact ⟨rfl, hB0.out⟩
set_option maxRecDepth 100000 in
set_option maxHeartbeats 1600000 in
theorem PPrices_any (p : PD) (inst x : Int) (w : World) (h : Hid (p.Ok w)) (hi : I64 inst) (hx : I64 x) :
    Calls Try.prog 9 #[p.val, .int .i64 inst, .int .i64 x] w fun e w' => e = .returned (.tuple #[.int .i64 (pricesL p inst x).1, .int .i64 (pricesL p inst x).2.1, .int .i64 ((pricesL p inst x).2.2 : Nat)]) ∧ Below w.heap.size w w' := by
  have r1 : chk p ≠ 0 → pricesL p inst x = (0, 0, 1) := fun g => by unfold pricesL; rw [if_pos g]
  have r2 : chk p = 0 → (legsL p inst).2.2 = false → pricesL p inst x = (0, 0, 20) := fun g g2 => by unfold pricesL; rw [if_neg (by simpa using g), if_pos g2]
  have r3 : chk p = 0 → (legsL p inst).2.2 = true → priceL p inst x ≠ 0 → pricesL p inst x = (0, 0, priceL p inst x) := fun g g2 g3 => by unfold pricesL; rw [if_neg (by simpa using g), if_neg (by rw [g2]; decide), if_pos g3]
  have r4 : chk p = 0 → (legsL p inst).2.2 = true → priceL p inst x = 0 → ∃ j : Nat, (legsL p inst).2.1 = (j : Int) ∧ j < p.n2 ∧ p.low ≤ p.R j ∧ p.R j ≤ p.high ∧ -1000000 ≤ p.low ∧ p.low < p.high ∧ p.high ≤ 1000000 ∧ -2000000 ≤ x ∧ x ≤ 2000000 ∧
      pricesL p inst x = (p.R j + x + shiftB p.low p.high (p.R j + x), p.R j + shiftB p.low p.high (p.R j + x), 0) := fun g g2 g3 => by
    obtain ⟨j, a1, a2, a3, a4, a5, a6, a7, a8, a9, a10⟩ := spread_facts (x := x) g g2
    have := a10 g3
    refine ⟨j, a1, a2, a4, a5, a6, a7, a8, by omega, by omega, ?_⟩
    unfold pricesL
    rw [if_neg (by simpa using g), if_neg (by rw [g2]; decide), if_neg (by simpa using g3), a3]
  obtain ⟨⟨u1, u2, u3⟩, hu⟩ : ∃ u, pricesL p inst x = u := ⟨_, rfl⟩
  rw [hu] at r1 r2 r3 r4 ⊢
  clear hu
  have HC : Hid (∀ W, Below w.heap.size w W → Calls Try.prog 17 #[p.val] W fun e w' => e = .returned (.int .i64 (chk p : Nat)) ∧ Below W.heap.size W w') := Lib.hid (fun W b => PCheck_any p W (Lib.hid (h.out.below b)))
  have HL : Hid (∀ W, Below w.heap.size w W → Calls Try.prog 14 #[p.val, .int .i64 inst] W fun e w' => e = .returned (.tuple #[.int .i64 (legsL p inst).1, .int .i64 (legsL p inst).2.1, .bool (legsL p inst).2.2]) ∧ Below W.heap.size W w') := Lib.hid (fun W b => PLegs_any p inst W (Lib.hid (h.out.below b)) hi)
  have HP : Hid (∀ W, Below w.heap.size w W → Calls Try.prog 15 #[p.val, .int .i64 inst, .int .i64 x] W fun e w' => e = .returned (.int .i64 (priceL p inst x : Nat)) ∧ Below W.heap.size W w') := Lib.hid (fun W b => PPrice_any p inst x W (Lib.hid (h.out.below b)) hi hx)
  have HS : Hid (∀ y : Int, -1000000 ≤ p.low → p.low < p.high → p.high ≤ 1000000 → -3000000 ≤ y → y ≤ 3000000 → ∀ W, Calls Try.prog 18 #[p.val, .int .i64 y] W fun e w' => e = .returned (.int .i64 (shiftB p.low p.high y)) ∧ Below W.heap.size W w') := Lib.hid (fun y g1 g0 g2 g3 g4 W => Shift_any p y W g1 g0 g2 g3 g4)
  have HN : Hid (∀ W, Below w.heap.size w W → Nums W p.A2 p.n2 p.R) := Lib.hid (fun W b => h.out.settle.below b)
  have cc1 := h.out.l2
  have cc2 := h.out.m2
  obtain ⟨hx1, hx2⟩ := hx
  clear h
  obtain ⟨c0, hc0⟩ : ∃ c, chk p = c := ⟨_, rfl⟩
  obtain ⟨⟨l1, l2, l3⟩, hl0⟩ : ∃ c, legsL p inst = c := ⟨_, rfl⟩
  obtain ⟨pr, hpr⟩ : ∃ c, priceL p inst x = c := ⟨_, rfl⟩
  rw [hc0] at HC r1 r2 r3 r4
  rw [hl0] at HL r2 r3 r4
  rw [hpr] at HP r3 r4
  clear hc0 hl0 hpr
  simp only at HL r2 r3 r4
  obtain ⟨code, A1, n1, c1, tick, low, high, wide, rule, top, least, part, A2, n2, c2, Q, R⟩ := p
  simp only at r4 HN cc1 cc2
  replace HC : Hid (∀ W, Below w.heap.size w W → Calls Try.prog 17 #[.agg #[.string (str code), .slice A1 n1 c1, .int .i64 tick, .int .i64 low, .int .i64 high, .int .i64 wide, .int .i64 rule, .int .i64 top, .int .i64 least, .int .i64 part, .slice A2 n2 c2]] W fun e w' => e = .returned (.int .i64 (c0 : Nat)) ∧ Below W.heap.size W w') := HC
  replace HL : Hid (∀ W, Below w.heap.size w W → Calls Try.prog 14 #[.agg #[.string (str code), .slice A1 n1 c1, .int .i64 tick, .int .i64 low, .int .i64 high, .int .i64 wide, .int .i64 rule, .int .i64 top, .int .i64 least, .int .i64 part, .slice A2 n2 c2], .int .i64 inst] W fun e w' => e = .returned (.tuple #[.int .i64 l1, .int .i64 l2, .bool l3]) ∧ Below W.heap.size W w') := HL
  replace HP : Hid (∀ W, Below w.heap.size w W → Calls Try.prog 15 #[.agg #[.string (str code), .slice A1 n1 c1, .int .i64 tick, .int .i64 low, .int .i64 high, .int .i64 wide, .int .i64 rule, .int .i64 top, .int .i64 least, .int .i64 part, .slice A2 n2 c2], .int .i64 inst, .int .i64 x] W fun e w' => e = .returned (.int .i64 (pr : Nat)) ∧ Below W.heap.size W w') := HP
  replace HS : Hid (∀ y : Int, -1000000 ≤ low → low < high → high ≤ 1000000 → -3000000 ≤ y → y ≤ 3000000 → ∀ W, Calls Try.prog 18 #[.agg #[.string (str code), .slice A1 n1 c1, .int .i64 tick, .int .i64 low, .int .i64 high, .int .i64 wide, .int .i64 rule, .int .i64 top, .int .i64 least, .int .i64 part, .slice A2 n2 c2], .int .i64 y] W fun e w' => e = .returned (.int .i64 (shiftB low high y)) ∧ Below W.heap.size W w') := HS
  replace r1 := Lib.hid r1
  replace r2 := Lib.hid r2
  replace r3 := Lib.hid r3
  replace r4 := Lib.hid r4
  show Calls Try.prog 9 #[.agg #[.string (str code), .slice A1 n1 c1, .int .i64 tick, .int .i64 low, .int .i64 high, .int .i64 wide, .int .i64 rule, .int .i64 top, .int .i64 least, .int .i64 part, .slice A2 n2 c2], .int .i64 inst, .int .i64 x] w _
  obtain ⟨W0, eW0⟩ : ∃ W0, w.alloc (.cells #[.string (str code), .slice A1 n1 c1, .int .i64 tick, .int .i64 low, .int .i64 high, .int .i64 wide, .int .i64 rule, .int .i64 top, .int .i64 least, .int .i64 part, .slice A2 n2 c2] 25) = W0 := ⟨_, rfl⟩
  obtain ⟨pb, epb⟩ : ∃ pb, w.heap.size = pb := ⟨_, rfl⟩
  have hblk0 : Hid (W0.heap[pb]? = some (.cells #[.string (str code), .slice A1 n1 c1, .int .i64 tick, .int .i64 low, .int .i64 high, .int .i64 wide, .int .i64 rule, .int .i64 top, .int .i64 least, .int .i64 part, .slice A2 n2 c2] 25 (0, 0))) := Lib.hid (by rw [← eW0, ← epb]; exact heap_alloc_new w _)
  have hB0 : Hid (Below w.heap.size w W0) := Lib.hid (by rw [← eW0]; exact (Below.refl _ w).alloc (Nat.le_refl _) _)
  replace eW0 := Lib.hid eW0
  replace epb := Lib.hid epb
  go_enter Try.func9, Try.ntmps9
  have hbW0 := hblk0
  have BW0 := hB0
  obtain ⟨k0, k1, k2, k3, k4, k5, k6, k7, k8, k9, k10⟩ := row11 hbW0.out
  clear hblk0 hB0
  go_upto_region 1 with (fail)
  rw [eW0.out, epb.out]
  clear eW0 epb
  go_wp2_with fail
  refine (HC.out W0 BW0.out).mono ?_
  rintro e w1 ⟨rfl, bb⟩
  have hbw1 := Lib.hid (pd_blk' hbW0.out bb)
  have Bw1 := Lib.hid (below_top' BW0.out bb)
  clear k0 k1 k2 k3 k4 k5 k6 k7 k8 k9 k10 bb hbW0 BW0
  obtain ⟨k0, k1, k2, k3, k4, k5, k6, k7, k8, k9, k10⟩ := row11 hbw1.out
  clear HC
  by_cases q0 : c0 = 0
  case neg =>
    have f0 : ((c0 : Int) != 0) = true := by simp; omega
    obtain ⟨rfl, rfl, rfl⟩ : u1 = 0 ∧ u2 = 0 ∧ u3 = 1 := by have := r1.out q0; simp only [Prod.mk.injEq] at this; exact this
    go_wp2_with fail
    (try simp only [Exit.inBlock, Exit.then]); refine bodyPost_ret (results_tmp3 rfl _ _ _) rfl ?_
    exact ⟨rfl, Bw1.out⟩
  subst q0
  have f0 : (((0 : Nat) : Int) != 0) = false := by decide
  go_wp2_with fail
  refine (HL.out w1 Bw1.out).mono ?_
  rintro e w2 ⟨rfl, bb⟩
  have hbw2 := Lib.hid (pd_blk' hbw1.out bb)
  have Bw2 := Lib.hid (below_top' Bw1.out bb)
  clear k0 k1 k2 k3 k4 k5 k6 k7 k8 k9 k10 bb hbw1 Bw1
  obtain ⟨k0, k1, k2, k3, k4, k5, k6, k7, k8, k9, k10⟩ := row11 hbw2.out
  clear HL f0
  cases l3
  case false =>
    obtain ⟨rfl, rfl, rfl⟩ : u1 = 0 ∧ u2 = 0 ∧ u3 = 20 := by have := r2.out (by first | rfl | trivial) (by first | rfl | trivial); simp only [Prod.mk.injEq] at this; exact this
    go_wp2_with fail
    (try simp only [Exit.inBlock, Exit.then]); refine bodyPost_ret (results_tmp3 rfl _ _ _) rfl ?_
    exact ⟨rfl, Bw2.out⟩
  go_wp2_with fail
  refine (HP.out w2 Bw2.out).mono ?_
  rintro e w3 ⟨rfl, bb⟩
  have hbw3 := Lib.hid (pd_blk' hbw2.out bb)
  have Bw3 := Lib.hid (below_top' Bw2.out bb)
  clear k0 k1 k2 k3 k4 k5 k6 k7 k8 k9 k10 bb hbw2 Bw2
  obtain ⟨k0, k1, k2, k3, k4, k5, k6, k7, k8, k9, k10⟩ := row11 hbw3.out
  clear HP
  by_cases q0 : pr = 0
  case neg =>
    have f0 : ((pr : Int) != 0) = true := by simp; omega
    obtain ⟨rfl, rfl, rfl⟩ : u1 = 0 ∧ u2 = 0 ∧ u3 = pr := by have := r3.out (by first | rfl | trivial) (by first | rfl | trivial) q0; simp only [Prod.mk.injEq] at this; exact this
    go_wp2_with fail
    (try simp only [Exit.inBlock, Exit.then]); refine bodyPost_ret (results_tmp3 rfl _ _ _) rfl ?_
    exact ⟨rfl, Bw3.out⟩
  subst q0
  have f0 : (((0 : Nat) : Int) != 0) = false := by decide
  obtain ⟨j, rfl, hj, s1, s2, s3, s4, s5, s6, s7, s8⟩ := r4.out (by first | rfl | trivial) (by first | rfl | trivial) (by first | rfl | trivial)
  clear r1 r2 r3 r4
  obtain ⟨sb, so, rfl, hs, -⟩ := (HN.out w3 Bw3.out) j hj
  clear HN
  obtain ⟨y, hy⟩ : ∃ y, R j = y := ⟨_, rfl⟩
  rw [hy] at s1 s2 s8 hs
  clear hy
  go_wp2_with fail
  refine (HS.out (y + x) s3 s4 s5 (by omega) (by omega) w3).mono ?_
  rintro e w4 ⟨rfl, bb⟩
  have B4 := Lib.hid (below_top' Bw3.out bb)
  have hsh : -5000000 ≤ shiftB low high (y + x) ∧ shiftB low high (y + x) ≤ 5000000 := by have := shift_in (x := y + x) s4; omega
  obtain ⟨by_, hby⟩ : ∃ v, shiftB low high (y + x) = v := ⟨_, rfl⟩
  rw [hby] at hsh s8 ⊢
  obtain ⟨hs1, hs2⟩ := hsh
  obtain ⟨rfl, rfl, rfl⟩ : u1 = y + x + by_ ∧ u2 = y + by_ ∧ u3 = 0 := by simp only [Prod.mk.injEq] at s8; exact s8
  clear s8 hby HS bb
  go_wp2_with fail
  (try simp only [Exit.inBlock, Exit.then]); refine bodyPost_ret (results_tmp3 rfl _ _ _) rfl ?_
  exact ⟨rfl, B4.out⟩
end Go.Proofs.Ytpfgmebajefjaaa
