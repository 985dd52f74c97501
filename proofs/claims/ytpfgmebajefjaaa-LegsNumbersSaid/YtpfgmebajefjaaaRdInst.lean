/-
  Contract: instruments, of the program.
-/
import Derived.Test.YtpfgmebajefjaaaRdPairs
import Derived.Test.YtpfgmebajefjaaaRdCheck
namespace Go.Proofs.Ytpfgmebajefjaaa
open Go.RowKit
set_option linter.unusedVariables false
set_option linter.unusedSimpArgs false

theorem pair_info : (Try.prog.info? 45).map (fun i => (i.zero, i.size, i.bytes)) = some (some (.agg #[.int .i64 0, .int .i64 0]), 2, 16) := by kernel_rfl
set_option maxRecDepth 100000 in
set_option maxHeartbeats 1600000 in
theorem Instruments_any (p : PD) (w : World) (h : Hid (p.Ok w)) :
    Calls Try.prog 34 #[p.val] w fun e w' => (∃ A c, e = .returned (.slice A (cntL p) c) ∧ cntL p ≤ c ∧ c ≤ 21 ∧ Pairs w' A (cntL p) (fun k => (legsL p k).1) (fun k => (legsL p k).2.1)) ∧ Below w.heap.size w w' := by
  obtain ⟨i0, hi0, hz0, hz1, hz2⟩ := info_parts pair_info
  obtain ⟨e0, h0⟩ : ∃ e, chk p = e := ⟨_, rfl⟩
  obtain ⟨c0, hc0⟩ : ∃ e, cntL p = e := ⟨_, rfl⟩
  obtain ⟨I, hI⟩ : ∃ I, (fun k : Nat => (legsL p k).1) = I := ⟨_, rfl⟩
  obtain ⟨J, hJ⟩ : ∃ J, (fun k : Nat => (legsL p k).2.1) = J := ⟨_, rfl⟩
  rw [hI, hJ, hc0]
  have hN : e0 ≠ 0 → c0 = 0 := fun g => by rw [← hc0]; unfold cntL; rw [if_neg (by rw [h0]; exact g)]
  have hY : e0 = 0 → 2 ≤ p.n1 ∧ p.n1 ≤ 6 ∧ c0 = (mon p.n1 ++ sprP p.n1 p.n1).length ∧ ∀ k, k < (mon p.n1 ++ sprP p.n1 p.n1).length → ∃ q : Nat × Nat, (mon p.n1 ++ sprP p.n1 p.n1)[k]? = some q ∧ I k = q.1 ∧ J k = q.2 := fun g => by
    have hz := h0.trans g
    have hn := chk_zero hz
    have hl : c0 = (mon p.n1 ++ sprP p.n1 p.n1).length := by rw [all_len p.n1 (by omega), ← hc0]; unfold cntL; rw [if_pos hz]
    refine ⟨hn.1, hn.2, hl, fun k hk => ?_⟩
    rw [← hI, ← hJ]
    exact list_of hz (by rw [hc0, hl]; exact hk)
  have HC : Hid (∀ W, Below w.heap.size w W → Calls Try.prog 17 #[p.val] W fun e w' => e = .returned (.int .i64 e0) ∧ Below W.heap.size W w') := Lib.hid (fun W b => by rw [← h0]; exact PCheck_any p W (Lib.hid (h.out.below b)))
  clear h0 hc0 hI hJ
  have l1 := h.out.l1
  have m1 := h.out.m1
  have l2 := h.out.l2
  have m2 := h.out.m2
  have hco := h.out.code
  obtain ⟨ti1, ti2⟩ := h.out.tick
  obtain ⟨lo1, lo2⟩ := h.out.low
  obtain ⟨hg1, hg2⟩ := h.out.high
  obtain ⟨wi1, wi2⟩ := h.out.wide
  obtain ⟨ru1, ru2⟩ := h.out.rule
  obtain ⟨to1, to2⟩ := h.out.top
  obtain ⟨le1, le2⟩ := h.out.least
  obtain ⟨pa1, pa2⟩ := h.out.part
  have HO1 : Hid (∀ W, Below w.heap.size w W → Nums W p.A1 p.n1 p.Q) := Lib.hid (fun W b => h.out.months.below b)
  have HO2 : Hid (∀ W, Below w.heap.size w W → Nums W p.A2 p.n2 p.R) := Lib.hid (fun W b => h.out.settle.below b)
  clear h
  obtain ⟨code, A1, n1, c1, tick, low, high, wide, rule, top, least, part, A2, n2, c2, Q, R⟩ := p
  simp only at l1 m1 l2 m2 hco ti1 ti2 lo1 lo2 hg1 hg2 wi1 wi2 ru1 ru2 to1 to2 le1 le2 pa1 pa2 HO1 HO2 hN hY
  replace hN := Lib.hid hN
  replace hY := Lib.hid hY
  replace HC : Hid (∀ W, Below w.heap.size w W → Calls Try.prog 17 #[.agg #[.string (str code), .slice A1 n1 c1, .int .i64 tick, .int .i64 low, .int .i64 high, .int .i64 wide, .int .i64 rule, .int .i64 top, .int .i64 least, .int .i64 part, .slice A2 n2 c2]] W fun e w' => e = .returned (.int .i64 e0) ∧ Below W.heap.size W w') := HC
  show Calls Try.prog 34 #[.agg #[.string (str code), .slice A1 n1 c1, .int .i64 tick, .int .i64 low, .int .i64 high, .int .i64 wide, .int .i64 rule, .int .i64 top, .int .i64 least, .int .i64 part, .slice A2 n2 c2]] w _
  obtain ⟨W0, eW0⟩ : ∃ W0, w.alloc (.cells #[.string (str code), .slice A1 n1 c1, .int .i64 tick, .int .i64 low, .int .i64 high, .int .i64 wide, .int .i64 rule, .int .i64 top, .int .i64 least, .int .i64 part, .slice A2 n2 c2] 25) = W0 := ⟨_, rfl⟩
  obtain ⟨pb, epb⟩ : ∃ pb, w.heap.size = pb := ⟨_, rfl⟩
  have hblk0 : W0.heap[pb]? = some (.cells #[.string (str code), .slice A1 n1 c1, .int .i64 tick, .int .i64 low, .int .i64 high, .int .i64 wide, .int .i64 rule, .int .i64 top, .int .i64 least, .int .i64 part, .slice A2 n2 c2] 25 (0, 0)) := by
    rw [← eW0, ← epb]; exact heap_alloc_new w _
  have hB0 : Below w.heap.size w W0 := by rw [← eW0]; exact (Below.refl _ w).alloc (Nat.le_refl _) _
  have hpb0 : pb < W0.heap.size := (Array.getElem?_eq_some_iff.1 hblk0).1
  have kk : ∀ W : World, W.heap[pb]? = some (.cells #[.string (str code), .slice A1 n1 c1, .int .i64 tick, .int .i64 low, .int .i64 high, .int .i64 wide, .int .i64 rule, .int .i64 top, .int .i64 least, .int .i64 part, .slice A2 n2 c2] 25 (0, 0)) → W.cell? ⟨pb, 0, none⟩ = some (.string (str code)) ∧ W.cell? ⟨pb, 1, none⟩ = some (.slice A1 n1 c1) ∧ W.cell? ⟨pb, 2, none⟩ = some (.int .i64 tick) ∧ W.cell? ⟨pb, 3, none⟩ = some (.int .i64 low) ∧ W.cell? ⟨pb, 4, none⟩ = some (.int .i64 high) ∧ W.cell? ⟨pb, 5, none⟩ = some (.int .i64 wide) ∧ W.cell? ⟨pb, 6, none⟩ = some (.int .i64 rule) ∧ W.cell? ⟨pb, 7, none⟩ = some (.int .i64 top) ∧ W.cell? ⟨pb, 8, none⟩ = some (.int .i64 least) ∧ W.cell? ⟨pb, 9, none⟩ = some (.int .i64 part) ∧ W.cell? ⟨pb, 10, none⟩ = some (.slice A2 n2 c2) := by
    intro W hb
    refine ⟨?_, ?_, ?_, ?_, ?_, ?_, ?_, ?_, ?_, ?_, ?_⟩ <;> (rw [Lib.cell_of_heap hb]; rfl)
  replace kk := Lib.hid kk
  replace eW0 := Lib.hid eW0
  replace epb := Lib.hid epb
  have a0 : (w.alloc (.cells #[.string (str code), .slice A1 n1 c1, .int .i64 tick, .int .i64 low, .int .i64 high, .int .i64 wide, .int .i64 rule, .int .i64 top, .int .i64 least, .int .i64 part, .slice A2 n2 c2] 25)).cell? ⟨w.heap.size, 0, none⟩ = some (.string (str code)) := by
    rw [eW0.out, epb.out]; exact (kk.out W0 hblk0).1
  have a1 : (w.alloc (.cells #[.string (str code), .slice A1 n1 c1, .int .i64 tick, .int .i64 low, .int .i64 high, .int .i64 wide, .int .i64 rule, .int .i64 top, .int .i64 least, .int .i64 part, .slice A2 n2 c2] 25)).cell? ⟨w.heap.size, 1, none⟩ = some (.slice A1 n1 c1) := by
    rw [eW0.out, epb.out]; exact (kk.out W0 hblk0).2.1
  have a2 : (w.alloc (.cells #[.string (str code), .slice A1 n1 c1, .int .i64 tick, .int .i64 low, .int .i64 high, .int .i64 wide, .int .i64 rule, .int .i64 top, .int .i64 least, .int .i64 part, .slice A2 n2 c2] 25)).cell? ⟨w.heap.size, 2, none⟩ = some (.int .i64 tick) := by
    rw [eW0.out, epb.out]; exact (kk.out W0 hblk0).2.2.1
  have a3 : (w.alloc (.cells #[.string (str code), .slice A1 n1 c1, .int .i64 tick, .int .i64 low, .int .i64 high, .int .i64 wide, .int .i64 rule, .int .i64 top, .int .i64 least, .int .i64 part, .slice A2 n2 c2] 25)).cell? ⟨w.heap.size, 3, none⟩ = some (.int .i64 low) := by
    rw [eW0.out, epb.out]; exact (kk.out W0 hblk0).2.2.2.1
  have a4 : (w.alloc (.cells #[.string (str code), .slice A1 n1 c1, .int .i64 tick, .int .i64 low, .int .i64 high, .int .i64 wide, .int .i64 rule, .int .i64 top, .int .i64 least, .int .i64 part, .slice A2 n2 c2] 25)).cell? ⟨w.heap.size, 4, none⟩ = some (.int .i64 high) := by
    rw [eW0.out, epb.out]; exact (kk.out W0 hblk0).2.2.2.2.1
  have a5 : (w.alloc (.cells #[.string (str code), .slice A1 n1 c1, .int .i64 tick, .int .i64 low, .int .i64 high, .int .i64 wide, .int .i64 rule, .int .i64 top, .int .i64 least, .int .i64 part, .slice A2 n2 c2] 25)).cell? ⟨w.heap.size, 5, none⟩ = some (.int .i64 wide) := by
    rw [eW0.out, epb.out]; exact (kk.out W0 hblk0).2.2.2.2.2.1
  have a6 : (w.alloc (.cells #[.string (str code), .slice A1 n1 c1, .int .i64 tick, .int .i64 low, .int .i64 high, .int .i64 wide, .int .i64 rule, .int .i64 top, .int .i64 least, .int .i64 part, .slice A2 n2 c2] 25)).cell? ⟨w.heap.size, 6, none⟩ = some (.int .i64 rule) := by
    rw [eW0.out, epb.out]; exact (kk.out W0 hblk0).2.2.2.2.2.2.1
  have a7 : (w.alloc (.cells #[.string (str code), .slice A1 n1 c1, .int .i64 tick, .int .i64 low, .int .i64 high, .int .i64 wide, .int .i64 rule, .int .i64 top, .int .i64 least, .int .i64 part, .slice A2 n2 c2] 25)).cell? ⟨w.heap.size, 7, none⟩ = some (.int .i64 top) := by
    rw [eW0.out, epb.out]; exact (kk.out W0 hblk0).2.2.2.2.2.2.2.1
  have a8 : (w.alloc (.cells #[.string (str code), .slice A1 n1 c1, .int .i64 tick, .int .i64 low, .int .i64 high, .int .i64 wide, .int .i64 rule, .int .i64 top, .int .i64 least, .int .i64 part, .slice A2 n2 c2] 25)).cell? ⟨w.heap.size, 8, none⟩ = some (.int .i64 least) := by
    rw [eW0.out, epb.out]; exact (kk.out W0 hblk0).2.2.2.2.2.2.2.2.1
  have a9 : (w.alloc (.cells #[.string (str code), .slice A1 n1 c1, .int .i64 tick, .int .i64 low, .int .i64 high, .int .i64 wide, .int .i64 rule, .int .i64 top, .int .i64 least, .int .i64 part, .slice A2 n2 c2] 25)).cell? ⟨w.heap.size, 9, none⟩ = some (.int .i64 part) := by
    rw [eW0.out, epb.out]; exact (kk.out W0 hblk0).2.2.2.2.2.2.2.2.2.1
  have a10 : (w.alloc (.cells #[.string (str code), .slice A1 n1 c1, .int .i64 tick, .int .i64 low, .int .i64 high, .int .i64 wide, .int .i64 rule, .int .i64 top, .int .i64 least, .int .i64 part, .slice A2 n2 c2] 25)).cell? ⟨w.heap.size, 10, none⟩ = some (.slice A2 n2 c2) := by
    rw [eW0.out, epb.out]; exact (kk.out W0 hblk0).2.2.2.2.2.2.2.2.2.2
  go_enter Try.func34, Try.ntmps34
  go_wp2_with fail
  rw [eW0.out]
  rw [epb.out]
  clear a0 a1 a2 a3 a4 a5 a6 a7 a8 a9 a10 eW0
  obtain ⟨k0, k1, k2, k3, k4, k5, k6, k7, k8, k9, k10⟩ := kk.out W0 hblk0
  have HX := HC.out W0 hB0
  refine HX.mono ?_
  clear HX HC
  rintro e w1 ⟨rfl, b1⟩
  have hblk1 : w1.heap[pb]? = _ := (b1.block pb hpb0).trans hblk0
  have hB1 := hB0.trans (b1.mono hB0.size)
  have hpb1 : pb < w1.heap.size := (Array.getElem?_eq_some_iff.1 hblk1).1
  clear k0 k1 k2 k3 k4 k5 k6 k7 k8 k9 k10
  obtain ⟨k0, k1, k2, k3, k4, k5, k6, k7, k8, k9, k10⟩ := kk.out w1 hblk1
  clear hblk0 hpb0 hB0 b1
  by_cases q0 : e0 = 0
  · subst q0
    obtain ⟨n2', n6, hlen, hIJ⟩ := hY.out rfl
    replace hlen := Lib.hid hlen
    replace hIJ := Lib.hid hIJ
    clear hY hN
    have f0 : (((0 : Nat) : Int) != 0) = false := by decide
    obtain ⟨g, eg⟩ : ∃ g, w1.heap.size = g := ⟨_, rfl⟩
    have hpg : pb < g := by omega
    have hgb : w.heap.size ≤ g := by have := hB1.size; omega
    have HB1 := Lib.hid hB1
    go_wp2_with (at_make; refine wpList_make_own _ (by rfl) (.const (.int .i64 0)) (.const (.int .i64 21)) 57 (by rfl) w.heap.size 45 i0 (.agg #[.int .i64 0, .int .i64 0]) 2 Try.underlying57 hi0 hz0 hz1 .i64 .i64 21 21 (by rfl) (by rfl) rfl (by omega) (by unfold maxLen; omega) hB1.size ?_)
    intro w2 hown hg2
    (try rw [eg])
    have hb2 := Lib.hid (show w2.heap[pb]? = _ from (hg2.block pb hpb1 (by intro e; cases e)).trans hblk1)
    have hB2 := Lib.hid (hB1.grown hg2 hB1.size (fun k hk => by cases hk))
    (try rw [eg] at hown)
    replace hown := Lib.hid hown
    clear k0 k1 k2 k3 k4 k5 k6 k7 k8 k9 k10 hblk1 hpb1 hB1 hg2 HB1
    obtain ⟨k0, k1, k2, k3, k4, k5, k6, k7, k8, k9, k10⟩ := kk.out w2 hb2.out
    go_wp2_with fail
    go_loopw [14, 3] (fun iv sv wr => ∃ (m : Nat) (ps : List (Nat × Nat)), iv = .int .i64 m ∧ sv = .slice (some ⟨g, 0, none⟩) m 21 ∧ m ≤ n1 ∧ Hid (ps = mon m) ∧ Hid (wr.ownsRow w.heap.size 45 2 (.slice (some ⟨g, 0, none⟩) m 21) m (flat ps)) ∧ Hid (Below w.heap.size w wr) ∧ Hid (wr.heap[pb]? = some (.cells #[.string (str code), .slice A1 n1 c1, .int .i64 tick, .int .i64 low, .int .i64 high, .int .i64 wide, .int .i64 rule, .int .i64 top, .int .i64 least, .int .i64 part, .slice A2 n2 c2] 25 (0, 0)))) (fun i _ _ => n1 - (intOf i).toNat)
    case atStart => exact ⟨0, mon 0, rfl, rfl, by omega, Lib.hid rfl, hown, hB2, hb2⟩
    case round =>
      clear hown hB2 hb2 k0 k1 k2 k3 k4 k5 k6 k7 k8 k9 k10 eg
      obtain ⟨m, ps, rfl, rfl, hm, hps, hown, HB, hb⟩ := hrel
      have hpb := (Array.getElem?_eq_some_iff.1 hb.out).1
      obtain ⟨k0, k1, k2, k3, k4, k5, k6, k7, k8, k9, k10⟩ := kk.out wr hb.out
      by_cases hlt : m < n1
      · have e1 : decide ((m : Int) < (n1 : Int)) = true := decide_eq_true (by omega)
        have e2 : (m : Int) < (n1 : Int) := by omega
        have hal := Lib.hid ((hown.out).alloc (.cells #[.int .i64 (m : Int), .int .i64 (m : Int)] 45))
        go_wp2_with (at_builtin; refine wpList_append_fits _ rfl (.tmp 17) (.tmp 21) 57 rfl w.heap.size 45 i0 2 Try.underlying57 hi0 hz1 g m 21 (flat ps) rfl hal.out ⟨wr.heap.size, 0, none⟩ 1 1 [.int .i64 (m : Int), .int .i64 (m : Int)] rfl rfl (two_new _ _ _ _) (ints_oneCell .i64 [(m : Int), (m : Int)]) (by omega) ?_)
        intro w4 hown4 hg4
        have hown5 := Lib.hid (show w4.ownsRow w.heap.size 45 2 (.slice (some ⟨g, 0, none⟩) (m + 1) 21) (m + 1) (flat (ps ++ [(m, m)])) from by rw [flat_append]; exact hown4)
        have hBal := (HB.out).alloc (HB.out).size (.cells #[.int .i64 (m : Int), .int .i64 (m : Int)] 45)
        have hB5 := Lib.hid (hBal.grown hg4 hBal.size (fun k hk => by injection hk with hk; rw [← hk]; exact hgb))
        have hb5 := Lib.hid (show w4.heap[pb]? = _ from ((hg4.block pb (by rw [World.size_alloc]; omega) (by intro e; injection e with e; omega)).trans (heap_alloc_old _ _ (by omega))).trans hb.out)
        clear hown4 hg4 hBal hal
        go_wp2_with fail
        go_roundw
        case rel => exact ⟨m + 1, ps ++ [(m, m)], by go_num, by go_num, by omega, Lib.hid (by rw [mon_succ, hps.out]), hown5, hB5, hb5⟩
        case measure => simp [intOf]; omega
      · obtain rfl : n1 = m := by omega
        have e1 : decide ((n1 : Int) < (n1 : Int)) = false := decide_eq_false (by omega)
        go_wp2_with fail
        go_loopw [27, 3] (fun iv sv wr => ∃ (a m : Nat) (ps : List (Nat × Nat)), iv = .int .i64 a ∧ sv = .slice (some ⟨g, 0, none⟩) m 21 ∧ a ≤ n1 ∧ Hid (ps.length = m) ∧ Hid (ps = mon n1 ++ sprP n1 a) ∧ Hid (wr.ownsRow w.heap.size 45 2 (.slice (some ⟨g, 0, none⟩) m 21) m (flat ps)) ∧ Hid (Below w.heap.size w wr) ∧ Hid (wr.heap[pb]? = some (.cells #[.string (str code), .slice A1 n1 c1, .int .i64 tick, .int .i64 low, .int .i64 high, .int .i64 wide, .int .i64 rule, .int .i64 top, .int .i64 least, .int .i64 part, .slice A2 n2 c2] 25 (0, 0)))) (fun i _ _ => n1 - (intOf i).toNat)
        case atStart => exact ⟨0, n1, ps, rfl, rfl, by omega, Lib.hid (by rw [hps.out, mon_len]), Lib.hid (by rw [hps.out, spr_zero, List.append_nil]), hown, HB, hb⟩
        case round =>
          clear hown HB hb hpb k0 k1 k2 k3 k4 k5 k6 k7 k8 k9 k10 hps hm hlt
          obtain ⟨a, m, ps, rfl, rfl, ha, hlm, hps, hown, HB, hb⟩ := hrel
          have hpb := (Array.getElem?_eq_some_iff.1 hb.out).1
          obtain ⟨k0, k1, k2, k3, k4, k5, k6, k7, k8, k9, k10⟩ := kk.out _ hb.out
          by_cases hlt : a < n1
          · have e1 : decide ((a : Int) < (n1 : Int)) = true := decide_eq_true (by omega)
            have e2 : (a : Int) < (n1 : Int) := by omega
            go_wp2_with fail
            go_loopw [6, 3] (fun jv sv wr => ∃ (j m : Nat) (ps : List (Nat × Nat)), jv = .int .i64 j ∧ sv = .slice (some ⟨g, 0, none⟩) m 21 ∧ a < j ∧ j ≤ n1 ∧ Hid (ps.length = m) ∧ Hid (ps = mon n1 ++ sprP n1 a ++ rowP a j) ∧ Hid (wr.ownsRow w.heap.size 45 2 (.slice (some ⟨g, 0, none⟩) m 21) m (flat ps)) ∧ Hid (Below w.heap.size w wr) ∧ Hid (wr.heap[pb]? = some (.cells #[.string (str code), .slice A1 n1 c1, .int .i64 tick, .int .i64 low, .int .i64 high, .int .i64 wide, .int .i64 rule, .int .i64 top, .int .i64 least, .int .i64 part, .slice A2 n2 c2] 25 (0, 0)))) (fun j _ _ => n1 - (intOf j).toNat)
            case atStart => exact ⟨a + 1, m, ps, by go_num, rfl, by omega, by omega, hlm, Lib.hid (by rw [hps.out, row_start, List.append_nil]), hown, HB, hb⟩
            case round =>
              clear hown HB hb hpb k0 k1 k2 k3 k4 k5 k6 k7 k8 k9 k10 hps hlm e1
              obtain ⟨j, m, ps, rfl, rfl, haj, hj, hlm, hps, hown, HB, hb⟩ := hrel
              have hpb := (Array.getElem?_eq_some_iff.1 hb.out).1
              obtain ⟨k0, k1, k2, k3, k4, k5, k6, k7, k8, k9, k10⟩ := kk.out _ hb.out
              by_cases hjn : j < n1
              · have e1 : decide ((j : Int) < (n1 : Int)) = true := decide_eq_true (by omega)
                have hroom : m < 21 := by rw [← hlm.out, hps.out]; exact room_of n1 (by omega) a hlt j hjn haj
                have hal := Lib.hid ((hown.out).alloc (.cells #[.int .i64 (a : Int), .int .i64 (j : Int)] 45))
                go_wp2_with (at_builtin; refine wpList_append_fits _ rfl (.tmp 39) (.tmp 43) 57 rfl w.heap.size 45 i0 2 Try.underlying57 hi0 hz1 g m 21 (flat ps) rfl hal.out ⟨wr.heap.size, 0, none⟩ 1 1 [.int .i64 (a : Int), .int .i64 (j : Int)] rfl rfl (two_new _ _ _ _) (ints_oneCell .i64 [(a : Int), (j : Int)]) (by omega) ?_)
                intro w4 hown4 hg4
                have hown5 := Lib.hid (show w4.ownsRow w.heap.size 45 2 (.slice (some ⟨g, 0, none⟩) (m + 1) 21) (m + 1) (flat (ps ++ [(a, j)])) from by rw [flat_append]; exact hown4)
                have hBal := (HB.out).alloc (HB.out).size (.cells #[.int .i64 (a : Int), .int .i64 (j : Int)] 45)
                have hB5 := Lib.hid (hBal.grown hg4 hBal.size (fun k hk => by injection hk with hk; rw [← hk]; exact hgb))
                have hb5 := Lib.hid (show w4.heap[pb]? = _ from ((hg4.block pb (by rw [World.size_alloc]; omega) (by intro e; injection e with e; omega)).trans (heap_alloc_old _ _ (by omega))).trans hb.out)
                clear hown4 hg4 hBal hal
                go_wp2_with fail
                go_roundw
                case rel => exact ⟨j + 1, m + 1, ps ++ [(a, j)], by go_num, by go_num, by omega, by omega, Lib.hid (by rw [List.length_append, hlm.out]; rfl), Lib.hid (by rw [row_succ haj, hps.out, List.append_assoc]), hown5, hB5, hb5⟩
                case measure => simp [intOf]; omega
              · obtain rfl : n1 = j := by omega
                have e1 : decide ((n1 : Int) < (n1 : Int)) = false := decide_eq_false (by omega)
                go_wp2_with fail
                go_roundw
                case rel => exact ⟨a + 1, m, ps, by go_num, by go_num, by omega, hlm, Lib.hid (by rw [spr_succ, hps.out, List.append_assoc]), hown, HB, hb⟩
                case measure => simp [intOf]; omega
          · obtain rfl : n1 = a := by omega
            have e1 : decide ((n1 : Int) < (n1 : Int)) = false := decide_eq_false (by omega)
            go_wp2_with fail
            go_ret
            have hl := hlm.out
            have hp := hps.out
            have ho := hown.out
            refine ⟨⟨some ⟨g, 0, none⟩, 21, ?_, ?_, Nat.le_refl _, ?_⟩, HB.out⟩
            · rw [hlen.out, ← hp, hl]; rfl
            · have := hlen.out
              have hx := all_len n1 (by omega)
              have cs : n1 = 2 ∨ n1 = 3 ∨ n1 = 4 ∨ n1 = 5 ∨ n1 = 6 := by omega
              rw [this, hx]
              rcases cs with h | h | h | h | h <;> rw [h] <;> decide
            · have hq := hIJ.out
              rw [hlen.out]
              rw [← hp] at hq ⊢
              subst hl
              exact own_pairs ho hq
  · have f0 : ((e0 : Int) != 0) = true := by simp; omega
    have hc := Lib.hid (hN.out q0)
    clear q0 hN hY hblk1 hpb1
    go_wp2_with fail
    go_ret
    exact ⟨⟨none, 0, by rw [hc.out]; rfl, by rw [hc.out]; exact Nat.le_refl _, by omega, fun k hk => absurd hk (by rw [hc.out]; omega)⟩, hB1⟩
end Go.Proofs.Ytpfgmebajefjaaa
