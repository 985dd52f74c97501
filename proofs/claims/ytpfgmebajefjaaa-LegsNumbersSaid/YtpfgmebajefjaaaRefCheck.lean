/-
  Contract: Check, of the document's own answer.
-/
import Derived.Test.YtpfgmebajefjaaaProd
namespace Go.Proofs.Ytpfgmebajefjaaa
open Go.RowKit
set_option linter.unusedVariables false
set_option linter.unusedSimpArgs false

set_option maxRecDepth 100000 in
set_option maxHeartbeats 1600000 in
theorem RefCheck_any (p : PD) (w : World) (h : Hid (p.Ok w)) :
    Calls Try.prog 25 #[p.val] w fun e w' => e = .returned (.int .i64 (chk p)) ∧ Below w.heap.size w w' := by
  obtain ⟨e1, e2, e3, e4, e5, e6, e7, e8, e9, T0, T1, T2, T3, T4, T5, T6, T7, T8, T9⟩ := chk_chain p
  obtain ⟨e0, h0⟩ : ∃ e, chk p = e := ⟨_, rfl⟩
  rw [h0] at T0 ⊢
  clear h0
  obtain ⟨code, A1, n1, c1, tick, low, high, wide, rule, top, least, part, A2, n2, c2, Q, R⟩ := p
  simp only at T0 T1 T2 T3 T4 T5 T6 T7 T8 T9
  replace T0 := Lib.hid T0
  replace T1 := Lib.hid T1
  replace T2 := Lib.hid T2
  replace T3 := Lib.hid T3
  replace T4 := Lib.hid T4
  replace T5 := Lib.hid T5
  replace T6 := Lib.hid T6
  replace T7 := Lib.hid T7
  replace T8 := Lib.hid T8
  replace T9 := Lib.hid T9
  obtain ⟨-, -, hco, l1, m1, l2, m2, ⟨ti1, ti2⟩, ⟨lo1, lo2⟩, ⟨hi1, hi2⟩, ⟨wi1, wi2⟩, ⟨ru1, ru2⟩, ⟨to1, to2⟩, ⟨le1, le2⟩, ⟨pa1, pa2⟩⟩ := h.out
  simp only at hco l1 m1 l2 m2 ti1 ti2 lo1 lo2 hi1 hi2 wi1 wi2 ru1 ru2 to1 to2 le1 le2 pa1 pa2
  show Calls Try.prog 25 #[.agg #[.string (str code), .slice A1 n1 c1, .int .i64 tick, .int .i64 low, .int .i64 high, .int .i64 wide, .int .i64 rule, .int .i64 top, .int .i64 least, .int .i64 part, .slice A2 n2 c2]] w _
  have hP := RefProduct_any code (w.alloc (.cells #[.string (str code), .slice A1 n1 c1, .int .i64 tick, .int .i64 low, .int .i64 high, .int .i64 wide, .int .i64 rule, .int .i64 top, .int .i64 least, .int .i64 part, .slice A2 n2 c2] 25)) hco
  replace hP := Lib.hid hP
  go_enter Try.func25, Try.ntmps25
  go_wp2_with fail
  obtain ⟨W0, eW0⟩ : ∃ W0, w.alloc (.cells #[.string (str code), .slice A1 n1 c1, .int .i64 tick, .int .i64 low, .int .i64 high, .int .i64 wide, .int .i64 rule, .int .i64 top, .int .i64 least, .int .i64 part, .slice A2 n2 c2] 25) = W0 := ⟨_, rfl⟩
  obtain ⟨pb, epb⟩ : ∃ pb, w.heap.size = pb := ⟨_, rfl⟩
  have hblk : W0.heap[pb]? = some (.cells #[.string (str code), .slice A1 n1 c1, .int .i64 tick, .int .i64 low, .int .i64 high, .int .i64 wide, .int .i64 rule, .int .i64 top, .int .i64 least, .int .i64 part, .slice A2 n2 c2] 25 (0, 0)) := by
    rw [← eW0, ← epb]; exact heap_alloc_new w _
  have hB0 : Below w.heap.size w W0 := by rw [← eW0]; exact (Below.refl _ w).alloc (Nat.le_refl _) _
  have hpb : pb < W0.heap.size := (Array.getElem?_eq_some_iff.1 hblk).1
  replace epb := Lib.hid epb
  rw [eW0] at hP ⊢
  rw [epb.out]
  clear eW0
  refine hP.out.mono ?_
  rintro e w1 ⟨rfl, b1⟩
  have hblk : w1.heap[pb]? = _ := (b1.block pb hpb).trans hblk
  have hB1 := Lib.hid (hB0.trans (b1.mono hB0.size))
  have k1 : w1.cell? ⟨pb, 1, none⟩ = some (.slice A1 n1 c1) := by rw [Lib.cell_of_heap hblk]; rfl
  have k2 : w1.cell? ⟨pb, 2, none⟩ = some (.int .i64 tick) := by rw [Lib.cell_of_heap hblk]; rfl
  have k3 : w1.cell? ⟨pb, 3, none⟩ = some (.int .i64 low) := by rw [Lib.cell_of_heap hblk]; rfl
  have k4 : w1.cell? ⟨pb, 4, none⟩ = some (.int .i64 high) := by rw [Lib.cell_of_heap hblk]; rfl
  have k5 : w1.cell? ⟨pb, 5, none⟩ = some (.int .i64 wide) := by rw [Lib.cell_of_heap hblk]; rfl
  have k6 : w1.cell? ⟨pb, 6, none⟩ = some (.int .i64 rule) := by rw [Lib.cell_of_heap hblk]; rfl
  have k7 : w1.cell? ⟨pb, 7, none⟩ = some (.int .i64 top) := by rw [Lib.cell_of_heap hblk]; rfl
  have k8 : w1.cell? ⟨pb, 8, none⟩ = some (.int .i64 least) := by rw [Lib.cell_of_heap hblk]; rfl
  have k9 : w1.cell? ⟨pb, 9, none⟩ = some (.int .i64 part) := by rw [Lib.cell_of_heap hblk]; rfl
  have k10 : w1.cell? ⟨pb, 10, none⟩ = some (.slice A2 n2 c2) := by rw [Lib.cell_of_heap hblk]; rfl
  have OK1 := Lib.hid (h.out.below hB1.out)
  clear hblk b1 hB0 hpb hP
  by_cases q0 : prodB code = false
  · have hE := Lib.hid (T0.out.1 q0)
    go_wp2_with fail
    go_ret
    exact ⟨by rw [hE.out]; rfl, hB1.out⟩
  · have q0' : prodB code = true := by simpa using q0
    have hE := Lib.hid (T0.out.2 q0')
    clear q0 T0
    by_cases qa : n1 < 2 ∨ 6 < n1
    · have hE := Lib.hid (hE.out.trans (T1.out.1 qa))
      by_cases qb : n1 < 2
      · have f1 : decide ((n1 : Int) < 2) = true := decide_eq_true (by omega)
        clear qa
        go_wp2_with fail
        go_ret
        exact ⟨by rw [hE.out]; rfl, hB1.out⟩
      · have f1 : decide ((n1 : Int) < 2) = false := decide_eq_false (by omega)
        have f2 : decide ((6 : Int) < (n1 : Int)) = true := decide_eq_true (by omega)
        clear qa
        go_wp2_with fail
        go_ret
        exact ⟨by rw [hE.out]; rfl, hB1.out⟩
    · have hE := Lib.hid (hE.out.trans (T1.out.2 qa))
      have f1 : decide ((n1 : Int) < 2) = false := decide_eq_false (by omega)
      have f2 : decide ((6 : Int) < (n1 : Int)) = false := decide_eq_false (by omega)
      have hn1 : n1 ≤ 6 := by omega
      clear qa T1
      go_wp2_with fail
      go_loopw [3] (fun i wr => ∃ k q : Nat, i = .int .i64 k ∧ k ≤ n1 ∧ Hid (∀ j, j < k → okM Q j) ∧ wr = w1.drewN q) (fun i _ => n1 - (intOf i).toNat)
      case atStart => exact ⟨0, 0, rfl, by omega, Lib.hid (fun j h => absurd h (by omega)), rfl⟩
      case round =>
        obtain ⟨k, q, rfl, hk, hall, rfl⟩ := hrel
        by_cases hlt : k < n1
        · have d1 : decide ((k : Int) < (n1 : Int)) = true := decide_eq_true (by omega)
          have d2 : (k : Int) < (n1 : Int) := by omega
          obtain ⟨mb, mo, rfl, hc, -, -⟩ := OK1.out.months k hlt
          simp only at hc
          have bad : ¬ okM Q k → e0 = 1 := fun h => hE.out.trans (T2.out.1 (fun h2 => h (h2 k hlt)))
          by_cases x1 : Q k < 0
          · have hE := Lib.hid (bad (fun h => by have := h.1; omega))
            have a1 : decide (Q k < 0) = true := decide_eq_true x1
            clear bad x1
            go_wp2_with fail
            go_quiet (fail)
            go_wp2_with fail
            go_ret
            exact ⟨by rw [hE.out]; rfl, below_drewN (below_drewN hB1.out _) _⟩
          · have a1 : decide (Q k < 0) = false := decide_eq_false x1
            by_cases x2 : 1199 < Q k
            · have hE := Lib.hid (bad (fun h => by have := h.2.1; omega))
              have a2 : decide (1199 < Q k) = true := decide_eq_true x2
              clear bad x1 x2
              go_wp2_with fail
              go_quiet (fail)
              go_wp2_with fail
              go_ret
              exact ⟨by rw [hE.out]; rfl, below_drewN (below_drewN hB1.out _) _⟩
            · have a2 : decide (1199 < Q k) = false := decide_eq_false x2
              by_cases x3 : k = 0
              · subst x3
                rw [Nat.add_zero] at hc
                have a3 : decide ((0 : Int) < ((0 : Nat) : Int)) = false := by decide
                have hnx := Lib.hid (show ∀ j, j < 0 + 1 → okM Q j from fun j hj => by
                  obtain rfl : j = 0 := by omega
                  exact ⟨by omega, by omega, fun h => absurd h (by omega)⟩)
                clear bad x1 x2
                go_wp2_with fail
                go_quiet (fail)
                go_wp2_with fail
                go_roundw
                case rel => exact ⟨0 + 1, _, by go_num, by omega, hnx, rfl⟩
                case measure => simp [intOf]; omega
              · obtain ⟨j, rfl⟩ : ∃ j, k = j + 1 := ⟨k - 1, by omega⟩
                have a3 : decide ((0 : Int) < ((j + 1 : Nat) : Int)) = true := decide_eq_true (by omega)
                obtain ⟨mb2, mo2, em, hc2, -, -⟩ := OK1.out.months j (by simp only; omega)
                simp only at hc2 em
                injection em with em; injection em with em1 em2; subst em1; subst em2
                have d3 : (j : Int) < (n1 : Int) := by omega
                by_cases x4 : Q (j + 1) ≤ Q j
                · have hE := Lib.hid (bad (fun h => by have := h.2.2 (by omega); rw [Nat.add_sub_cancel] at this; omega))
                  have a4 : decide (Q (j + 1) ≤ Q j) = true := decide_eq_true x4
                  clear bad x1 x2 x4
                  go_wp2_with fail
                  go_quiet (fail)
                  go_wp2_with fail
                  go_ret
                  exact ⟨by rw [hE.out]; rfl, below_drewN (below_drewN hB1.out _) _⟩
                · have a4 : decide (Q (j + 1) ≤ Q j) = false := decide_eq_false x4
                  have hnx := Lib.hid (show ∀ i, i < j + 1 + 1 → okM Q i from fun i hi => by
                    by_cases e : i = j + 1
                    · subst e
                      exact ⟨by omega, by omega, fun _ => by rw [Nat.add_sub_cancel]; omega⟩
                    · exact hall.out i (by omega))
                  clear bad x1 x2 x4
                  go_wp2_with fail
                  go_quiet (fail)
                  go_wp2_with fail
                  go_roundw
                  case rel => exact ⟨j + 1 + 1, _, by go_num, by omega, hnx, rfl⟩
                  case measure => simp [intOf]; omega
        · obtain rfl : n1 = k := by omega
          have d1 : decide ((n1 : Int) < (n1 : Int)) = false := decide_eq_false (by omega)
          have hE := Lib.hid (hE.out.trans (T2.out.2 hall.out))
          clear hall T2
          go_upto_region 10 with (fail)
          have BEL := below_drewN hB1.out q
          by_cases qa : tick < 1 ∨ 1000 < tick ∨ low.tmod tick ≠ 0 ∨ high.tmod tick ≠ 0 ∨ wide.tmod tick ≠ 0
          · have hE := Lib.hid (hE.out.trans (T3.out.1 qa))
            by_cases y0 : tick < 1
            · have f0 : decide (tick < 1) = true := by simp; first | exact y0 | omega
              clear qa y0
              go_wp2_with fail
              go_ret
              exact ⟨by rw [hE.out]; rfl, BEL⟩
            · have f0 : decide (tick < 1) = false := by simp; first | exact y0 | omega
              have hz : ¬ tick = 0 := by omega
              by_cases y1 : 1000 < tick
              · have f1 : decide ((1000 : Int) < tick) = true := by simp; first | exact y1 | omega
                clear qa y1
                go_wp2_with fail
                go_ret
                exact ⟨by rw [hE.out]; rfl, BEL⟩
              · have f1 : decide ((1000 : Int) < tick) = false := by simp; first | exact y1 | omega
                by_cases y2 : low.tmod tick ≠ 0
                · have f2 : (low.tmod tick != 0) = true := by simp; first | exact y2 | omega
                  clear qa y2
                  go_wp2_with fail
                  go_ret
                  exact ⟨by rw [hE.out]; rfl, BEL⟩
                · have f2 : (low.tmod tick != 0) = false := by simp; first | exact y2 | omega
                  by_cases y3 : high.tmod tick ≠ 0
                  · have f3 : (high.tmod tick != 0) = true := by simp; first | exact y3 | omega
                    clear qa y3
                    go_wp2_with fail
                    go_ret
                    exact ⟨by rw [hE.out]; rfl, BEL⟩
                  · have f3 : (high.tmod tick != 0) = false := by simp; first | exact y3 | omega
                    have y4 : wide.tmod tick ≠ 0 := by rcases qa with h | h | h | h | h <;> first | exact h | omega | exact absurd h (by assumption)
                    have f4 : (wide.tmod tick != 0) = true := by simp; first | exact y4 | omega
                    clear qa y0 y1 y2 y3 y4
                    go_wp2_with fail
                    go_ret
                    exact ⟨by rw [hE.out]; rfl, BEL⟩
          · have hE := Lib.hid (hE.out.trans (T3.out.2 qa))
            have y0 : ¬ (tick < 1) := fun h => qa (.inl h)
            have f0 : decide (tick < 1) = false := by simp; first | exact y0 | omega
            have hz : ¬ tick = 0 := by omega
            have y1 : ¬ (1000 < tick) := fun h => qa (.inr (.inl h))
            have f1 : decide ((1000 : Int) < tick) = false := by simp; first | exact y1 | omega
            have y2 : ¬ (low.tmod tick ≠ 0) := fun h => qa (.inr (.inr (.inl h)))
            have f2 : (low.tmod tick != 0) = false := by simp; first | exact y2 | omega
            have y3 : ¬ (high.tmod tick ≠ 0) := fun h => qa (.inr (.inr (.inr (.inl h))))
            have f3 : (high.tmod tick != 0) = false := by simp; first | exact y3 | omega
            have y4 : ¬ (wide.tmod tick ≠ 0) := fun h => qa (.inr (.inr (.inr (.inr (h)))))
            have f4 : (wide.tmod tick != 0) = false := by simp; first | exact y4 | omega
            clear qa
            clear BEL
            go_wp2_with fail
            go_loopw [4] (fun i wr => ∃ k u : Nat, i = .int .i64 k ∧ k ≤ n2 ∧ Hid (∀ j, j < k → (R j).tmod tick = 0) ∧ wr = w1.drewN u) (fun i _ => n2 - (intOf i).toNat)
            case atStart => exact ⟨0, q, rfl, by omega, Lib.hid (fun j h => absurd h (by omega)), rfl⟩
            case round =>
              clear d1
              obtain ⟨k, u, rfl, hk, hall, rfl⟩ := hrel
              by_cases hlt : k < n2
              · have d1 : decide ((k : Int) < (n2 : Int)) = true := decide_eq_true (by omega)
                have d2 : (k : Int) < (n2 : Int) := by omega
                obtain ⟨mb, mo, rfl, hc, hr1, hr2⟩ := OK1.out.settle k hlt
                simp only at hc hr1 hr2
                have bad : ¬ ((R k).tmod tick = 0) → e0 = 22 := fun h => hE.out.trans (T4.out.1 (fun h2 => h (h2 k hlt)))
                by_cases x0 : (R k).tmod tick ≠ 0
                · have hE := Lib.hid (bad (by exact x0))
                  have a0 : ((R k).tmod tick != 0) = true := by simp; first | exact x0 | omega
                  clear bad x0
                  go_wp2_with fail
                  go_quiet (fail)
                  go_wp2_with fail
                  go_ret
                  exact ⟨by rw [hE.out]; rfl, below_drewN (below_drewN hB1.out _) _⟩
                · have a0 : ((R k).tmod tick != 0) = false := by simp; first | exact x0 | omega
                  have hnx := Lib.hid (show ∀ j, j < k + 1 → (R j).tmod tick = 0 from fun j hj => by
                    by_cases e : j = k
                    · subst e; omega
                    · exact hall.out j (by omega))
                  clear bad x0
                  go_wp2_with fail
                  go_quiet (fail)
                  go_wp2_with fail
                  go_roundw
                  case rel => exact ⟨k + 1, _, by go_num, by omega, hnx, rfl⟩
                  case measure => simp [intOf]; omega
              · obtain rfl : n2 = k := by omega
                have d1 : decide ((n2 : Int) < (n2 : Int)) = false := decide_eq_false (by omega)
                have hE := Lib.hid (hE.out.trans (T4.out.2 hall.out))
                have BEL := below_drewN hB1.out u
                clear hall T4
                by_cases qa : low < -1000000 ∨ high ≤ low ∨ 1000000 < high ∨ wide < 0 ∨ high - low < wide
                · have hE := Lib.hid (hE.out.trans (T5.out.1 qa))
                  by_cases y0 : low < -1000000
                  · have f0 : decide (low < -1000000) = true := by simp; first | exact y0 | omega
                    clear qa y0
                    go_wp2_with fail
                    go_ret
                    exact ⟨by rw [hE.out]; rfl, BEL⟩
                  · have f0 : decide (low < -1000000) = false := by simp; first | exact y0 | omega
                    by_cases y1 : high ≤ low
                    · have f1 : decide (high ≤ low) = true := by simp; first | exact y1 | omega
                      clear qa y1
                      go_wp2_with fail
                      go_ret
                      exact ⟨by rw [hE.out]; rfl, BEL⟩
                    · have f1 : decide (high ≤ low) = false := by simp; first | exact y1 | omega
                      by_cases y2 : 1000000 < high
                      · have f2 : decide ((1000000 : Int) < high) = true := by simp; first | exact y2 | omega
                        clear qa y2
                        go_wp2_with fail
                        go_ret
                        exact ⟨by rw [hE.out]; rfl, BEL⟩
                      · have f2 : decide ((1000000 : Int) < high) = false := by simp; first | exact y2 | omega
                        have r1 : -9223372036854775808 ≤ high - low := by omega
                        have r2 : high - low ≤ 9223372036854775807 := by omega
                        by_cases y3 : wide < 0
                        · have f3 : decide (wide < 0) = true := by simp; first | exact y3 | omega
                          clear qa y3
                          go_wp2_with fail
                          go_ret
                          exact ⟨by rw [hE.out]; rfl, BEL⟩
                        · have f3 : decide (wide < 0) = false := by simp; first | exact y3 | omega
                          have y4 : high - low < wide := by rcases qa with h | h | h | h | h <;> first | exact h | omega | exact absurd h (by assumption)
                          have f4 : decide (high - low < wide) = true := by simp; first | exact y4 | omega
                          clear qa y0 y1 y2 y3 y4
                          go_wp2_with fail
                          go_ret
                          exact ⟨by rw [hE.out]; rfl, BEL⟩
                · have hE := Lib.hid (hE.out.trans (T5.out.2 qa))
                  have y0 : ¬ (low < -1000000) := fun h => qa (.inl h)
                  have f0 : decide (low < -1000000) = false := by simp; first | exact y0 | omega
                  have y1 : ¬ (high ≤ low) := fun h => qa (.inr (.inl h))
                  have f1 : decide (high ≤ low) = false := by simp; first | exact y1 | omega
                  have y2 : ¬ (1000000 < high) := fun h => qa (.inr (.inr (.inl h)))
                  have f2 : decide ((1000000 : Int) < high) = false := by simp; first | exact y2 | omega
                  have r1 : -9223372036854775808 ≤ high - low := by omega
                  have r2 : high - low ≤ 9223372036854775807 := by omega
                  have y3 : ¬ (wide < 0) := fun h => qa (.inr (.inr (.inr (.inl h))))
                  have f3 : decide (wide < 0) = false := by simp; first | exact y3 | omega
                  have y4 : ¬ (high - low < wide) := fun h => qa (.inr (.inr (.inr (.inr (h)))))
                  have f4 : decide (high - low < wide) = false := by simp; first | exact y4 | omega
                  clear qa
                  by_cases qa : n2 ≠ n1
                  · have hE := Lib.hid (hE.out.trans (T6.out.1 qa))
                    have y0 : n2 ≠ n1 := by rcases qa with h <;> first | exact h | omega | exact absurd h (by assumption)
                    have f0 : ((n2 : Int) != (n1 : Int)) = true := by simp; first | exact y0 | omega
                    clear qa y0
                    go_wp2_with fail
                    go_ret
                    exact ⟨by rw [hE.out]; rfl, BEL⟩
                  · have hE := Lib.hid (hE.out.trans (T6.out.2 qa))
                    have y0 : ¬ (n2 ≠ n1) := fun h => qa (h)
                    have f0 : ((n2 : Int) != (n1 : Int)) = false := by simp; first | exact y0 | omega
                    clear qa
                    have g0 : n2 = n1 := by omega
                    clear BEL
                    go_wp2_with fail
                    go_loopw [5] (fun i wr => ∃ k u : Nat, i = .int .i64 k ∧ k ≤ n2 ∧ Hid (∀ j, j < k → low ≤ R j ∧ R j ≤ high) ∧ wr = w1.drewN u) (fun i _ => n2 - (intOf i).toNat)
                    case atStart => exact ⟨0, u, rfl, by omega, Lib.hid (fun j h => absurd h (by omega)), rfl⟩
                    case round =>
                      clear d1
                      obtain ⟨k, u, rfl, hk, hall, rfl⟩ := hrel
                      by_cases hlt : k < n2
                      · have d1 : decide ((k : Int) < (n2 : Int)) = true := decide_eq_true (by omega)
                        have d2 : (k : Int) < (n2 : Int) := by omega
                        obtain ⟨mb, mo, rfl, hc, hr1, hr2⟩ := OK1.out.settle k hlt
                        simp only at hc hr1 hr2
                        have bad : ¬ (low ≤ R k ∧ R k ≤ high) → e0 = 1 := fun h => hE.out.trans (T7.out.1 (fun h2 => h (h2 k hlt)))
                        by_cases x0 : R k < low
                        · have hE := Lib.hid (bad (by omega))
                          have a0 : decide (R k < low) = true := by simp; first | exact x0 | omega
                          clear bad x0
                          go_wp2_with fail
                          go_quiet (fail)
                          go_wp2_with fail
                          go_ret
                          exact ⟨by rw [hE.out]; rfl, below_drewN (below_drewN hB1.out _) _⟩
                        · have a0 : decide (R k < low) = false := by simp; first | exact x0 | omega
                          by_cases x1 : high < R k
                          · have hE := Lib.hid (bad (by omega))
                            have a1 : decide (high < R k) = true := by simp; first | exact x1 | omega
                            clear bad x1
                            go_wp2_with fail
                            go_quiet (fail)
                            go_wp2_with fail
                            go_ret
                            exact ⟨by rw [hE.out]; rfl, below_drewN (below_drewN hB1.out _) _⟩
                          · have a1 : decide (high < R k) = false := by simp; first | exact x1 | omega
                            have hnx := Lib.hid (show ∀ j, j < k + 1 → low ≤ R j ∧ R j ≤ high from fun j hj => by
                              by_cases e : j = k
                              · subst e; omega
                              · exact hall.out j (by omega))
                            clear bad x0 x1
                            go_wp2_with fail
                            go_quiet (fail)
                            go_wp2_with fail
                            go_roundw
                            case rel => exact ⟨k + 1, _, by go_num, by omega, hnx, rfl⟩
                            case measure => simp [intOf]; omega
                      · obtain rfl : n2 = k := by omega
                        have d1 : decide ((n2 : Int) < (n2 : Int)) = false := decide_eq_false (by omega)
                        have hE := Lib.hid (hE.out.trans (T7.out.2 hall.out))
                        have BEL := below_drewN hB1.out u
                        clear hall T7
                        by_cases qa : rule < 1 ∨ 3 < rule
                        · have hE := Lib.hid (hE.out.trans (T8.out.1 qa))
                          by_cases y0 : rule < 1
                          · have f0 : decide (rule < 1) = true := by simp; first | exact y0 | omega
                            clear qa y0
                            go_wp2_with fail
                            go_ret
                            exact ⟨by rw [hE.out]; rfl, BEL⟩
                          · have f0 : decide (rule < 1) = false := by simp; first | exact y0 | omega
                            have y1 : 3 < rule := by rcases qa with h | h <;> first | exact h | omega | exact absurd h (by assumption)
                            have f1 : decide ((3 : Int) < rule) = true := by simp; first | exact y1 | omega
                            clear qa y0 y1
                            go_wp2_with fail
                            go_ret
                            exact ⟨by rw [hE.out]; rfl, BEL⟩
                        · have hE := Lib.hid (hE.out.trans (T8.out.2 qa))
                          have y0 : ¬ (rule < 1) := fun h => qa (.inl h)
                          have f0 : decide (rule < 1) = false := by simp; first | exact y0 | omega
                          have y1 : ¬ (3 < rule) := fun h => qa (.inr (h))
                          have f1 : decide ((3 : Int) < rule) = false := by simp; first | exact y1 | omega
                          clear qa
                          by_cases qa : top < 0 ∨ 1000000 < top ∨ least < 1 ∨ 1000 < least ∨ part < 0 ∨ 100 < part
                          · have hE := Lib.hid (hE.out.trans (T9.out.1 qa))
                            by_cases y0 : top < 0
                            · have f0 : decide (top < 0) = true := by simp; first | exact y0 | omega
                              clear qa y0
                              go_wp2_with fail
                              go_ret
                              exact ⟨by rw [hE.out]; rfl, BEL⟩
                            · have f0 : decide (top < 0) = false := by simp; first | exact y0 | omega
                              by_cases y1 : 1000000 < top
                              · have f1 : decide ((1000000 : Int) < top) = true := by simp; first | exact y1 | omega
                                clear qa y1
                                go_wp2_with fail
                                go_ret
                                exact ⟨by rw [hE.out]; rfl, BEL⟩
                              · have f1 : decide ((1000000 : Int) < top) = false := by simp; first | exact y1 | omega
                                by_cases y2 : least < 1
                                · have f2 : decide (least < 1) = true := by simp; first | exact y2 | omega
                                  clear qa y2
                                  go_wp2_with fail
                                  go_ret
                                  exact ⟨by rw [hE.out]; rfl, BEL⟩
                                · have f2 : decide (least < 1) = false := by simp; first | exact y2 | omega
                                  by_cases y3 : 1000 < least
                                  · have f3 : decide ((1000 : Int) < least) = true := by simp; first | exact y3 | omega
                                    clear qa y3
                                    go_wp2_with fail
                                    go_ret
                                    exact ⟨by rw [hE.out]; rfl, BEL⟩
                                  · have f3 : decide ((1000 : Int) < least) = false := by simp; first | exact y3 | omega
                                    by_cases y4 : part < 0
                                    · have f4 : decide (part < 0) = true := by simp; first | exact y4 | omega
                                      clear qa y4
                                      go_wp2_with fail
                                      go_ret
                                      exact ⟨by rw [hE.out]; rfl, BEL⟩
                                    · have f4 : decide (part < 0) = false := by simp; first | exact y4 | omega
                                      have y5 : 100 < part := by rcases qa with h | h | h | h | h | h <;> first | exact h | omega | exact absurd h (by assumption)
                                      have f5 : decide ((100 : Int) < part) = true := by simp; first | exact y5 | omega
                                      clear qa y0 y1 y2 y3 y4 y5
                                      go_wp2_with fail
                                      go_ret
                                      exact ⟨by rw [hE.out]; rfl, BEL⟩
                          · have hE := Lib.hid (hE.out.trans (T9.out.2 qa))
                            have y0 : ¬ (top < 0) := fun h => qa (.inl h)
                            have f0 : decide (top < 0) = false := by simp; first | exact y0 | omega
                            have y1 : ¬ (1000000 < top) := fun h => qa (.inr (.inl h))
                            have f1 : decide ((1000000 : Int) < top) = false := by simp; first | exact y1 | omega
                            have y2 : ¬ (least < 1) := fun h => qa (.inr (.inr (.inl h)))
                            have f2 : decide (least < 1) = false := by simp; first | exact y2 | omega
                            have y3 : ¬ (1000 < least) := fun h => qa (.inr (.inr (.inr (.inl h))))
                            have f3 : decide ((1000 : Int) < least) = false := by simp; first | exact y3 | omega
                            have y4 : ¬ (part < 0) := fun h => qa (.inr (.inr (.inr (.inr (.inl h)))))
                            have f4 : decide (part < 0) = false := by simp; first | exact y4 | omega
                            have y5 : ¬ (100 < part) := fun h => qa (.inr (.inr (.inr (.inr (.inr (h))))))
                            have f5 : decide ((100 : Int) < part) = false := by simp; first | exact y5 | omega
                            clear qa
                            go_wp2_with fail
                            go_ret
                            exact ⟨by rw [hE.out]; rfl, BEL⟩
end Go.Proofs.Ytpfgmebajefjaaa
