/-
  The document's own answer on products.
-/
import Derived.Test.YtdeofifidjbolaaGaBase
import Derived.Deep.RegionHeld3
namespace Go.Proofs.Ytdeofifidjbolaa
open Go.RowKit
set_option linter.unusedVariables false
set_option linter.unusedSimpArgs false

set_option maxRecDepth 100000 in
set_option maxHeartbeats 1600000 in
theorem RefCheck_any (p : PD) (w : World) (h : Hid (p.Ok w)) :
    Calls Try.prog 43 #[p.val] w fun e w' => e = .returned (.int .i64 (chk p)) ∧ Below w.heap.size w w' := by
  obtain ⟨e1, e2, e3, e4, e5, e6, e7, e8, e9, T0, T1, T2, T3, T4, T5, T6, T7, T8, T9⟩ := chk_chain p
  obtain ⟨e0, h0⟩ : ∃ e, chk p = e := ⟨_, rfl⟩
  rw [h0] at T0 ⊢
  clear h0
  obtain ⟨code, A1, n1, c1, tick, low, high, wide, rule, top, least, part, A2, n2, c2, Q, R⟩ := p
  simp only at T0 T1 T2 T3 T4 T5 T6 T7 T8 T9
  replace T0 := Lib.hid T0
  replace T1 := Lib.hid T1
  replace T2 := Lib.hid T2
  replace T3 := Lib.hid T3
  replace T4 := Lib.hid T4
  replace T5 := Lib.hid T5
  replace T6 := Lib.hid T6
  replace T7 := Lib.hid T7
  replace T8 := Lib.hid T8
  replace T9 := Lib.hid T9
  obtain ⟨-, -, hco, l1, m1, l2, m2, ⟨ti1, ti2⟩, ⟨lo1, lo2⟩, ⟨hi1, hi2⟩, ⟨wi1, wi2⟩, ⟨ru1, ru2⟩, ⟨to1, to2⟩, ⟨le1, le2⟩, ⟨pa1, pa2⟩⟩ := h.out
  simp only at hco l1 m1 l2 m2 ti1 ti2 lo1 lo2 hi1 hi2 wi1 wi2 ru1 ru2 to1 to2 le1 le2 pa1 pa2
  show Calls Try.prog 43 #[.agg #[.string (str code), .slice A1 n1 c1, .int .i64 tick, .int .i64 low, .int .i64 high, .int .i64 wide, .int .i64 rule, .int .i64 top, .int .i64 least, .int .i64 part, .slice A2 n2 c2]] w _
  have hP := RefProduct_any code (w.alloc (.cells #[.string (str code), .slice A1 n1 c1, .int .i64 tick, .int .i64 low, .int .i64 high, .int .i64 wide, .int .i64 rule, .int .i64 top, .int .i64 least, .int .i64 part, .slice A2 n2 c2] 25)) hco
  replace hP := Lib.hid hP
  go_enter Try.func43, Try.ntmps43
  go_wp2_with fail
  obtain ⟨W0, eW0⟩ : ∃ W0, w.alloc (.cells #[.string (str code), .slice A1 n1 c1, .int .i64 tick, .int .i64 low, .int .i64 high, .int .i64 wide, .int .i64 rule, .int .i64 top, .int .i64 least, .int .i64 part, .slice A2 n2 c2] 25) = W0 := ⟨_, rfl⟩
  obtain ⟨pb, epb⟩ : ∃ pb, w.heap.size = pb := ⟨_, rfl⟩
  have hblk : W0.heap[pb]? = some (.cells #[.string (str code), .slice A1 n1 c1, .int .i64 tick, .int .i64 low, .int .i64 high, .int .i64 wide, .int .i64 rule, .int .i64 top, .int .i64 least, .int .i64 part, .slice A2 n2 c2] 25 (0, 0)) := by
    rw [← eW0, ← epb]; exact heap_alloc_new w _
  have hB0 : Below w.heap.size w W0 := by rw [← eW0]; exact (Below.refl _ w).alloc (Nat.le_refl _) _
  have hpb : pb < W0.heap.size := (Array.getElem?_eq_some_iff.1 hblk).1
  replace epb := Lib.hid epb
  rw [eW0] at hP ⊢
  rw [epb.out]
  clear eW0
  refine hP.out.mono ?_
  rintro e w1 ⟨rfl, b1⟩
  have hblk : w1.heap[pb]? = _ := (b1.block pb hpb).trans hblk
  have hB1 := Lib.hid (hB0.trans (b1.mono hB0.size))
  have k1 : w1.cell? ⟨pb, 1, none⟩ = some (.slice A1 n1 c1) := by rw [Lib.cell_of_heap hblk]; rfl
  have k2 : w1.cell? ⟨pb, 2, none⟩ = some (.int .i64 tick) := by rw [Lib.cell_of_heap hblk]; rfl
  have k3 : w1.cell? ⟨pb, 3, none⟩ = some (.int .i64 low) := by rw [Lib.cell_of_heap hblk]; rfl
  have k4 : w1.cell? ⟨pb, 4, none⟩ = some (.int .i64 high) := by rw [Lib.cell_of_heap hblk]; rfl
  have k5 : w1.cell? ⟨pb, 5, none⟩ = some (.int .i64 wide) := by rw [Lib.cell_of_heap hblk]; rfl
  have k6 : w1.cell? ⟨pb, 6, none⟩ = some (.int .i64 rule) := by rw [Lib.cell_of_heap hblk]; rfl
  have k7 : w1.cell? ⟨pb, 7, none⟩ = some (.int .i64 top) := by rw [Lib.cell_of_heap hblk]; rfl
  have k8 : w1.cell? ⟨pb, 8, none⟩ = some (.int .i64 least) := by rw [Lib.cell_of_heap hblk]; rfl
  have k9 : w1.cell? ⟨pb, 9, none⟩ = some (.int .i64 part) := by rw [Lib.cell_of_heap hblk]; rfl
  have k10 : w1.cell? ⟨pb, 10, none⟩ = some (.slice A2 n2 c2) := by rw [Lib.cell_of_heap hblk]; rfl
  have OK1 := Lib.hid (h.out.below hB1.out)
  clear hblk b1 hB0 hpb hP
  by_cases q0 : prodB code = false
  · have hE := Lib.hid (T0.out.1 q0)
    go_wp2_with fail
    go_ret
    exact ⟨by rw [hE.out]; rfl, hB1.out⟩
  · have q0' : prodB code = true := by simpa using q0
    have hE := Lib.hid (T0.out.2 q0')
    clear q0 T0
    by_cases qa : n1 < 2 ∨ 6 < n1
    · have hE := Lib.hid (hE.out.trans (T1.out.1 qa))
      by_cases qb : n1 < 2
      · have f1 : decide ((n1 : Int) < 2) = true := decide_eq_true (by omega)
        clear qa
        go_wp2_with fail
        go_ret
        exact ⟨by rw [hE.out]; rfl, hB1.out⟩
      · have f1 : decide ((n1 : Int) < 2) = false := decide_eq_false (by omega)
        have f2 : decide ((6 : Int) < (n1 : Int)) = true := decide_eq_true (by omega)
        clear qa
        go_wp2_with fail
        go_ret
        exact ⟨by rw [hE.out]; rfl, hB1.out⟩
    · have hE := Lib.hid (hE.out.trans (T1.out.2 qa))
      have f1 : decide ((n1 : Int) < 2) = false := decide_eq_false (by omega)
      have f2 : decide ((6 : Int) < (n1 : Int)) = false := decide_eq_false (by omega)
      have hn1 : n1 ≤ 6 := by omega
      clear qa T1
      go_wp2_with fail
      go_loopw [3] (fun i wr => ∃ k q : Nat, i = .int .i64 k ∧ k ≤ n1 ∧ Hid (∀ j, j < k → okM Q j) ∧ wr = w1.drewN q) (fun i _ => n1 - (intOf i).toNat)
      case atStart => exact ⟨0, 0, rfl, by omega, Lib.hid (fun j h => absurd h (by omega)), rfl⟩
      case round =>
        obtain ⟨k, q, rfl, hk, hall, rfl⟩ := hrel
        by_cases hlt : k < n1
        · have d1 : decide ((k : Int) < (n1 : Int)) = true := decide_eq_true (by omega)
          have d2 : (k : Int) < (n1 : Int) := by omega
          obtain ⟨mb, mo, rfl, hc, -, -⟩ := OK1.out.months k hlt
          simp only at hc
          have bad : ¬ okM Q k → e0 = 1 := fun h => hE.out.trans (T2.out.1 (fun h2 => h (h2 k hlt)))
          by_cases x1 : Q k < 0
          · have hE := Lib.hid (bad (fun h => by have := h.1; omega))
            have a1 : decide (Q k < 0) = true := decide_eq_true x1
            clear bad x1
            go_wp2_with fail
            go_quiet (fail)
            go_wp2_with fail
            go_ret
            exact ⟨by rw [hE.out]; rfl, below_drewN (below_drewN hB1.out _) _⟩
          · have a1 : decide (Q k < 0) = false := decide_eq_false x1
            by_cases x2 : 1199 < Q k
            · have hE := Lib.hid (bad (fun h => by have := h.2.1; omega))
              have a2 : decide (1199 < Q k) = true := decide_eq_true x2
              clear bad x1 x2
              go_wp2_with fail
              go_quiet (fail)
              go_wp2_with fail
              go_ret
              exact ⟨by rw [hE.out]; rfl, below_drewN (below_drewN hB1.out _) _⟩
            · have a2 : decide (1199 < Q k) = false := decide_eq_false x2
              by_cases x3 : k = 0
              · subst x3
                rw [Nat.add_zero] at hc
                have a3 : decide ((0 : Int) < ((0 : Nat) : Int)) = false := by decide
                have hnx := Lib.hid (show ∀ j, j < 0 + 1 → okM Q j from fun j hj => by
                  obtain rfl : j = 0 := by omega
                  exact ⟨by omega, by omega, fun h => absurd h (by omega)⟩)
                clear bad x1 x2
                go_wp2_with fail
                go_quiet (fail)
                go_wp2_with fail
                go_roundw
                case rel => exact ⟨0 + 1, _, by go_num, by omega, hnx, rfl⟩
                case measure => simp [intOf]; omega
              · obtain ⟨j, rfl⟩ : ∃ j, k = j + 1 := ⟨k - 1, by omega⟩
                have a3 : decide ((0 : Int) < ((j + 1 : Nat) : Int)) = true := decide_eq_true (by omega)
                obtain ⟨mb2, mo2, em, hc2, -, -⟩ := OK1.out.months j (by simp only; omega)
                simp only at hc2 em
                injection em with em; injection em with em1 em2; subst em1; subst em2
                have d3 : (j : Int) < (n1 : Int) := by omega
                by_cases x4 : Q (j + 1) ≤ Q j
                · have hE := Lib.hid (bad (fun h => by have := h.2.2 (by omega); rw [Nat.add_sub_cancel] at this; omega))
                  have a4 : decide (Q (j + 1) ≤ Q j) = true := decide_eq_true x4
                  clear bad x1 x2 x4
                  go_wp2_with fail
                  go_quiet (fail)
                  go_wp2_with fail
                  go_ret
                  exact ⟨by rw [hE.out]; rfl, below_drewN (below_drewN hB1.out _) _⟩
                · have a4 : decide (Q (j + 1) ≤ Q j) = false := decide_eq_false x4
                  have hnx := Lib.hid (show ∀ i, i < j + 1 + 1 → okM Q i from fun i hi => by
                    by_cases e : i = j + 1
                    · subst e
                      exact ⟨by omega, by omega, fun _ => by rw [Nat.add_sub_cancel]; omega⟩
                    · exact hall.out i (by omega))
                  clear bad x1 x2 x4
                  go_wp2_with fail
                  go_quiet (fail)
                  go_wp2_with fail
                  go_roundw
                  case rel => exact ⟨j + 1 + 1, _, by go_num, by omega, hnx, rfl⟩
                  case measure => simp [intOf]; omega
        · obtain rfl : n1 = k := by omega
          have d1 : decide ((n1 : Int) < (n1 : Int)) = false := decide_eq_false (by omega)
          have hE := Lib.hid (hE.out.trans (T2.out.2 hall.out))
          clear hall T2
          go_upto_region 10 with (fail)
          have BEL := below_drewN hB1.out q
          by_cases qa : tick < 1 ∨ 1000 < tick ∨ low.tmod tick ≠ 0 ∨ high.tmod tick ≠ 0 ∨ wide.tmod tick ≠ 0
          · have hE := Lib.hid (hE.out.trans (T3.out.1 qa))
            by_cases y0 : tick < 1
            · have f0 : decide (tick < 1) = true := by simp; first | exact y0 | omega
              clear qa y0
              go_wp2_with fail
              go_ret
              exact ⟨by rw [hE.out]; rfl, BEL⟩
            · have f0 : decide (tick < 1) = false := by simp; first | exact y0 | omega
              have hz : ¬ tick = 0 := by omega
              by_cases y1 : 1000 < tick
              · have f1 : decide ((1000 : Int) < tick) = true := by simp; first | exact y1 | omega
                clear qa y1
                go_wp2_with fail
                go_ret
                exact ⟨by rw [hE.out]; rfl, BEL⟩
              · have f1 : decide ((1000 : Int) < tick) = false := by simp; first | exact y1 | omega
                by_cases y2 : low.tmod tick ≠ 0
                · have f2 : (low.tmod tick != 0) = true := by simp; first | exact y2 | omega
                  clear qa y2
                  go_wp2_with fail
                  go_ret
                  exact ⟨by rw [hE.out]; rfl, BEL⟩
                · have f2 : (low.tmod tick != 0) = false := by simp; first | exact y2 | omega
                  by_cases y3 : high.tmod tick ≠ 0
                  · have f3 : (high.tmod tick != 0) = true := by simp; first | exact y3 | omega
                    clear qa y3
                    go_wp2_with fail
                    go_ret
                    exact ⟨by rw [hE.out]; rfl, BEL⟩
                  · have f3 : (high.tmod tick != 0) = false := by simp; first | exact y3 | omega
                    have y4 : wide.tmod tick ≠ 0 := by rcases qa with h | h | h | h | h <;> first | exact h | omega | exact absurd h (by assumption)
                    have f4 : (wide.tmod tick != 0) = true := by simp; first | exact y4 | omega
                    clear qa y0 y1 y2 y3 y4
                    go_wp2_with fail
                    go_ret
                    exact ⟨by rw [hE.out]; rfl, BEL⟩
          · have hE := Lib.hid (hE.out.trans (T3.out.2 qa))
            have y0 : ¬ (tick < 1) := fun h => qa (.inl h)
            have f0 : decide (tick < 1) = false := by simp; first | exact y0 | omega
            have hz : ¬ tick = 0 := by omega
            have y1 : ¬ (1000 < tick) := fun h => qa (.inr (.inl h))
            have f1 : decide ((1000 : Int) < tick) = false := by simp; first | exact y1 | omega
            have y2 : ¬ (low.tmod tick ≠ 0) := fun h => qa (.inr (.inr (.inl h)))
            have f2 : (low.tmod tick != 0) = false := by simp; first | exact y2 | omega
            have y3 : ¬ (high.tmod tick ≠ 0) := fun h => qa (.inr (.inr (.inr (.inl h))))
            have f3 : (high.tmod tick != 0) = false := by simp; first | exact y3 | omega
            have y4 : ¬ (wide.tmod tick ≠ 0) := fun h => qa (.inr (.inr (.inr (.inr (h)))))
            have f4 : (wide.tmod tick != 0) = false := by simp; first | exact y4 | omega
            clear qa
            clear BEL
            go_wp2_with fail
            go_loopw [4] (fun i wr => ∃ k u : Nat, i = .int .i64 k ∧ k ≤ n2 ∧ Hid (∀ j, j < k → (R j).tmod tick = 0) ∧ wr = w1.drewN u) (fun i _ => n2 - (intOf i).toNat)
            case atStart => exact ⟨0, q, rfl, by omega, Lib.hid (fun j h => absurd h (by omega)), rfl⟩
            case round =>
              clear d1
              obtain ⟨k, u, rfl, hk, hall, rfl⟩ := hrel
              by_cases hlt : k < n2
              · have d1 : decide ((k : Int) < (n2 : Int)) = true := decide_eq_true (by omega)
                have d2 : (k : Int) < (n2 : Int) := by omega
                obtain ⟨mb, mo, rfl, hc, hr1, hr2⟩ := OK1.out.settle k hlt
                simp only at hc hr1 hr2
                have bad : ¬ ((R k).tmod tick = 0) → e0 = 22 := fun h => hE.out.trans (T4.out.1 (fun h2 => h (h2 k hlt)))
                by_cases x0 : (R k).tmod tick ≠ 0
                · have hE := Lib.hid (bad (by exact x0))
                  have a0 : ((R k).tmod tick != 0) = true := by simp; first | exact x0 | omega
                  clear bad x0
                  go_wp2_with fail
                  go_quiet (fail)
                  go_wp2_with fail
                  go_ret
                  exact ⟨by rw [hE.out]; rfl, below_drewN (below_drewN hB1.out _) _⟩
                · have a0 : ((R k).tmod tick != 0) = false := by simp; first | exact x0 | omega
                  have hnx := Lib.hid (show ∀ j, j < k + 1 → (R j).tmod tick = 0 from fun j hj => by
                    by_cases e : j = k
                    · subst e; omega
                    · exact hall.out j (by omega))
                  clear bad x0
                  go_wp2_with fail
                  go_quiet (fail)
                  go_wp2_with fail
                  go_roundw
                  case rel => exact ⟨k + 1, _, by go_num, by omega, hnx, rfl⟩
                  case measure => simp [intOf]; omega
              · obtain rfl : n2 = k := by omega
                have d1 : decide ((n2 : Int) < (n2 : Int)) = false := decide_eq_false (by omega)
                have hE := Lib.hid (hE.out.trans (T4.out.2 hall.out))
                have BEL := below_drewN hB1.out u
                clear hall T4
                by_cases qa : low < -1000000 ∨ high ≤ low ∨ 1000000 < high ∨ wide < 0 ∨ high - low < wide
                · have hE := Lib.hid (hE.out.trans (T5.out.1 qa))
                  by_cases y0 : low < -1000000
                  · have f0 : decide (low < -1000000) = true := by simp; first | exact y0 | omega
                    clear qa y0
                    go_wp2_with fail
                    go_ret
                    exact ⟨by rw [hE.out]; rfl, BEL⟩
                  · have f0 : decide (low < -1000000) = false := by simp; first | exact y0 | omega
                    by_cases y1 : high ≤ low
                    · have f1 : decide (high ≤ low) = true := by simp; first | exact y1 | omega
                      clear qa y1
                      go_wp2_with fail
                      go_ret
                      exact ⟨by rw [hE.out]; rfl, BEL⟩
                    · have f1 : decide (high ≤ low) = false := by simp; first | exact y1 | omega
                      by_cases y2 : 1000000 < high
                      · have f2 : decide ((1000000 : Int) < high) = true := by simp; first | exact y2 | omega
                        clear qa y2
                        go_wp2_with fail
                        go_ret
                        exact ⟨by rw [hE.out]; rfl, BEL⟩
                      · have f2 : decide ((1000000 : Int) < high) = false := by simp; first | exact y2 | omega
                        have r1 : -9223372036854775808 ≤ high - low := by omega
                        have r2 : high - low ≤ 9223372036854775807 := by omega
                        by_cases y3 : wide < 0
                        · have f3 : decide (wide < 0) = true := by simp; first | exact y3 | omega
                          clear qa y3
                          go_wp2_with fail
                          go_ret
                          exact ⟨by rw [hE.out]; rfl, BEL⟩
                        · have f3 : decide (wide < 0) = false := by simp; first | exact y3 | omega
                          have y4 : high - low < wide := by rcases qa with h | h | h | h | h <;> first | exact h | omega | exact absurd h (by assumption)
                          have f4 : decide (high - low < wide) = true := by simp; first | exact y4 | omega
                          clear qa y0 y1 y2 y3 y4
                          go_wp2_with fail
                          go_ret
                          exact ⟨by rw [hE.out]; rfl, BEL⟩
                · have hE := Lib.hid (hE.out.trans (T5.out.2 qa))
                  have y0 : ¬ (low < -1000000) := fun h => qa (.inl h)
                  have f0 : decide (low < -1000000) = false := by simp; first | exact y0 | omega
                  have y1 : ¬ (high ≤ low) := fun h => qa (.inr (.inl h))
                  have f1 : decide (high ≤ low) = false := by simp; first | exact y1 | omega
                  have y2 : ¬ (1000000 < high) := fun h => qa (.inr (.inr (.inl h)))
                  have f2 : decide ((1000000 : Int) < high) = false := by simp; first | exact y2 | omega
                  have r1 : -9223372036854775808 ≤ high - low := by omega
                  have r2 : high - low ≤ 9223372036854775807 := by omega
                  have y3 : ¬ (wide < 0) := fun h => qa (.inr (.inr (.inr (.inl h))))
                  have f3 : decide (wide < 0) = false := by simp; first | exact y3 | omega
                  have y4 : ¬ (high - low < wide) := fun h => qa (.inr (.inr (.inr (.inr (h)))))
                  have f4 : decide (high - low < wide) = false := by simp; first | exact y4 | omega
                  clear qa
                  by_cases qa : n2 ≠ n1
                  · have hE := Lib.hid (hE.out.trans (T6.out.1 qa))
                    have y0 : n2 ≠ n1 := by rcases qa with h <;> first | exact h | omega | exact absurd h (by assumption)
                    have f0 : ((n2 : Int) != (n1 : Int)) = true := by simp; first | exact y0 | omega
                    clear qa y0
                    go_wp2_with fail
                    go_ret
                    exact ⟨by rw [hE.out]; rfl, BEL⟩
                  · have hE := Lib.hid (hE.out.trans (T6.out.2 qa))
                    have y0 : ¬ (n2 ≠ n1) := fun h => qa (h)
                    have f0 : ((n2 : Int) != (n1 : Int)) = false := by simp; first | exact y0 | omega
                    clear qa
                    have g0 : n2 = n1 := by omega
                    clear BEL
                    go_wp2_with fail
                    go_loopw [5] (fun i wr => ∃ k u : Nat, i = .int .i64 k ∧ k ≤ n2 ∧ Hid (∀ j, j < k → low ≤ R j ∧ R j ≤ high) ∧ wr = w1.drewN u) (fun i _ => n2 - (intOf i).toNat)
                    case atStart => exact ⟨0, u, rfl, by omega, Lib.hid (fun j h => absurd h (by omega)), rfl⟩
                    case round =>
                      clear d1
                      obtain ⟨k, u, rfl, hk, hall, rfl⟩ := hrel
                      by_cases hlt : k < n2
                      · have d1 : decide ((k : Int) < (n2 : Int)) = true := decide_eq_true (by omega)
                        have d2 : (k : Int) < (n2 : Int) := by omega
                        obtain ⟨mb, mo, rfl, hc, hr1, hr2⟩ := OK1.out.settle k hlt
                        simp only at hc hr1 hr2
                        have bad : ¬ (low ≤ R k ∧ R k ≤ high) → e0 = 1 := fun h => hE.out.trans (T7.out.1 (fun h2 => h (h2 k hlt)))
                        by_cases x0 : R k < low
                        · have hE := Lib.hid (bad (by omega))
                          have a0 : decide (R k < low) = true := by simp; first | exact x0 | omega
                          clear bad x0
                          go_wp2_with fail
                          go_quiet (fail)
                          go_wp2_with fail
                          go_ret
                          exact ⟨by rw [hE.out]; rfl, below_drewN (below_drewN hB1.out _) _⟩
                        · have a0 : decide (R k < low) = false := by simp; first | exact x0 | omega
                          by_cases x1 : high < R k
                          · have hE := Lib.hid (bad (by omega))
                            have a1 : decide (high < R k) = true := by simp; first | exact x1 | omega
                            clear bad x1
                            go_wp2_with fail
                            go_quiet (fail)
                            go_wp2_with fail
                            go_ret
                            exact ⟨by rw [hE.out]; rfl, below_drewN (below_drewN hB1.out _) _⟩
                          · have a1 : decide (high < R k) = false := by simp; first | exact x1 | omega
                            have hnx := Lib.hid (show ∀ j, j < k + 1 → low ≤ R j ∧ R j ≤ high from fun j hj => by
                              by_cases e : j = k
                              · subst e; omega
                              · exact hall.out j (by omega))
                            clear bad x0 x1
                            go_wp2_with fail
                            go_quiet (fail)
                            go_wp2_with fail
                            go_roundw
                            case rel => exact ⟨k + 1, _, by go_num, by omega, hnx, rfl⟩
                            case measure => simp [intOf]; omega
                      · obtain rfl : n2 = k := by omega
                        have d1 : decide ((n2 : Int) < (n2 : Int)) = false := decide_eq_false (by omega)
                        have hE := Lib.hid (hE.out.trans (T7.out.2 hall.out))
                        have BEL := below_drewN hB1.out u
                        clear hall T7
                        by_cases qa : rule < 1 ∨ 3 < rule
                        · have hE := Lib.hid (hE.out.trans (T8.out.1 qa))
                          by_cases y0 : rule < 1
                          · have f0 : decide (rule < 1) = true := by simp; first | exact y0 | omega
                            clear qa y0
                            go_wp2_with fail
                            go_ret
                            exact ⟨by rw [hE.out]; rfl, BEL⟩
                          · have f0 : decide (rule < 1) = false := by simp; first | exact y0 | omega
                            have y1 : 3 < rule := by rcases qa with h | h <;> first | exact h | omega | exact absurd h (by assumption)
                            have f1 : decide ((3 : Int) < rule) = true := by simp; first | exact y1 | omega
                            clear qa y0 y1
                            go_wp2_with fail
                            go_ret
                            exact ⟨by rw [hE.out]; rfl, BEL⟩
                        · have hE := Lib.hid (hE.out.trans (T8.out.2 qa))
                          have y0 : ¬ (rule < 1) := fun h => qa (.inl h)
                          have f0 : decide (rule < 1) = false := by simp; first | exact y0 | omega
                          have y1 : ¬ (3 < rule) := fun h => qa (.inr (h))
                          have f1 : decide ((3 : Int) < rule) = false := by simp; first | exact y1 | omega
                          clear qa
                          by_cases qa : top < 0 ∨ 1000000 < top ∨ least < 1 ∨ 1000 < least ∨ part < 0 ∨ 100 < part
                          · have hE := Lib.hid (hE.out.trans (T9.out.1 qa))
                            by_cases y0 : top < 0
                            · have f0 : decide (top < 0) = true := by simp; first | exact y0 | omega
                              clear qa y0
                              go_wp2_with fail
                              go_ret
                              exact ⟨by rw [hE.out]; rfl, BEL⟩
                            · have f0 : decide (top < 0) = false := by simp; first | exact y0 | omega
                              by_cases y1 : 1000000 < top
                              · have f1 : decide ((1000000 : Int) < top) = true := by simp; first | exact y1 | omega
                                clear qa y1
                                go_wp2_with fail
                                go_ret
                                exact ⟨by rw [hE.out]; rfl, BEL⟩
                              · have f1 : decide ((1000000 : Int) < top) = false := by simp; first | exact y1 | omega
                                by_cases y2 : least < 1
                                · have f2 : decide (least < 1) = true := by simp; first | exact y2 | omega
                                  clear qa y2
                                  go_wp2_with fail
                                  go_ret
                                  exact ⟨by rw [hE.out]; rfl, BEL⟩
                                · have f2 : decide (least < 1) = false := by simp; first | exact y2 | omega
                                  by_cases y3 : 1000 < least
                                  · have f3 : decide ((1000 : Int) < least) = true := by simp; first | exact y3 | omega
                                    clear qa y3
                                    go_wp2_with fail
                                    go_ret
                                    exact ⟨by rw [hE.out]; rfl, BEL⟩
                                  · have f3 : decide ((1000 : Int) < least) = false := by simp; first | exact y3 | omega
                                    by_cases y4 : part < 0
                                    · have f4 : decide (part < 0) = true := by simp; first | exact y4 | omega
                                      clear qa y4
                                      go_wp2_with fail
                                      go_ret
                                      exact ⟨by rw [hE.out]; rfl, BEL⟩
                                    · have f4 : decide (part < 0) = false := by simp; first | exact y4 | omega
                                      have y5 : 100 < part := by rcases qa with h | h | h | h | h | h <;> first | exact h | omega | exact absurd h (by assumption)
                                      have f5 : decide ((100 : Int) < part) = true := by simp; first | exact y5 | omega
                                      clear qa y0 y1 y2 y3 y4 y5
                                      go_wp2_with fail
                                      go_ret
                                      exact ⟨by rw [hE.out]; rfl, BEL⟩
                          · have hE := Lib.hid (hE.out.trans (T9.out.2 qa))
                            have y0 : ¬ (top < 0) := fun h => qa (.inl h)
                            have f0 : decide (top < 0) = false := by simp; first | exact y0 | omega
                            have y1 : ¬ (1000000 < top) := fun h => qa (.inr (.inl h))
                            have f1 : decide ((1000000 : Int) < top) = false := by simp; first | exact y1 | omega
                            have y2 : ¬ (least < 1) := fun h => qa (.inr (.inr (.inl h)))
                            have f2 : decide (least < 1) = false := by simp; first | exact y2 | omega
                            have y3 : ¬ (1000 < least) := fun h => qa (.inr (.inr (.inr (.inl h))))
                            have f3 : decide ((1000 : Int) < least) = false := by simp; first | exact y3 | omega
                            have y4 : ¬ (part < 0) := fun h => qa (.inr (.inr (.inr (.inr (.inl h)))))
                            have f4 : decide (part < 0) = false := by simp; first | exact y4 | omega
                            have y5 : ¬ (100 < part) := fun h => qa (.inr (.inr (.inr (.inr (.inr (h))))))
                            have f5 : decide ((100 : Int) < part) = false := by simp; first | exact y5 | omega
                            clear qa
                            go_wp2_with fail
                            go_ret
                            exact ⟨by rw [hE.out]; rfl, BEL⟩
end Go.Proofs.Ytdeofifidjbolaa
namespace Go.Proofs.Ytdeofifidjbolaa
open Go.RowKit
set_option linter.unusedVariables false
set_option linter.unusedSimpArgs false

theorem chk_zero {p : PD} (h : chk p = 0) : 2 ≤ p.n1 ∧ p.n1 ≤ 6 := by
  unfold chk at h
  split at h
  · exact absurd h (by decide)
  · unfold chk1 at h
    split at h
    · exact absurd h (by decide)
    · omega
/-- How many instruments. -/
def cntL (p : PD) : Nat := if chk p = 0 then p.n1 + p.n1 * (p.n1 - 1) / 2 else 0

set_option maxRecDepth 100000 in
set_option maxHeartbeats 1600000 in
theorem RefCount_any (p : PD) (w : World) (h : Hid (p.Ok w)) :
    Calls Try.prog 36 #[p.val] w fun e w' => e = .returned (.int .i64 (cntL p)) ∧ Below w.heap.size w w' := by
  obtain ⟨e0, h0⟩ : ∃ e, chk p = e := ⟨_, rfl⟩
  obtain ⟨c0, g0⟩ : ∃ c, cntL p = c := ⟨_, rfl⟩
  have r1 : e0 ≠ 0 → c0 = 0 := fun h => by rw [← g0]; unfold cntL; rw [if_neg (by rw [h0]; exact h)]
  have r2 : e0 = 0 → c0 = p.n1 + p.n1 * (p.n1 - 1) / 2 ∧ 2 ≤ p.n1 ∧ p.n1 ≤ 6 := fun h => ⟨by rw [← g0]; unfold cntL; rw [if_pos (by rw [h0]; exact h)], chk_zero (h0.trans h)⟩
  replace r1 := Lib.hid r1
  replace r2 := Lib.hid r2
  rw [g0]
  have HC : Hid (∀ W, Below w.heap.size w W → Calls Try.prog 43 #[p.val] W fun e w' => e = .returned (.int .i64 e0) ∧ Below W.heap.size W w') := Lib.hid (fun W b => by rw [← h0]; exact RefCheck_any p W (Lib.hid (h.out.below b)))
  have l1 := h.out.l1
  have m1 := h.out.m1
  clear h0 g0
  obtain ⟨code, A1, n1, c1, tick, low, high, wide, rule, top, least, part, A2, n2, c2, Q, R⟩ := p
  simp only at r1 r2 l1 m1
  show Calls Try.prog 36 #[.agg #[.string (str code), .slice A1 n1 c1, .int .i64 tick, .int .i64 low, .int .i64 high, .int .i64 wide, .int .i64 rule, .int .i64 top, .int .i64 least, .int .i64 part, .slice A2 n2 c2]] w _
  replace HC : Hid (∀ W, Below w.heap.size w W → Calls Try.prog 43 #[.agg #[.string (str code), .slice A1 n1 c1, .int .i64 tick, .int .i64 low, .int .i64 high, .int .i64 wide, .int .i64 rule, .int .i64 top, .int .i64 least, .int .i64 part, .slice A2 n2 c2]] W fun e w' => e = .returned (.int .i64 e0) ∧ Below W.heap.size W w') := HC
  go_enter Try.func36, Try.ntmps36
  go_wp2_with fail
  obtain ⟨W0, eW0⟩ : ∃ W0, w.alloc (.cells #[.string (str code), .slice A1 n1 c1, .int .i64 tick, .int .i64 low, .int .i64 high, .int .i64 wide, .int .i64 rule, .int .i64 top, .int .i64 least, .int .i64 part, .slice A2 n2 c2] 25) = W0 := ⟨_, rfl⟩
  obtain ⟨pb, epb⟩ : ∃ pb, w.heap.size = pb := ⟨_, rfl⟩
  have hblk : W0.heap[pb]? = some (.cells #[.string (str code), .slice A1 n1 c1, .int .i64 tick, .int .i64 low, .int .i64 high, .int .i64 wide, .int .i64 rule, .int .i64 top, .int .i64 least, .int .i64 part, .slice A2 n2 c2] 25 (0, 0)) := by
    rw [← eW0, ← epb]; exact heap_alloc_new w _
  have hB0 : Below w.heap.size w W0 := by rw [← eW0]; exact (Below.refl _ w).alloc (Nat.le_refl _) _
  have hpb : pb < W0.heap.size := (Array.getElem?_eq_some_iff.1 hblk).1
  have hC := HC.out W0 hB0
  replace epb := Lib.hid epb
  rw [eW0]
  rw [epb.out]
  clear eW0
  refine hC.mono ?_
  rintro e w1 ⟨rfl, b1⟩
  have hblk : w1.heap[pb]? = _ := (b1.block pb hpb).trans hblk
  have hB1 := Lib.hid (hB0.trans (b1.mono hB0.size))
  have k1 : w1.cell? ⟨pb, 1, none⟩ = some (.slice A1 n1 c1) := by rw [Lib.cell_of_heap hblk]; rfl
  clear hblk b1 hB0 hpb hC HC h
  by_cases q0 : e0 = 0
  · obtain ⟨rc, n2', n6⟩ := r2.out q0
    replace rc := Lib.hid rc
    have f0 : ((e0 : Int) != 0) = false := by simp; omega
    clear q0 r1 r2
    have cs : n1 = 2 ∨ n1 = 3 ∨ n1 = 4 ∨ n1 = 5 ∨ n1 = 6 := by omega
    rcases cs with rfl | rfl | rfl | rfl | rfl <;>
    · go_wp2_with fail
      go_ret
      exact ⟨by rw [rc.out]; rfl, hB1.out⟩
  · have rc := Lib.hid (r1.out q0)
    have f0 : ((e0 : Int) != 0) = true := by simp; omega
    clear q0 r1 r2
    go_wp2_with fail
    go_ret
    exact ⟨by rw [rc.out]; rfl, hB1.out⟩
end Go.Proofs.Ytdeofifidjbolaa
namespace Go.Proofs.Ytdeofifidjbolaa
open Go.RowKit
set_option linter.unusedVariables false
set_option linter.unusedSimpArgs false

/-- Pair number r of those whose first index is n - d or above. -/
def pairFrom (n : Nat) : Nat → Nat → Int × Int × Bool
  | 0, _ => (0, 0, false)
  | d + 1, r => if r < d then ((n : Int) - d - 1, (n : Int) - d + r, true) else pairFrom n d (r - d)
def legsL (p : PD) (inst : Int) : Int × Int × Bool :=
  if chk p ≠ 0 ∨ inst < 0 then (0, 0, false) else if inst < p.n1 then (inst, inst, false) else pairFrom p.n1 p.n1 (inst - p.n1).toNat
theorem pairFrom_zero (n r : Nat) : pairFrom n 0 r = (0, 0, false) := rfl
theorem pairFrom_succ (n d r : Nat) : pairFrom n (d + 1) r = if r < d then ((n : Int) - d - 1, (n : Int) - d + r, true) else pairFrom n d (r - d) := rfl

theorem results_tmp3 {fn : Func} {a b c : Tmp} (h : fn.results = #[.tmp a, .tmp b, .tmp c]) (tmps : Array Value) (P : Program) (w : World) :
    (results fn tmps).run P w = .ok (.tuple #[tmps.getD a undef, tmps.getD b undef, tmps.getD c undef]) w := by
  simp [results, h]
set_option maxRecDepth 100000 in
set_option maxHeartbeats 1600000 in
theorem RefLegs_any (p : PD) (inst : Int) (w : World) (h : Hid (p.Ok w)) (hi : I64 inst) :
    Calls Try.prog 44 #[p.val, .int .i64 inst] w fun e w' => e = .returned (.tuple #[.int .i64 (legsL p inst).1, .int .i64 (legsL p inst).2.1, .bool (legsL p inst).2.2]) ∧ Below w.heap.size w w' := by
  obtain ⟨e0, h0⟩ : ∃ e, chk p = e := ⟨_, rfl⟩
  obtain ⟨⟨x, y, z⟩, g0⟩ : ∃ c, legsL p inst = c := ⟨_, rfl⟩
  have r1 : e0 ≠ 0 ∨ inst < 0 → (0, 0, false) = (x, y, z) := fun h => by rw [← g0]; unfold legsL; rw [if_pos (by rw [h0]; exact h)]
  have r2 : ¬ (e0 ≠ 0 ∨ inst < 0) → inst < p.n1 → (inst, inst, false) = (x, y, z) := fun h h2 => by rw [← g0]; unfold legsL; rw [if_neg (by rw [h0]; exact h), if_pos h2]
  have r3 : ¬ (e0 ≠ 0 ∨ inst < 0) → ¬ inst < p.n1 → pairFrom p.n1 p.n1 (inst - p.n1).toNat = (x, y, z) := fun h h2 => by rw [← g0]; unfold legsL; rw [if_neg (by rw [h0]; exact h), if_neg h2]
  replace r1 := Lib.hid r1
  replace r2 := Lib.hid r2
  replace r3 := Lib.hid r3
  rw [g0]
  have HC : Hid (∀ W, Below w.heap.size w W → Calls Try.prog 43 #[p.val] W fun e w' => e = .returned (.int .i64 e0) ∧ Below W.heap.size W w') := Lib.hid (fun W b => by rw [← h0]; exact RefCheck_any p W (Lib.hid (h.out.below b)))
  have l1 := h.out.l1
  have m1 := h.out.m1
  obtain ⟨hi1, hi2⟩ := hi
  have hz : e0 = 0 → 2 ≤ p.n1 ∧ p.n1 ≤ 6 := fun h => chk_zero (h0.trans h)
  replace hz := Lib.hid hz
  clear h0 g0
  obtain ⟨code, A1, n1, c1, tick, low, high, wide, rule, top, least, part, A2, n2, c2, Q, R⟩ := p
  simp only at r1 r2 r3 hz l1 m1
  show Calls Try.prog 44 #[.agg #[.string (str code), .slice A1 n1 c1, .int .i64 tick, .int .i64 low, .int .i64 high, .int .i64 wide, .int .i64 rule, .int .i64 top, .int .i64 least, .int .i64 part, .slice A2 n2 c2], .int .i64 inst] w _
  replace HC : Hid (∀ W, Below w.heap.size w W → Calls Try.prog 43 #[.agg #[.string (str code), .slice A1 n1 c1, .int .i64 tick, .int .i64 low, .int .i64 high, .int .i64 wide, .int .i64 rule, .int .i64 top, .int .i64 least, .int .i64 part, .slice A2 n2 c2]] W fun e w' => e = .returned (.int .i64 e0) ∧ Below W.heap.size W w') := HC
  go_enter Try.func44, Try.ntmps44
  go_wp2_with fail
  obtain ⟨W0, eW0⟩ : ∃ W0, w.alloc (.cells #[.string (str code), .slice A1 n1 c1, .int .i64 tick, .int .i64 low, .int .i64 high, .int .i64 wide, .int .i64 rule, .int .i64 top, .int .i64 least, .int .i64 part, .slice A2 n2 c2] 25) = W0 := ⟨_, rfl⟩
  obtain ⟨pb, epb⟩ : ∃ pb, w.heap.size = pb := ⟨_, rfl⟩
  have hblk : W0.heap[pb]? = some (.cells #[.string (str code), .slice A1 n1 c1, .int .i64 tick, .int .i64 low, .int .i64 high, .int .i64 wide, .int .i64 rule, .int .i64 top, .int .i64 least, .int .i64 part, .slice A2 n2 c2] 25 (0, 0)) := by
    rw [← eW0, ← epb]; exact heap_alloc_new w _
  have hB0 : Below w.heap.size w W0 := by rw [← eW0]; exact (Below.refl _ w).alloc (Nat.le_refl _) _
  have hpb : pb < W0.heap.size := (Array.getElem?_eq_some_iff.1 hblk).1
  have hC := HC.out W0 hB0
  replace epb := Lib.hid epb
  rw [eW0]
  rw [epb.out]
  clear eW0
  refine hC.mono ?_
  rintro e w1 ⟨rfl, b1⟩
  have hblk : w1.heap[pb]? = _ := (b1.block pb hpb).trans hblk
  have hB1 := Lib.hid (hB0.trans (b1.mono hB0.size))
  have k1 : w1.cell? ⟨pb, 1, none⟩ = some (.slice A1 n1 c1) := by rw [Lib.cell_of_heap hblk]; rfl
  clear hblk b1 hB0 hpb hC HC h
  by_cases q0 : e0 = 0
  · obtain ⟨n2', n6⟩ := hz.out q0
    have f0 : ((e0 : Int) != 0) = false := by simp; omega
    by_cases q1 : inst < 0
    · have rc := Lib.hid (r1.out (.inr q1))
      have f1 : decide (inst < 0) = true := decide_eq_true q1
      clear q0 q1 r1 r2 r3 hz
      go_wp2_with fail
      (try simp only [Exit.inBlock, Exit.then]); refine bodyPost_ret (results_tmp3 rfl _ _ _) rfl ?_
      exact ⟨by injection rc.out with a b; injection b with b c; rw [← a, ← b, ← c]; rfl, hB1.out⟩
    · have f1 : decide (inst < 0) = false := decide_eq_false q1
      have qq : ¬ (e0 ≠ 0 ∨ inst < 0) := by omega
      obtain ⟨t, rfl⟩ : ∃ t : Nat, inst = t := ⟨inst.toNat, by omega⟩
      by_cases q2 : t < n1
      · have f2 : decide ((t : Int) < (n1 : Int)) = true := decide_eq_true (by omega)
        have rc := Lib.hid (r2.out qq (by omega))
        clear q0 q1 qq r1 r2 r3 hz
        go_wp2_with fail
        (try simp only [Exit.inBlock, Exit.then]); refine bodyPost_ret (results_tmp3 rfl _ _ _) rfl ?_
        exact ⟨by injection rc.out with a b; injection b with b c; rw [← a, ← b, ← c]; rfl, hB1.out⟩
      · have f2 : decide ((t : Int) < (n1 : Int)) = false := decide_eq_false (by omega)
        have rc := r3.out qq (by omega)
        have hr : ((t : Int) - n1).toNat = t - n1 := by omega
        rw [hr] at rc
        replace rc := Lib.hid rc
        clear q0 q1 qq r1 r2 r3 hz hr
        go_wp2_with fail
        go_loopw [8, 9] (fun k i wr => ∃ a b d r : Nat, k = .int .i64 b ∧ i = .int .i64 a ∧ a + d = n1 ∧ b + r = t ∧ Hid (pairFrom n1 d r = (x, y, z)) ∧ Hid (Below w.heap.size w wr)) (fun _ i _ => n1 - (intOf i).toNat)
        case atStart => exact ⟨0, n1, n1, t - n1, rfl, rfl, by omega, by omega, rc, hB1⟩
        case round =>
          clear rc
          obtain ⟨a, b, d, r, rfl, rfl, ha, hb, rc, hBr⟩ := hrel
          by_cases hd : a < n1
          · obtain ⟨d, rfl⟩ : ∃ e, d = e + 1 := ⟨d - 1, by omega⟩
            have d1 : decide ((a : Int) < (n1 : Int)) = true := decide_eq_true (by omega)
            have rc2 := rc.out
            rw [pairFrom_succ] at rc2
            replace rc := Lib.hid rc2
            clear rc2
            go_wp2_with fail
            go_loopw [8, 10] (fun k j wr => ∃ b c e r : Nat, k = .int .i64 b ∧ j = .int .i64 c ∧ c + e = n1 ∧ e ≤ d ∧ b + r = t ∧ Hid ((if r < e then ((a : Int), (c : Int) + r, true) else pairFrom n1 d (r - e)) = (x, y, z)) ∧ Hid (Below w.heap.size w wr)) (fun _ j _ => n1 - (intOf j).toNat)
            case atStart =>
              refine ⟨b, a + 1, d, r, rfl, by go_num, by omega, by omega, by omega, Lib.hid ?_, hBr⟩
              rw [← rc.out]
              have e1 : ((n1 : Int) - d - 1) = a := by omega
              have e2 : ((n1 : Int) - d + r) = ((a + 1 : Nat) : Int) + r := by omega
              rw [e1, e2]
            case round =>
              clear rc hb
              obtain ⟨b, c, e, r, rfl, rfl, hc, he, hb, rc, hBr⟩ := hrel
              by_cases hcn : c < n1
              · have d2 : decide ((c : Int) < (n1 : Int)) = true := decide_eq_true (by omega)
                by_cases hr : r = 0
                · subst hr
                  obtain rfl : b = t := by omega
                  have d3 : ((b : Int) == (b : Int)) = true := by simp
                  have rc2 := rc.out
                  rw [if_pos (by omega)] at rc2
                  replace rc := Lib.hid rc2
                  clear rc2
                  go_wp2_with fail
                  (try simp only [Exit.inBlock, Exit.then]); refine bodyPost_ret (results_tmp3 rfl _ _ _) rfl ?_
                  exact ⟨by injection rc.out with a b; injection b with b c; rw [← a, ← b, ← c]; simp, hBr.out⟩
                · have d3 : ((b : Int) == (t : Int)) = false := by simp; omega
                  have hs1 : (b : Int) + 1 ≤ 9223372036854775807 := by omega
                  have hx : Hid ((if r - 1 < e - 1 then ((a : Int), ((c + 1 : Nat) : Int) + ((r - 1 : Nat) : Int), true) else pairFrom n1 d (r - 1 - (e - 1))) = (x, y, z)) := by
                    refine Lib.hid ?_
                    rw [← rc.out]
                    by_cases hh : r < e
                    · rw [if_pos hh, if_pos (by omega)]
                      have e2 : ((c + 1 : Nat) : Int) + ((r - 1 : Nat) : Int) = (c : Int) + r := by omega
                      rw [e2]
                    · rw [if_neg hh, if_neg (by omega)]
                      have e2 : r - 1 - (e - 1) = r - e := by omega
                      rw [e2]
                  clear rc
                  go_wp2_with fail
                  go_roundw
                  case rel => exact ⟨b + 1, c + 1, e - 1, r - 1, by go_num, by go_num, by omega, by omega, by omega, hx, hBr⟩
                  case measure => simp [intOf]; omega
              · have d2 : decide ((c : Int) < (n1 : Int)) = false := decide_eq_false (by omega)
                have rc2 := rc.out
                rw [if_neg (by omega)] at rc2
                obtain rfl : e = 0 := by omega
                rw [Nat.sub_zero] at rc2
                replace rc := Lib.hid rc2
                clear rc2
                go_wp2_with fail
                go_roundw
                case rel => exact ⟨a + 1, b, d, r, by go_num, by go_num, by omega, by omega, rc, hBr⟩
                case measure => simp [intOf]; omega
          · have d1 : decide ((a : Int) < (n1 : Int)) = false := decide_eq_false (by omega)
            obtain rfl : d = 0 := by omega
            have rc2 := rc.out
            rw [pairFrom_zero] at rc2
            replace rc := Lib.hid rc2
            clear rc2
            go_wp2_with fail
            (try simp only [Exit.inBlock, Exit.then]); refine bodyPost_ret (results_tmp3 rfl _ _ _) rfl ?_
            exact ⟨by injection rc.out with a b; injection b with b c; rw [← a, ← b, ← c]; rfl, hBr.out⟩
  · have rc := Lib.hid (r1.out (.inl q0))
    have f0 : ((e0 : Int) != 0) = true := by simp; omega
    clear q0 r1 r2 r3 hz
    go_wp2_with fail
    (try simp only [Exit.inBlock, Exit.then]); refine bodyPost_ret (results_tmp3 rfl _ _ _) rfl ?_
    exact ⟨by injection rc.out with a b; injection b with b c; rw [← a, ← b, ← c]; rfl, hB1.out⟩
end Go.Proofs.Ytdeofifidjbolaa
namespace Go.Proofs.Ytdeofifidjbolaa
open Go.RowKit
set_option linter.unusedVariables false
set_option linter.unusedSimpArgs false

/-- What a valid product is. -/
theorem chk_facts {p : PD} (h : chk p = 0) : prodB p.code = true ∧ 2 ≤ p.n1 ∧ p.n1 ≤ 6 ∧ (∀ i, i < p.n1 → okM p.Q i) ∧ 1 ≤ p.tick ∧ p.tick ≤ 1000 ∧ -1000000 ≤ p.low ∧ p.low < p.high ∧ p.high ≤ 1000000 ∧ 0 ≤ p.wide ∧ p.wide ≤ p.high - p.low ∧ p.n2 = p.n1 := by
  obtain ⟨e1, e2, e3, e4, e5, e6, e7, e8, e9, T0, T1, T2, T3, T4, T5, T6, T7, T8, T9⟩ := chk_chain p
  cases a0 : prodB p.code
  · exact absurd (T0.1 a0) (by omega)
  have b0 := T0.2 a0
  by_cases a1 : p.n1 < 2 ∨ 6 < p.n1
  · exact absurd (T1.1 a1) (by omega)
  have b1 := T1.2 a1
  by_cases a2 : ∀ i, i < p.n1 → okM p.Q i
  case neg => exact absurd (T2.1 a2) (by omega)
  have b2 := T2.2 a2
  by_cases a3 : p.tick < 1 ∨ 1000 < p.tick ∨ p.low.tmod p.tick ≠ 0 ∨ p.high.tmod p.tick ≠ 0 ∨ p.wide.tmod p.tick ≠ 0
  · have := T3.1 a3; exact absurd h (by omega)
  have b3 := T3.2 a3
  by_cases a4 : ∀ i, i < p.n2 → (p.R i).tmod p.tick = 0
  case neg => have := T4.1 a4; exact absurd h (by omega)
  have b4 := T4.2 a4
  by_cases a5 : p.low < -1000000 ∨ p.high ≤ p.low ∨ 1000000 < p.high ∨ p.wide < 0 ∨ p.high - p.low < p.wide
  · have := T5.1 a5; exact absurd h (by omega)
  have b5 := T5.2 a5
  by_cases a6 : p.n2 ≠ p.n1
  · have := T6.1 a6; exact absurd h (by omega)
  have c1 : ¬ p.tick < 1 := fun h => a3 (.inl h)
  have c2 : ¬ 1000 < p.tick := fun h => a3 (.inr (.inl h))
  exact ⟨rfl, by omega, by omega, a2, by omega, by omega, by omega, by omega, by omega, by omega, by omega, by omega⟩
def priceL (p : PD) (inst x : Int) : Nat :=
  if chk p ≠ 0 then 1 else if inst < 0 ∨ (cntL p : Int) ≤ inst then 20 else if x.tmod p.tick ≠ 0 then 22 else
    if (legsL p inst).2.2 then (if x < -p.wide ∨ p.wide < x then 23 else 0) else (if x < p.low ∨ p.high < x then 23 else 0)

set_option maxRecDepth 100000 in
set_option maxHeartbeats 1600000 in
theorem RefPrice_any (p : PD) (inst x : Int) (w : World) (h : Hid (p.Ok w)) (hi : I64 inst) (hx : I64 x) :
    Calls Try.prog 48 #[p.val, .int .i64 inst, .int .i64 x] w fun e w' => e = .returned (.int .i64 (priceL p inst x)) ∧ Below w.heap.size w w' := by
  obtain ⟨e0, h0⟩ : ∃ e, chk p = e := ⟨_, rfl⟩
  obtain ⟨c0, h1⟩ : ∃ c, cntL p = c := ⟨_, rfl⟩
  obtain ⟨⟨a, b, z⟩, h2⟩ : ∃ c, legsL p inst = c := ⟨_, rfl⟩
  obtain ⟨v, g0⟩ : ∃ c, priceL p inst x = c := ⟨_, rfl⟩
  have g1 := g0
  unfold priceL at g1
  rw [h0, h1, h2] at g1
  replace g1 := Lib.hid g1
  rw [g0]
  have HC : Hid (∀ W, Below w.heap.size w W → Calls Try.prog 43 #[p.val] W fun e w' => e = .returned (.int .i64 e0) ∧ Below W.heap.size W w') := Lib.hid (fun W b => by rw [← h0]; exact RefCheck_any p W (Lib.hid (h.out.below b)))
  have HN : Hid (∀ W, Below w.heap.size w W → Calls Try.prog 36 #[p.val] W fun e w' => e = .returned (.int .i64 c0) ∧ Below W.heap.size W w') := Lib.hid (fun W b => by rw [← h1]; exact RefCount_any p W (Lib.hid (h.out.below b)))
  have HL : Hid (∀ W, Below w.heap.size w W → Calls Try.prog 44 #[p.val, .int .i64 inst] W fun e w' => e = .returned (.tuple #[.int .i64 a, .int .i64 b, .bool z]) ∧ Below W.heap.size W w') := Lib.hid (fun W b => by
    have := RefLegs_any p inst W (Lib.hid (h.out.below b)) hi
    rw [h2] at this
    exact this)
  obtain ⟨hi1, hi2⟩ := hi
  obtain ⟨hx1, hx2⟩ := hx
  obtain ⟨ti1, ti2⟩ := h.out.tick
  obtain ⟨lo1, lo2⟩ := h.out.low
  obtain ⟨hg1, hg2⟩ := h.out.high
  obtain ⟨wi1, wi2⟩ := h.out.wide
  have hz : e0 = 0 → _ := fun h => chk_facts (h0.trans h)
  replace hz := Lib.hid hz
  clear h0 h1 h2 g0
  obtain ⟨code, A1, n1, c1, tick, low, high, wide, rule, top, least, part, A2, n2, c2, Q, R⟩ := p
  simp only at g1 hz ti1 ti2 lo1 lo2 hg1 hg2 wi1 wi2
  show Calls Try.prog 48 #[.agg #[.string (str code), .slice A1 n1 c1, .int .i64 tick, .int .i64 low, .int .i64 high, .int .i64 wide, .int .i64 rule, .int .i64 top, .int .i64 least, .int .i64 part, .slice A2 n2 c2], .int .i64 inst, .int .i64 x] w _
  replace HC : Hid (∀ W, Below w.heap.size w W → Calls Try.prog 43 #[.agg #[.string (str code), .slice A1 n1 c1, .int .i64 tick, .int .i64 low, .int .i64 high, .int .i64 wide, .int .i64 rule, .int .i64 top, .int .i64 least, .int .i64 part, .slice A2 n2 c2]] W fun e w' => e = .returned (.int .i64 e0) ∧ Below W.heap.size W w') := HC
  replace HN : Hid (∀ W, Below w.heap.size w W → Calls Try.prog 36 #[.agg #[.string (str code), .slice A1 n1 c1, .int .i64 tick, .int .i64 low, .int .i64 high, .int .i64 wide, .int .i64 rule, .int .i64 top, .int .i64 least, .int .i64 part, .slice A2 n2 c2]] W fun e w' => e = .returned (.int .i64 c0) ∧ Below W.heap.size W w') := HN
  replace HL : Hid (∀ W, Below w.heap.size w W → Calls Try.prog 44 #[.agg #[.string (str code), .slice A1 n1 c1, .int .i64 tick, .int .i64 low, .int .i64 high, .int .i64 wide, .int .i64 rule, .int .i64 top, .int .i64 least, .int .i64 part, .slice A2 n2 c2], .int .i64 inst] W fun e w' => e = .returned (.tuple #[.int .i64 a, .int .i64 b, .bool z]) ∧ Below W.heap.size W w') := HL
  go_enter Try.func48, Try.ntmps48
  go_wp2_with fail
  obtain ⟨W0, eW0⟩ : ∃ W0, w.alloc (.cells #[.string (str code), .slice A1 n1 c1, .int .i64 tick, .int .i64 low, .int .i64 high, .int .i64 wide, .int .i64 rule, .int .i64 top, .int .i64 least, .int .i64 part, .slice A2 n2 c2] 25) = W0 := ⟨_, rfl⟩
  obtain ⟨pb, epb⟩ : ∃ pb, w.heap.size = pb := ⟨_, rfl⟩
  have hblk : W0.heap[pb]? = some (.cells #[.string (str code), .slice A1 n1 c1, .int .i64 tick, .int .i64 low, .int .i64 high, .int .i64 wide, .int .i64 rule, .int .i64 top, .int .i64 least, .int .i64 part, .slice A2 n2 c2] 25 (0, 0)) := by
    rw [← eW0, ← epb]; exact heap_alloc_new w _
  have hB0 : Below w.heap.size w W0 := by rw [← eW0]; exact (Below.refl _ w).alloc (Nat.le_refl _) _
  have hpb : pb < W0.heap.size := (Array.getElem?_eq_some_iff.1 hblk).1
  have hC := HC.out W0 hB0
  replace epb := Lib.hid epb
  rw [eW0]
  rw [epb.out]
  clear eW0
  refine hC.mono ?_
  rintro e w1 ⟨rfl, b1⟩
  have hblk1 : w1.heap[pb]? = _ := (b1.block pb hpb).trans hblk
  have hB1 := hB0.trans (b1.mono hB0.size)
  have hpb1 : pb < w1.heap.size := (Array.getElem?_eq_some_iff.1 hblk1).1
  have HB1 := Lib.hid hB1
  clear b1 hB0 hpb hC HC h hblk
  have kk : ∀ W : World, W.heap[pb]? = some (.cells #[.string (str code), .slice A1 n1 c1, .int .i64 tick, .int .i64 low, .int .i64 high, .int .i64 wide, .int .i64 rule, .int .i64 top, .int .i64 least, .int .i64 part, .slice A2 n2 c2] 25 (0, 0)) → W.cell? ⟨pb, 0, none⟩ = some (.string (str code)) ∧ W.cell? ⟨pb, 1, none⟩ = some (.slice A1 n1 c1) ∧ W.cell? ⟨pb, 2, none⟩ = some (.int .i64 tick) ∧ W.cell? ⟨pb, 3, none⟩ = some (.int .i64 low) ∧ W.cell? ⟨pb, 4, none⟩ = some (.int .i64 high) ∧ W.cell? ⟨pb, 5, none⟩ = some (.int .i64 wide) ∧ W.cell? ⟨pb, 6, none⟩ = some (.int .i64 rule) ∧ W.cell? ⟨pb, 7, none⟩ = some (.int .i64 top) ∧ W.cell? ⟨pb, 8, none⟩ = some (.int .i64 least) ∧ W.cell? ⟨pb, 9, none⟩ = some (.int .i64 part) ∧ W.cell? ⟨pb, 10, none⟩ = some (.slice A2 n2 c2) := by
    intro W hb
    refine ⟨?_, ?_, ?_, ?_, ?_, ?_, ?_, ?_, ?_, ?_, ?_⟩ <;> (rw [Lib.cell_of_heap hb]; rfl)
  replace kk := Lib.hid kk
  by_cases q0 : e0 = 0
  · subst q0
    obtain ⟨-, n2', n6, -, t1, t2, lw1, lh, hh1, wd1, wd2, -⟩ := hz.out rfl
    clear hz
    have f0 : (((0 : Nat) : Int) != 0) = false := by decide
    have rc := g1.out
    rw [if_neg (by decide)] at rc
    replace rc := Lib.hid rc
    by_cases q1 : inst < 0
    · have f1 : decide (inst < 0) = true := decide_eq_true q1
      have rc := rc.out
      rw [if_pos (.inl q1)] at rc
      replace rc := Lib.hid rc.symm
      clear hblk1 hB1
      go_wp2_with fail
      go_ret
      exact ⟨by rw [rc.out]; rfl, HB1.out⟩

    · have f1 : decide (inst < 0) = false := decide_eq_false q1
      obtain ⟨k0, k1, k2, k3, k4, k5, k6, k7, k8, k9, k10⟩ := kk.out w1 hblk1
      go_wp2_with fail
      refine (HN.out w1 hB1).mono ?_
      rintro e w2 ⟨rfl, b2⟩
      have hblk2 : w2.heap[pb]? = _ := (b2.block pb hpb1).trans hblk1
      have hB2 := hB1.trans (b2.mono hB1.size)
      have HB2 := Lib.hid hB2
      clear k0 k1 k2 k3 k4 k5 k6 k7 k8 k9 k10
      obtain ⟨k0, k1, k2, k3, k4, k5, k6, k7, k8, k9, k10⟩ := kk.out w2 hblk2
      have hpb2 : pb < w2.heap.size := (Array.getElem?_eq_some_iff.1 hblk2).1
      clear hblk1 hpb1 hB1 b2
      by_cases q2 : (c0 : Int) ≤ inst
      · have f2 : decide ((c0 : Int) ≤ inst) = true := decide_eq_true q2
        have rc := rc.out
        rw [if_pos (.inr q2)] at rc
        replace rc := Lib.hid rc.symm
        clear hblk2 hB2
        go_wp2_with fail
        go_ret
        exact ⟨by rw [rc.out]; rfl, HB2.out⟩

      · have f2 : decide ((c0 : Int) ≤ inst) = false := decide_eq_false q2
        have rc := rc.out
        rw [if_neg (by omega)] at rc
        replace rc := Lib.hid rc
        have hz : ¬ tick = 0 := by omega
        by_cases q3 : x.tmod tick ≠ 0
        · have f3 : (x.tmod tick != 0) = true := by simp; exact q3
          have rc := rc.out
          rw [if_pos q3] at rc
          replace rc := Lib.hid rc.symm
          clear hblk2 hB2 q3
          go_wp2_with fail
          go_ret
          exact ⟨by rw [rc.out]; rfl, HB2.out⟩

        · have f3 : (x.tmod tick != 0) = false := by simp; omega
          have rc := rc.out
          rw [if_neg q3] at rc
          replace rc := Lib.hid rc
          clear q3
          go_wp2_with fail
          refine (HL.out w2 hB2).mono ?_
          rintro e w3 ⟨rfl, b3⟩
          have hblk3 : w3.heap[pb]? = _ := (b3.block pb hpb2).trans hblk2
          have HB3 := Lib.hid (hB2.trans (b3.mono hB2.size))
          clear k0 k1 k2 k3 k4 k5 k6 k7 k8 k9 k10
          obtain ⟨k0, k1, k2, k3, k4, k5, k6, k7, k8, k9, k10⟩ := kk.out w3 hblk3
          clear hblk3 hblk2 hpb2 hB2 b3
          have nb1 : -9223372036854775808 ≤ -wide := by omega
          have nb2 : -wide ≤ 9223372036854775807 := by omega
          cases z
          · have RC := rc.out
            clear rc
            simp only [reduceIte, Bool.false_eq_true] at RC
            by_cases y1 : x < low
            · have a1 : decide (x < low) = true := decide_eq_true y1
              rw [if_pos (.inl y1)] at RC
              replace RC := Lib.hid RC.symm
              clear y1
              go_wp2_with fail
              go_ret
              exact ⟨by rw [RC.out]; rfl, HB3.out⟩
            · have a1 : decide (x < low) = false := decide_eq_false y1
              by_cases y2 : high < x
              · have a2 : decide (high < x) = true := decide_eq_true y2
                rw [if_pos (.inr y2)] at RC
                replace RC := Lib.hid RC.symm
                clear y1 y2
                go_wp2_with fail
                go_ret
                exact ⟨by rw [RC.out]; rfl, HB3.out⟩
              · have a2 : decide (high < x) = false := decide_eq_false y2
                rw [if_neg (by rintro (h | h) <;> contradiction)] at RC
                replace RC := Lib.hid RC.symm
                clear y1 y2
                go_wp2_with fail
                go_ret
                exact ⟨by rw [RC.out]; rfl, HB3.out⟩

          · have RC := rc.out
            clear rc
            simp only [reduceIte, Bool.false_eq_true] at RC
            by_cases y1 : x < -wide
            · have a1 : decide (x < -wide) = true := decide_eq_true y1
              rw [if_pos (.inl y1)] at RC
              replace RC := Lib.hid RC.symm
              clear y1
              go_wp2_with fail
              go_ret
              exact ⟨by rw [RC.out]; rfl, HB3.out⟩
            · have a1 : decide (x < -wide) = false := decide_eq_false y1
              by_cases y2 : wide < x
              · have a2 : decide (wide < x) = true := decide_eq_true y2
                rw [if_pos (.inr y2)] at RC
                replace RC := Lib.hid RC.symm
                clear y1 y2
                go_wp2_with fail
                go_ret
                exact ⟨by rw [RC.out]; rfl, HB3.out⟩
              · have a2 : decide (wide < x) = false := decide_eq_false y2
                rw [if_neg (by rintro (h | h) <;> contradiction)] at RC
                replace RC := Lib.hid RC.symm
                clear y1 y2
                go_wp2_with fail
                go_ret
                exact ⟨by rw [RC.out]; rfl, HB3.out⟩

  · have f0 : ((e0 : Int) != 0) = true := by simp; omega
    have rc := g1.out
    rw [if_pos q0] at rc
    replace rc := Lib.hid rc.symm
    clear q0 g1 hz hblk1 hB1
    go_wp2_with fail
    go_ret
    exact ⟨by rw [rc.out]; rfl, HB1.out⟩

end Go.Proofs.Ytdeofifidjbolaa
namespace Go.Proofs.Ytdeofifidjbolaa
open Go.RowKit
set_option linter.unusedVariables false
set_option linter.unusedSimpArgs false

/-- The first instrument from k on, d of them looked at, whose legs are near and far. -/
def spreadFrom (p : PD) (near far : Int) : Nat → Nat → Int × Bool
  | 0, _ => (0, false)
  | d + 1, k => if (legsL p k).1 = near ∧ (legsL p k).2.1 = far then ((k : Int), true) else spreadFrom p near far d (k + 1)
def spreadI (p : PD) (near far : Int) : Int × Bool := spreadFrom p near far (cntL p - p.n1) p.n1
theorem spreadFrom_zero (p : PD) (near far : Int) (k : Nat) : spreadFrom p near far 0 k = (0, false) := rfl
theorem spreadFrom_succ (p : PD) (near far : Int) (d k : Nat) : spreadFrom p near far (d + 1) k = if (legsL p k).1 = near ∧ (legsL p k).2.1 = far then ((k : Int), true) else spreadFrom p near far d (k + 1) := rfl
theorem cntL_le (p : PD) : cntL p ≤ 21 := by
  unfold cntL
  by_cases h : chk p = 0
  · rw [if_pos h]
    have := chk_zero h
    have cs : p.n1 = 2 ∨ p.n1 = 3 ∨ p.n1 = 4 ∨ p.n1 = 5 ∨ p.n1 = 6 := by omega
    rcases cs with h | h | h | h | h <;> rw [h] <;> decide
  · rw [if_neg h]; omega

set_option maxRecDepth 100000 in
set_option maxHeartbeats 1600000 in
theorem RefSpreads_any (p : PD) (near far : Int) (w : World) (h : Hid (p.Ok w)) (hn : I64 near) (hf : I64 far) :
    Calls Try.prog 47 #[p.val, .int .i64 near, .int .i64 far] w fun e w' => e = .returned (.tuple #[.int .i64 (spreadI p near far).1, .bool (spreadI p near far).2]) ∧ Below w.heap.size w w' := by
  obtain ⟨c0, h1⟩ : ∃ c, cntL p = c := ⟨_, rfl⟩
  obtain ⟨⟨x, y⟩, g0⟩ : ∃ c, spreadI p near far = c := ⟨_, rfl⟩
  rw [g0]
  obtain ⟨F, hF⟩ : ∃ F, spreadFrom p near far = F := ⟨_, rfl⟩
  have hF0 : ∀ k, F 0 k = (0, false) := fun k => by rw [← hF]; rfl
  have hFs : ∀ d k, F (d + 1) k = if (legsL p k).1 = near ∧ (legsL p k).2.1 = far then ((k : Int), true) else F d (k + 1) := fun d k => by rw [← hF]; rfl
  have g1 : F (c0 - p.n1) p.n1 = (x, y) := by rw [← g0, ← hF, ← h1]; rfl
  obtain ⟨L, hL⟩ : ∃ L, (fun k : Nat => legsL p k) = L := ⟨_, rfl⟩
  have hLk : ∀ k : Nat, legsL p k = L k := fun k => by rw [← hL]
  simp only [hLk] at hFs
  replace g1 := Lib.hid g1
  replace hF0 := Lib.hid hF0
  replace hFs := Lib.hid hFs
  have hc0 : c0 ≤ 21 := by rw [← h1]; exact cntL_le p
  have HN : Hid (∀ W, Below w.heap.size w W → Calls Try.prog 36 #[p.val] W fun e w' => e = .returned (.int .i64 c0) ∧ Below W.heap.size W w') := Lib.hid (fun W b => by rw [← h1]; exact RefCount_any p W (Lib.hid (h.out.below b)))
  have HL : Hid (∀ (k : Nat) W, k ≤ 1000 → Below w.heap.size w W → Calls Try.prog 44 #[p.val, .int .i64 k] W fun e w' => e = .returned (.tuple #[.int .i64 (L k).1, .int .i64 (L k).2.1, .bool (L k).2.2]) ∧ Below W.heap.size W w') := Lib.hid (fun k W hk b => by
    have := RefLegs_any p k W (Lib.hid (h.out.below b)) ⟨by omega, by omega⟩
    rw [hLk] at this
    exact this)
  obtain ⟨hn1, hn2⟩ := hn
  obtain ⟨hf1, hf2⟩ := hf
  have l1 := h.out.l1
  have m1 := h.out.m1
  clear h1 g0 hF hL hLk h
  obtain ⟨code, A1, n1, c1, tick, low, high, wide, rule, top, least, part, A2, n2, c2, Q, R⟩ := p
  simp only at g1 l1 m1
  show Calls Try.prog 47 #[.agg #[.string (str code), .slice A1 n1 c1, .int .i64 tick, .int .i64 low, .int .i64 high, .int .i64 wide, .int .i64 rule, .int .i64 top, .int .i64 least, .int .i64 part, .slice A2 n2 c2], .int .i64 near, .int .i64 far] w _
  replace HN : Hid (∀ W, Below w.heap.size w W → Calls Try.prog 36 #[.agg #[.string (str code), .slice A1 n1 c1, .int .i64 tick, .int .i64 low, .int .i64 high, .int .i64 wide, .int .i64 rule, .int .i64 top, .int .i64 least, .int .i64 part, .slice A2 n2 c2]] W fun e w' => e = .returned (.int .i64 c0) ∧ Below W.heap.size W w') := HN
  replace HL : Hid (∀ (k : Nat) W, k ≤ 1000 → Below w.heap.size w W → Calls Try.prog 44 #[.agg #[.string (str code), .slice A1 n1 c1, .int .i64 tick, .int .i64 low, .int .i64 high, .int .i64 wide, .int .i64 rule, .int .i64 top, .int .i64 least, .int .i64 part, .slice A2 n2 c2], .int .i64 k] W fun e w' => e = .returned (.tuple #[.int .i64 (L k).1, .int .i64 (L k).2.1, .bool (L k).2.2]) ∧ Below W.heap.size W w') := HL
  obtain ⟨W0, eW0⟩ : ∃ W0, w.alloc (.cells #[.string (str code), .slice A1 n1 c1, .int .i64 tick, .int .i64 low, .int .i64 high, .int .i64 wide, .int .i64 rule, .int .i64 top, .int .i64 least, .int .i64 part, .slice A2 n2 c2] 25) = W0 := ⟨_, rfl⟩
  obtain ⟨pb, epb⟩ : ∃ pb, w.heap.size = pb := ⟨_, rfl⟩
  have hblk : W0.heap[pb]? = some (.cells #[.string (str code), .slice A1 n1 c1, .int .i64 tick, .int .i64 low, .int .i64 high, .int .i64 wide, .int .i64 rule, .int .i64 top, .int .i64 least, .int .i64 part, .slice A2 n2 c2] 25 (0, 0)) := by
    rw [← eW0, ← epb]; exact heap_alloc_new w _
  have hB0 : Below w.heap.size w W0 := by rw [← eW0]; exact (Below.refl _ w).alloc (Nat.le_refl _) _
  have hpb : pb < W0.heap.size := (Array.getElem?_eq_some_iff.1 hblk).1
  have kk : ∀ W : World, W.heap[pb]? = some (.cells #[.string (str code), .slice A1 n1 c1, .int .i64 tick, .int .i64 low, .int .i64 high, .int .i64 wide, .int .i64 rule, .int .i64 top, .int .i64 least, .int .i64 part, .slice A2 n2 c2] 25 (0, 0)) → W.cell? ⟨pb, 0, none⟩ = some (.string (str code)) ∧ W.cell? ⟨pb, 1, none⟩ = some (.slice A1 n1 c1) ∧ W.cell? ⟨pb, 2, none⟩ = some (.int .i64 tick) ∧ W.cell? ⟨pb, 3, none⟩ = some (.int .i64 low) ∧ W.cell? ⟨pb, 4, none⟩ = some (.int .i64 high) ∧ W.cell? ⟨pb, 5, none⟩ = some (.int .i64 wide) ∧ W.cell? ⟨pb, 6, none⟩ = some (.int .i64 rule) ∧ W.cell? ⟨pb, 7, none⟩ = some (.int .i64 top) ∧ W.cell? ⟨pb, 8, none⟩ = some (.int .i64 least) ∧ W.cell? ⟨pb, 9, none⟩ = some (.int .i64 part) ∧ W.cell? ⟨pb, 10, none⟩ = some (.slice A2 n2 c2) := by
    intro W hb
    refine ⟨?_, ?_, ?_, ?_, ?_, ?_, ?_, ?_, ?_, ?_, ?_⟩ <;> (rw [Lib.cell_of_heap hb]; rfl)
  replace kk := Lib.hid kk
  go_enter Try.func47, Try.ntmps47
  replace eW0 := Lib.hid eW0
  have ka : (w.alloc (.cells #[.string (str code), .slice A1 n1 c1, .int .i64 tick, .int .i64 low, .int .i64 high, .int .i64 wide, .int .i64 rule, .int .i64 top, .int .i64 least, .int .i64 part, .slice A2 n2 c2] 25)).cell? ⟨w.heap.size, 1, none⟩ = some (.slice A1 n1 c1) := by
    rw [eW0.out, epb]; exact (kk.out W0 hblk).2.1
  replace epb := Lib.hid epb
  go_wp2_with fail
  rw [eW0.out]
  rw [epb.out]
  clear eW0 ka
  go_loopw [8] (fun k wr => ∃ a d : Nat, k = .int .i64 a ∧ n1 ≤ a ∧ (a + d = c0 ∨ (c0 ≤ a ∧ d = 0)) ∧ Hid (F d a = (x, y)) ∧ Hid (Below w.heap.size w wr) ∧ Hid (wr.heap[pb]? = some (.cells #[.string (str code), .slice A1 n1 c1, .int .i64 tick, .int .i64 low, .int .i64 high, .int .i64 wide, .int .i64 rule, .int .i64 top, .int .i64 least, .int .i64 part, .slice A2 n2 c2] 25 (0, 0)))) (fun k _ => c0 - (intOf k).toNat)
  case atStart =>
    exact ⟨n1, c0 - n1, rfl, by omega, by omega, g1, Lib.hid hB0, Lib.hid hblk⟩
  case round =>
    clear hblk hB0 hpb g1
    obtain ⟨a, d, rfl, ha, hd, rc, HB, hb⟩ := hrel
    obtain ⟨k0, k1, k2, k3, k4, k5, k6, k7, k8, k9, k10⟩ := kk.out _ hb.out
    have hB := HB.out
    have hpb := (Array.getElem?_eq_some_iff.1 hb.out).1
    have hd1 : a < c0 ∨ c0 ≤ a := by omega
    by_cases q1 : a < c0
    · obtain ⟨d, rfl⟩ : ∃ e, d = e + 1 := ⟨d - 1, by omega⟩
      have f1 : decide ((a : Int) < (c0 : Int)) = true := decide_eq_true (by omega)
      have rc2 := rc.out
      rw [hFs.out] at rc2
      replace rc := Lib.hid rc2
      clear rc2
      go_wp2_with fail
      refine (HN.out _ hB).mono ?_
      rintro e w2 ⟨rfl, b2⟩
      have hb2 : w2.heap[pb]? = _ := (b2.block pb hpb).trans hb.out
      have hB2 := hB.trans (b2.mono hB.size)
      have hpb2 : pb < w2.heap.size := (Array.getElem?_eq_some_iff.1 hb2).1
      clear k0 k1 k2 k3 k4 k5 k6 k7 k8 k9 k10
      obtain ⟨k0, k1, k2, k3, k4, k5, k6, k7, k8, k9, k10⟩ := kk.out w2 hb2
      clear hB hpb b2 HB hb
      go_wp2_with fail
      refine (HL.out a w2 (by omega) hB2).mono ?_
      rintro e w3 ⟨rfl, b3⟩
      have hb3 := Lib.hid (show w3.heap[pb]? = _ from (b3.block pb hpb2).trans hb2)
      have hB3 := Lib.hid (hB2.trans (b3.mono hB2.size))
      obtain ⟨⟨i, j, z⟩, hL⟩ : ∃ l, L a = l := ⟨_, rfl⟩
      rw [hL] at rc ⊢
      clear k0 k1 k2 k3 k4 k5 k6 k7 k8 k9 k10 hB2 hpb2 b3 hb2 hL
      simp only at rc
      by_cases q2 : i = near
      · have f2 : (i == near) = true := by simp; exact q2
        by_cases q3 : j = far
        · have f3 : (j == far) = true := by simp; exact q3
          have RC := rc.out
          rw [if_pos ⟨q2, q3⟩] at RC
          replace RC := Lib.hid RC
          clear rc q2 q3
          go_wp2_with fail
          go_ret2
          exact ⟨by injection RC.out with a b; rw [← a, ← b]; rfl, hB3.out⟩
        · have f3 : (j == far) = false := by simp; exact q3
          have RC := rc.out
          rw [if_neg (fun h => q3 h.2)] at RC
          replace RC := Lib.hid RC
          clear rc q2 q3
          go_wp2_with fail
          go_roundw
          case rel => exact ⟨a + 1, d, by go_num, by omega, by omega, RC, hB3, hb3⟩
          case measure => simp [intOf]; omega
      · have f2 : (i == near) = false := by simp; exact q2
        have RC := rc.out
        rw [if_neg (fun h => q2 h.1)] at RC
        replace RC := Lib.hid RC
        clear rc q2
        go_wp2_with fail
        go_roundw
        case rel => exact ⟨a + 1, d, by go_num, by omega, by omega, RC, hB3, hb3⟩
        case measure => simp [intOf]; omega
    · have f1 : decide ((a : Int) < (c0 : Int)) = false := decide_eq_false (by omega)
      obtain rfl : d = 0 := by omega
      have RC := rc.out
      rw [hF0.out] at RC
      replace RC := Lib.hid RC
      clear rc
      go_wp2_with fail
      refine (HN.out _ hB).mono ?_
      rintro e w2 ⟨rfl, b2⟩
      have hB2 := Lib.hid (hB.trans (b2.mono hB.size))
      clear k0 k1 k2 k3 k4 k5 k6 k7 k8 k9 k10 hB hpb b2 HB hb
      go_wp2_with fail
      go_ret2
      exact ⟨by injection RC.out with a b; rw [← a, ← b]; rfl, hB2.out⟩
end Go.Proofs.Ytdeofifidjbolaa
namespace Go.Proofs.Ytdeofifidjbolaa
open Go.RowKit
set_option linter.unusedVariables false
set_option linter.unusedSimpArgs false

theorem pairFrom_range : ∀ n, n < 7 → ∀ r, r < 15 → r < n * (n - 1) / 2 → 0 ≤ (pairFrom n n r).1 ∧ (pairFrom n n r).1 < (pairFrom n n r).2.1 ∧ (pairFrom n n r).2.1 < n ∧ (pairFrom n n r).2.2 = true := by decide
/-- The legs of an instrument. -/
theorem legs_range {p : PD} {inst : Int} (h : 0 ≤ inst) (h2 : inst < cntL p) : chk p = 0 ∧ ∃ i j : Nat, legsL p inst = ((i : Int), (j : Int), decide ((p.n1 : Int) ≤ inst)) ∧ i < p.n1 ∧ j < p.n1 := by
  unfold cntL at h2
  by_cases h0 : chk p = 0
  · rw [if_pos h0] at h2
    refine ⟨h0, ?_⟩
    unfold legsL
    have hn := chk_zero h0
    rw [if_neg (by omega)]
    by_cases q : inst < p.n1
    · rw [if_pos q, decide_eq_false (by omega)]
      exact ⟨inst.toNat, inst.toNat, by rw [Int.toNat_of_nonneg h], by omega, by omega⟩
    · rw [if_neg q, decide_eq_true (by omega)]
      have hr : (inst - p.n1).toNat < p.n1 * (p.n1 - 1) / 2 := by omega
      have hb : p.n1 * (p.n1 - 1) / 2 ≤ 15 := by
        have cs : p.n1 = 2 ∨ p.n1 = 3 ∨ p.n1 = 4 ∨ p.n1 = 5 ∨ p.n1 = 6 := by omega
        rcases cs with h | h | h | h | h <;> rw [h] <;> decide
      obtain ⟨g1, g2, g3, g4⟩ := pairFrom_range p.n1 (by omega) (inst - p.n1).toNat (by omega) hr
      obtain ⟨⟨x, y, z⟩, e⟩ : ∃ l, pairFrom p.n1 p.n1 (inst - p.n1).toNat = l := ⟨_, rfl⟩
      rw [e] at g1 g2 g3 g4 ⊢
      simp only at g1 g2 g3 g4
      subst g4
      exact ⟨x.toNat, y.toNat, by rw [Int.toNat_of_nonneg g1, Int.toNat_of_nonneg (by omega)], by omega, by omega⟩
  · rw [if_neg h0] at h2; omega
end Go.Proofs.Ytdeofifidjbolaa
