/-
  Contract: Price, of the document's own answer.
-/
import Derived.Test.YtpfgmebajefjaaaRefLegs
namespace Go.Proofs.Ytpfgmebajefjaaa
open Go.RowKit
set_option linter.unusedVariables false
set_option linter.unusedSimpArgs false

/-- What a valid product is. -/
theorem chk_facts {p : PD} (h : chk p = 0) : prodB p.code = true ∧ 2 ≤ p.n1 ∧ p.n1 ≤ 6 ∧ (∀ i, i < p.n1 → okM p.Q i) ∧ 1 ≤ p.tick ∧ p.tick ≤ 1000 ∧ -1000000 ≤ p.low ∧ p.low < p.high ∧ p.high ≤ 1000000 ∧ 0 ≤ p.wide ∧ p.wide ≤ p.high - p.low ∧ p.n2 = p.n1 := by
  obtain ⟨e1, e2, e3, e4, e5, e6, e7, e8, e9, T0, T1, T2, T3, T4, T5, T6, T7, T8, T9⟩ := chk_chain p
  cases a0 : prodB p.code
  · exact absurd (T0.1 a0) (by omega)
  have b0 := T0.2 a0
  by_cases a1 : p.n1 < 2 ∨ 6 < p.n1
  · exact absurd (T1.1 a1) (by omega)
  have b1 := T1.2 a1
  by_cases a2 : ∀ i, i < p.n1 → okM p.Q i
  case neg => exact absurd (T2.1 a2) (by omega)
  have b2 := T2.2 a2
  by_cases a3 : p.tick < 1 ∨ 1000 < p.tick ∨ p.low.tmod p.tick ≠ 0 ∨ p.high.tmod p.tick ≠ 0 ∨ p.wide.tmod p.tick ≠ 0
  · have := T3.1 a3; exact absurd h (by omega)
  have b3 := T3.2 a3
  by_cases a4 : ∀ i, i < p.n2 → (p.R i).tmod p.tick = 0
  case neg => have := T4.1 a4; exact absurd h (by omega)
  have b4 := T4.2 a4
  by_cases a5 : p.low < -1000000 ∨ p.high ≤ p.low ∨ 1000000 < p.high ∨ p.wide < 0 ∨ p.high - p.low < p.wide
  · have := T5.1 a5; exact absurd h (by omega)
  have b5 := T5.2 a5
  by_cases a6 : p.n2 ≠ p.n1
  · have := T6.1 a6; exact absurd h (by omega)
  have c1 : ¬ p.tick < 1 := fun h => a3 (.inl h)
  have c2 : ¬ 1000 < p.tick := fun h => a3 (.inr (.inl h))
  exact ⟨rfl, by omega, by omega, a2, by omega, by omega, by omega, by omega, by omega, by omega, by omega, by omega⟩
def priceL (p : PD) (inst x : Int) : Nat :=
  if chk p ≠ 0 then 1 else if inst < 0 ∨ (cntL p : Int) ≤ inst then 20 else if x.tmod p.tick ≠ 0 then 22 else
    if (legsL p inst).2.2 then (if x < -p.wide ∨ p.wide < x then 23 else 0) else (if x < p.low ∨ p.high < x then 23 else 0)

set_option maxRecDepth 100000 in
set_option maxHeartbeats 1600000 in
theorem RefPrice_any (p : PD) (inst x : Int) (w : World) (h : Hid (p.Ok w)) (hi : I64 inst) (hx : I64 x) :
    Calls Try.prog 27 #[p.val, .int .i64 inst, .int .i64 x] w fun e w' => e = .returned (.int .i64 (priceL p inst x)) ∧ Below w.heap.size w w' := by
  obtain ⟨e0, h0⟩ : ∃ e, chk p = e := ⟨_, rfl⟩
  obtain ⟨c0, h1⟩ : ∃ c, cntL p = c := ⟨_, rfl⟩
  obtain ⟨⟨a, b, z⟩, h2⟩ : ∃ c, legsL p inst = c := ⟨_, rfl⟩
  obtain ⟨v, g0⟩ : ∃ c, priceL p inst x = c := ⟨_, rfl⟩
  have g1 := g0
  unfold priceL at g1
  rw [h0, h1, h2] at g1
  replace g1 := Lib.hid g1
  rw [g0]
  have HC : Hid (∀ W, Below w.heap.size w W → Calls Try.prog 25 #[p.val] W fun e w' => e = .returned (.int .i64 e0) ∧ Below W.heap.size W w') := Lib.hid (fun W b => by rw [← h0]; exact RefCheck_any p W (Lib.hid (h.out.below b)))
  have HN : Hid (∀ W, Below w.heap.size w W → Calls Try.prog 37 #[p.val] W fun e w' => e = .returned (.int .i64 c0) ∧ Below W.heap.size W w') := Lib.hid (fun W b => by rw [← h1]; exact RefCount_any p W (Lib.hid (h.out.below b)))
  have HL : Hid (∀ W, Below w.heap.size w W → Calls Try.prog 26 #[p.val, .int .i64 inst] W fun e w' => e = .returned (.tuple #[.int .i64 a, .int .i64 b, .bool z]) ∧ Below W.heap.size W w') := Lib.hid (fun W b => by
    have := RefLegs_any p inst W (Lib.hid (h.out.below b)) hi
    rw [h2] at this
    exact this)
  obtain ⟨hi1, hi2⟩ := hi
  obtain ⟨hx1, hx2⟩ := hx
  obtain ⟨ti1, ti2⟩ := h.out.tick
  obtain ⟨lo1, lo2⟩ := h.out.low
  obtain ⟨hg1, hg2⟩ := h.out.high
  obtain ⟨wi1, wi2⟩ := h.out.wide
  have hz : e0 = 0 → _ := fun h => chk_facts (h0.trans h)
  replace hz := Lib.hid hz
  clear h0 h1 h2 g0
  obtain ⟨code, A1, n1, c1, tick, low, high, wide, rule, top, least, part, A2, n2, c2, Q, R⟩ := p
  simp only at g1 hz ti1 ti2 lo1 lo2 hg1 hg2 wi1 wi2
  show Calls Try.prog 27 #[.agg #[.string (str code), .slice A1 n1 c1, .int .i64 tick, .int .i64 low, .int .i64 high, .int .i64 wide, .int .i64 rule, .int .i64 top, .int .i64 least, .int .i64 part, .slice A2 n2 c2], .int .i64 inst, .int .i64 x] w _
  replace HC : Hid (∀ W, Below w.heap.size w W → Calls Try.prog 25 #[.agg #[.string (str code), .slice A1 n1 c1, .int .i64 tick, .int .i64 low, .int .i64 high, .int .i64 wide, .int .i64 rule, .int .i64 top, .int .i64 least, .int .i64 part, .slice A2 n2 c2]] W fun e w' => e = .returned (.int .i64 e0) ∧ Below W.heap.size W w') := HC
  replace HN : Hid (∀ W, Below w.heap.size w W → Calls Try.prog 37 #[.agg #[.string (str code), .slice A1 n1 c1, .int .i64 tick, .int .i64 low, .int .i64 high, .int .i64 wide, .int .i64 rule, .int .i64 top, .int .i64 least, .int .i64 part, .slice A2 n2 c2]] W fun e w' => e = .returned (.int .i64 c0) ∧ Below W.heap.size W w') := HN
  replace HL : Hid (∀ W, Below w.heap.size w W → Calls Try.prog 26 #[.agg #[.string (str code), .slice A1 n1 c1, .int .i64 tick, .int .i64 low, .int .i64 high, .int .i64 wide, .int .i64 rule, .int .i64 top, .int .i64 least, .int .i64 part, .slice A2 n2 c2], .int .i64 inst] W fun e w' => e = .returned (.tuple #[.int .i64 a, .int .i64 b, .bool z]) ∧ Below W.heap.size W w') := HL
  go_enter Try.func27, Try.ntmps27
  go_wp2_with fail
  obtain ⟨W0, eW0⟩ : ∃ W0, w.alloc (.cells #[.string (str code), .slice A1 n1 c1, .int .i64 tick, .int .i64 low, .int .i64 high, .int .i64 wide, .int .i64 rule, .int .i64 top, .int .i64 least, .int .i64 part, .slice A2 n2 c2] 25) = W0 := ⟨_, rfl⟩
  obtain ⟨pb, epb⟩ : ∃ pb, w.heap.size = pb := ⟨_, rfl⟩
  have hblk : W0.heap[pb]? = some (.cells #[.string (str code), .slice A1 n1 c1, .int .i64 tick, .int .i64 low, .int .i64 high, .int .i64 wide, .int .i64 rule, .int .i64 top, .int .i64 least, .int .i64 part, .slice A2 n2 c2] 25 (0, 0)) := by
    rw [← eW0, ← epb]; exact heap_alloc_new w _
  have hB0 : Below w.heap.size w W0 := by rw [← eW0]; exact (Below.refl _ w).alloc (Nat.le_refl _) _
  have hpb : pb < W0.heap.size := (Array.getElem?_eq_some_iff.1 hblk).1
  have hC := HC.out W0 hB0
  replace epb := Lib.hid epb
  rw [eW0]
  rw [epb.out]
  clear eW0
  refine hC.mono ?_
  rintro e w1 ⟨rfl, b1⟩
  have hblk1 : w1.heap[pb]? = _ := (b1.block pb hpb).trans hblk
  have hB1 := hB0.trans (b1.mono hB0.size)
  have hpb1 : pb < w1.heap.size := (Array.getElem?_eq_some_iff.1 hblk1).1
  have HB1 := Lib.hid hB1
  clear b1 hB0 hpb hC HC h hblk
  have kk : ∀ W : World, W.heap[pb]? = some (.cells #[.string (str code), .slice A1 n1 c1, .int .i64 tick, .int .i64 low, .int .i64 high, .int .i64 wide, .int .i64 rule, .int .i64 top, .int .i64 least, .int .i64 part, .slice A2 n2 c2] 25 (0, 0)) → W.cell? ⟨pb, 0, none⟩ = some (.string (str code)) ∧ W.cell? ⟨pb, 1, none⟩ = some (.slice A1 n1 c1) ∧ W.cell? ⟨pb, 2, none⟩ = some (.int .i64 tick) ∧ W.cell? ⟨pb, 3, none⟩ = some (.int .i64 low) ∧ W.cell? ⟨pb, 4, none⟩ = some (.int .i64 high) ∧ W.cell? ⟨pb, 5, none⟩ = some (.int .i64 wide) ∧ W.cell? ⟨pb, 6, none⟩ = some (.int .i64 rule) ∧ W.cell? ⟨pb, 7, none⟩ = some (.int .i64 top) ∧ W.cell? ⟨pb, 8, none⟩ = some (.int .i64 least) ∧ W.cell? ⟨pb, 9, none⟩ = some (.int .i64 part) ∧ W.cell? ⟨pb, 10, none⟩ = some (.slice A2 n2 c2) := by
    intro W hb
    refine ⟨?_, ?_, ?_, ?_, ?_, ?_, ?_, ?_, ?_, ?_, ?_⟩ <;> (rw [Lib.cell_of_heap hb]; rfl)
  replace kk := Lib.hid kk
  by_cases q0 : e0 = 0
  · subst q0
    obtain ⟨-, n2', n6, -, t1, t2, lw1, lh, hh1, wd1, wd2, -⟩ := hz.out rfl
    clear hz
    have f0 : (((0 : Nat) : Int) != 0) = false := by decide
    have rc := g1.out
    rw [if_neg (by decide)] at rc
    replace rc := Lib.hid rc
    by_cases q1 : inst < 0
    · have f1 : decide (inst < 0) = true := decide_eq_true q1
      have rc := rc.out
      rw [if_pos (.inl q1)] at rc
      replace rc := Lib.hid rc.symm
      clear hblk1 hB1
      go_wp2_with fail
      go_ret
      exact ⟨by rw [rc.out]; rfl, HB1.out⟩

    · have f1 : decide (inst < 0) = false := decide_eq_false q1
      obtain ⟨k0, k1, k2, k3, k4, k5, k6, k7, k8, k9, k10⟩ := kk.out w1 hblk1
      go_wp2_with fail
      refine (HN.out w1 hB1).mono ?_
      rintro e w2 ⟨rfl, b2⟩
      have hblk2 : w2.heap[pb]? = _ := (b2.block pb hpb1).trans hblk1
      have hB2 := hB1.trans (b2.mono hB1.size)
      have HB2 := Lib.hid hB2
      clear k0 k1 k2 k3 k4 k5 k6 k7 k8 k9 k10
      obtain ⟨k0, k1, k2, k3, k4, k5, k6, k7, k8, k9, k10⟩ := kk.out w2 hblk2
      have hpb2 : pb < w2.heap.size := (Array.getElem?_eq_some_iff.1 hblk2).1
      clear hblk1 hpb1 hB1 b2
      by_cases q2 : (c0 : Int) ≤ inst
      · have f2 : decide ((c0 : Int) ≤ inst) = true := decide_eq_true q2
        have rc := rc.out
        rw [if_pos (.inr q2)] at rc
        replace rc := Lib.hid rc.symm
        clear hblk2 hB2
        go_wp2_with fail
        go_ret
        exact ⟨by rw [rc.out]; rfl, HB2.out⟩

      · have f2 : decide ((c0 : Int) ≤ inst) = false := decide_eq_false q2
        have rc := rc.out
        rw [if_neg (by omega)] at rc
        replace rc := Lib.hid rc
        have hz : ¬ tick = 0 := by omega
        by_cases q3 : x.tmod tick ≠ 0
        · have f3 : (x.tmod tick != 0) = true := by simp; exact q3
          have rc := rc.out
          rw [if_pos q3] at rc
          replace rc := Lib.hid rc.symm
          clear hblk2 hB2 q3
          go_wp2_with fail
          go_ret
          exact ⟨by rw [rc.out]; rfl, HB2.out⟩

        · have f3 : (x.tmod tick != 0) = false := by simp; omega
          have rc := rc.out
          rw [if_neg q3] at rc
          replace rc := Lib.hid rc
          clear q3
          go_wp2_with fail
          refine (HL.out w2 hB2).mono ?_
          rintro e w3 ⟨rfl, b3⟩
          have hblk3 : w3.heap[pb]? = _ := (b3.block pb hpb2).trans hblk2
          have HB3 := Lib.hid (hB2.trans (b3.mono hB2.size))
          clear k0 k1 k2 k3 k4 k5 k6 k7 k8 k9 k10
          obtain ⟨k0, k1, k2, k3, k4, k5, k6, k7, k8, k9, k10⟩ := kk.out w3 hblk3
          clear hblk3 hblk2 hpb2 hB2 b3
          have nb1 : -9223372036854775808 ≤ -wide := by omega
          have nb2 : -wide ≤ 9223372036854775807 := by omega
          cases z
          · have RC := rc.out
            clear rc
            simp only [reduceIte, Bool.false_eq_true] at RC
            by_cases y1 : x < low
            · have a1 : decide (x < low) = true := decide_eq_true y1
              rw [if_pos (.inl y1)] at RC
              replace RC := Lib.hid RC.symm
              clear y1
              go_wp2_with fail
              go_ret
              exact ⟨by rw [RC.out]; rfl, HB3.out⟩
            · have a1 : decide (x < low) = false := decide_eq_false y1
              by_cases y2 : high < x
              · have a2 : decide (high < x) = true := decide_eq_true y2
                rw [if_pos (.inr y2)] at RC
                replace RC := Lib.hid RC.symm
                clear y1 y2
                go_wp2_with fail
                go_ret
                exact ⟨by rw [RC.out]; rfl, HB3.out⟩
              · have a2 : decide (high < x) = false := decide_eq_false y2
                rw [if_neg (by rintro (h | h) <;> contradiction)] at RC
                replace RC := Lib.hid RC.symm
                clear y1 y2
                go_wp2_with fail
                go_ret
                exact ⟨by rw [RC.out]; rfl, HB3.out⟩

          · have RC := rc.out
            clear rc
            simp only [reduceIte, Bool.false_eq_true] at RC
            by_cases y1 : x < -wide
            · have a1 : decide (x < -wide) = true := decide_eq_true y1
              rw [if_pos (.inl y1)] at RC
              replace RC := Lib.hid RC.symm
              clear y1
              go_wp2_with fail
              go_ret
              exact ⟨by rw [RC.out]; rfl, HB3.out⟩
            · have a1 : decide (x < -wide) = false := decide_eq_false y1
              by_cases y2 : wide < x
              · have a2 : decide (wide < x) = true := decide_eq_true y2
                rw [if_pos (.inr y2)] at RC
                replace RC := Lib.hid RC.symm
                clear y1 y2
                go_wp2_with fail
                go_ret
                exact ⟨by rw [RC.out]; rfl, HB3.out⟩
              · have a2 : decide (wide < x) = false := decide_eq_false y2
                rw [if_neg (by rintro (h | h) <;> contradiction)] at RC
                replace RC := Lib.hid RC.symm
                clear y1 y2
                go_wp2_with fail
                go_ret
                exact ⟨by rw [RC.out]; rfl, HB3.out⟩

  · have f0 : ((e0 : Int) != 0) = true := by simp; omega
    have rc := g1.out
    rw [if_pos q0] at rc
    replace rc := Lib.hid rc.symm
    clear q0 g1 hz hblk1 hB1
    go_wp2_with fail
    go_ret
    exact ⟨by rw [rc.out]; rfl, HB1.out⟩

end Go.Proofs.Ytpfgmebajefjaaa
