/-
  Contract: Legs, of the document's own answer.
-/
import Derived.Test.YtpfgmebajefjaaaRefCount
namespace Go.Proofs.Ytpfgmebajefjaaa
open Go.RowKit
set_option linter.unusedVariables false
set_option linter.unusedSimpArgs false

/-- Pair number r of those whose first index is n - d or above. -/
def pairFrom (n : Nat) : Nat → Nat → Int × Int × Bool
  | 0, _ => (0, 0, false)
  | d + 1, r => if r < d then ((n : Int) - d - 1, (n : Int) - d + r, true) else pairFrom n d (r - d)
def legsL (p : PD) (inst : Int) : Int × Int × Bool :=
  if chk p ≠ 0 ∨ inst < 0 then (0, 0, false) else if inst < p.n1 then (inst, inst, false) else pairFrom p.n1 p.n1 (inst - p.n1).toNat
theorem pairFrom_zero (n r : Nat) : pairFrom n 0 r = (0, 0, false) := rfl
theorem pairFrom_succ (n d r : Nat) : pairFrom n (d + 1) r = if r < d then ((n : Int) - d - 1, (n : Int) - d + r, true) else pairFrom n d (r - d) := rfl

theorem results_tmp3 {fn : Func} {a b c : Tmp} (h : fn.results = #[.tmp a, .tmp b, .tmp c]) (tmps : Array Value) (P : Program) (w : World) :
    (results fn tmps).run P w = .ok (.tuple #[tmps.getD a undef, tmps.getD b undef, tmps.getD c undef]) w := by
  simp [results, h]
set_option maxRecDepth 100000 in
set_option maxHeartbeats 1600000 in
theorem RefLegs_any (p : PD) (inst : Int) (w : World) (h : Hid (p.Ok w)) (hi : I64 inst) :
    Calls Try.prog 26 #[p.val, .int .i64 inst] w fun e w' => e = .returned (.tuple #[.int .i64 (legsL p inst).1, .int .i64 (legsL p inst).2.1, .bool (legsL p inst).2.2]) ∧ Below w.heap.size w w' := by
  obtain ⟨e0, h0⟩ : ∃ e, chk p = e := ⟨_, rfl⟩
  obtain ⟨⟨x, y, z⟩, g0⟩ : ∃ c, legsL p inst = c := ⟨_, rfl⟩
  have r1 : e0 ≠ 0 ∨ inst < 0 → (0, 0, false) = (x, y, z) := fun h => by rw [← g0]; unfold legsL; rw [if_pos (by rw [h0]; exact h)]
  have r2 : ¬ (e0 ≠ 0 ∨ inst < 0) → inst < p.n1 → (inst, inst, false) = (x, y, z) := fun h h2 => by rw [← g0]; unfold legsL; rw [if_neg (by rw [h0]; exact h), if_pos h2]
  have r3 : ¬ (e0 ≠ 0 ∨ inst < 0) → ¬ inst < p.n1 → pairFrom p.n1 p.n1 (inst - p.n1).toNat = (x, y, z) := fun h h2 => by rw [← g0]; unfold legsL; rw [if_neg (by rw [h0]; exact h), if_neg h2]
  replace r1 := Lib.hid r1
  replace r2 := Lib.hid r2
  replace r3 := Lib.hid r3
  rw [g0]
  have HC : Hid (∀ W, Below w.heap.size w W → Calls Try.prog 25 #[p.val] W fun e w' => e = .returned (.int .i64 e0) ∧ Below W.heap.size W w') := Lib.hid (fun W b => by rw [← h0]; exact RefCheck_any p W (Lib.hid (h.out.below b)))
  have l1 := h.out.l1
  have m1 := h.out.m1
  obtain ⟨hi1, hi2⟩ := hi
  have hz : e0 = 0 → 2 ≤ p.n1 ∧ p.n1 ≤ 6 := fun h => chk_zero (h0.trans h)
  replace hz := Lib.hid hz
  clear h0 g0
  obtain ⟨code, A1, n1, c1, tick, low, high, wide, rule, top, least, part, A2, n2, c2, Q, R⟩ := p
  simp only at r1 r2 r3 hz l1 m1
  show Calls Try.prog 26 #[.agg #[.string (str code), .slice A1 n1 c1, .int .i64 tick, .int .i64 low, .int .i64 high, .int .i64 wide, .int .i64 rule, .int .i64 top, .int .i64 least, .int .i64 part, .slice A2 n2 c2], .int .i64 inst] w _
  replace HC : Hid (∀ W, Below w.heap.size w W → Calls Try.prog 25 #[.agg #[.string (str code), .slice A1 n1 c1, .int .i64 tick, .int .i64 low, .int .i64 high, .int .i64 wide, .int .i64 rule, .int .i64 top, .int .i64 least, .int .i64 part, .slice A2 n2 c2]] W fun e w' => e = .returned (.int .i64 e0) ∧ Below W.heap.size W w') := HC
  go_enter Try.func26, Try.ntmps26
  go_wp2_with fail
  obtain ⟨W0, eW0⟩ : ∃ W0, w.alloc (.cells #[.string (str code), .slice A1 n1 c1, .int .i64 tick, .int .i64 low, .int .i64 high, .int .i64 wide, .int .i64 rule, .int .i64 top, .int .i64 least, .int .i64 part, .slice A2 n2 c2] 25) = W0 := ⟨_, rfl⟩
  obtain ⟨pb, epb⟩ : ∃ pb, w.heap.size = pb := ⟨_, rfl⟩
  have hblk : W0.heap[pb]? = some (.cells #[.string (str code), .slice A1 n1 c1, .int .i64 tick, .int .i64 low, .int .i64 high, .int .i64 wide, .int .i64 rule, .int .i64 top, .int .i64 least, .int .i64 part, .slice A2 n2 c2] 25 (0, 0)) := by
    rw [← eW0, ← epb]; exact heap_alloc_new w _
  have hB0 : Below w.heap.size w W0 := by rw [← eW0]; exact (Below.refl _ w).alloc (Nat.le_refl _) _
  have hpb : pb < W0.heap.size := (Array.getElem?_eq_some_iff.1 hblk).1
  have hC := HC.out W0 hB0
  replace epb := Lib.hid epb
  rw [eW0]
  rw [epb.out]
  clear eW0
  refine hC.mono ?_
  rintro e w1 ⟨rfl, b1⟩
  have hblk : w1.heap[pb]? = _ := (b1.block pb hpb).trans hblk
  have hB1 := Lib.hid (hB0.trans (b1.mono hB0.size))
  have k1 : w1.cell? ⟨pb, 1, none⟩ = some (.slice A1 n1 c1) := by rw [Lib.cell_of_heap hblk]; rfl
  clear hblk b1 hB0 hpb hC HC h
  by_cases q0 : e0 = 0
  · obtain ⟨n2', n6⟩ := hz.out q0
    have f0 : ((e0 : Int) != 0) = false := by simp; omega
    by_cases q1 : inst < 0
    · have rc := Lib.hid (r1.out (.inr q1))
      have f1 : decide (inst < 0) = true := decide_eq_true q1
      clear q0 q1 r1 r2 r3 hz
      go_wp2_with fail
      (try simp only [Exit.inBlock, Exit.then]); refine bodyPost_ret (results_tmp3 rfl _ _ _) rfl ?_
      exact ⟨by injection rc.out with a b; injection b with b c; rw [← a, ← b, ← c]; rfl, hB1.out⟩
    · have f1 : decide (inst < 0) = false := decide_eq_false q1
      have qq : ¬ (e0 ≠ 0 ∨ inst < 0) := by omega
      obtain ⟨t, rfl⟩ : ∃ t : Nat, inst = t := ⟨inst.toNat, by omega⟩
      by_cases q2 : t < n1
      · have f2 : decide ((t : Int) < (n1 : Int)) = true := decide_eq_true (by omega)
        have rc := Lib.hid (r2.out qq (by omega))
        clear q0 q1 qq r1 r2 r3 hz
        go_wp2_with fail
        (try simp only [Exit.inBlock, Exit.then]); refine bodyPost_ret (results_tmp3 rfl _ _ _) rfl ?_
        exact ⟨by injection rc.out with a b; injection b with b c; rw [← a, ← b, ← c]; rfl, hB1.out⟩
      · have f2 : decide ((t : Int) < (n1 : Int)) = false := decide_eq_false (by omega)
        have rc := r3.out qq (by omega)
        have hr : ((t : Int) - n1).toNat = t - n1 := by omega
        rw [hr] at rc
        replace rc := Lib.hid rc
        clear q0 q1 qq r1 r2 r3 hz hr
        go_wp2_with fail
        go_loopw [8, 9] (fun k i wr => ∃ a b d r : Nat, k = .int .i64 b ∧ i = .int .i64 a ∧ a + d = n1 ∧ b + r = t ∧ Hid (pairFrom n1 d r = (x, y, z)) ∧ Hid (Below w.heap.size w wr)) (fun _ i _ => n1 - (intOf i).toNat)
        case atStart => exact ⟨0, n1, n1, t - n1, rfl, rfl, by omega, by omega, rc, hB1⟩
        case round =>
          clear rc
          obtain ⟨a, b, d, r, rfl, rfl, ha, hb, rc, hBr⟩ := hrel
          by_cases hd : a < n1
          · obtain ⟨d, rfl⟩ : ∃ e, d = e + 1 := ⟨d - 1, by omega⟩
            have d1 : decide ((a : Int) < (n1 : Int)) = true := decide_eq_true (by omega)
            have rc2 := rc.out
            rw [pairFrom_succ] at rc2
            replace rc := Lib.hid rc2
            clear rc2
            go_wp2_with fail
            go_loopw [8, 10] (fun k j wr => ∃ b c e r : Nat, k = .int .i64 b ∧ j = .int .i64 c ∧ c + e = n1 ∧ e ≤ d ∧ b + r = t ∧ Hid ((if r < e then ((a : Int), (c : Int) + r, true) else pairFrom n1 d (r - e)) = (x, y, z)) ∧ Hid (Below w.heap.size w wr)) (fun _ j _ => n1 - (intOf j).toNat)
            case atStart =>
              refine ⟨b, a + 1, d, r, rfl, by go_num, by omega, by omega, by omega, Lib.hid ?_, hBr⟩
              rw [← rc.out]
              have e1 : ((n1 : Int) - d - 1) = a := by omega
              have e2 : ((n1 : Int) - d + r) = ((a + 1 : Nat) : Int) + r := by omega
              rw [e1, e2]
            case round =>
              clear rc hb
              obtain ⟨b, c, e, r, rfl, rfl, hc, he, hb, rc, hBr⟩ := hrel
              by_cases hcn : c < n1
              · have d2 : decide ((c : Int) < (n1 : Int)) = true := decide_eq_true (by omega)
                by_cases hr : r = 0
                · subst hr
                  obtain rfl : b = t := by omega
                  have d3 : ((b : Int) == (b : Int)) = true := by simp
                  have rc2 := rc.out
                  rw [if_pos (by omega)] at rc2
                  replace rc := Lib.hid rc2
                  clear rc2
                  go_wp2_with fail
                  (try simp only [Exit.inBlock, Exit.then]); refine bodyPost_ret (results_tmp3 rfl _ _ _) rfl ?_
                  exact ⟨by injection rc.out with a b; injection b with b c; rw [← a, ← b, ← c]; simp, hBr.out⟩
                · have d3 : ((b : Int) == (t : Int)) = false := by simp; omega
                  have hs1 : (b : Int) + 1 ≤ 9223372036854775807 := by omega
                  have hx : Hid ((if r - 1 < e - 1 then ((a : Int), ((c + 1 : Nat) : Int) + ((r - 1 : Nat) : Int), true) else pairFrom n1 d (r - 1 - (e - 1))) = (x, y, z)) := by
                    refine Lib.hid ?_
                    rw [← rc.out]
                    by_cases hh : r < e
                    · rw [if_pos hh, if_pos (by omega)]
                      have e2 : ((c + 1 : Nat) : Int) + ((r - 1 : Nat) : Int) = (c : Int) + r := by omega
                      rw [e2]
                    · rw [if_neg hh, if_neg (by omega)]
                      have e2 : r - 1 - (e - 1) = r - e := by omega
                      rw [e2]
                  clear rc
                  go_wp2_with fail
                  go_roundw
                  case rel => exact ⟨b + 1, c + 1, e - 1, r - 1, by go_num, by go_num, by omega, by omega, by omega, hx, hBr⟩
                  case measure => simp [intOf]; omega
              · have d2 : decide ((c : Int) < (n1 : Int)) = false := decide_eq_false (by omega)
                have rc2 := rc.out
                rw [if_neg (by omega)] at rc2
                obtain rfl : e = 0 := by omega
                rw [Nat.sub_zero] at rc2
                replace rc := Lib.hid rc2
                clear rc2
                go_wp2_with fail
                go_roundw
                case rel => exact ⟨a + 1, b, d, r, by go_num, by go_num, by omega, by omega, rc, hBr⟩
                case measure => simp [intOf]; omega
          · have d1 : decide ((a : Int) < (n1 : Int)) = false := decide_eq_false (by omega)
            obtain rfl : d = 0 := by omega
            have rc2 := rc.out
            rw [pairFrom_zero] at rc2
            replace rc := Lib.hid rc2
            clear rc2
            go_wp2_with fail
            (try simp only [Exit.inBlock, Exit.then]); refine bodyPost_ret (results_tmp3 rfl _ _ _) rfl ?_
            exact ⟨by injection rc.out with a b; injection b with b c; rw [← a, ← b, ← c]; rfl, hBr.out⟩
  · have rc := Lib.hid (r1.out (.inl q0))
    have f0 : ((e0 : Int) != 0) = true := by simp; omega
    clear q0 r1 r2 r3 hz
    go_wp2_with fail
    (try simp only [Exit.inBlock, Exit.then]); refine bodyPost_ret (results_tmp3 rfl _ _ _) rfl ?_
    exact ⟨by injection rc.out with a b; injection b with b c; rw [← a, ← b, ← c]; rfl, hB1.out⟩
end Go.Proofs.Ytpfgmebajefjaaa
