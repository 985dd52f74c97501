/-
  Contract: Short, of the keep.
-/
import Derived.Test.YtpfgmebajefjaaaKeepFit
namespace Go.Proofs.Ytpfgmebajefjaaa
open Go.RowKit
set_option linter.unusedVariables false
set_option linter.unusedSimpArgs false

/-- A product that is not too large. -/
def PD.short (p : PD) : PD := { p with code := p.code.take 20, n1 := if 8 < p.n1 then 8 else p.n1, n2 := if 8 < p.n2 then 8 else p.n2 }
theorem PD.Fit.short {p : PD} {w : World} (h : p.Fit w) : p.short.Ok w := by
  have a1 : (if 8 < p.n1 then 8 else p.n1) ≤ p.n1 := by split <;> omega
  have a2 : (if 8 < p.n2 then 8 else p.n2) ≤ p.n2 := by split <;> omega
  exact ⟨fun i hi => h.months i (Nat.lt_of_lt_of_le hi a1), fun i hi => h.settle i (Nat.lt_of_lt_of_le hi a2), by show (p.code.take 20).length ≤ _; rw [List.length_take]; omega,
    Nat.le_trans a1 h.l1, h.m1, Nat.le_trans a2 h.l2, h.m2, h.tick, h.low, h.high, h.wide, h.rule, h.top, h.least, h.part⟩

set_option maxRecDepth 100000 in
set_option maxHeartbeats 1600000 in
theorem Short_any (p : PD) (w : World) (h : Hid (p.Fit w)) :
    Calls Try.prog 11 #[p.val] w fun e w' => e = .returned p.short.val ∧ Below w.heap.size w w' := by
  have N1 := h.out.months
  have N2 := h.out.settle
  have l1 := h.out.l1
  have m1 := h.out.m1
  have l2 := h.out.l2
  have m2 := h.out.m2
  clear h
  obtain ⟨code, A1, n1, c1, tick, low, high, wide, rule, top, least, part, A2, n2, c2, Q, R⟩ := p
  simp only at N1 N2 l1 m1 l2 m2
  show Calls Try.prog 11 #[.agg #[.string (str code), .slice A1 n1 c1, .int .i64 tick, .int .i64 low, .int .i64 high, .int .i64 wide, .int .i64 rule, .int .i64 top, .int .i64 least, .int .i64 part, .slice A2 n2 c2]] w fun e w' => e = .returned (.agg #[.string (str (code.take 20)), .slice A1 (if 8 < n1 then 8 else n1) c1, .int .i64 tick, .int .i64 low, .int .i64 high, .int .i64 wide, .int .i64 rule, .int .i64 top, .int .i64 least, .int .i64 part, .slice A2 (if 8 < n2 then 8 else n2) c2]) ∧ Below w.heap.size w w'
  by_cases g1 : 8 < n1 <;> by_cases g2 : 8 < n2
  · rw [if_pos g1]
    obtain ⟨b1, o1, rfl, -, -, -⟩ := N1 0 (by omega)
    have d1 : decide ((8 : Int) < (n1 : Int)) = true := decide_eq_true (by omega)
    have q1 : 8 ≤ c1 := by omega
    rw [if_pos g2]
    obtain ⟨b2, o2, rfl, -, -, -⟩ := N2 0 (by omega)
    have d2 : decide ((8 : Int) < (n2 : Int)) = true := decide_eq_true (by omega)
    have q2 : 8 ≤ c2 := by omega
    clear g1 N1 g2 N2
    go_enter Try.func11, Try.ntmps11
    go_wp2_with fail
    refine (Head_any code 20 _ (by omega)).mono ?_
    rintro e w1 ⟨rfl, rfl⟩
    go_wp2_with fail
    (try simp only [Exit.inBlock, Exit.then])
    refine bodyPost_ret (results_cell_row rfl _ _ (w.heap.size + 1) 25 _ (0, 0) _ rfl (heap_alloc2_new w _ _) rfl rfl rfl) rfl ?_
    exact ⟨rfl, ((Below.refl _ w).alloc (Nat.le_refl _) _).alloc (by simp) _⟩
  · rw [if_pos g1]
    obtain ⟨b1, o1, rfl, -, -, -⟩ := N1 0 (by omega)
    have d1 : decide ((8 : Int) < (n1 : Int)) = true := decide_eq_true (by omega)
    have q1 : 8 ≤ c1 := by omega
    rw [if_neg g2]
    have d2 : decide ((8 : Int) < (n2 : Int)) = false := decide_eq_false (by omega)
    clear g1 N1 g2 N2
    go_enter Try.func11, Try.ntmps11
    go_wp2_with fail
    refine (Head_any code 20 _ (by omega)).mono ?_
    rintro e w1 ⟨rfl, rfl⟩
    go_wp2_with fail
    (try simp only [Exit.inBlock, Exit.then])
    refine bodyPost_ret (results_cell_row rfl _ _ (w.heap.size + 1) 25 _ (0, 0) _ rfl (heap_alloc2_new w _ _) rfl rfl rfl) rfl ?_
    exact ⟨rfl, ((Below.refl _ w).alloc (Nat.le_refl _) _).alloc (by simp) _⟩
  · rw [if_neg g1]
    have d1 : decide ((8 : Int) < (n1 : Int)) = false := decide_eq_false (by omega)
    rw [if_pos g2]
    obtain ⟨b2, o2, rfl, -, -, -⟩ := N2 0 (by omega)
    have d2 : decide ((8 : Int) < (n2 : Int)) = true := decide_eq_true (by omega)
    have q2 : 8 ≤ c2 := by omega
    clear g1 N1 g2 N2
    go_enter Try.func11, Try.ntmps11
    go_wp2_with fail
    refine (Head_any code 20 _ (by omega)).mono ?_
    rintro e w1 ⟨rfl, rfl⟩
    go_wp2_with fail
    (try simp only [Exit.inBlock, Exit.then])
    refine bodyPost_ret (results_cell_row rfl _ _ (w.heap.size + 1) 25 _ (0, 0) _ rfl (heap_alloc2_new w _ _) rfl rfl rfl) rfl ?_
    exact ⟨rfl, ((Below.refl _ w).alloc (Nat.le_refl _) _).alloc (by simp) _⟩
  · rw [if_neg g1]
    have d1 : decide ((8 : Int) < (n1 : Int)) = false := decide_eq_false (by omega)
    rw [if_neg g2]
    have d2 : decide ((8 : Int) < (n2 : Int)) = false := decide_eq_false (by omega)
    clear g1 N1 g2 N2
    go_enter Try.func11, Try.ntmps11
    go_wp2_with fail
    refine (Head_any code 20 _ (by omega)).mono ?_
    rintro e w1 ⟨rfl, rfl⟩
    go_wp2_with fail
    (try simp only [Exit.inBlock, Exit.then])
    refine bodyPost_ret (results_cell_row rfl _ _ (w.heap.size + 1) 25 _ (0, 0) _ rfl (heap_alloc2_new w _ _) rfl rfl rfl) rfl ?_
    exact ⟨rfl, ((Below.refl _ w).alloc (Nat.le_refl _) _).alloc (by simp) _⟩
end Go.Proofs.Ytpfgmebajefjaaa
