/-
  Contract: Count, of the document's own answer.
-/
import Derived.Test.YtpfgmebajefjaaaRefCheck
namespace Go.Proofs.Ytpfgmebajefjaaa
open Go.RowKit
set_option linter.unusedVariables false
set_option linter.unusedSimpArgs false

theorem chk_zero {p : PD} (h : chk p = 0) : 2 ≤ p.n1 ∧ p.n1 ≤ 6 := by
  unfold chk at h
  split at h
  · exact absurd h (by decide)
  · unfold chk1 at h
    split at h
    · exact absurd h (by decide)
    · omega
/-- How many instruments. -/
def cntL (p : PD) : Nat := if chk p = 0 then p.n1 + p.n1 * (p.n1 - 1) / 2 else 0

set_option maxRecDepth 100000 in
set_option maxHeartbeats 1600000 in
theorem RefCount_any (p : PD) (w : World) (h : Hid (p.Ok w)) :
    Calls Try.prog 37 #[p.val] w fun e w' => e = .returned (.int .i64 (cntL p)) ∧ Below w.heap.size w w' := by
  obtain ⟨e0, h0⟩ : ∃ e, chk p = e := ⟨_, rfl⟩
  obtain ⟨c0, g0⟩ : ∃ c, cntL p = c := ⟨_, rfl⟩
  have r1 : e0 ≠ 0 → c0 = 0 := fun h => by rw [← g0]; unfold cntL; rw [if_neg (by rw [h0]; exact h)]
  have r2 : e0 = 0 → c0 = p.n1 + p.n1 * (p.n1 - 1) / 2 ∧ 2 ≤ p.n1 ∧ p.n1 ≤ 6 := fun h => ⟨by rw [← g0]; unfold cntL; rw [if_pos (by rw [h0]; exact h)], chk_zero (h0.trans h)⟩
  replace r1 := Lib.hid r1
  replace r2 := Lib.hid r2
  rw [g0]
  have HC : Hid (∀ W, Below w.heap.size w W → Calls Try.prog 25 #[p.val] W fun e w' => e = .returned (.int .i64 e0) ∧ Below W.heap.size W w') := Lib.hid (fun W b => by rw [← h0]; exact RefCheck_any p W (Lib.hid (h.out.below b)))
  have l1 := h.out.l1
  have m1 := h.out.m1
  clear h0 g0
  obtain ⟨code, A1, n1, c1, tick, low, high, wide, rule, top, least, part, A2, n2, c2, Q, R⟩ := p
  simp only at r1 r2 l1 m1
  show Calls Try.prog 37 #[.agg #[.string (str code), .slice A1 n1 c1, .int .i64 tick, .int .i64 low, .int .i64 high, .int .i64 wide, .int .i64 rule, .int .i64 top, .int .i64 least, .int .i64 part, .slice A2 n2 c2]] w _
  replace HC : Hid (∀ W, Below w.heap.size w W → Calls Try.prog 25 #[.agg #[.string (str code), .slice A1 n1 c1, .int .i64 tick, .int .i64 low, .int .i64 high, .int .i64 wide, .int .i64 rule, .int .i64 top, .int .i64 least, .int .i64 part, .slice A2 n2 c2]] W fun e w' => e = .returned (.int .i64 e0) ∧ Below W.heap.size W w') := HC
  go_enter Try.func37, Try.ntmps37
  go_wp2_with fail
  obtain ⟨W0, eW0⟩ : ∃ W0, w.alloc (.cells #[.string (str code), .slice A1 n1 c1, .int .i64 tick, .int .i64 low, .int .i64 high, .int .i64 wide, .int .i64 rule, .int .i64 top, .int .i64 least, .int .i64 part, .slice A2 n2 c2] 25) = W0 := ⟨_, rfl⟩
  obtain ⟨pb, epb⟩ : ∃ pb, w.heap.size = pb := ⟨_, rfl⟩
  have hblk : W0.heap[pb]? = some (.cells #[.string (str code), .slice A1 n1 c1, .int .i64 tick, .int .i64 low, .int .i64 high, .int .i64 wide, .int .i64 rule, .int .i64 top, .int .i64 least, .int .i64 part, .slice A2 n2 c2] 25 (0, 0)) := by
    rw [← eW0, ← epb]; exact heap_alloc_new w _
  have hB0 : Below w.heap.size w W0 := by rw [← eW0]; exact (Below.refl _ w).alloc (Nat.le_refl _) _
  have hpb : pb < W0.heap.size := (Array.getElem?_eq_some_iff.1 hblk).1
  have hC := HC.out W0 hB0
  replace epb := Lib.hid epb
  rw [eW0]
  rw [epb.out]
  clear eW0
  refine hC.mono ?_
  rintro e w1 ⟨rfl, b1⟩
  have hblk : w1.heap[pb]? = _ := (b1.block pb hpb).trans hblk
  have hB1 := Lib.hid (hB0.trans (b1.mono hB0.size))
  have k1 : w1.cell? ⟨pb, 1, none⟩ = some (.slice A1 n1 c1) := by rw [Lib.cell_of_heap hblk]; rfl
  clear hblk b1 hB0 hpb hC HC h
  by_cases q0 : e0 = 0
  · obtain ⟨rc, n2', n6⟩ := r2.out q0
    replace rc := Lib.hid rc
    have f0 : ((e0 : Int) != 0) = false := by simp; omega
    clear q0 r1 r2
    have cs : n1 = 2 ∨ n1 = 3 ∨ n1 = 4 ∨ n1 = 5 ∨ n1 = 6 := by omega
    rcases cs with rfl | rfl | rfl | rfl | rfl <;>
    · go_wp2_with fail
      go_ret
      exact ⟨by rw [rc.out]; rfl, hB1.out⟩
  · have rc := Lib.hid (r1.out q0)
    have f0 : ((e0 : Int) != 0) = true := by simp; omega
    clear q0 r1 r2
    go_wp2_with fail
    go_ret
    exact ⟨by rw [rc.out]; rfl, hB1.out⟩
end Go.Proofs.Ytpfgmebajefjaaa
