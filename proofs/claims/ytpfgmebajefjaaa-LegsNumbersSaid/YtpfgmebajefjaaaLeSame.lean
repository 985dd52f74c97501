/-
  Contract: law 15's same says yes.
-/
import Derived.Test.YtpfgmebajefjaaaLePrices
import Derived.Test.YtpfgmebajefjaaaLeRef
namespace Go.Proofs.Ytpfgmebajefjaaa
open Go.RowKit
set_option linter.unusedVariables false
set_option linter.unusedSimpArgs false

set_option maxRecDepth 100000 in
set_option maxHeartbeats 1600000 in
theorem Same_yes (p : PD) (inst x : Int) (w : World) (h : Hid (p.Ok w)) (hi : I64 inst) (hx : I64 x) :
    Calls Try.prog 8 #[p.val, .int .i64 inst, .int .i64 x] w fun e w' => e = .returned (.bool true) ∧ Below w.heap.size w w' := by
  obtain ⟨⟨u1, u2, u3⟩, hu⟩ : ∃ u, pricesL p inst x = u := ⟨_, rfl⟩
  have HP : Hid (∀ W, Below w.heap.size w W → Calls Try.prog 9 #[p.val, .int .i64 inst, .int .i64 x] W fun e w' => e = .returned (.tuple #[.int .i64 u1, .int .i64 u2, .int .i64 (u3 : Nat)]) ∧ Below W.heap.size W w') := Lib.hid (fun W b => by have := PPrices_any p inst x W (Lib.hid (h.out.below b)) hi hx; rw [hu] at this; exact this)
  have HR : Hid (∀ W, Below w.heap.size w W → Calls Try.prog 16 #[p.val, .int .i64 inst, .int .i64 x] W fun e w' => e = .returned (.tuple #[.int .i64 u1, .int .i64 u2, .int .i64 (u3 : Nat)]) ∧ Below W.heap.size W w') := Lib.hid (fun W b => by have := RPrices_any p inst x W (Lib.hid (h.out.below b)) hi hx; rw [hu] at this; exact this)
  clear hu h
  obtain ⟨code, A1, n1, c1, tick, low, high, wide, rule, top, least, part, A2, n2, c2, Q, R⟩ := p
  replace HP : Hid (∀ W, Below w.heap.size w W → Calls Try.prog 9 #[.agg #[.string (str code), .slice A1 n1 c1, .int .i64 tick, .int .i64 low, .int .i64 high, .int .i64 wide, .int .i64 rule, .int .i64 top, .int .i64 least, .int .i64 part, .slice A2 n2 c2], .int .i64 inst, .int .i64 x] W fun e w' => e = .returned (.tuple #[.int .i64 u1, .int .i64 u2, .int .i64 (u3 : Nat)]) ∧ Below W.heap.size W w') := HP
  replace HR : Hid (∀ W, Below w.heap.size w W → Calls Try.prog 16 #[.agg #[.string (str code), .slice A1 n1 c1, .int .i64 tick, .int .i64 low, .int .i64 high, .int .i64 wide, .int .i64 rule, .int .i64 top, .int .i64 least, .int .i64 part, .slice A2 n2 c2], .int .i64 inst, .int .i64 x] W fun e w' => e = .returned (.tuple #[.int .i64 u1, .int .i64 u2, .int .i64 (u3 : Nat)]) ∧ Below W.heap.size W w') := HR
  show Calls Try.prog 8 #[.agg #[.string (str code), .slice A1 n1 c1, .int .i64 tick, .int .i64 low, .int .i64 high, .int .i64 wide, .int .i64 rule, .int .i64 top, .int .i64 least, .int .i64 part, .slice A2 n2 c2], .int .i64 inst, .int .i64 x] w _
  obtain ⟨W0, eW0⟩ : ∃ W0, w.alloc (.cells #[.string (str code), .slice A1 n1 c1, .int .i64 tick, .int .i64 low, .int .i64 high, .int .i64 wide, .int .i64 rule, .int .i64 top, .int .i64 least, .int .i64 part, .slice A2 n2 c2] 25) = W0 := ⟨_, rfl⟩
  obtain ⟨pb, epb⟩ : ∃ pb, w.heap.size = pb := ⟨_, rfl⟩
  have hblk0 : Hid (W0.heap[pb]? = some (.cells #[.string (str code), .slice A1 n1 c1, .int .i64 tick, .int .i64 low, .int .i64 high, .int .i64 wide, .int .i64 rule, .int .i64 top, .int .i64 least, .int .i64 part, .slice A2 n2 c2] 25 (0, 0))) := Lib.hid (by rw [← eW0, ← epb]; exact heap_alloc_new w _)
  have hB0 : Hid (Below w.heap.size w W0) := Lib.hid (by rw [← eW0]; exact (Below.refl _ w).alloc (Nat.le_refl _) _)
  replace eW0 := Lib.hid eW0
  replace epb := Lib.hid epb
  go_enter Try.func8, Try.ntmps8
  have hbW0 := hblk0
  have BW0 := hB0
  obtain ⟨k0, k1, k2, k3, k4, k5, k6, k7, k8, k9, k10⟩ := row11 hbW0.out
  clear hblk0 hB0
  go_upto_region 1 with (fail)
  rw [eW0.out, epb.out]
  clear eW0 epb
  go_wp2_with fail
  refine (HP.out W0 BW0.out).mono ?_
  rintro e w1 ⟨rfl, bb⟩
  have hbw1 := Lib.hid (pd_blk' hbW0.out bb)
  have Bw1 := Lib.hid (below_top' BW0.out bb)
  clear k0 k1 k2 k3 k4 k5 k6 k7 k8 k9 k10 bb hbW0 BW0
  obtain ⟨k0, k1, k2, k3, k4, k5, k6, k7, k8, k9, k10⟩ := row11 hbw1.out
  clear HP
  go_wp2_with fail
  refine (HR.out w1 Bw1.out).mono ?_
  rintro e w2 ⟨rfl, bb⟩
  have hbw2 := Lib.hid (pd_blk' hbw1.out bb)
  have Bw2 := Lib.hid (below_top' Bw1.out bb)
  clear k0 k1 k2 k3 k4 k5 k6 k7 k8 k9 k10 bb hbw1 Bw1
  obtain ⟨k0, k1, k2, k3, k4, k5, k6, k7, k8, k9, k10⟩ := row11 hbw2.out
  clear HR
  have f1 : (u1 == u1) = true := beq_self_eq_true _
  have f2 : (u2 == u2) = true := beq_self_eq_true _
  have f3 : ((u3 : Int) == (u3 : Int)) = true := beq_self_eq_true _
  go_wp2_with fail
  go_ret
  exact ⟨rfl, Bw2.out⟩
end Go.Proofs.Ytpfgmebajefjaaa
