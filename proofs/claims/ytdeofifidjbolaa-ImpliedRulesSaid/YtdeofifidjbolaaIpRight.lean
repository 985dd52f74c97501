/-
  Can there be quotes at all: right of the program.
-/
import Derived.Test.YtdeofifidjbolaaImAll
import Derived.Test.YtdeofifidjbolaaGcRd
namespace Go.Proofs.Ytdeofifidjbolaa
open Go.RowKit
set_option linter.unusedVariables false
set_option linter.unusedSimpArgs false

set_option maxRecDepth 100000 in
set_option maxHeartbeats 8000000 in
theorem PRight_any (p : PD) (AT : Option Addr) (nT cT : Nat) (inst side : Int) (w : World) (hp : Hid (p.Ok w)) (hi : I64 inst) (hs : I64 side) (hn : nT ≤ 9223372036854775807) :
    Calls Try.prog 32 #[p.val, .slice AT nT cT, .int .i64 inst, .int .i64 side] w fun e w' => e = .returned (.bool (askB p nT inst side)) ∧ Below w.heap.size w w' := by
  have hno := askB_iff p nT inst side
  obtain ⟨A, eA⟩ : ∃ A, askB p nT inst side = A := ⟨_, rfl⟩
  rw [eA] at hno ⊢
  clear eA
  have hcl := cntL_le p
  obtain ⟨i1, i2⟩ := hi
  obtain ⟨s1, s2⟩ := hs
  obtain ⟨e0, he0⟩ : ∃ e, chk p = e := ⟨_, rfl⟩
  obtain ⟨c0, hc0⟩ : ∃ c, cntL p = c := ⟨_, rfl⟩
  have HC : Hid (∀ W, Below w.heap.size w W → Calls Try.prog 39 #[p.val] W fun e w' => e = .returned (.int .i64 (e0 : Int)) ∧ Below W.heap.size W w') := Lib.hid (fun W b => by have := PCheck_any p W (Lib.hid (hp.out.below b)); rw [he0] at this; exact this)
  have HN : Hid (∀ W, Below w.heap.size w W → Calls Try.prog 50 #[p.val] W fun e w' => e = .returned (.int .i64 (c0 : Int)) ∧ Below W.heap.size W w') := Lib.hid (fun W b => by have := PCount_any p W (Lib.hid (hp.out.below b)); rw [hc0] at this; exact this)
  rw [he0, hc0] at hno
  rw [hc0] at hcl
  clear he0 hc0 hp
  obtain ⟨code, A1, n1, c1, tick, low, high, wide, rule, top, least, part, A2, n2, c2, Q, R⟩ := p
  replace HC : Hid (∀ W, Below w.heap.size w W → Calls Try.prog 39 #[.agg #[.string (str code), .slice A1 n1 c1, .int .i64 tick, .int .i64 low, .int .i64 high, .int .i64 wide, .int .i64 rule, .int .i64 top, .int .i64 least, .int .i64 part, .slice A2 n2 c2]] W fun e w' => e = .returned (.int .i64 (e0 : Int)) ∧ Below W.heap.size W w') := HC
  replace HN : Hid (∀ W, Below w.heap.size w W → Calls Try.prog 50 #[.agg #[.string (str code), .slice A1 n1 c1, .int .i64 tick, .int .i64 low, .int .i64 high, .int .i64 wide, .int .i64 rule, .int .i64 top, .int .i64 least, .int .i64 part, .slice A2 n2 c2]] W fun e w' => e = .returned (.int .i64 (c0 : Int)) ∧ Below W.heap.size W w') := HN
  show Calls Try.prog 32 #[.agg #[.string (str code), .slice A1 n1 c1, .int .i64 tick, .int .i64 low, .int .i64 high, .int .i64 wide, .int .i64 rule, .int .i64 top, .int .i64 least, .int .i64 part, .slice A2 n2 c2], .slice AT nT cT, .int .i64 inst, .int .i64 side] w _
  obtain ⟨W0, eW0⟩ : ∃ W0, w.alloc (.cells #[.string (str code), .slice A1 n1 c1, .int .i64 tick, .int .i64 low, .int .i64 high, .int .i64 wide, .int .i64 rule, .int .i64 top, .int .i64 least, .int .i64 part, .slice A2 n2 c2] 25) = W0 := ⟨_, rfl⟩
  obtain ⟨g, eg⟩ : ∃ g, w.heap.size = g := ⟨_, rfl⟩
  have hblk0 : W0.heap[g]? = some (.cells #[.string (str code), .slice A1 n1 c1, .int .i64 tick, .int .i64 low, .int .i64 high, .int .i64 wide, .int .i64 rule, .int .i64 top, .int .i64 least, .int .i64 part, .slice A2 n2 c2] 25 (0, 0)) := by rw [← eW0, ← eg]; exact heap_alloc_new w _
  have b00 : Below w.heap.size w W0 := by rw [← eW0]; exact (Below.refl _ w).alloc (Nat.le_refl _) _
  have KK : Hid (∀ W, Below W0.heap.size W0 W → W.heap[g]? = some (.cells #[.string (str code), .slice A1 n1 c1, .int .i64 tick, .int .i64 low, .int .i64 high, .int .i64 wide, .int .i64 rule, .int .i64 top, .int .i64 least, .int .i64 part, .slice A2 n2 c2] 25 (0, 0))) := Lib.hid (fun W b => (b.block g (Array.getElem?_eq_some_iff.1 hblk0).1).trans hblk0)
  have BW : Hid (∀ W, Below W0.heap.size W0 W → Below w.heap.size w W) := Lib.hid (fun W b => b00.trans (b.mono b00.size))
  obtain ⟨a0, a1, a2, a3, a4, a5, a6, a7, a8, a9, a10⟩ := row11 (heap_alloc_new w (.cells #[.string (str code), .slice A1 n1 c1, .int .i64 tick, .int .i64 low, .int .i64 high, .int .i64 wide, .int .i64 rule, .int .i64 top, .int .i64 least, .int .i64 part, .slice A2 n2 c2] 25))
  replace eW0 := Lib.hid eW0
  replace eg := Lib.hid eg
  clear hblk0 b00
  have B0 := Lib.hid (Below.refl W0.heap.size W0)
  by_cases h0 : e0 ≠ 0
  · have d0 : ((e0 : Int) != 0) = true := bne_iff_ne.2 (by omega)
    have ak : Hid (A = false) := Lib.hid (by
      cases hA : A
      · rfl
      · exact absurd (hno.1 hA) (by omega))
    clear hno
    go_enter Try.func32, Try.ntmps32
    go_wp2_with fail
    rw [eW0.out, eg.out]
    clear a0 a1 a2 a3 a4 a5 a6 a7 a8 a9 a10 eW0
    refine (HC.out W0 (BW.out _ B0.out)).mono ?_
    rintro e w1 ⟨rfl, bb⟩
    have B1 := Lib.hid (below_up B0.out bb)
    clear bb B0 HC
    go_wp2_with fail
    go_ret
    exact ⟨by rw [ak.out]; rfl, BW.out _ B1.out⟩
  obtain rfl : e0 = 0 := by omega
  have d0 : (((0 : Nat) : Int) != 0) = false := by simp
  by_cases h1 : nT ≠ c0
  · have d1 : ((nT : Int) != (c0 : Int)) = true := bne_iff_ne.2 (by omega)
    have ak : Hid (A = false) := Lib.hid (by
      cases hA : A
      · rfl
      · exact absurd (hno.1 hA) (by omega))
    clear hno
    go_enter Try.func32, Try.ntmps32
    go_wp2_with fail
    rw [eW0.out, eg.out]
    clear a0 a1 a2 a3 a4 a5 a6 a7 a8 a9 a10 eW0
    refine (HC.out W0 (BW.out _ B0.out)).mono ?_
    rintro e w1 ⟨rfl, bb⟩
    have B1 := Lib.hid (below_up B0.out bb)
    clear bb B0 HC
    obtain ⟨k0, k1, k2, k3, k4, k5, k6, k7, k8, k9, k10⟩ := row11 (KK.out _ B1.out)
    go_wp2_with fail
    refine (HN.out w1 (BW.out _ B1.out)).mono ?_
    rintro e w2 ⟨rfl, bb⟩
    have B2 := Lib.hid (below_up B1.out bb)
    clear k0 k1 k2 k3 k4 k5 k6 k7 k8 k9 k10 bb B1 HN
    go_wp2_with fail
    go_ret
    exact ⟨by rw [ak.out]; rfl, BW.out _ B2.out⟩
  obtain rfl : nT = c0 := by omega
  have d1 : ((nT : Int) != (nT : Int)) = false := by simp
  by_cases h2 : inst < 0
  · have d2 : decide (0 ≤ inst) = false := decide_eq_false (by omega)
    have ak : Hid (A = false) := Lib.hid (by
      cases hA : A
      · rfl
      · exact absurd (hno.1 hA) (by omega))
    clear hno
    go_enter Try.func32, Try.ntmps32
    go_wp2_with fail
    rw [eW0.out, eg.out]
    clear a0 a1 a2 a3 a4 a5 a6 a7 a8 a9 a10 eW0
    refine (HC.out W0 (BW.out _ B0.out)).mono ?_
    rintro e w1 ⟨rfl, bb⟩
    have B1 := Lib.hid (below_up B0.out bb)
    clear bb B0 HC
    obtain ⟨k0, k1, k2, k3, k4, k5, k6, k7, k8, k9, k10⟩ := row11 (KK.out _ B1.out)
    go_wp2_with fail
    refine (HN.out w1 (BW.out _ B1.out)).mono ?_
    rintro e w2 ⟨rfl, bb⟩
    have B2 := Lib.hid (below_up B1.out bb)
    clear k0 k1 k2 k3 k4 k5 k6 k7 k8 k9 k10 bb B1 HN
    go_wp2_with fail
    go_ret
    exact ⟨by rw [ak.out]; rfl, BW.out _ B2.out⟩
  have d2 : decide (0 ≤ inst) = true := decide_eq_true (by omega)
  by_cases h3 : (nT : Int) ≤ inst
  · have d3 : decide (inst < (nT : Int)) = false := decide_eq_false (by omega)
    have ak : Hid (A = false) := Lib.hid (by
      cases hA : A
      · rfl
      · exact absurd (hno.1 hA) (by omega))
    clear hno
    go_enter Try.func32, Try.ntmps32
    go_wp2_with fail
    rw [eW0.out, eg.out]
    clear a0 a1 a2 a3 a4 a5 a6 a7 a8 a9 a10 eW0
    refine (HC.out W0 (BW.out _ B0.out)).mono ?_
    rintro e w1 ⟨rfl, bb⟩
    have B1 := Lib.hid (below_up B0.out bb)
    clear bb B0 HC
    obtain ⟨k0, k1, k2, k3, k4, k5, k6, k7, k8, k9, k10⟩ := row11 (KK.out _ B1.out)
    go_wp2_with fail
    refine (HN.out w1 (BW.out _ B1.out)).mono ?_
    rintro e w2 ⟨rfl, bb⟩
    have B2 := Lib.hid (below_up B1.out bb)
    clear k0 k1 k2 k3 k4 k5 k6 k7 k8 k9 k10 bb B1 HN
    go_wp2_with fail
    go_ret
    exact ⟨by rw [ak.out]; rfl, BW.out _ B2.out⟩
  have d3 : decide (inst < (nT : Int)) = true := decide_eq_true (by omega)
  by_cases e1 : side = 1
  · subst e1
    have ak : Hid (A = true) := Lib.hid (hno.2 (by omega))
    clear hno
    go_enter Try.func32, Try.ntmps32
    go_wp2_with fail
    rw [eW0.out, eg.out]
    clear a0 a1 a2 a3 a4 a5 a6 a7 a8 a9 a10 eW0
    refine (HC.out W0 (BW.out _ B0.out)).mono ?_
    rintro e w1 ⟨rfl, bb⟩
    have B1 := Lib.hid (below_up B0.out bb)
    clear bb B0 HC
    obtain ⟨k0, k1, k2, k3, k4, k5, k6, k7, k8, k9, k10⟩ := row11 (KK.out _ B1.out)
    go_wp2_with fail
    refine (HN.out w1 (BW.out _ B1.out)).mono ?_
    rintro e w2 ⟨rfl, bb⟩
    have B2 := Lib.hid (below_up B1.out bb)
    clear k0 k1 k2 k3 k4 k5 k6 k7 k8 k9 k10 bb B1 HN
    go_wp2_with fail
    go_ret
    exact ⟨by rw [ak.out]; rfl, BW.out _ B2.out⟩
  have d4 : (side == 1) = false := beq_eq_false_iff_ne.2 e1
  have d4' : decide (side = 1) = false := decide_eq_false e1
  by_cases e2 : side = 2
  · subst e2
    have ak : Hid (A = true) := Lib.hid (hno.2 (by omega))
    clear hno
    go_enter Try.func32, Try.ntmps32
    go_wp2_with fail
    rw [eW0.out, eg.out]
    clear a0 a1 a2 a3 a4 a5 a6 a7 a8 a9 a10 eW0
    refine (HC.out W0 (BW.out _ B0.out)).mono ?_
    rintro e w1 ⟨rfl, bb⟩
    have B1 := Lib.hid (below_up B0.out bb)
    clear bb B0 HC
    obtain ⟨k0, k1, k2, k3, k4, k5, k6, k7, k8, k9, k10⟩ := row11 (KK.out _ B1.out)
    go_wp2_with fail
    refine (HN.out w1 (BW.out _ B1.out)).mono ?_
    rintro e w2 ⟨rfl, bb⟩
    have B2 := Lib.hid (below_up B1.out bb)
    clear k0 k1 k2 k3 k4 k5 k6 k7 k8 k9 k10 bb B1 HN
    go_wp2_with fail
    go_ret
    exact ⟨by rw [ak.out]; rfl, BW.out _ B2.out⟩
  have d5 : (side == 2) = false := beq_eq_false_iff_ne.2 e2
  have d5' : decide (side = 2) = false := decide_eq_false e2
  have ak : Hid (A = false) := Lib.hid (by
    cases hA : A
    · rfl
    · exact absurd (hno.1 hA) (by omega))
  clear hno
  go_enter Try.func32, Try.ntmps32
  go_wp2_with fail
  rw [eW0.out, eg.out]
  clear a0 a1 a2 a3 a4 a5 a6 a7 a8 a9 a10 eW0
  refine (HC.out W0 (BW.out _ B0.out)).mono ?_
  rintro e w1 ⟨rfl, bb⟩
  have B1 := Lib.hid (below_up B0.out bb)
  clear bb B0 HC
  obtain ⟨k0, k1, k2, k3, k4, k5, k6, k7, k8, k9, k10⟩ := row11 (KK.out _ B1.out)
  go_wp2_with fail
  refine (HN.out w1 (BW.out _ B1.out)).mono ?_
  rintro e w2 ⟨rfl, bb⟩
  have B2 := Lib.hid (below_up B1.out bb)
  clear k0 k1 k2 k3 k4 k5 k6 k7 k8 k9 k10 bb B1 HN
  go_wp2_with fail
  go_ret
  exact ⟨by rw [ak.out]; rfl, BW.out _ B2.out⟩
end Go.Proofs.Ytdeofifidjbolaa
