/-
  The legs of the program's implied quotes: pairs.
-/
import Derived.Test.YtdeofifidjbolaaIpMonths
namespace Go.Proofs.Ytdeofifidjbolaa
open Go.RowKit
set_option linter.unusedVariables false
set_option linter.unusedSimpArgs false

set_option maxRecDepth 100000 in
set_option maxHeartbeats 8000000 in
theorem PPairs_any (p : PD) (inst ks : Nat) (w : World) (hp : Hid (p.Ok w)) (hi : inst < cntL p) (hk : ks < 2) :
    Calls Try.prog 33 #[p.val, .int .i64 (inst : Int), .int .i64 ((ks : Int) + 1)] w (AnsG w (pairsG p (inst : Int) ((ks : Int) + 1))) := by
  obtain ⟨hz, i, j, hleg, hi1, hj1⟩ := legs_range (p := p) (inst := (inst : Int)) (by omega) (by omega)
  have hcl := cntL_le p
  have hG : pairsG p (inst : Int) ((ks : Int) + 1) = if (legsL p (inst : Int)).2.2 = true then [⟨(legsL p (inst : Int)).1, (ks : Int) + 1, (legsL p (inst : Int)).2.1, 3 - ((ks : Int) + 1)⟩] else laterG p (inst : Int) ((ks : Int) + 1) (p.n1 - ((inst : Int).toNat + 1)) ((inst : Int) + 1) ++ earlierG p (inst : Int) ((ks : Int) + 1) (inst : Int).toNat 0 := rfl
  rw [Int.toNat_natCast, hleg] at hG
  simp only at hG
  have HL : Hid (∀ W, Below w.heap.size w W → Calls Try.prog 20 #[p.val, .int .i64 (inst : Int)] W fun e w' => e = .returned (.tuple #[.int .i64 (i : Int), .int .i64 (j : Int), .bool (decide ((p.n1 : Int) ≤ (inst : Int)))]) ∧ Below W.heap.size W w') := Lib.hid (fun W b => by have := PLegs_any p (inst : Int) W (Lib.hid (hp.out.below b)) ⟨by omega, by omega⟩; rw [hleg] at this; exact this)
  have HM : inst < p.n1 → ∀ W, Below w.heap.size w W → Calls Try.prog 51 #[p.val, .int .i64 (inst : Int), .int .i64 ((ks : Int) + 1)] W (AnsG W (laterG p (inst : Int) ((ks : Int) + 1) (p.n1 - (inst + 1)) ((inst : Int) + 1) ++ earlierG p (inst : Int) ((ks : Int) + 1) inst 0)) := fun hin W b => MPairs_any p inst ks W (Lib.hid (hp.out.below b)) hz hin hk
  have HO : Hid (∀ W : World, Calls Try.prog 52 #[.int .i64 ((ks : Int) + 1)] W fun e w' => e = .returned (.int .i64 (((1 - ks : Nat) : Int) + 1)) ∧ w' = W) := Lib.hid (fun W => POther_any ks W hk)
  have e3 : 3 - ((ks : Int) + 1) = ((1 - ks : Nat) : Int) + 1 := by omega
  rw [e3] at hG
  obtain ⟨ko, eko⟩ : ∃ k, 1 - ks = k := ⟨_, rfl⟩
  rw [eko] at HO hG
  obtain ⟨RM, eRM⟩ : ∃ R, laterG p (inst : Int) ((ks : Int) + 1) (p.n1 - (inst + 1)) ((inst : Int) + 1) ++ earlierG p (inst : Int) ((ks : Int) + 1) inst 0 = R := ⟨_, rfl⟩
  rw [eRM] at HM hG
  obtain ⟨RG, eRG⟩ : ∃ R, pairsG p (inst : Int) ((ks : Int) + 1) = R := ⟨_, rfl⟩
  rw [eRG] at hG ⊢
  clear eRM eRG eko e3 hleg hz hp
  replace HM := Lib.hid HM
  obtain ⟨code, A1, n1, c1, tick, low, high, wide, rule, top, least, part, A2, n2, c2, Q, R⟩ := p
  replace HL : Hid (∀ W, Below w.heap.size w W → Calls Try.prog 20 #[.agg #[.string (str code), .slice A1 n1 c1, .int .i64 tick, .int .i64 low, .int .i64 high, .int .i64 wide, .int .i64 rule, .int .i64 top, .int .i64 least, .int .i64 part, .slice A2 n2 c2], .int .i64 (inst : Int)] W fun e w' => e = .returned (.tuple #[.int .i64 (i : Int), .int .i64 (j : Int), .bool (decide ((n1 : Int) ≤ (inst : Int)))]) ∧ Below W.heap.size W w') := HL
  replace HM : Hid (inst < n1 → ∀ W, Below w.heap.size w W → Calls Try.prog 51 #[.agg #[.string (str code), .slice A1 n1 c1, .int .i64 tick, .int .i64 low, .int .i64 high, .int .i64 wide, .int .i64 rule, .int .i64 top, .int .i64 least, .int .i64 part, .slice A2 n2 c2], .int .i64 (inst : Int), .int .i64 ((ks : Int) + 1)] W (AnsG W RM)) := HM
  replace hG : RG = if decide ((n1 : Int) ≤ (inst : Int)) = true then [⟨(i : Int), (ks : Int) + 1, (j : Int), (ko : Int) + 1⟩] else RM := hG
  clear hi
  show Calls Try.prog 33 #[.agg #[.string (str code), .slice A1 n1 c1, .int .i64 tick, .int .i64 low, .int .i64 high, .int .i64 wide, .int .i64 rule, .int .i64 top, .int .i64 least, .int .i64 part, .slice A2 n2 c2], .int .i64 (inst : Int), .int .i64 ((ks : Int) + 1)] w _
  obtain ⟨W0, eW0⟩ : ∃ W0, w.alloc (.cells #[.string (str code), .slice A1 n1 c1, .int .i64 tick, .int .i64 low, .int .i64 high, .int .i64 wide, .int .i64 rule, .int .i64 top, .int .i64 least, .int .i64 part, .slice A2 n2 c2] 25) = W0 := ⟨_, rfl⟩
  obtain ⟨g, eg⟩ : ∃ g, w.heap.size = g := ⟨_, rfl⟩
  have hblk0 : W0.heap[g]? = some (.cells #[.string (str code), .slice A1 n1 c1, .int .i64 tick, .int .i64 low, .int .i64 high, .int .i64 wide, .int .i64 rule, .int .i64 top, .int .i64 least, .int .i64 part, .slice A2 n2 c2] 25 (0, 0)) := by rw [← eW0, ← eg]; exact heap_alloc_new w _
  have b00 : Below w.heap.size w W0 := by rw [← eW0]; exact (Below.refl _ w).alloc (Nat.le_refl _) _
  have KK : Hid (∀ W, Below W0.heap.size W0 W → W.heap[g]? = some (.cells #[.string (str code), .slice A1 n1 c1, .int .i64 tick, .int .i64 low, .int .i64 high, .int .i64 wide, .int .i64 rule, .int .i64 top, .int .i64 least, .int .i64 part, .slice A2 n2 c2] 25 (0, 0))) := Lib.hid (fun W b => (b.block g (Array.getElem?_eq_some_iff.1 hblk0).1).trans hblk0)
  have BW : Hid (∀ W, Below W0.heap.size W0 W → Below w.heap.size w W) := Lib.hid (fun W b => b00.trans (b.mono b00.size))
  obtain ⟨a0, a1, a2, a3, a4, a5, a6, a7, a8, a9, a10⟩ := row11 (heap_alloc_new w (.cells #[.string (str code), .slice A1 n1 c1, .int .i64 tick, .int .i64 low, .int .i64 high, .int .i64 wide, .int .i64 rule, .int .i64 top, .int .i64 least, .int .i64 part, .slice A2 n2 c2] 25))
  replace eW0 := Lib.hid eW0
  replace eg := Lib.hid eg
  clear hblk0 b00
  have B0 := Lib.hid (Below.refl W0.heap.size W0)
  by_cases hsp : (n1 : Int) ≤ (inst : Int)
  · have dsp : decide ((n1 : Int) ≤ (inst : Int)) = true := decide_eq_true hsp
    rw [dsp] at HL hG
    rw [if_pos rfl] at hG
    replace hG := Lib.hid hG
    have bl1 := build_legP (i : Int) ((ks : Int) + 1)
    have bl2 := build_legP (j : Int) ((ko : Int) + 1)
    have bl3 := build_legsP (i : Int) ((ks : Int) + 1) (j : Int) ((ko : Int) + 1)
    clear dsp hsp HM
    go_enter Try.func33, Try.ntmps33
    go_wp2_with fail
    rw [eW0.out, eg.out]
    clear a0 a1 a2 a3 a4 a5 a6 a7 a8 a9 a10 eW0
    refine (HL.out W0 (BW.out _ B0.out)).mono ?_
    rintro e w1 ⟨rfl, bb⟩
    have B1 := Lib.hid (below_up B0.out bb)
    clear bb B0 HL
    go_wp2_with fail
    refine (HO.out w1).mono ?_
    rintro e ux ⟨rfl, eux⟩
    obtain rfl := eux.symm
    have h1 := Lib.hid (g_lit w1 (i : Int) ((ks : Int) + 1) (j : Int) ((ko : Int) + 1) 35)
    have B2 := Lib.hid (B1.out.alloc B1.out.size (.cells #[.int .i64 (i : Int), .int .i64 ((ks : Int) + 1), .int .i64 (j : Int), .int .i64 ((ko : Int) + 1)] 35))
    go_wp2_with fail
    go_ret
    exact ⟨_, _, _, rfl, by rw [hG.out]; exact h1.out, BW.out _ B2.out⟩
  · have dsp : decide ((n1 : Int) ≤ (inst : Int)) = false := decide_eq_false hsp
    have hin : inst < n1 := by omega
    rw [dsp] at HL hG
    rw [if_neg (by simp)] at hG
    replace hG := Lib.hid hG
    have HM2 : Hid (∀ W, Below w.heap.size w W → Calls Try.prog 51 #[.agg #[.string (str code), .slice A1 n1 c1, .int .i64 tick, .int .i64 low, .int .i64 high, .int .i64 wide, .int .i64 rule, .int .i64 top, .int .i64 least, .int .i64 part, .slice A2 n2 c2], .int .i64 (inst : Int), .int .i64 ((ks : Int) + 1)] W (AnsG W RM)) := Lib.hid (HM.out hin)
    clear dsp hsp HM hin
    go_enter Try.func33, Try.ntmps33
    go_wp2_with fail
    rw [eW0.out, eg.out]
    clear a0 a1 a2 a3 a4 a5 a6 a7 a8 a9 a10 eW0
    refine (HL.out W0 (BW.out _ B0.out)).mono ?_
    rintro e w1 ⟨rfl, bb⟩
    have B1 := Lib.hid (below_up B0.out bb)
    clear bb B0 HL
    obtain ⟨k0, k1, k2, k3, k4, k5, k6, k7, k8, k9, k10⟩ := row11 (KK.out _ B1.out)
    go_wp2_with fail
    refine (HM2.out w1 (BW.out _ B1.out)).mono ?_
    rintro e w2 ⟨A, n, c, rfl, hv, bb⟩
    have hv2 := Lib.hid hv
    have B2 := Lib.hid (below_up B1.out bb)
    clear k0 k1 k2 k3 k4 k5 k6 k7 k8 k9 k10 hv bb
    go_wp2_with fail
    go_ret
    exact ⟨_, _, _, rfl, by rw [hG.out]; exact hv2.out, BW.out _ B2.out⟩
end Go.Proofs.Ytdeofifidjbolaa
