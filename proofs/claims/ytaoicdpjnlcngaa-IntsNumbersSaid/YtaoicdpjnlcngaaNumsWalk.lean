/-
  The walk of the law IntsNumbers.
-/
import Derived.Test.YtaoicdpjnlcngaaNumsPlain
namespace Go.Proofs.Ytaoicdpjnlcngaa
open Go.RowKit
set_option linter.unusedVariables false

theorem grown_drewN {W w' : World} (h : Grown W w') (n : Nat) : Grown W (w'.drewN n) := h

set_option maxRecDepth 100000 in
set_option maxHeartbeats 4000000 in
theorem Numbers_walk (w : World) : Calls Try.prog 3 #[] w (fun e w' => e = .returned (.bool true) ∧ Grown w w') := by
  have hold := lit_holds w nums nums_fit (by rw [nums_len]; omega)
  rw [nums_len] at hold
  have bel := Lib.hid ((Grown.refl w).alloc (nums.map (Value.int .i64)).toArray 2)
  have N := Lib.hid (Nums_any w)
  obtain ⟨w1, hw1⟩ : ∃ w1, w.alloc (.cells (nums.map (Value.int .i64)).toArray 2) = w1 := ⟨_, rfl⟩
  rw [hw1] at hold bel N
  obtain ⟨g, hg⟩ : ∃ g, w.heap.size = g := ⟨_, rfl⟩
  rw [hg] at hold N
  have Hold := Lib.hid hold
  have HG := Lib.hid hg
  clear hold hw1 hg
  go_enter Try.func3, Try.ntmps3
  go_wp2_with fail
  refine N.out.mono ?_
  rintro e w' ⟨rfl, rfl⟩
  go_wp2_with fail
  go_loopw [2] (fun s wr => ∃ i : Nat, i ≤ 21 ∧ s = .int .i64 i ∧ Hid (∃ m, wr = w'.drewN m)) (fun s _ => 21 - (intOf s).toNat)
  case atStart => exact ⟨0, by omega, rfl, Lib.hid ⟨0, rfl⟩⟩
  case round =>
    obtain ⟨i, hi, rfl, hm⟩ := hrel
    obtain ⟨wo, rfl⟩ : ∃ wo : World, wo = wr := ⟨_, rfl⟩
    have H1 : Hid (Holds wo (some ⟨g, 0, none⟩) 21 nums) := by obtain ⟨m, e⟩ := hm.out; rw [e]; exact Lib.hid (Hold.out.drewN m)
    by_cases hlt : i < 21
    · obtain ⟨x, hx, Ix⟩ := H1.out.at_ i hlt
      have Ix := Lib.hid Ix
      go_wp2_with fail
      go_loopw [3] (fun s wr => ∃ k : Nat, k ≤ 21 ∧ s = .int .i64 k ∧ Hid (∃ m, wr = wo.drewN m)) (fun s _ => 21 - (intOf s).toNat)
      case atStart => exact ⟨0, by omega, rfl, Lib.hid ⟨0, rfl⟩⟩
      case round =>
        obtain ⟨k, hk, rfl, hm2⟩ := hrel
        obtain ⟨wp, rfl⟩ : ∃ wp : World, wp = wr := ⟨_, rfl⟩
        have H2 : Hid (Holds wp (some ⟨g, 0, none⟩) 21 nums) := by obtain ⟨m, e⟩ := hm2.out; rw [e]; exact Lib.hid (H1.out.drewN m)
        clear hx
        by_cases hlk : k < 21
        · obtain ⟨x, hx, Ix⟩ := H2.out.at_ i hlt
          obtain ⟨y, hy, Iy⟩ := H2.out.at_ k hlk
          have Ix := Lib.hid Ix
          have Iy := Lib.hid Iy
          have b0 : (0 : Int) ≤ (i : Int) := by omega
          have b1 : (i : Int) < 21 := by omega
          have b2 : (0 : Int) ≤ (k : Int) := by omega
          have b3 : (k : Int) < 21 := by omega
          go_wp2_with fail
          go_quiet ((go_at_call 10; exact quiet_all (fun W => Same_drawn x y W Ix.out Iy.out)))
          go_wp2_with fail
          go_loopw [4] (fun s wr => ∃ j : Nat, j ≤ 22 ∧ s = .int .i64 j ∧ Hid (∃ m, wr = wp.drewN m)) (fun s _ => 22 - (intOf s).toNat)
          case atStart => exact ⟨0, by omega, rfl, Lib.hid ⟨_, rfl⟩⟩
          case round =>
            obtain ⟨j, hj, rfl, hm3⟩ := hrel
            obtain ⟨wq, rfl⟩ : ∃ wq : World, wq = wr := ⟨_, rfl⟩
            have H3 : Hid (Holds wq (some ⟨g, 0, none⟩) 21 nums) := by obtain ⟨m, e⟩ := hm3.out; rw [e]; exact Lib.hid (H2.out.drewN m)
            clear hx hy
            by_cases hlj : j < 21
            · obtain ⟨x, hx, Ix⟩ := H3.out.at_ i hlt
              obtain ⟨y, hy, Iy⟩ := H3.out.at_ k hlk
              obtain ⟨z, hz, Iz⟩ := H3.out.at_ j hlj
              obtain ⟨q, ok, S1, S2⟩ := Share_both x y z Ix Iy Iz
              have S1 := Lib.hid S1
              have S2 := Lib.hid S2
              have b4 : (0 : Int) ≤ (j : Int) := by omega
              have b5 : (j : Int) < 21 := by omega
              clear Ix Iy Iz
              go_wp2_with fail
              go_quiet ((go_at_call 11; exact quiet_all S1.out))
              go_wp2_with fail
              go_quiet ((go_at_call 12; exact quiet_more S2.out))
              go_wp2_with fail
              go_roundw
              case rel => exact ⟨j + 2, by omega, by go_num, Lib.hid (by obtain ⟨m, e⟩ := hm3.out; rw [e, World.drewN_drewN]; exact ⟨_, rfl⟩)⟩
              case measure => simp [intOf]; omega
            · go_wp2_with fail
              go_roundw
              case rel => exact ⟨k + 1, by omega, by go_num, Lib.hid (by obtain ⟨m, e⟩ := hm3.out; obtain ⟨m', e'⟩ := hm2.out; rw [e, e', World.drewN_drewN]; exact ⟨_, rfl⟩)⟩
              case measure => simp [intOf]; omega
        · have H4 := Lib.hid (holds_take H2.out (show i ≤ 21 by omega))
          have b0 : (0 : Int) ≤ (i : Int) := by omega
          have b1 : (i : Int) ≤ 21 := by omega
          go_wp2_with fail
          refine (Sum_any _ _ _ (nums.take i) _ (by omega) H4).mono ?_
          rintro e w' ⟨rfl, rfl⟩
          go_wp2_with fail
          refine (RefSum_any _ _ _ (nums.take i) _ (by omega) H4).mono ?_
          rintro e w' ⟨rfl, rfl⟩
          go_wp2_with fail
          go_roundw
          case rel => exact ⟨i + 1, by omega, by go_num, Lib.hid (by obtain ⟨m, e⟩ := hm.out; obtain ⟨m', e'⟩ := hm2.out; rw [e', e, World.drewN_drewN]; exact ⟨_, rfl⟩)⟩
          case measure => simp [intOf]; omega
    · have L := Lib.hid (lit_holds wo [9223372036854775807, 1, -1] (by intro y hy; simp only [List.mem_cons, List.not_mem_nil, or_false] at hy; unfold I64; omega) (by decide))
      have e1 : sumL [9223372036854775807, 1, -1] = 9223372036854775807 := by simp [sumL]
      have e2 : Hid (pick (sumL [9223372036854775807, 1, -1]) = 9223372036854775807) := Lib.hid (by rw [e1]; exact pick_yes (fitB_yes (by omega) (by omega)))
      have e3 : Hid (fitB (sumL [9223372036854775807, 1, -1]) = true) := Lib.hid (by rw [e1]; exact fitB_yes (by omega) (by omega))
      clear e1
      go_wp2_with fail
      refine (Sum_any _ _ _ [9223372036854775807, 1, -1] _ (by decide) L).mono ?_
      rintro e w'' ⟨rfl, rfl⟩
      rw [e2.out, e3.out]
      go_wp2_with (go_at_call 15; refine (Known_any _).mono ?_; rintro e w'' ⟨rfl, n5, rfl⟩)
      go_ret
      refine ⟨rfl, ?_⟩
      obtain ⟨m, e⟩ := hm.out
      rw [e]
      exact grown_drewN (Grown.alloc (grown_drewN bel.out m) _ _) n5
end Go.Proofs.Ytaoicdpjnlcngaa
