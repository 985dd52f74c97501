/-
  The legs of the program's implied quotes: monthPairs, pairs.
-/
import Derived.Test.YtdeofifidjbolaaIp
import Derived.Test.YtdeofifidjbolaaGcRd
namespace Go.Proofs.Ytdeofifidjbolaa
open Go.RowKit
set_option linter.unusedVariables false
set_option linter.unusedSimpArgs false

/-- What is answered that reads as legs. -/
def AnsG (w : World) (L : List Lg) (e : Ending) (w' : World) : Prop := ∃ A n c, e = .returned (.slice A n c) ∧ HV fLg w' A n L ∧ Below w.heap.size w w'
theorem info_legs : (Try.prog.info? 35).map (fun i => (i.zero, i.size, i.bytes)) = some (some (.agg #[.int .i64 0, .int .i64 0, .int .i64 0, .int .i64 0]), 4, 32) := by kernel_rfl
theorem build_legP (a s : Int) : ∀ W : World, (Instr.build 34 #[(0, .int .i64 a), (1, .int .i64 s)]).run Try.prog W = .ok (.agg #[.int .i64 a, .int .i64 s]) W := fun W => by kernel_rfl
theorem build_legsP (a sa b sb : Int) : ∀ W : World, (Instr.build 35 #[(0, .agg #[.int .i64 a, .int .i64 sa]), (1, .agg #[.int .i64 b, .int .i64 sb])]).run Try.prog W = .ok (.agg #[.int .i64 a, .int .i64 sa, .int .i64 b, .int .i64 sb]) W := fun W => by kernel_rfl
set_option maxRecDepth 100000 in
set_option maxHeartbeats 8000000 in
theorem MPairs_any (p : PD) (inst ks : Nat) (w : World) (hp : Hid (p.Ok w)) (hz : chk p = 0) (hi : inst < p.n1) (hk : ks < 2) :
    Calls Try.prog 51 #[p.val, .int .i64 (inst : Int), .int .i64 ((ks : Int) + 1)] w (AnsG w (laterG p (inst : Int) ((ks : Int) + 1) (p.n1 - (inst + 1)) ((inst : Int) + 1) ++ earlierG p (inst : Int) ((ks : Int) + 1) inst 0)) := by
  obtain ⟨i0, hi0, hz0, hz1, hz2⟩ := info_parts info_legs
  have h6 := (chk_zero hz).2
  have HS : Hid (∀ (W : World) (near far : Nat), near ≤ 1000 → far ≤ 1000 → Below w.heap.size w W → ∃ b : Bool, Calls Try.prog 66 #[p.val, .int .i64 (near : Int), .int .i64 (far : Int)] W fun e w' => e = .returned (.tuple #[.int .i64 (spreadI p (near : Int) (far : Int)).1, .bool b]) ∧ Below W.heap.size W w') := Lib.hid (fun W near far h1 h2 b => ⟨(spreadI p (near : Int) (far : Int)).2, PSpreads_any p (near : Int) (far : Int) W (Lib.hid (hp.out.below b)) ⟨by omega, by omega⟩ ⟨by omega, by omega⟩⟩)
  have HO : Hid (∀ W : World, Calls Try.prog 52 #[.int .i64 ((ks : Int) + 1)] W fun e w' => e = .returned (.int .i64 (((1 - ks : Nat) : Int) + 1)) ∧ w' = W) := Lib.hid (fun W => POther_any ks W hk)
  obtain ⟨ko, eko⟩ : ∃ k, 1 - ks = k := ⟨_, rfl⟩
  rw [eko] at HO
  obtain ⟨LF, eLF⟩ : ∃ f : Nat → List Lg, (fun d => laterG p (inst : Int) ((ks : Int) + 1) d ((inst : Int) + 1)) = f := ⟨_, rfl⟩
  obtain ⟨EF, eEF⟩ : ∃ f : Nat → List Lg, (fun d => earlierG p (inst : Int) ((ks : Int) + 1) d 0) = f := ⟨_, rfl⟩
  have LF0 : Hid (LF 0 = []) := Lib.hid (by rw [← eLF]; rfl)
  have EF0 : Hid (EF 0 = []) := Lib.hid (by rw [← eEF]; rfl)
  have LFl : Hid (∀ d, (LF d).length = d) := Lib.hid (fun d => by rw [← eLF]; exact laterG_len p (inst : Int) _ d _)
  have EFl : Hid (∀ d, (EF d).length = d) := Lib.hid (fun d => by rw [← eEF]; exact earlierG_len p (inst : Int) _ d _)
  have LFs : Hid (∀ d mm : Nat, mm = inst + 1 + d → ∀ x, (spreadI p (inst : Int) (mm : Int)).1 = x → LF (d + 1) = LF d ++ [⟨x, (ks : Int) + 1, (mm : Int), (ks : Int) + 1⟩]) := Lib.hid (fun d mm hm x hx => by rw [← eLF, ← hx]; show laterG _ _ _ (d + 1) _ = _; rw [laterG_snoc, show (inst : Int) + 1 + (d : Int) = (mm : Int) by omega])
  have EFs : Hid (∀ t : Nat, ∀ x, (spreadI p (t : Int) (inst : Int)).1 = x → EF (t + 1) = EF t ++ [⟨x, (ko : Int) + 1, (t : Int), (ks : Int) + 1⟩]) := Lib.hid (fun t x hx => by rw [← eEF, ← hx]; show earlierG _ _ _ (t + 1) _ = _; rw [earlierG_snoc, Int.zero_add, show 3 - ((ks : Int) + 1) = (ko : Int) + 1 by omega])
  obtain ⟨RG, eR⟩ : ∃ R, laterG p (inst : Int) ((ks : Int) + 1) (p.n1 - (inst + 1)) ((inst : Int) + 1) ++ earlierG p (inst : Int) ((ks : Int) + 1) inst 0 = R := ⟨_, rfl⟩
  have hR : Hid (RG = LF (p.n1 - (inst + 1)) ++ EF inst) := Lib.hid (by rw [← eR, ← eLF, ← eEF])
  rw [eR]
  clear eR eLF eEF hz hp eko
  obtain ⟨SI, eSI⟩ : ∃ f : Int → Int → Int, (fun a b => (spreadI p a b).1) = f := ⟨_, rfl⟩
  replace HS : Hid (∀ (W : World) (near far : Nat), near ≤ 1000 → far ≤ 1000 → Below w.heap.size w W → ∃ b : Bool, Calls Try.prog 66 #[p.val, .int .i64 (near : Int), .int .i64 (far : Int)] W fun e w' => e = .returned (.tuple #[.int .i64 (SI (near : Int) (far : Int)), .bool b]) ∧ Below W.heap.size W w') := Lib.hid (by rw [← eSI]; exact HS.out)
  replace LFs : Hid (∀ d mm : Nat, mm = inst + 1 + d → ∀ x, SI (inst : Int) (mm : Int) = x → LF (d + 1) = LF d ++ [⟨x, (ks : Int) + 1, (mm : Int), (ks : Int) + 1⟩]) := Lib.hid (by rw [← eSI]; exact LFs.out)
  replace EFs : Hid (∀ t : Nat, ∀ x, SI (t : Int) (inst : Int) = x → EF (t + 1) = EF t ++ [⟨x, (ko : Int) + 1, (t : Int), (ks : Int) + 1⟩]) := Lib.hid (by rw [← eSI]; exact EFs.out)
  clear eSI
  obtain ⟨code, A1, n1, c1, tick, low, high, wide, rule, top, least, part, A2, n2, c2, Q, R⟩ := p
  replace HS : Hid (∀ (W : World) (near far : Nat), near ≤ 1000 → far ≤ 1000 → Below w.heap.size w W → ∃ b : Bool, Calls Try.prog 66 #[.agg #[.string (str code), .slice A1 n1 c1, .int .i64 tick, .int .i64 low, .int .i64 high, .int .i64 wide, .int .i64 rule, .int .i64 top, .int .i64 least, .int .i64 part, .slice A2 n2 c2], .int .i64 (near : Int), .int .i64 (far : Int)] W fun e w' => e = .returned (.tuple #[.int .i64 (SI (near : Int) (far : Int)), .bool b]) ∧ Below W.heap.size W w') := HS
  replace hi : inst < n1 := hi
  replace h6 : n1 ≤ 6 := h6
  obtain ⟨K, eK⟩ : ∃ K, n1 - (inst + 1) = K := ⟨_, rfl⟩
  replace hR : Hid (RG = LF K ++ EF inst) := Lib.hid (by rw [← eK]; exact hR.out)
  replace eK := Lib.hid eK
  show Calls Try.prog 51 #[.agg #[.string (str code), .slice A1 n1 c1, .int .i64 tick, .int .i64 low, .int .i64 high, .int .i64 wide, .int .i64 rule, .int .i64 top, .int .i64 least, .int .i64 part, .slice A2 n2 c2], .int .i64 (inst : Int), .int .i64 ((ks : Int) + 1)] w _
  obtain ⟨W0, eW0⟩ : ∃ W0, w.alloc (.cells #[.string (str code), .slice A1 n1 c1, .int .i64 tick, .int .i64 low, .int .i64 high, .int .i64 wide, .int .i64 rule, .int .i64 top, .int .i64 least, .int .i64 part, .slice A2 n2 c2] 25) = W0 := ⟨_, rfl⟩
  obtain ⟨g, eg⟩ : ∃ g, w.heap.size = g := ⟨_, rfl⟩
  have hblk0 : W0.heap[g]? = some (.cells #[.string (str code), .slice A1 n1 c1, .int .i64 tick, .int .i64 low, .int .i64 high, .int .i64 wide, .int .i64 rule, .int .i64 top, .int .i64 least, .int .i64 part, .slice A2 n2 c2] 25 (0, 0)) := by rw [← eW0, ← eg]; exact heap_alloc_new w _
  have b00 : Below w.heap.size w W0 := by rw [← eW0]; exact (Below.refl _ w).alloc (Nat.le_refl _) _
  have KK : Hid (∀ W, Below W0.heap.size W0 W → W.heap[g]? = some (.cells #[.string (str code), .slice A1 n1 c1, .int .i64 tick, .int .i64 low, .int .i64 high, .int .i64 wide, .int .i64 rule, .int .i64 top, .int .i64 least, .int .i64 part, .slice A2 n2 c2] 25 (0, 0))) := Lib.hid (fun W b => (b.block g (Array.getElem?_eq_some_iff.1 hblk0).1).trans hblk0)
  have BW : Hid (∀ W, Below W0.heap.size W0 W → Below w.heap.size w W) := Lib.hid (fun W b => b00.trans (b.mono b00.size))
  obtain ⟨a0, a1, a2, a3, a4, a5, a6, a7, a8, a9, a10⟩ := row11 (heap_alloc_new w (.cells #[.string (str code), .slice A1 n1 c1, .int .i64 tick, .int .i64 low, .int .i64 high, .int .i64 wide, .int .i64 rule, .int .i64 top, .int .i64 least, .int .i64 part, .slice A2 n2 c2] 25))
  replace eW0 := Lib.hid eW0
  replace eg := Lib.hid eg
  clear hblk0 b00
  have B0 := Lib.hid (Below.refl W0.heap.size W0)
  have own0 : Hid (Own fLg 35 W0 W0.heap.size (.slice none 0 0) (LF 0)) := Lib.hid (by rw [LF0.out]; exact own_nil (fm := fLg) 35 W0 W0.heap.size)
  have bl := Lib.hid build_legP
  have bll := Lib.hid build_legsP
  go_enter Try.func51, Try.ntmps51
  go_upto_region 1 with (fail)
  rw [eW0.out, eg.out]
  clear a0 a1 a2 a3 a4 a5 a6 a7 a8 a9 a10 eW0
  go_wp2_with fail
  go_loopw [7, 8] (fun u iv wr => ∃ (d mm : Nat), iv = .int .i64 (mm : Int) ∧ mm = inst + 1 + d ∧ mm ≤ n1 ∧ Hid (Own fLg 35 wr W0.heap.size u (LF d)) ∧ Hid (Below W0.heap.size W0 wr)) (fun _ iv _ => (n1 - intOf iv).toNat)
  case atStart => exact ⟨0, inst + 1, by go_num, by omega, by omega, own0, B0⟩
  case round =>
    clear own0 B0
    obtain ⟨d, mm, rfl, hmm, hle, hO, hB⟩ := hrel
    obtain ⟨k0, k1, k2, k3, k4, k5, k6, k7, k8, k9, k10⟩ := row11 (KK.out _ hB.out)
    by_cases hlt : mm < n1
    · have d1 : decide ((mm : Int) < (n1 : Int)) = true := decide_eq_true (by omega)
      obtain ⟨sb, hc⟩ := HS.out wr inst mm (by omega) (by omega) (BW.out _ hB.out)
      obtain ⟨x, ex⟩ : ∃ x, SI (inst : Int) (mm : Int) = x := ⟨_, rfl⟩
      have hst := LFs.out d mm hmm x ex
      rw [ex] at hc
      have hm1 : mm + 1 ≤ n1 := by omega
      have hm2 : Hid (mm + 1 = inst + 1 + (d + 1)) := Lib.hid (by omega)
      have hln : (LF d).length ≤ 10 := by rw [LFl.out]; omega
      have bl1 := bl.out x ((ks : Int) + 1)
      have bl2 := bl.out (mm : Int) ((ks : Int) + 1)
      have bl3 := bll.out x ((ks : Int) + 1) (mm : Int) ((ks : Int) + 1)
      clear hmm hle hlt ex
      replace hc := Lib.hid hc
      replace hst := Lib.hid hst
      replace hln := Lib.hid hln
      go_wp2_with fail
      refine hc.out.mono ?_
      rintro e w4 ⟨rfl, bb⟩
      have B4 := Lib.hid (below_up hB.out bb)
      have hO4 := Lib.hid (hO.out.below bb)
      clear k0 k1 k2 k3 k4 k5 k6 k7 k8 k9 k10 bb hc hO hB
      have h1 := Lib.hid (g_lit w4 x ((ks : Int) + 1) (mm : Int) ((ks : Int) + 1) 35)
      have sz3 : W0.heap.size ≤ (w4.alloc (.cells #[.int .i64 x, .int .i64 ((ks : Int) + 1), .int .i64 (mm : Int), .int .i64 ((ks : Int) + 1)] 35)).heap.size := by have := B4.out.size; simp; omega
      have ba := Lib.hid (B4.out.alloc B4.out.size (.cells #[.int .i64 x, .int .i64 ((ks : Int) + 1), .int .i64 (mm : Int), .int .i64 ((ks : Int) + 1)] 35))
      have hgl := hln.out
      go_wp2_with (at_builtin; refine wpList_onto_g (fm := fLg) (T := 35) (by rfl) (.tmp 30) (.tmp 38) 71 (by rfl) W0.heap.size i0 (.agg #[.int .i64 0, .int .i64 0, .int .i64 0, .int .i64 0]) 32 Try.underlying71 hi0 hz0 hz1 hz2 rfl (by omega) u7 (LF d) (by rfl) (hO4.out.below ((Below.refl _ _).alloc (Nat.le_refl _) _)) (some ⟨w4.heap.size, 0, none⟩) 1 1 [⟨x, ((ks : Int) + 1), (mm : Int), ((ks : Int) + 1)⟩] (by rfl) h1.out (fun e => by cases e) (by omega) sz3 ?_)
      intro v8 w8 r8 g8 o8
      have r8' : Hid (Own fLg 35 w8 W0.heap.size v8 (LF (d + 1))) := Lib.hid (by rw [hst.out]; exact r8)
      have B8 := Lib.hid (ba.out.grown g8 sz3 (fun q hq => (hO4.out.lt q hq).1))
      clear r8 g8 o8 h1 ba hO4 B4
      go_wp2_with fail
      go_roundw
      case rel => exact ⟨d + 1, mm + 1, by go_num, hm2.out, hm1, r8', B8⟩
      case measure => simp [intOf]; omega
    · obtain rfl : n1 = mm := by omega
      have d1 : decide ((n1 : Int) < (n1 : Int)) = false := by simp
      have edK : d = K := by have := eK.out; omega
      rw [edK] at hO
      have hO2 : Hid (Own fLg 35 wr W0.heap.size u7 (LF K ++ EF 0)) := Lib.hid (by rw [EF0.out, List.append_nil]; exact hO.out)
      have hKl : K ≤ 6 := by have := eK.out; omega
      clear edK hmm hle hlt
      go_wp2_with fail
      clear k0 k1 k2 k3 k4 k5 k6 k7 k8 k9 k10
      go_loopw [7, 41] (fun u iv wr => ∃ (t : Nat), iv = .int .i64 (t : Int) ∧ t ≤ inst ∧ Hid (Own fLg 35 wr W0.heap.size u (LF K ++ EF t)) ∧ Hid (Below W0.heap.size W0 wr)) (fun _ iv _ => (inst - intOf iv).toNat)
      case atStart => exact ⟨0, rfl, by omega, hO2, hB⟩
      case round =>
        clear hO2 hB hO
        obtain ⟨t, rfl, hle2, hO, hB⟩ := hrel
        obtain ⟨k0, k1, k2, k3, k4, k5, k6, k7, k8, k9, k10⟩ := row11 (KK.out _ hB.out)
        by_cases hlt2 : t < inst
        · have d2 : decide ((t : Int) < (inst : Int)) = true := decide_eq_true (by omega)
          obtain ⟨sb, hc⟩ := HS.out wr t inst (by omega) (by omega) (BW.out _ hB.out)
          obtain ⟨x, ex⟩ : ∃ x, SI (t : Int) (inst : Int) = x := ⟨_, rfl⟩
          have hst := EFs.out t x ex
          replace hst : LF K ++ EF (t + 1) = LF K ++ (EF t ++ [⟨x, (ko : Int) + 1, (t : Int), (ks : Int) + 1⟩]) := by rw [hst]
          rw [ex] at hc
          have hm1 : t + 1 ≤ inst := by omega
          have hln : (LF K ++ EF t).length ≤ 20 := by rw [List.length_append, LFl.out, EFl.out]; omega
          have bl1 := bl.out x ((ko : Int) + 1)
          have bl2 := bl.out (t : Int) ((ks : Int) + 1)
          have bl3 := bll.out x ((ko : Int) + 1) (t : Int) ((ks : Int) + 1)
          clear hle2 hlt2 ex
          replace hc := Lib.hid hc
          replace hst := Lib.hid hst
          replace hln := Lib.hid hln
          go_wp2_with fail
          refine hc.out.mono ?_
          rintro e w4 ⟨rfl, bb⟩
          have B4 := Lib.hid (below_up hB.out bb)
          have hO4 := Lib.hid (hO.out.below bb)
          clear k0 k1 k2 k3 k4 k5 k6 k7 k8 k9 k10 bb hc hO hB
          go_wp2_with fail
          refine (HO.out w4).mono ?_
          rintro e ux ⟨rfl, eux⟩
          obtain rfl := eux.symm
          have h1 := Lib.hid (g_lit w4 x ((ko : Int) + 1) (t : Int) ((ks : Int) + 1) 35)
          have sz3 : W0.heap.size ≤ (w4.alloc (.cells #[.int .i64 x, .int .i64 ((ko : Int) + 1), .int .i64 (t : Int), .int .i64 ((ks : Int) + 1)] 35)).heap.size := by have := B4.out.size; simp; omega
          have ba := Lib.hid (B4.out.alloc B4.out.size (.cells #[.int .i64 x, .int .i64 ((ko : Int) + 1), .int .i64 (t : Int), .int .i64 ((ks : Int) + 1)] 35))
          have hgl := hln.out
          go_wp2_with (at_builtin; refine wpList_onto_g (fm := fLg) (T := 35) (by rfl) (.tmp 51) (.tmp 60) 71 (by rfl) W0.heap.size i0 (.agg #[.int .i64 0, .int .i64 0, .int .i64 0, .int .i64 0]) 32 Try.underlying71 hi0 hz0 hz1 hz2 rfl (by omega) u7 (LF K ++ EF t) (by rfl) (hO4.out.below ((Below.refl _ _).alloc (Nat.le_refl _) _)) (some ⟨w4.heap.size, 0, none⟩) 1 1 [⟨x, ((ko : Int) + 1), (t : Int), ((ks : Int) + 1)⟩] (by rfl) h1.out (fun e => by cases e) (by omega) sz3 ?_)
          intro v8 w8 r8 g8 o8
          have r8' : Hid (Own fLg 35 w8 W0.heap.size v8 (LF K ++ EF (t + 1))) := Lib.hid (by rw [hst.out]; exact r8)
          have B8 := Lib.hid (ba.out.grown g8 sz3 (fun q hq => (hO4.out.lt q hq).1))
          clear r8 g8 o8 h1 ba hO4 B4
          go_wp2_with fail
          go_roundw
          case rel => exact ⟨t + 1, by go_num, hm1, r8', B8⟩
          case measure => simp [intOf]; omega
        · obtain rfl : inst = t := by omega
          have d2 : decide ((inst : Int) < (inst : Int)) = false := by simp
          have fin : Hid (AnsG w RG (.returned u7) wr) := Lib.hid (by
            have h9 := hO.out
            rw [← hR.out] at h9
            obtain ⟨A9, c9, e9, h9, -⟩ := h9.slice
            rw [e9]
            exact ⟨A9, _, c9, rfl, h9, BW.out _ hB.out⟩)
          clear k0 k1 k2 k3 k4 k5 k6 k7 k8 k9 k10 hO hle2 hlt2
          go_wp2_with fail
          go_ret
          exact fin.out
end Go.Proofs.Ytdeofifidjbolaa
